/- The statement LinkBoots: the walk. -/
import Derived.Test.YtlknjaoamkcmjaaDoorLkX
namespace Go.Proofs.YtlknjaoamkcmjaaDoor
open Go.ChangeShapes Go.WideShapes Go.ChangeAt Go.RowKit
set_option linter.unusedVariables false
set_option maxRecDepth 100000
set_option linter.unusedSimpArgs false
open Plain Sha Wn Lk
namespace Lk
/-- The packet that is sent as number k of boot b: from 0 to 9, in epoch 2, with no body. -/
def bpk (b k : Int) : PkZ := ⟨0, 9, 2, b, k, [], List.replicate 32 0⟩
theorem bpk_ok {b k : Int} (hb : InL b) (hk : InL k) : POk (bpk b k) := ⟨(show InL 0 by unfold InL; decide), (show InL 9 by unfold InL; decide), (show InL 2 by unfold InL; decide), hb, hk, IsBytes.nil, by simp [bpk], by unfold bpk; exact rep_bytes 32 0 (by omega) (by omega), rfl⟩
theorem bpk_may {b k : Int} (hb : 0 ≤ b) (hk : 1 ≤ k) : mayP (bpk b k) = true := by
  rw [may_iff]
  exact ⟨(show whoB 0 = true by decide), (show whoB 9 = true by decide), (show (0 : Int) ≠ 9 by decide), (show (1 : Int) ≤ 2 by decide), hb, hk⟩
/-- A sender whose packets these are: k were sent. -/
structure Snd (root : List Int) (b : Int) (k : Int) (x : EdZ) : Prop where
  root : x.root = root
  who : x.who = 0
  boot : x.boot = b
  sent : x.sent 9 2 = k
theorem snd_new (root : List Int) (b : Int) : Snd root b 0 (newZ root 0 b) := ⟨rfl, rfl, rfl, rfl⟩
theorem Snd.send {root : List Int} {b k : Int} {x : EdZ} (h : Snd root b k x) (hb : 0 ≤ b) (hk : 0 ≤ k) : sendZ x 9 2 [] = (bytesP (sealZ root (bpk b (k + 1))), 0, incS x 9 2) ∧ Snd root b (k + 1) (incS x 9 2) := by
  have hbp : bareZ x 9 2 [] = bpk b (k + 1) := by unfold bareZ bpk; rw [h.who, h.boot, h.sent]
  refine ⟨?_, h.root, h.who, h.boot, ?_⟩
  · rw [sendZ_ok (by rw [hbp]; exact bpk_may hb (by omega))]
    unfold nextP
    rw [hbp, h.root]
  · show upd x.sent 9 2 (x.sent 9 2 + 1) 9 2 = k + 1
    rw [upd_same, h.sent]
/-- Whom they are for: its window. -/
structure Rcv (root : List Int) (b : Int) (S : List Int) (x : EdZ) : Prop where
  root : x.root = root
  who : x.who = 9
  wb : x.wb 0 2 = b
  ws : x.ws 0 2 = S
theorem rcv_new (root : List Int) (b : Int) : Rcv root (-1) [] (newZ root 9 b) := ⟨rfl, rfl, rfl, rfl⟩
theorem Rcv.get {root : List Int} {b a k er b' : Int} {S S' : List Int} {x : EdZ} (h : Rcv root b S x) (ha : InL a) (ha0 : 0 ≤ a) (hk : InL k) (hk1 : 1 ≤ k) (ht : takeZ b S a k = (er, b', S')) :
    getZ x (bytesP (sealZ root (bpk a k))) = (if er = 0 then sealZ root (bpk a k) else p0, er, setW x 0 2 b' S') ∧ Rcv root b' S' (setW x 0 2 b' S') := by
  have e1 : (bpk a k).fr = 0 := rfl
  have e2 : (bpk a k).ep = 2 := rfl
  have := getZ_take (x := x) (p := bpk a k) (bpk_ok ha hk) (by simp [bpk]) (bpk_may ha0 hk1) (by rw [h.who]; rfl) (er := er) (b := b') (S := S') (by rw [e1, e2, h.wb, h.ws]; exact ht)
  rw [h.root] at this
  exact ⟨this, h.root, h.who, setW_wb _ _ _ _ _, setW_ws _ _ _ _ _⟩
theorem bpk_bytes {root : List Int} {b k : Int} (hb : InL b) (hk : InL k) : IsBytes (bytesP (sealZ root (bpk b k))) := bytesP_bytes (seal_ok (bpk_ok hb hk))
theorem bpk_len {root : List Int} {b k : Int} (hb : InL b) (hk : InL k) : (bytesP (sealZ root (bpk b k))).length = 76 := bytesP_len (seal_ok (bpk_ok hb hk))
/-- A number that is greater than all is taken. -/
theorem take_up {a b : Int} {S : List Int} {n : Int} (ha : 0 ≤ a) (hn : topZ S < n) (h : b < a ∨ b = a) : ∃ S', takeZ b S a n = (0, a, S') ∧ topZ S' = n := by
  have h0 := top_pos S
  by_cases hb : b < a
  · refine ⟨[n], ?_, ?_⟩
    · unfold takeZ; rw [if_neg (by omega), if_neg (by omega), if_pos hb]
    · show max 0 n = n; omega
  · have e : b = a := by omega
    subst e
    refine ⟨S ++ [n], ?_, by rw [topZ_snoc]; omega⟩
    have hns : ¬ n ∈ S := fun h => by have := top_le h; omega
    unfold takeZ; rw [if_neg (by omega), if_neg (by omega), if_neg (by omega), if_neg (by rintro (h | h); omega; exact hns h)]
theorem take_old {a b : Int} {S : List Int} {n : Int} (ha : 0 ≤ a) (hn : 1 ≤ n) (h : a < b) : takeZ b S a n = (180, b, S) := by
  unfold takeZ; rw [if_neg (by omega), if_pos h]
end Lk
set_option maxHeartbeats 16000000 in
theorem lkboots_in (A : Option Addr) (nr c : Nat) (root : List Int) (n m boot : Int) (w : World) (hR : Bs w w.heap.size A nr root) (hrn : nr ≤ maxLen) (hn : -9223372036854775808 ≤ n ∧ n ≤ 9223372036854775807) (hm : -9223372036854775808 ≤ m ∧ m ≤ 9223372036854775807) (hb : -9223372036854775808 ≤ boot ∧ boot ≤ 9223372036854775807) (hF : LaidF w) (hK : LaidK w) :
    Calls Tryd.prog 7 #[.slice A nr c, .int .i64 n, .int .i64 m, .int .i64 boot] w (fun e w' => e = .returned (.bool true) ∧ Below w.heap.size w w') := by
  have AW := Lib.hid (lawake_any w hF hK)
  obtain ⟨hn1, hn2⟩ := hn
  obtain ⟨hm1, hm2⟩ := hm
  obtain ⟨hb1, hb2⟩ := hb
  by_cases k0 : (100 : Int) < (nr : Int)
  · clear hR hF hK
    go_enter Tryd.func7, Tryd.ntmps7
    go_wp2_with (go_at_call 21; refine AW.out.mono ?_; rintro e w1 ⟨rfl, hq⟩; have B1 := Lib.hid hq; clear hq)
    go_ret
    exact ⟨rfl, B1.out⟩
  by_cases k1 : n < 1
  · clear hR hF hK
    go_enter Tryd.func7, Tryd.ntmps7
    go_wp2_with (go_at_call 21; refine AW.out.mono ?_; rintro e w1 ⟨rfl, hq⟩; have B1 := Lib.hid hq; clear hq)
    go_ret
    exact ⟨rfl, B1.out⟩
  by_cases k2 : (20 : Int) < n
  · clear hR hF hK
    go_enter Tryd.func7, Tryd.ntmps7
    go_wp2_with (go_at_call 21; refine AW.out.mono ?_; rintro e w1 ⟨rfl, hq⟩; have B1 := Lib.hid hq; clear hq)
    go_ret
    exact ⟨rfl, B1.out⟩
  by_cases k3 : m < 1
  · clear hR hF hK
    go_enter Tryd.func7, Tryd.ntmps7
    go_wp2_with (go_at_call 21; refine AW.out.mono ?_; rintro e w1 ⟨rfl, hq⟩; have B1 := Lib.hid hq; clear hq)
    go_ret
    exact ⟨rfl, B1.out⟩
  by_cases k4 : (20 : Int) < m
  · clear hR hF hK
    go_enter Tryd.func7, Tryd.ntmps7
    go_wp2_with (go_at_call 21; refine AW.out.mono ?_; rintro e w1 ⟨rfl, hq⟩; have B1 := Lib.hid hq; clear hq)
    go_ret
    exact ⟨rfl, B1.out⟩
  by_cases k5 : boot < 0
  · clear hR hF hK
    go_enter Tryd.func7, Tryd.ntmps7
    go_wp2_with (go_at_call 21; refine AW.out.mono ?_; rintro e w1 ⟨rfl, hq⟩; have B1 := Lib.hid hq; clear hq)
    go_ret
    exact ⟨rfl, B1.out⟩
  by_cases k6 : (1099511627776 : Int) < boot
  · clear hR hF hK
    go_enter Tryd.func7, Tryd.ntmps7
    go_wp2_with (go_at_call 21; refine AW.out.mono ?_; rintro e w1 ⟨rfl, hq⟩; have B1 := Lib.hid hq; clear hq)
    go_ret
    exact ⟨rfl, B1.out⟩
  obtain ⟨N, hN⟩ : ∃ N : Nat, n = (N : Int) := ⟨n.toNat, by omega⟩
  obtain ⟨M, hM⟩ : ∃ N : Nat, m = (N : Int) := ⟨m.toNat, by omega⟩
  subst hN hM
  have hw : IntKind.i64.wrap (boot + 1) = boot + 1 := by rw [IntKind.wrap_i64]; omega
  obtain ⟨g, hg⟩ : ∃ g, w.heap.size = g := ⟨_, rfl⟩
  have HG := Lib.hid hg
  have HRT : Hid (∀ W, Below g w W → Bs W w.heap.size A nr root ∧ w.heap.size ≤ W.heap.size) := Lib.hid (fun W hW => ⟨hR.belowM hW (by omega), by have := hW.size; omega⟩)
  have LL : Hid (∀ W, Below g w W → LaidF W ∧ LaidK W) := Lib.hid (fun W hW => ⟨hF.below hW (by have := hF.lt; omega), hK.below hW (by have := hK.lt; omega)⟩)
  have HB0 : Hid (0 ≤ boot ∧ InL boot ∧ InL (boot + 1)) := Lib.hid ⟨by omega, by unfold InL; omega, by unfold InL; omega⟩
  have hnr : nr ≤ 3000 := by omega
  have HN : Hid (N ≤ 20 ∧ 1 ≤ N) := Lib.hid ⟨by omega, by omega⟩
  have HM : Hid (M ≤ 20 ∧ 1 ≤ M) := Lib.hid ⟨by omega, by omega⟩
  have N1 := HG
  have N2 := HG
  have N3 := HG
  clear hR hF hK hg hrn hn1 hn2 hm1 hm2 hb1 hb2
  go_enter Tryd.func7, Tryd.ntmps7
  go_upto_region 5 with (go_at_call 21; refine AW.out.mono ?_; rintro e w1 ⟨rfl, hq⟩; have B1 := Lib.hid hq; clear hq)
  have BG1 : Hid (Below g w w1) := Lib.hid (by rw [← HG.out]; exact B1.out)
  go_upto_region 6 with (first
      | (have g0 := N1; clear g0; go_at_call 22; refine (lnew_any c (HRT.out _ BG1.out).1 (HRT.out _ BG1.out).2 hnr (who := 0) (boot := boot) (by unfold InL; decide) (HB0.out.2.1)).mono ?_; rintro e n1 ⟨b1, rfl, hE, hb⟩; have EN1 := Lib.hid hE; have BN1 := Lib.hid hb; clear hE hb N1)
      | (have g0 := N2; clear g0; go_at_call 22; refine (lnew_any c (HRT.out _ (BG1.out.trans (BN1.out.mono (by have := BG1.out.size; have := HG.out; omega)))).1 (HRT.out _ (BG1.out.trans (BN1.out.mono (by have := BG1.out.size; have := HG.out; omega)))).2 hnr (who := 0) (boot := (boot + 1)) (by unfold InL; decide) (HB0.out.2.2)).mono ?_; rintro e n2 ⟨b2, rfl, hE, hb⟩; have EN2 := Lib.hid hE; have BN2 := Lib.hid hb; clear hE hb N2)
      | (have g0 := N3; clear g0; go_at_call 22; refine (lnew_any c (HRT.out _ ((BG1.out.trans (BN1.out.mono (by have := BG1.out.size; have := HG.out; omega))).trans (BN2.out.mono (by have := BG1.out.size; have := BN1.out.size; have := HG.out; omega)))).1 (HRT.out _ ((BG1.out.trans (BN1.out.mono (by have := BG1.out.size; have := HG.out; omega))).trans (BN2.out.mono (by have := BG1.out.size; have := BN1.out.size; have := HG.out; omega)))).2 hnr (who := 9) (boot := 0) (by unfold InL; decide) (by unfold InL; decide)).mono ?_; rintro e n3 ⟨b3, rfl, hE, hb⟩; have EN3 := Lib.hid hE; have BN3 := Lib.hid hb; clear hE hb N3))
  have TT : ∃ K1 K2 K3, T3 g n3 K1 K2 K3 b1 b2 b3 (newZ root 0 boot) (newZ root 0 (boot + 1)) (newZ root 9 0) := by
    have s0 : g ≤ w1.heap.size := by have := BG1.out.size; have := HG.out; omega
    have s1 := BN1.out.size
    have s2 := BN2.out.size
    have s3 := BN3.out.size
    exact ⟨_, _, _, EN1.out.grow (BN2.out.trans (BN3.out.mono BN2.out.size)), EN2.out.grow BN3.out, EN3.out, fun k h1 h2 => by omega, fun k h1 h2 => by omega, fun k h1 h2 => by omega, fun k h1 => by omega, fun k h1 => by omega, fun k h1 => by omega⟩
  obtain ⟨K1, K2, K3, T⟩ := TT
  have T0 := Lib.hid T
  have BT0 := Lib.hid (BG1.out.trans ((BN1.out.trans ((BN2.out.mono BN1.out.size).trans (BN3.out.mono (Nat.le_trans BN1.out.size BN2.out.size)))).mono (by have := BG1.out.size; have := HG.out; omega)))
  have SN := Lib.hid (snd_new root (boot + 1))
  have SO := Lib.hid (snd_new root boot)
  have RC := Lib.hid (rcv_new root 0)
  generalize newZ root 0 boot = xo at T0 SO
  generalize newZ root 0 (boot + 1) = xn at T0 SN
  generalize newZ root 9 0 = xt at T0 RC
  clear T EN1 EN2 EN3 BN1 BN2 BN3 BG1 B1 k0 k1 k2 k3 k4 k5 k6 HRT hw
  have zk := zPk
  have zs := zPc_size
  have zn := zPc_ne
  go_upto_region 7 with fail
  go_wp2_with fail
  go_loopw [13, 12] (fun i f wr => ∃ k : Nat, k ≤ N ∧ i = .int .i64 k ∧ Hid (Below g w wr) ∧ ∃ L1 L3 yo yt b S, Hid (T3 g wr L1 K2 L3 b1 b2 b3 yo xn yt) ∧ Hid (Snd root boot k yo) ∧ Hid (Rcv root b S yt) ∧ Hid ((b < boot ∨ b = boot) ∧ topZ S ≤ k) ∧ ((k = 0 ∧ f = .slice none 0 0) ∨ (1 ≤ k ∧ ∃ A1 c1, f = .slice A1 76 c1 ∧ Hid (KBs wr L1 K2 L3 A1 76 (bytesP (sealZ root (bpk boot 1))))))) (fun i _ _ => N - (intOf i).toNat)
  case atStart => exact ⟨0, by omega, rfl, BT0, K1, K3, xo, xt, -1, [], T0, SO, RC, Lib.hid ⟨by have := HB0.out.1; omega, by rw [topZ_nil]; omega⟩, .inl ⟨rfl, rfl⟩⟩
  case round =>
    obtain ⟨k, hk, rfl, HBw, L1, L3, yo, yt, b, S, HT, HS, HR, HBS, hf⟩ := hrel
    have BSZ : Hid (g ≤ wr.heap.size) := Lib.hid (by have := HBw.out.size; have := HG.out; omega)
    by_cases hlt : k < N
    · have hltI : (k : Int) < (N : Int) := by omega
      obtain ⟨hs1, hs2⟩ := HS.out.send HB0.out.1 (by omega)
      have hk20 : k < 20 := by have := HN.out.1; omega
      have ik : InL ((k : Int) + 1) := by unfold InL; omega
      have HSE := Lib.hid hs1
      have HS2 := Lib.hid hs2
      have hsb : 0 ≤ yo.sent 9 2 ∧ yo.sent 9 2 ≤ 1000000 := by rw [HS.out.sent]; omega
      have PBy := Lib.hid (bpk_bytes (root := root) HB0.out.2.1 ik)
      have PLn := Lib.hid (bpk_len (root := root) HB0.out.2.1 ik)
      have SD := Lib.hid (t3_send HT.out BSZ.out (dd := 9) (ep := 2) (by unfold InL; decide) (by unfold InL; decide) 0 (Bs.nil (B := 0) (A := none)) (by omega) (by omega) ⟨by omega, by unfold maxLen; omega⟩ hsb (LL.out _ HBw.out).1 (LL.out _ HBw.out).2 HSE.out PBy.out)
      have IK := Lib.hid ik
      have hwk : IntKind.i64.wrap ((k : Int) + 1) = (k : Int) + 1 := by rw [IntKind.wrap_i64]; omega
      clear hs1 hs2 hsb ik
      by_cases hk0 : k = 0
      · subst hk0
        rcases hf with ⟨_, rfl⟩ | ⟨h1, _⟩
        rotate_left
        · omega
        go_wp2_with (go_at_call 18; refine SD.out.mono ?_; rintro e v1 ⟨A1, c1, rfl, hT, hX, hc1, hc2, hm⟩; rw [PLn.out] at hX hc1 ⊢; have T1 := Lib.hid hT; have X1 := Lib.hid hX; have BT1 := Lib.hid (HBw.out.trans (hm.below (B := g) BSZ.out HT.out.l1)); clear hT hX hc1 hc2 hm)
        refine ⟨⟨1, by omega, by congr 1, BT1, L1, L3, _, yt, b, S, T1, ?_, HR, Lib.hid ⟨HBS.out.1, by have := HBS.out.2; omega⟩, .inr ⟨by omega, A1, c1, rfl, ?_⟩⟩, by simp only [intOf]; omega⟩
        · exact HS2
        · exact X1
      · have hk0I : ¬ ((k : Int) = 0) := by omega
        have hk0b : ((k : Int) == 0) = false := by simpa using hk0
        rcases hf with ⟨h0, _⟩ | ⟨h1, A0, c0, rfl, X0⟩
        · exact absurd h0 hk0
        obtain ⟨S', hta, htop⟩ := take_up (a := boot) (b := b) (S := S) (n := (k : Int) + 1) HB0.out.1 (by have := HBS.out.2; omega) HBS.out.1
        obtain ⟨hg1, hg2⟩ := HR.out.get HB0.out.2.1 HB0.out.1 IK.out (by omega) hta
        have HGE := Lib.hid hg1
        have HR2 := Lib.hid hg2
        have HTP := Lib.hid htop
        clear hg1 hg2 hta htop hk0
        have G1 := HG
        have G2 := HG
        go_upto_region 15 with (have g0 := G1; clear g0; go_at_call 18; refine SD.out.mono ?_; rintro e v1 ⟨A1, c1, rfl, hT, hX, hc1, hc2, hm⟩; rw [PLn.out] at hX hc1 ⊢; have T1 := Lib.hid hT; have X1 := Lib.hid hX; have X0b := Lib.hid (X0.out.s1 hm (Newer.refl _ _)); have BT1 := Lib.hid (HBw.out.trans (hm.below (B := g) BSZ.out HT.out.l1)); clear hT hX hc1 hc2 hm G1)
        have SZ1 : Hid (g ≤ v1.heap.size) := Lib.hid (by have := BT1.out.size; have := HG.out; omega)
        have GD := Lib.hid (t3_get T1.out.swap3 SZ1.out c1 X1.out.bs (Nat.le_refl _) (by omega) (LL.out _ BT1.out).1 (LL.out _ BT1.out).2 HGE.out)
        go_upto_region 16 with (first
          | (have g0 := G2; clear g0; go_at_call 19; refine GD.out.mono ?_; rintro e v2 ⟨y, rfl, hy, hok, J, hT, hm, hn, hkk⟩; have T2 := Lib.hid hT.swap3; have YT := Lib.hid hok.ok.tl; have X2 := Lib.hid (X0b.out.turn3.s1 hm hn).turn3; have BT2 := Lib.hid (BT1.out.trans (hm.below (B := g) SZ1.out T1.out.l3)); clear hy hok hT hm hn hkk G2)
          | (with_reducible show wpList _ _ _ (⟨none, .store 26 (.tmp 16) (.tmp 82), _, _, _, _⟩ :: _) _ _; refine wpList_store_as (op := ⟨none, .store 26 (.tmp 16) (.tmp 82), _, _, _, _⟩) rfl 26 (.tmp 16) (.tmp 82) rfl (v2.heap.size) 0 (pc y).toArray rfl rfl (vthere (zbox_new v2 26 _ rfl) (us := pc y) (pc_len YT.out)) (p_sizeA YT.out) (p_oneA y) ?_; intro v3 hv3))
        obtain ⟨_, hT3, hb3⟩ := kvar_new T2.out y YT.out v2.heap.size rfl hv3
        have T3' := Lib.hid hT3
        have X3 := Lib.hid (X2.out.grow hb3)
        have BT3 := Lib.hid (BT2.out.trans (hb3.mono (by have := BT2.out.size; have := HG.out; omega)))
        clear hT3 hb3 hv3 GD SD
        go_wp2
        exact ⟨⟨k + 1, by omega, by congr 1, BT3, L1, J, _, _, boot, S', T3', HS2, HR2, Lib.hid ⟨.inr rfl, by have := HTP.out; omega⟩, .inr ⟨by omega, A0, c0, rfl, X3⟩⟩, by simp only [intOf]; omega⟩
    · have hgeI : ¬ (k : Int) < (N : Int) := by omega
      have hkN : k = N := by omega
      subst hkN
      rcases hf with ⟨h0, _⟩ | ⟨h1, A0, c0, rfl, X0⟩
      · have := HN.out.2; omega
      go_upto_region 19 with fail
      go_loopw [18] (fun i wr => ∃ j : Nat, j ≤ M ∧ i = .int .i64 j ∧ Hid (Below g w wr) ∧ ∃ J2 J3 zn' zt b S, Hid (T3 g wr L1 J2 J3 b1 b2 b3 yo zn' zt) ∧ Hid (Snd root (boot + 1) j zn') ∧ Hid (Rcv root b S zt) ∧ Hid ((j = 0 ∧ b < boot + 1) ∨ (1 ≤ j ∧ b = boot + 1 ∧ topZ S ≤ j)) ∧ Hid (KBs wr L1 J2 J3 A0 76 (bytesP (sealZ root (bpk boot 1))))) (fun i _ => M - (intOf i).toNat)
      case atStart => exact ⟨0, by omega, rfl, HBw, K2, L3, xn, yt, b, S, HT, SN, HR, Lib.hid (.inl ⟨rfl, by have := HBS.out.1; omega⟩), X0⟩
      case round =>
        obtain ⟨j, hj, rfl, HBw2, J2, J3, zn', zt, b', S2, HT2, HS2, HR2, HBS2, X02⟩ := hrel
        have BSZ2 : Hid (g ≤ wr.heap.size) := Lib.hid (by have := HBw2.out.size; have := HG.out; omega)
        by_cases hltj : j < M
        · have hltJ : (j : Int) < (M : Int) := by omega
          obtain ⟨hs1, hs2⟩ := HS2.out.send (by have := HB0.out.1; omega) (by omega)
          have hj20 : j < 20 := by have := HM.out.1; omega
          have ij : InL ((j : Int) + 1) := by unfold InL; omega
          have HSE := Lib.hid hs1
          have HS3 := Lib.hid hs2
          have hsb : 0 ≤ zn'.sent 9 2 ∧ zn'.sent 9 2 ≤ 1000000 := by rw [HS2.out.sent]; omega
          have PBy := Lib.hid (bpk_bytes (root := root) HB0.out.2.2 ij)
          have PLn := Lib.hid (bpk_len (root := root) HB0.out.2.2 ij)
          have SD := Lib.hid (t3_send HT2.out.swap BSZ2.out (dd := 9) (ep := 2) (by unfold InL; decide) (by unfold InL; decide) 0 (Bs.nil (B := 0) (A := none)) (by omega) (by omega) ⟨by omega, by unfold maxLen; omega⟩ hsb (LL.out _ HBw2.out).1 (LL.out _ HBw2.out).2 HSE.out PBy.out)
          have hwj : IntKind.i64.wrap ((j : Int) + 1) = (j : Int) + 1 := by rw [IntKind.wrap_i64]; omega
          have hbb : topZ S2 < (j : Int) + 1 ∨ b' < boot + 1 := by
            rcases HBS2.out with ⟨_, h⟩ | ⟨_, _, h⟩
            · exact .inr h
            · exact .inl (by omega)
          obtain ⟨S', hta, htop⟩ : ∃ S', takeZ b' S2 (boot + 1) ((j : Int) + 1) = (0, boot + 1, S') ∧ topZ S' = (j : Int) + 1 := by
            rcases HBS2.out with ⟨_, h⟩ | ⟨_, h1, h2⟩
            · refine ⟨[(j : Int) + 1], ?_, ?_⟩
              · unfold takeZ; rw [if_neg (by have := HB0.out.1; omega), if_neg (by omega), if_pos h]
              · show max 0 ((j : Int) + 1) = _; omega
            · exact take_up (by have := HB0.out.1; omega) (by omega) (.inr h1)
          obtain ⟨hg1, hg2⟩ := HR2.out.get HB0.out.2.2 (by have := HB0.out.1; omega) ij (by omega) hta
          have HGE := Lib.hid hg1
          have HR3 := Lib.hid hg2
          have HTP := Lib.hid htop
          clear hg1 hg2 hta htop hs1 hs2 hsb ij hbb
          have G1 := HG
          have G2 := HG
          go_upto_region 22 with (have g0 := G1; clear g0; go_at_call 18; refine SD.out.mono ?_; rintro e v1 ⟨A1, c1, rfl, hT, hX, hc1, hc2, hm⟩; rw [PLn.out] at hX hc1 ⊢; have T1 := Lib.hid hT.swap; have X1 := Lib.hid hX.turn; have X0b := Lib.hid (X02.out.s2 hm (Newer.refl _ _)); have BT1 := Lib.hid (HBw2.out.trans (hm.below (B := g) BSZ2.out HT2.out.l2)); clear hT hX hc1 hc2 hm G1)
          have SZ1 : Hid (g ≤ v1.heap.size) := Lib.hid (by have := BT1.out.size; have := HG.out; omega)
          have GD := Lib.hid (t3_get T1.out.swap3 SZ1.out c1 X1.out.bs (Nat.le_refl _) (by omega) (LL.out _ BT1.out).1 (LL.out _ BT1.out).2 HGE.out)
          go_upto_region 23 with (first
            | (have g0 := G2; clear g0; go_at_call 19; refine GD.out.mono ?_; rintro e v2 ⟨y, rfl, hy, hok, J, hT, hm, hn, hkk⟩; have T2 := Lib.hid hT.swap3; have YT := Lib.hid hok.ok.tl; have X2 := Lib.hid (X0b.out.turn3.s1 hm hn).turn3; have BT2 := Lib.hid (BT1.out.trans (hm.below (B := g) SZ1.out T1.out.l3)); clear hy hok hT hm hn hkk G2)
            | (with_reducible show wpList _ _ _ (⟨none, .store 26 (.tmp 21) (.tmp 100), _, _, _, _⟩ :: _) _ _; refine wpList_store_as (op := ⟨none, .store 26 (.tmp 21) (.tmp 100), _, _, _, _⟩) rfl 26 (.tmp 21) (.tmp 100) rfl (v2.heap.size) 0 (pc y).toArray rfl rfl (vthere (zbox_new v2 26 _ rfl) (us := pc y) (pc_len YT.out)) (p_sizeA YT.out) (p_oneA y) ?_; intro v3 hv3))
          obtain ⟨_, hT3, hb3⟩ := kvar_new T2.out y YT.out v2.heap.size rfl hv3
          have T3' := Lib.hid hT3
          have X3 := Lib.hid (X2.out.grow hb3)
          have BT3 := Lib.hid (BT2.out.trans (hb3.mono (by have := BT2.out.size; have := HG.out; omega)))
          clear hT3 hb3 hv3 GD SD
          go_wp2
          exact ⟨⟨j + 1, by omega, by congr 1, BT3, J2, J, _, _, boot + 1, S', T3', HS3, HR3, Lib.hid (.inr ⟨by omega, rfl, by have := HTP.out; omega⟩), X3⟩, by simp only [intOf]; omega⟩
        · have hgeJ : ¬ (j : Int) < (M : Int) := by omega
          have hjM : j = M := by omega
          subst hjM
          have hbt : b' = boot + 1 := by
            rcases HBS2.out with ⟨h, _⟩ | ⟨_, h, _⟩
            · have := HM.out.2; omega
            · exact h
          obtain ⟨hg1, hg2⟩ := HR2.out.get (k := 1) HB0.out.2.1 HB0.out.1 (by unfold InL; decide) (by omega) (take_old (a := boot) (b := b') (S := S2) (n := 1) HB0.out.1 (by omega) (by omega))
          have HGE := Lib.hid hg1
          have GD := Lib.hid (t3_get HT2.out.swap3 BSZ2.out c0 X02.out.bs (Nat.le_refl _) (by omega) (LL.out _ HBw2.out).1 (LL.out _ HBw2.out).2 HGE.out)
          clear hg1 hg2 hbt
          have G2 := HG
          go_wp2_with (first
            | (have g0 := G2; clear g0; go_at_call 19; refine GD.out.mono ?_; rintro e v2 ⟨y, rfl, hy, hok, J, hT, hm, hn, hkk⟩; have T2 := Lib.hid hT; have YT := Lib.hid hok.ok.tl; have BT2 := Lib.hid (HBw2.out.trans (hm.below (B := g) BSZ2.out HT2.out.l3)); clear hy hok hT hm hn hkk G2)
            | (with_reducible show wpList _ _ _ (⟨none, .store 26 (.tmp 23) (.tmp 112), _, _, _, _⟩ :: _) _ _; refine wpList_store_as (op := ⟨none, .store 26 (.tmp 23) (.tmp 112), _, _, _, _⟩) rfl 26 (.tmp 23) (.tmp 112) rfl (v2.heap.size) 0 (pc y).toArray rfl rfl (vthere (zbox_new v2 26 _ rfl) (us := pc y) (pc_len YT.out)) (p_sizeA YT.out) (p_oneA y) ?_; intro v3 hv3))
          obtain ⟨_, _, hb3⟩ := kvar_new T2.out y YT.out v2.heap.size rfl hv3
          have BT3 := Lib.hid (BT2.out.trans (hb3.mono (by have := BT2.out.size; have := HG.out; omega)))
          clear hb3 hv3 zk zs zn
          go_wp2
          go_ret
          exact ⟨rfl, by rw [HG.out]; exact BT3.out⟩
end Go.Proofs.YtlknjaoamkcmjaaDoor
