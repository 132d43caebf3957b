/- The statement RepliesNote: the walk. -/
import Derived.Test.YtlapdocikhjkcaaRpUb
namespace Go.Proofs.Ytlapdocikhjkcaa
open Go.ChangeShapes Go.WideShapes Go.ChangeAt Go.RowKit
set_option linter.unusedVariables false
set_option linter.unusedSimpArgs false
open Plain Sha Au Rp
set_option maxRecDepth 100000 in
set_option maxHeartbeats 16000000 in
theorem rpnote_in (A : Option Addr) (n c : Nat) (l : List LX) (t id : Int) (r : RX) (w : World) (h : Las w w.heap.size A n l) (hn : n ≤ 140737488355328) (hk : ∀ x, x ∈ l → x.r.kn ≤ 140737488355328) (ht : -9223372036854775808 ≤ t ∧ t ≤ 9223372036854775807) (hid : -9223372036854775808 ≤ id ∧ id ≤ 9223372036854775807) (hr : ROk w w.heap.size r) (hrk : r.kn ≤ 140737488355328) :
    Calls Try.prog 4 #[.slice A n c, .int .i64 t, .int .i64 id, .agg (rc r).toArray] w (fun e w' => e = .returned (.bool true) ∧ Below w.heap.size w w') := by
  obtain ⟨W1, hW1⟩ : ∃ W, W = w.alloc (.cells (rc r).toArray 33) := ⟨_, rfl⟩
  have b1 := Lib.hid (show Below w.heap.size w W1 by rw [hW1]; exact below_one _ _)
  have V1 : Hid (VBox W1 w.heap.size 75 (rc r)) := Lib.hid (by rw [hW1]; exact vbox_new w (rc r) _ _ 75 rfl (rc_len _) (by omega))
  obtain ⟨_, _, p2, _, _⟩ := rng_r V1.out.range
  simp only [Nat.zero_add] at p2
  have HW1 := Lib.hid hW1
  obtain ⟨q, hq⟩ : ∃ q, greatB n l = q := ⟨_, rfl⟩
  have GM := Lib.hid (great_val c q (h.below b1.out (Nat.le_refl _)) hn hk hq)
  have G1 := V1
  cases q with
  | true =>
    clear hW1 h hk hr hq ht hid
    go_enter Try.func4, Try.ntmps4
    go_upto_region 1 with fail
    rw [← HW1.out]
    go_wp2_with (have g0 := G1; clear g0; go_at_call 8; refine GM.out.mono ?_; rintro e1 w1 ⟨rfl, hw1⟩; obtain rfl : W1 = w1 := hw1.symm; clear G1)
    go_ret
    exact ⟨rfl, b1.out⟩
  | false =>
  by_cases hr1 : 100 < r.kn
  · have hr1I : 100 < (r.kn : Int) := by omega
    clear hW1 h hk hr hq ht hid
    go_enter Try.func4, Try.ntmps4
    go_upto_region 1 with fail
    rw [← HW1.out]
    go_wp2_with (have g0 := G1; clear g0; go_at_call 8; refine GM.out.mono ?_; rintro e1 w1 ⟨rfl, hw1⟩; obtain rfl : W1 = w1 := hw1.symm; clear G1)
    go_ret
    exact ⟨rfl, b1.out⟩
  have hr1I : ¬ 100 < (r.kn : Int) := by omega
  obtain ⟨hn20, hk4⟩ := great_no hq
  have hlw : w.heap.size < W1.heap.size := V1.out.lt
  have TM := Lib.hid (to_any (w := W1) c (h.below b1.out (Nat.le_refl _)) b1.out.size (by omega) (fun x hx => Nat.le_trans (hk4 x hx) (by omega)))
  have HK4 := Lib.hid (fun (w' : World) (B' : Nat) (l' : List LX) (h' : ∀ x, x ∈ l' → XOk w' B' x) (e : l'.map LX.z = l.map LX.z) => kn_map h.ok h' e hk4)
  have HLL0 := Lib.hid (fun (V : World) (hV : Below w.heap.size w V) => h.below hV (Nat.le_refl _))
  have HRR0 := Lib.hid (fun (V : World) (hV : Below w.heap.size w V) => hr.below hV (Nat.le_refl _))
  have hnx : n ≤ 9223372036854775807 := by omega
  obtain ⟨er, her⟩ : ∃ z, noteE l t id = z := ⟨_, rfl⟩
  have HER := Lib.hid her
  clear hW1 h hn hk hq hk4 ht hid hr her
  go_enter Try.func4, Try.ntmps4
  go_upto_region 1 with fail
  rw [← HW1.out]
  go_upto_region 4 with (first
    | (have g0 := G1; clear g0; go_at_call 8; refine GM.out.mono ?_; rintro e1 w1 ⟨rfl, hw1⟩; obtain rfl : W1 = w1 := hw1.symm; clear G1)
    | (go_at_call 9; refine TM.out.mono ?_; rintro e2 w2 ⟨D, d, l', rfl, hz, _, hl2, hd1, hd2, b2⟩; have B2 := Lib.hid (b1.out.trans (b2.mono b1.out.size)); have V12 := Lib.hid (V1.out.grow b2); have sz2 := Lib.hid b2.size; have L2 := Lib.hid hl2; have HZ := Lib.hid hz; have HD1 := Lib.hid hd1; have HD2 := Lib.hid hd2; clear b2 hl2 hd1 hd2 hz))
  clear TM GM p2
  have zk := zRk
  have zs := zR_size
  have zn := zR_ne
  have T0 := Lib.hid (rthere_new w2 r 33 _ rfl)
  have G1 := B2
  have G2 := B2
  go_upto_region 5 with (first
          | (have g := G1; clear g; refine wpList_load_mid (op := ⟨some 28, .load 33 (.tmp 7), _, _, _, _⟩) rfl 33 (.tmp 7) rfl (w.heap.size) (0) rfl (rc r) _ (V12.out.range) Try.underlying33 rfl (r_size r) ?_; clear G1)
          | (have g := G2; clear g; refine wpList_store_as (op := ⟨none, .store 33 (.tmp 10) (.tmp 28), _, _, _, _⟩) rfl 33 (.tmp 10) (.tmp 28) rfl (w2.heap.size) 0 (rc r).toArray rfl rfl (T0.out) (r_sizeA r) (r_oneA r) ?_; intro w5 hw5; clear G2))
  obtain ⟨V5, b5⟩ := rbox_stored rfl hw5
  have B5 := Lib.hid b5
  have V5 := Lib.hid V5
  have V15 := Lib.hid (V12.out.grow b5)
  clear hw5 b5 zk zs zn T0
  obtain ⟨_, _, c5, _, _⟩ := rng_r V5.out.range
  have c5 : w5.cell? ⟨w2.heap.size, 2, none⟩ = some (.slice r.A r.kn r.kc) := by simpa using c5
  obtain ⟨_, _, c15, _, _⟩ := rng_r V15.out.range
  have c15 : w5.cell? ⟨w.heap.size, 2, none⟩ = some (.slice r.A r.kn r.kc) := by simpa using c15
  have hlt5 : w2.heap.size < w5.heap.size := V5.out.lt
  have hlt15 : w.heap.size < w5.heap.size := V15.out.lt
  have hlt2 : w.heap.size < w2.heap.size := V12.out.lt
  have B05 := Lib.hid (B2.out.trans (B5.out.mono B2.out.size))
  have HO5 := Lib.hid (own_noneS w5 w5.heap.size (Nat.le_refl _))
  have HS5 := Lib.hid (((HRR0.out w5 B05.out).ks.below (below_one w5 (.cells #[] 9)) B05.out.size).lies)
  go_upto_region 6 with (at_builtin; refine wpList_app _ rfl (.tmp 29) (.tmp 31) 27 rfl w5.heap.size 9 1 16 Try.underlying27 str_info (by omega) _ 0 (svs []) rfl HO5.out r.A r.kn r.kc (svs r.ks) rfl HS5.out.1 HS5.out.2 (svs_one _) (by unfold maxLen; omega) (by omega) (by simp) ?_; intro v1 w6 ho1 hg1; rw [Nat.zero_add, show svs [] ++ svs r.ks = svs r.ks from rfl] at ho1; have b6 := Lib.hid (show Below w5.heap.size w5 w6 from (below_one w5 (.cells #[] 9)).grown hg1 (by simp) (fun q hq => (HO5.out.lt q hq).1)); obtain ⟨Dk, dk, rfl, _, _⟩ := own_shapeA ho1; have V6 := Lib.hid (V5.out.grow b6.out); have V16 := Lib.hid (V15.out.grow b6.out); have f6 : w6.frozen? ⟨w2.heap.size, 2, none⟩ = false := (V6.out.there 2 (by omega)).2; have d6 : w6.cell? ⟨w2.heap.size, 2, none⟩ = some (.slice r.A r.kn r.kc) := (b6.out.cell (p := ⟨w2.heap.size, 2, none⟩) hlt5).trans c5; have K6 := Lib.hid ho1; have s6 := Lib.hid b6.out.size; have B6 := Lib.hid (B5.out.trans (b6.out.mono B5.out.size)); clear ho1 hg1 b6)
  obtain ⟨w7, hw7⟩ : ∃ W, W = w6.setCell ⟨w2.heap.size, 2, none⟩ (.slice Dk r.kn dk) := ⟨_, rfl⟩
  rw [← hw7]
  have V7 := Lib.hid (show VBox w7 w2.heap.size 75 (rc (CopyX r Dk dk)) by rw [hw7]; exact V6.out.setK)
  have V17 := Lib.hid (show VBox w7 w.heap.size 75 (rc r) from V16.out.same (by rw [hw7]; exact heap_setCell _ _ _ _ _ (by omega)))
  have K7 : Hid (w7.ownsRow w5.heap.size 9 1 (.slice Dk r.kn dk) r.kn (svs r.ks)) := Lib.hid (own_keepB K6.out (fun g h1 h2 => by rw [hw7]; exact heap_setCell _ _ _ _ _ (by omega)))
  have B7 : Hid (Below w2.heap.size w2 w7) := Lib.hid (by rw [hw7]; exact B6.out.setCell (p := ⟨w2.heap.size, 2, none⟩) (Nat.le_refl _) _)
  have hs57 : w5.heap.size ≤ w7.heap.size := by rw [hw7]; simpa using s6.out
  have HQ7 : Hid (ROk w7 w7.heap.size (CopyX r Dk dk)) := Lib.hid (by
    obtain ⟨_, _, ee, k1, k2⟩ := own_shapeA K7.out
    injection ee with q1 q2 q3
    subst q1 q3
    have h0 := HRR0.out w5 B05.out
    exact ⟨h0.err, h0.n, h0.g, k1, k2, sr_of_own K7.out⟩)
  clear hw7 f6 d6 c5 c15 HS5 V5 V15 V6 V16 K6 B6 HO5 s6
  have B07 := Lib.hid (B2.out.trans (B7.out.mono B2.out.size))
  have hs27 := B7.out.size
  have NM := Lib.hid (note_al2 (w := w7) (r := CopyX r Dk dk) d t id er ((L2.out.below B7.out (Nat.le_refl _)).more B7.out.size) (Nat.le_refl _) HQ7.out hnx HD1.out HD2.out (fun x hx => Nat.le_trans (HK4.out w2 _ l' L2.out.ok HZ.out x hx) (by omega)) (show r.kn ≤ 100000 by omega) (by rw [noteE_same HZ.out]; exact HER.out))
  have G1 := B2
  have G2 := B2
  go_upto_region 7 with (first
          | (have g := G1; clear g; refine wpList_load_mid (op := ⟨some 38, .load 33 (.tmp 10), _, _, _, _⟩) rfl 33 (.tmp 10) rfl (w2.heap.size) (0) rfl (rc (CopyX r Dk dk)) _ (V7.out.range) Try.underlying33 rfl (r_size (CopyX r Dk dk)) ?_; clear G1)
          | (have g0 := G2; clear g0; go_at_call 20; refine NM.out.mono ?_; rintro e8 w8 ⟨A8, m8, d8, L8, rfl, hz8, o8, x8, k8, b8⟩; have hz8 := Lib.hid hz8; have O8 := Lib.hid o8; have X8 := Lib.hid x8; have K8 := Lib.hid k8; have B8 := Lib.hid b8; clear o8 x8 k8 b8 G2))
  have HZ8 : Hid (L8.map LX.z = noteZ (l.map LX.z) er ⟨t, id, r.z⟩) := Lib.hid (by rw [hz8.out, HZ.out]; rfl)
  clear hz8
  have V18 := Lib.hid (V17.out.grow B8.out)
  have B08 := Lib.hid (B07.out.trans (B8.out.mono B07.out.size))
  have RM := Lib.hid (rnote_al2 (w := w8) (B := w.heap.size) c t id er (HLL0.out w8 B08.out) B08.out.size (HRR0.out w8 B08.out) hnx HER.out)
  have G1 := B2
  have G2 := B2
  go_upto_region 8 with (first
          | (have g := G1; clear g; refine wpList_load_mid (op := ⟨some 46, .load 33 (.tmp 7), _, _, _, _⟩) rfl 33 (.tmp 7) rfl (w.heap.size) (0) rfl (rc r) _ (V18.out.range) Try.underlying33 rfl (r_size r) ?_; clear G1)
          | (have g0 := G2; clear g0; go_at_call 21; refine RM.out.mono ?_; rintro e9 w9 ⟨A9, m9, d9, L9, rfl, hz9, o9, x9, b9⟩; have HZ9 := Lib.hid hz9; have O9 := Lib.hid o9; have X9 := Lib.hid x9; have B9 := Lib.hid b9; clear hz9 o9 x9 b9 G2))
  have hs78 := B8.out.size
  have hs89 := B9.out.size
  have B79 := Lib.hid (B8.out.trans (B9.out.mono hs78))
  have B09 := Lib.hid (B08.out.trans (B9.out.mono B08.out.size))
  have O89 := Lib.hid (own_below O8.out B9.out (Nat.le_refl _))
  have X89 := Lib.hid (fun x hx => (X8.out x hx).grow B9.out (Nat.le_refl _))
  have K89 := Lib.hid (fun x g hx hA => (K8.out x g hx hA).below B9.out)
  have HC9 : Hid (w9.cell? ⟨w2.heap.size, 2, none⟩ = some (.slice Dk r.kn dk)) := Lib.hid (by
    obtain ⟨_, _, cc, _, _⟩ := rng_r (V7.out.grow B79.out).range
    simpa [CopyX] using cc)
  have hkb3 : Hid (∀ b, Dk = some ⟨b, 0, none⟩ → 0 < r.kn → w5.heap.size ≤ b ∧ b < w7.heap.size) := Lib.hid (fun b hA h0 => K7.out.lt b (by rw [hA]; rfl))
  have hth : Hid (∀ b, Dk = some ⟨b, 0, none⟩ → w9.there b 0 r.kn) := Lib.hid (fun b hA => by
    have := own_below K7.out B79.out (Nat.le_refl _)
    rw [hA] at this
    exact own_thereX this (by omega))
  have hform : Hid (0 < r.kn → ∃ b, Dk = some ⟨b, 0, none⟩) := Lib.hid (fun h0 => by
    obtain ⟨b, cap, hv, _, _⟩ := K7.out.form h0
    exact ⟨b, by injection hv⟩)
  have hknm : r.kn ≤ 9223372036854775807 := by omega
  clear NM RM V7 V17 V18 K7 HQ7 O8 X8 K8
  go_wp2
  go_loopw [15] (fun i wr => ∃ k : Nat, k ≤ r.kn ∧ i = .int .i64 k ∧ Hid (Below w5.heap.size w9 wr) ∧ Hid (∀ b, w7.heap.size ≤ b → wr.heap[b]? = w9.heap[b]?) ∧ Hid (∀ b, Dk = some ⟨b, 0, none⟩ → wr.there b 0 r.kn)) (fun i _ => r.kn - (intOf i).toNat)
  case atStart => exact ⟨0, by omega, rfl, Lib.hid (Below.refl _ _), Lib.hid (fun _ _ => rfl), hth⟩
  case round =>
    obtain ⟨k, hkk, rfl, HW, HH, HT⟩ := hrel
    have hc := (HW.out.cell (p := ⟨w2.heap.size, 2, none⟩) hlt5).trans HC9.out
    by_cases hlt : k < r.kn
    · obtain ⟨b, hA⟩ := hform.out (by omega)
      rw [hA] at hc
      have hth2 := HT.out b hA
      have hb2 := hkb3.out b hA (by omega)
      have hkI : (k : Int) < (r.kn : Int) := by omega
      have hf := (hth2 k hlt).2
      obtain ⟨v0, hv0⟩ : ∃ v, wr.cell? ⟨b, 0 + k, none⟩ = some v := Option.isSome_iff_exists.1 (hth2 k hlt).1
      rw [Nat.zero_add] at hf hv0
      have HB2 := Lib.hid hb2
      clear hth2 hb2 hA
      go_wp2
      go_roundw
      case rel =>
        exact ⟨k + 1, by omega, by go_num, Lib.hid (HW.out.setCell (p := ⟨b, k, none⟩) HB2.out.1 _), Lib.hid (fun b' hb' => (heap_setCell _ _ _ _ _ (by have := HB2.out.2; omega)).trans (HH.out b' hb')), Lib.hid (fun b' hb' => World.there_setCells (HT.out b' hb') b k [.string ⟨#[63]⟩])⟩
      case measure => simp [intOf]; omega
    · have hkI : ¬ (k : Int) < (r.kn : Int) := by omega
      have hsr := HW.out.size
      have HWs := Lib.hid hsr
      have O8r := Lib.hid (own_keepB O89.out (fun g h1 _ => HH.out g h1))
      have X8r : Hid (∀ x, x ∈ L8 → XOk wr wr.heap.size x) := Lib.hid (fun x hx => by
        rcases Nat.eq_zero_or_pos m8 with h0 | h0
        · have hl := O89.out.1
          rw [xvs_len, h0] at hl
          have : L8 = [] := List.eq_nil_of_length_eq_zero (by omega)
          rw [this] at hx; simp at hx
        · obtain ⟨g, cap, hv, _, _⟩ := O89.out.form h0
          have hA8 : A8 = some ⟨g, 0, none⟩ := by injection hv
          exact xok_keep (X89.out x hx) (K89.out x g hx hA8) (fun b hb => HH.out b hb) hsr)
      have K8r : Hid (∀ x g, x ∈ L8 → A8 = some ⟨g, 0, none⟩ → KW wr w7.heap.size g x.r) := Lib.hid (fun x g hx hA => (K89.out x g hx hA).keep (fun b hb => HH.out b hb) hsr)
      have O9r := Lib.hid (own_keepB O9.out (fun g h1 _ => HH.out g (Nat.le_trans hs78 h1)))
      have BWr := Lib.hid (show Below w.heap.size w wr from B09.out.trans (HW.out.mono (by omega)))
      have B2r := Lib.hid (show Below w2.heap.size w2 wr from (B7.out.trans (B79.out.mono hs27)).trans (HW.out.mono (by omega)))
      have LGr := Lib.hid (las_of_own O8r.out X8r.out)
      have X9r := Lib.hid (fun x hx => ((X9.out x hx).below ((B9.out.mono B08.out.size).trans (HW.out.mono (by omega))) (Nat.le_refl _)).more (Nat.le_trans B08.out.size (Nat.le_trans hs89 hsr)))
      have LWr := Lib.hid (las_of_own O9r.out X9r.out)
      have hm8 : m8 ≤ 100000 := by
        have h1 := O89.out.1
        rw [xvs_len] at h1
        have h2 := congrArg List.length HZ8.out
        rw [List.length_map] at h2
        have h3 : (noteZ (l.map LX.z) er (⟨t, id, r.z⟩ : LastZ)).length ≤ 2 * n + 1 := by
          unfold noteZ
          by_cases he : er = 0
          · rw [if_pos he]
            unfold insG
            rw [List.length_append, List.length_cons]
            have e1 := (List.takeWhile_sublist (l := l.map LX.z) (fun y => decide (LastZ.c y < (⟨t, id, r.z⟩ : LastZ).c))).length_le
            have hm := HER.out
            have hlen := (HLL0.out w (Below.refl _ _)).len
            have e2 : (l.map LX.z).length = n := by rw [List.length_map, hlen]
            have e3 := (List.dropWhile_sublist (l := l.map LX.z) (fun y => decide (LastZ.c y ≤ (⟨t, id, r.z⟩ : LastZ).c))).length_le
            omega
          · rw [if_neg he]; simp
        omega
      have hm8x : m8 ≤ 9223372036854775807 := by omega
      have FG := Lib.hid (from_any (w := wr) d8 LGr.out (Nat.le_refl _) hm8)
      have hc8 : (er != er) = false := by simp
      clear HH HT hkk hlt hc8
      go_upto_region 14 with (first
              | (go_at_call 18; refine FG.out.mono ?_; rintro e11 w11 ⟨D11, d11, rfl, o11, b11⟩; have B11 := Lib.hid b11; have O11 := Lib.hid (las_of_own o11 (fun x hx => (X8r.out x hx).grow b11 (Nat.le_refl _))); clear o11 b11)
              | (go_at_call 17; refine (rsame_any (w := w11) d11 d9 true O11.out (LWr.out.grow B11.out (Nat.le_refl _)) (Nat.le_refl _) (Nat.le_refl _) hm8x (by rw [HZ8.out, HZ9.out]; exact tabB_refl _)).mono ?_; rintro e12 w12 ⟨rfl, b12⟩; have B12 := Lib.hid b12; clear b12))
      have B1112 := Lib.hid (B11.out.trans (B12.out.mono B11.out.size))
      have hs12 := B1112.out.size
      have O12 := Lib.hid (own_below O8r.out B1112.out (Nat.le_refl _))
      have K12 := Lib.hid (fun x g hx hA => (K8r.out x g hx hA).below B1112.out)
      have B7r12 : Hid (Below w7.heap.size w12 w12) := Lib.hid (Below.refl _ _)
      clear O8r X8r K8r O9r LGr X9r LWr FG O11
      go_wp2
      go_loopw [16] (fun i wq => ∃ k : Nat, k ≤ m8 ∧ i = .int .i64 k ∧ Hid (Below w7.heap.size w12 wq) ∧ Hid (∀ g, A8 = some ⟨g, 0, none⟩ → wq.heap[g]? = w12.heap[g]?) ∧ Hid (∀ x g, x ∈ L8 → A8 = some ⟨g, 0, none⟩ → KW wq w7.heap.size g x.r)) (fun i _ => m8 - (intOf i).toNat)
      case atStart => exact ⟨0, by omega, rfl, Lib.hid (Below.refl _ _), Lib.hid (fun _ _ => rfl), K12⟩
      case round =>
        obtain ⟨k, hkk, rfl, HV, HG, HX⟩ := hrel
        by_cases hlt : k < m8
        · have hgx : ∃ g, A8 = some ⟨g, 0, none⟩ := by
            obtain ⟨g, cap, hv, _, _⟩ := O12.out.form (by omega)
            exact ⟨g, by injection hv⟩
          obtain ⟨g, rfl⟩ := hgx
          have hl8 : L8.length = m8 := by have := O12.out.1; rw [xvs_len] at this; omega
          obtain ⟨x, hx⟩ : ∃ x, L8[k]? = some x := ⟨_, List.getElem?_eq_getElem (by rw [hl8]; exact hlt)⟩
          have hxm := List.mem_of_getElem? hx
          have HXM := Lib.hid hxm
          have hcx : Hid (w12.cell? ⟨g, k * 77 + 2 + 2, none⟩ = some (.slice x.r.A x.r.kn x.r.kc)) := Lib.hid ((rng_r (rng_x (own_rngX O12.out hx)).2.2).2.2.1)
          have hkI : (k : Int) < (m8 : Int) := by omega
          have hknx : x.r.kn ≤ 9223372036854775807 := by
            have h1 := (X89.out x hxm).r.kc
            have h2 := (X89.out x hxm).r.km
            unfold maxLen at h2
            omega
          clear hx hxm hl8
          go_wp2
          go_loopw [17] (fun i wp => ∃ j : Nat, j ≤ x.r.kn ∧ i = .int .i64 j ∧ Hid (Below w7.heap.size w12 wp) ∧ Hid (wp.heap[g]? = w12.heap[g]?) ∧ Hid (∀ y, y ∈ L8 → KW wp w7.heap.size g y.r)) (fun i _ => x.r.kn - (intOf i).toNat)
          case atStart => exact ⟨0, by omega, rfl, HV, Lib.hid (HG.out g rfl), Lib.hid (fun y hy => HX.out y g hy rfl)⟩
          case round =>
            obtain ⟨j, hjj, rfl, HV2, HG2, HX2⟩ := hrel
            have hcj := (World.cell?_of_block (a := ⟨g, k * 77 + 2 + 2, none⟩) HG2.out).trans hcx.out
            by_cases hltj : j < x.r.kn
            · obtain ⟨b, hA, hb1, hb2, hb3, hb4⟩ := (HX2.out x HXM.out).own (by omega)
              rw [hA] at hcj
              have hjI : (j : Int) < (x.r.kn : Int) := by omega
              have hf := (hb4 j hltj).2
              obtain ⟨v0, hv0⟩ := Option.isSome_iff_exists.1 (hb4 j hltj).1
              rw [Nat.zero_add] at hf hv0
              have HB1 := Lib.hid hb1
              have HB2 := Lib.hid hb2
              clear hb1 hb2 hb4 hA hb3
              go_wp2
              go_roundw
              case rel =>
                exact ⟨j + 1, by omega, by go_num, Lib.hid (HV2.out.setCell (p := ⟨b, j, none⟩) HB1.out _), Lib.hid ((heap_setCell _ _ _ _ _ (fun e => HB2.out e.symm)).trans HG2.out), Lib.hid (fun y hy => (HX2.out y hy).setCell b j _)⟩
              case measure => simp [intOf]; omega
            · have hjI : ¬ (j : Int) < (x.r.kn : Int) := by omega
              clear hjj hltj
              go_wp2
              go_roundw
              case rel =>
                exact ⟨k + 1, by omega, by go_num, HV2, Lib.hid (fun g' hg' => by injection hg' with hg'; injection hg' with hg'; subst hg'; exact HG2.out), Lib.hid (fun y g' hy hg' => by injection hg' with hg'; injection hg' with hg'; subst hg'; exact HX2.out y hy)⟩
              case measure => simp [intOf]; omega
        · have hkI : ¬ (k : Int) < (m8 : Int) := by omega
          have BWq := Lib.hid ((BWr.out.trans (B1112.out.mono BWr.out.size)).trans (HV.out.mono (by omega)))
          have B2q := Lib.hid ((B2r.out.trans (B1112.out.mono B2r.out.size)).trans (HV.out.mono (by omega)))
          have FI := Lib.hid (from_any d (L2.out.below B2q.out (Nat.le_refl _)) B2q.out.size (by omega))
          clear hkk hlt HG HX
          go_wp2_with (first
                  | (go_at_call 18; refine FI.out.mono ?_; rintro e13 w13 ⟨D13, d13, rfl, o13, b13⟩; have B13 := Lib.hid b13; have O13 := Lib.hid (las_of_own o13 (fun x hx => ((L2.out.below B2q.out (Nat.le_refl _)).ok x hx).grow b13 B2q.out.size)); clear o13 b13)
                  | (go_at_call 17; refine (rsame_any (w := w13) d13 c true O13.out (HLL0.out w13 (BWq.out.trans (B13.out.mono BWq.out.size))) (Nat.le_refl _) (Nat.le_trans BWq.out.size B13.out.size) hnx (by rw [HZ.out]; exact tabB_refl _)).mono ?_; rintro e14 w14 ⟨rfl, b14⟩; have B14 := Lib.hid b14; clear b14)
                  | (go_at_call 19; refine (awake_any w14).mono ?_; rintro e15 w15 ⟨rfl, b15⟩; have B15 := Lib.hid b15; clear b15))
          go_ret
          exact ⟨rfl, BWq.out.trans ((B13.out.trans ((B14.out.trans (B15.out.mono B14.out.size)).mono B13.out.size)).mono BWq.out.size)⟩
end Go.Proofs.Ytlapdocikhjkcaa
