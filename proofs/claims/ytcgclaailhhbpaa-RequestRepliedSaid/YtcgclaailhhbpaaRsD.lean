/- A reply's form: the document's. -/
import Derived.Test.YtcgclaailhhbpaaRsC
import Derived.Test.YtcgclaailhhbpaaRqI
namespace Go.Proofs.Ytcgclaailhhbpaa
open Go.ChangeShapes Go.WideShapes Go.ChangeAt Go.RowKit
set_option linter.unusedVariables false
set_option maxRecDepth 100000
set_option linter.unusedSimpArgs false
open Plain Sha Au Rp Rq
theorem app_keep {w8 w9 : World} {gl n c n9 c9 : Nat} {A A9 : Option Addr} (hap : ∀ b, A = some b → b.block ≠ gl) (hl : gl < w8.heap.size) (hg : w8.grownBy w9 (Value.slice A n c).ownBlock) (hw : (Value.slice A9 n9 c9).ownBlock = (Value.slice A n c).ownBlock ∨ ∀ k, (Value.slice A9 n9 c9).ownBlock = some k → w8.heap.size ≤ k) : (gl < w9.heap.size ∧ w9.heap[gl]? = w8.heap[gl]?) ∧ ∀ b, A9 = some b → b.block ≠ gl := by
  have hne : (Value.slice A n c).ownBlock ≠ some gl := fun e => by
    cases hA : A with
    | none => rw [hA] at e; simp [Value.ownBlock] at e
    | some b0 =>
      rw [hA] at e
      simp only [Value.ownBlock, Option.some.injEq] at e
      exact hap b0 hA e
  refine ⟨⟨Nat.lt_of_lt_of_le hl hg.size, hg.block gl hl (fun e => hne ?_)⟩, fun b hA => ?_⟩
  · first | exact e | exact e.symm
  · rcases hw with h | h
    · intro e
      refine hne ?_
      rw [← h, hA, ← e]
      rfl
    · have := h b.block (by rw [hA]; rfl)
      omega
def KfSt (x : RX) (W1 : World) (v i : Value) (wr : World) : Prop := ∃ (k N : Nat) (A : Option Addr) (c : Nat), k ≤ x.kn ∧ i = .int .i64 k ∧ v = .slice A N c ∧ Hid ((repF1 x.z ++ keysF (x.ks.take k)).length = N) ∧ Hid (wr.ownsRow W1.heap.size 5 1 (.slice A N c) N (vals (repF1 x.z ++ keysF (x.ks.take k)))) ∧ Hid (Below W1.heap.size W1 wr)
def FoSt (W1 w9 : World) (gl lb M : Nat) (zz : List Int) (t1 t2 t3 t4 : Int) (v i : Value) (wr : World) : Prop := ∃ (k : Nat) (A : Option Addr) (c : Nat), k ≤ 4 ∧ i = .int .i64 k ∧ v = .slice A (M + 8 * k) c ∧ Hid (wr.ownsRow W1.heap.size 5 1 (.slice A (M + 8 * k) c) (M + 8 * k) (vals (zz ++ n4 t1 t2 t3 t4 k))) ∧ Hid (Below W1.heap.size W1 wr) ∧ Hid (lb < wr.heap.size ∧ ∀ j, j < 4 → wr.cell? ⟨lb, j, none⟩ = some (.int .i64 (four t1 t2 t3 t4 j))) ∧ Hid (∀ b, A = some b → b.block ≠ lb) ∧ Hid (gl < wr.heap.size ∧ wr.heap[gl]? = w9.heap[gl]?) ∧ Hid (∀ b, A = some b → b.block ≠ gl)
set_option maxHeartbeats 8000000 in
theorem replyform_any {w : World} {B : Nat} {x : RX} (h : ROk w B x) (hB : B ≤ w.heap.size) (hm : mayR x.z = true) : Calls Try.prog 24 #[.agg (rc x).toArray] w (Made w (repF x.z)) := by
  obtain ⟨W1, hW1⟩ : ∃ W, W = w.alloc (.cells (rc x).toArray 46) := ⟨_, rfl⟩
  have b1 := Lib.hid (show Below w.heap.size w W1 by rw [hW1]; exact below_one _ _)
  obtain ⟨g, hg⟩ : ∃ g, w.heap.size = g := ⟨_, rfl⟩
  have HG := Lib.hid hg
  have V1 := Lib.hid (show VBox W1 g 75 (rc x) by rw [hW1]; exact vbox_new _ _ _ _ _ hg (rc_len x) (by omega))
  have z1 := Lib.hid (show W1.heap.size = g + 1 by rw [hW1]; simp [hg])
  have HW1 := Lib.hid hW1
  have HH := Lib.hid h
  obtain ⟨hs1, hs2, hs3⟩ := mayR_yes hm
  have hkn : x.kn ≤ 16 := by rw [← HH.out.ks.len]; exact hs1
  have hvs : x.val.size ≤ 512 := hs2
  have gv : x.val.size ≤ 65536 := by omega
  have HKS : Hid (∀ k, k ∈ x.ks → k.size ≤ 512) := Lib.hid hs3
  have her := HH.out.err
  have hxn := HH.out.n
  have HGO := Lib.hid HH.out.g
  have hgn_ := HGO.out.n
  have hgst := HGO.out.st
  have hgop := HGO.out.op
  have H4 := Lib.hid (four_in HGO.out.tn HGO.out.a HGO.out.b HGO.out.c)
  unfold InA at her hxn hgn_ hgst
  have HKL : Hid (((x.ks.length : Nat) : Int) = (x.kn : Int)) := Lib.hid (by rw [HH.out.ks.len])
  have HK3 : Hid (∀ k, (repF1 x.z ++ keysF (x.ks.take k)).length ≤ 8909) := Lib.hid (fun k => by
    have h1 := keysF_len (x.ks.take k) (fun y hy => hs3 y (List.mem_of_mem_take hy))
    have h2 : (x.ks.take k).length ≤ 16 := by rw [List.length_take]; have := HH.out.ks.len; omega
    rw [List.length_append, repF1_len]
    have : x.z.val.size = x.val.size := rfl
    omega)
  have HC := Lib.hid (show ∀ W, Below W1.heap.size W1 W → W.cell? ⟨g, 0, none⟩ = some (.int .i64 x.err) ∧ W.cell? ⟨g, 1, none⟩ = some (.string x.val) ∧ W.cell? ⟨g, 2, none⟩ = some (.slice x.A x.kn x.kc) ∧ W.cell? ⟨g, 3, none⟩ = some (.int .i64 x.n) ∧ W.rangeAt g 4 (lc x.g) from fun W hW => by
    have := rng_r (V1.out.below hW (by rw [z1.out]; omega)).range
    simpa only [Nat.zero_add] using this)
  have HT : Hid (∀ W, Below W1.heap.size W1 W → Sr W B x.A x.kn x.ks) := Lib.hid (fun W hW => (HH.out.ks.below (b1.out.trans (hW.mono b1.out.size)) hB))
  obtain ⟨AA, hAA⟩ : ∃ AA, x.A = AA := ⟨_, rfl⟩
  rw [hAA] at HC HT
  obtain ⟨m1, hm1⟩ : ∃ m, 4 + x.val.size = m := ⟨_, rfl⟩
  have L1 : Hid ((bytesF (strZ x.val)).length = m1) := Lib.hid (by rw [bytesF_len, strZ_len]; exact hm1)
  have hm15 : m1 ≤ 516 := by omega
  have P0 := Lib.hid (Below.refl W1.heap.size W1)
  have cc2 := run_toBytes
  clear hW1 hg h hB hm hm1 hAA hs1 hs2 hs3
  go_enter Try.func24, Try.ntmps24
  go_upto_region 1 with fail
  rw [← HW1.out, HG.out]
  obtain ⟨q0, q1, q2, q3, q4⟩ := HC.out _ P0.out
  clear q4
  go_upto_region 2 with (go_at_call 44; refine (refint_any x.err her.1 her.2 _).mono ?_; intro e w1 hm; obtain ⟨A1, c1, rfl, ho, hb, _, _⟩ := hm.n (n64_len' _); have O1 := Lib.hid ho; have P1 := Lib.hid hb; clear hm ho hb)
  clear q0 q1 q2 q3
  obtain ⟨q0, q1, q2, q3, q4⟩ := HC.out _ P1.out
  clear q4
  go_upto_region 3 with (first
        | (go_at_call 43; refine (refbytesW_any (grownCap w1 x.val.size 0 5) (bytesW_bs w1 x.val) (by rw [Go.Lib.bytesWorld_size]; omega) gv).mono ?_; intro e v2 hm; obtain ⟨D2, d2, rfl, ho, hb, _, _⟩ := hm.n L1.out; have H2 := Lib.hid (Made.bs ho (bytesF_bytes (strZ_bytes _))); have Oc2 := Lib.hid (own_below (own_below O1.out (bytesW_below w1 x.val) (Nat.le_refl _)) hb (Nat.le_refl _)); have Pc2 := Lib.hid ((P1.out.trans ((bytesW_below w1 x.val).mono P1.out.size)).trans (hb.mono (P1.out.trans ((bytesW_below w1 x.val).mono P1.out.size)).size)); clear hm ho hb)
        | (at_builtin; refine wpList_app _ rfl (.tmp 11) (.tmp 15) 22 rfl W1.heap.size 5 1 1 Try.underlying22 u8_info (by omega) (.slice A1 (8) c1) (8) (vals (n64 x.err)) rfl Oc2.out D2 (m1) d2 (vals (bytesF (strZ x.val))) rfl H2.out.lies.1 H2.out.lies.2 (vals_one _) (by unfold maxLen; omega) (by omega) Pc2.out.size ?_; intro v1 w2 ho1 hg1; rw [← vals_app] at ho1; have P2 := Lib.hid (Pc2.out.grown hg1 Pc2.out.size (fun q hq => (Oc2.out.lt q hq).1)); obtain ⟨A2, c2, rfl, _, _⟩ := own_shape ho1; have O2 := Lib.hid ho1; clear ho1 hg1))
  clear O1 P1 Oc2 Pc2 H2
  clear q0 q1 q2 q3
  obtain ⟨q0, q1, q2, q3, q4⟩ := HC.out _ P2.out
  clear q4
  go_upto_region 4 with (first
        | (go_at_call 44; refine (refint_any (x.kn : Int) (by omega) (by omega) _).mono ?_; intro e v3 hm; obtain ⟨D3, d3, rfl, ho, hb, _, _⟩ := hm.n (n64_len' _); have H3 := Lib.hid (Made.bs ho (n64_bytes' _)); have Oc3 := Lib.hid (own_below O2.out hb (Nat.le_refl _)); have Pc3 := Lib.hid (P2.out.trans (hb.mono P2.out.size)); clear hm ho hb)
        | (at_builtin; refine wpList_app _ rfl (.tmp 17) (.tmp 21) 22 rfl W1.heap.size 5 1 1 Try.underlying22 u8_info (by omega) (.slice A2 (8 + m1) c2) (8 + m1) (vals (n64 x.err ++ bytesF (strZ x.val))) rfl Oc3.out D3 (8) d3 (vals (n64 (x.kn : Int))) rfl H3.out.lies.1 H3.out.lies.2 (vals_one _) (by unfold maxLen; omega) (by omega) Pc3.out.size ?_; intro v1 w3 ho1 hg1; rw [← vals_app] at ho1; have P3 := Lib.hid (Pc3.out.grown hg1 Pc3.out.size (fun q hq => (Oc3.out.lt q hq).1)); obtain ⟨A3, c3, rfl, _, _⟩ := own_shape ho1; have O3 := Lib.hid ho1; clear ho1 hg1))
  clear O2 P2 Oc3 Pc3 H3
  clear q0 q1 q2 q3
  obtain ⟨N0, hN0⟩ : ∃ N, 8 + m1 + 8 = N := ⟨_, rfl⟩
  rw [hN0] at O3
  rw [hN0]
  have R3 : Hid (w3.ownsRow W1.heap.size 5 1 (.slice A3 N0 c3) N0 (vals (repF1 x.z ++ keysF (x.ks.take 0)))) := Lib.hid (by
    rw [show keysF (x.ks.take 0) = [] from rfl, List.append_nil]
    have := O3.out
    rw [← HKL.out] at this
    exact this)
  have S3 := Lib.hid (show (repF1 x.z ++ keysF (x.ks.take 0)).length = N0 from by have := R3.out.1; rwa [vals_len, Nat.mul_one] at this)
  clear O3 hN0
  go_wp2
  go_loopw [3, 4] (fun v i wr => KfSt x W1 v i wr) (fun _ i _ => x.kn - (intOf i).toNat)
  case atStart => exact ⟨0, N0, A3, c3, by omega, rfl, rfl, S3, R3, P3⟩
  case round =>
    obtain ⟨k, N, A, c, hk, rfl, rfl, SK, OR, PR⟩ := hrel
    have hN : N ≤ 8909 := by rw [← SK.out]; exact HK3.out k
    by_cases hlt : k < x.kn
    · obtain ⟨b, off, z, hA, _, HZ, cz⟩ := (HT.out _ PR.out).at_ hlt
      subst hA
      have hki : (k : Int) < (x.kn : Int) := by omega
      have hzs : z.size ≤ 512 := HKS.out z (List.mem_of_getElem? HZ.out)
      obtain ⟨m8, hm8⟩ : ∃ m, 4 + z.size = m := ⟨_, rfl⟩
      have L8 : Hid ((bytesF (strZ z)).length = m8) := Lib.hid (by rw [bytesF_len, strZ_len]; exact hm8)
      have hm5 : m8 ≤ 516 := by omega
      clear hm8
      obtain ⟨q0, q1, q2, q3, q4⟩ := HC.out _ PR.out
      clear q4
      go_wp2_with (first
        | (go_at_call 43; refine (refbytesW_any (grownCap wr z.size 0 5) (bytesW_bs wr z) (by rw [Go.Lib.bytesWorld_size]; omega) (by omega)).mono ?_; intro e w8 hm; obtain ⟨D8, d8, rfl, ho, hb, _, _⟩ := hm.n L8.out; have H8 := Lib.hid (Made.bs ho (bytesF_bytes (strZ_bytes _))); have Oc8 := Lib.hid (own_below (own_below OR.out (bytesW_below wr z) (Nat.le_refl _)) hb (Nat.le_refl _)); have Pc8 := Lib.hid ((PR.out.trans ((bytesW_below wr z).mono PR.out.size)).trans (hb.mono (PR.out.trans ((bytesW_below wr z).mono PR.out.size)).size)); clear hm ho hb)
        | (at_builtin; refine wpList_app _ rfl (.tmp 30) (.tmp 37) 22 rfl W1.heap.size 5 1 1 Try.underlying22 u8_info (by omega) (.slice A (N) c) (N) (vals (repF1 x.z ++ keysF (x.ks.take k))) rfl Oc8.out D8 (m8) d8 (vals (bytesF (strZ z))) rfl H8.out.lies.1 H8.out.lies.2 (vals_one _) (by unfold maxLen; omega) (by omega) Pc8.out.size ?_; intro v1 w9 ho1 hg1; rw [← vals_app] at ho1; have P9 := Lib.hid (Pc8.out.grown hg1 Pc8.out.size (fun q hq => (Oc8.out.lt q hq).1)); obtain ⟨A9, c9, rfl, _, _⟩ := own_shape ho1; have O9 := Lib.hid ho1; clear ho1 hg1))
      have EK : Hid (repF1 x.z ++ keysF (x.ks.take k) ++ bytesF (strZ z) = repF1 x.z ++ keysF (x.ks.take (k + 1))) := Lib.hid (by
        rw [List.append_assoc, ← keysF_snoc, List.take_add_one, HZ.out]
        rfl)
      go_roundw
      case rel => exact ⟨k + 1, N + m8, A9, c9, by omega, by go_num, rfl, Lib.hid (by have := O9.out.1; rw [vals_len, EK.out, Nat.mul_one] at this; exact this), Lib.hid (by rw [← EK.out]; exact O9.out), P9⟩
      case measure => simp [intOf]; omega
    · have hki : ¬ (k : Int) < (x.kn : Int) := by omega
      have OF0 : Hid (wr.ownsRow W1.heap.size 5 1 (.slice A N c) N (vals (repF2 x.z))) := Lib.hid (by
        have := OR.out
        rw [List.take_of_length_le (by have := HH.out.ks.len; omega)] at this
        exact this)
      clear OR R3 P3 S3 SK hk hlt
      obtain ⟨q0, q1, q2, q3, q4⟩ := HC.out _ PR.out
      have zk := zLqk
      have zs := zLq_size
      have zn := zLq_ne
      have vn := Lib.hid (vbox_new wr (lc l0) 44 wr.heap.size 71 rfl (lc_len _) (by omega))
      have TH := Lib.hid (show (wr.alloc (.cells zLq 44)).there wr.heap.size 0 (lc x.g).toArray.size by rw [show (lc x.g).toArray.size = 71 from by rw [List.size_toArray, lc_len]]; exact vn.out.there)
      have D4 := Lib.hid q4
      clear q4
      go_upto_region 9 with (first
        | (show wpList _ _ _ (⟨some 40, .load 44 (.tmp 39), _, _, _, _⟩ :: _) _ _; refine wpList_load_mid (op := ⟨some 40, .load 44 (.tmp 39), _, _, _, _⟩) rfl 44 (.tmp 39) rfl (g) 4 rfl (lc x.g) _ (D4.out) Try.underlying44 rfl (lk_size x.g) ?_)
        | (show wpList _ _ _ (⟨none, .store 44 (.tmp 5) (.tmp 40), _, _, _, _⟩ :: _) _ _; refine wpList_store_as (op := ⟨none, .store 44 (.tmp 5) (.tmp 40), _, _, _, _⟩) rfl 44 (.tmp 5) (.tmp 40) rfl (wr.heap.size) 0 (lc x.g).toArray rfl rfl (TH.out) (lk_sizeA x.g) (lk_one x.g) ?_; intro w9 hw9))
      obtain ⟨gl, hgl⟩ : ∃ gl, wr.heap.size = gl := ⟨_, rfl⟩
      have VL : Hid (VBox w9 gl 71 (lc x.g)) := Lib.hid (by rw [← hgl]; exact vn.out.store (lc_len _) hw9)
      have b9 := Lib.hid (show Below wr.heap.size wr w9 by rw [hw9.out]; exact below_setCells (Nat.le_refl _) _ _ _ (below_one wr _))
      have O9 := Lib.hid (own_below OF0.out b9.out (Nat.le_refl _))
      have P9 := Lib.hid (PR.out.trans (b9.out.mono PR.out.size))
      have G9 : Hid (gl < w9.heap.size ∧ w9.heap[gl]? = w9.heap[gl]?) := Lib.hid ⟨VL.out.lt, rfl⟩
      have AP9 : Hid (∀ b, A = some b → b.block ≠ gl) := Lib.hid (fun b hA => by have := (OF0.out.lt b.block (by rw [hA]; rfl)).2; omega)
      have HLC := Lib.hid (show ∀ W : World, W.heap[gl]? = w9.heap[gl]? → W.cell? ⟨gl, 0, none⟩ = some (.int .i64 x.g.n) ∧ W.cell? ⟨gl, 1, none⟩ = some (.int .i64 x.g.st) ∧ W.cell? ⟨gl, 2, none⟩ = some (.int .u8 x.g.op) ∧ W.cell? ⟨gl, 3, none⟩ = some (.int .i64 x.g.tn) ∧ W.cell? ⟨gl, 4, none⟩ = some (.int .i64 x.g.a) ∧ W.cell? ⟨gl, 5, none⟩ = some (.int .i64 x.g.b) ∧ W.cell? ⟨gl, 6, none⟩ = some (.int .i64 x.g.c) ∧ W.rangeAt gl 7 (vals x.g.H) ∧ W.rangeAt gl 39 (vals x.g.S) from fun W hW => by
        have := rng_lk (VL.out.same hW).range
        simpa only [Nat.zero_add] using this)
      rw [hgl]
      clear vn TH hw9 zk zs zn D4 OF0 PR hgl q0 q1 q2 q3 b9 VL
      obtain ⟨q0, q1, q2, q3, q4⟩ := HC.out _ P9.out
      clear q4
      obtain ⟨l0_, l1_, l2_, l3_, l4_, l5_, l6_, l7_, l8_⟩ := HLC.out _ G9.out.2
      go_upto_region 10 with (first
            | (go_at_call 44; refine (refint_any x.n hxn.1 hxn.2 _).mono ?_; intro e v10 hm; obtain ⟨D10, d10, rfl, ho, hb, _, _⟩ := hm.n (n64_len' _); have H10 := Lib.hid (Made.bs ho (n64_bytes' _)); have Oc10 := Lib.hid (own_below O9.out hb (Nat.le_refl _)); have Pc10 := Lib.hid (P9.out.trans (hb.mono P9.out.size)); have Gc10 := Lib.hid (show gl < v10.heap.size ∧ v10.heap[gl]? = w9.heap[gl]? from ⟨Nat.lt_of_lt_of_le G9.out.1 hb.size, (hb.block gl G9.out.1).trans G9.out.2⟩); clear hm ho hb)
            | (at_builtin; refine wpList_appW _ rfl (.tmp 41) (.tmp 44) 22 rfl W1.heap.size 5 1 1 Try.underlying22 u8_info (by omega) (.slice A (N) c) (N) (vals (repF2 x.z)) rfl Oc10.out D10 (8) d10 (vals (n64 x.n)) rfl H10.out.lies.1 H10.out.lies.2 (vals_one _) (by unfold maxLen; omega) (by omega) Pc10.out.size ?_; intro v1 w10 ho1 hg1 hw1; rw [← vals_app] at ho1; have P10 := Lib.hid (Pc10.out.grown hg1 Pc10.out.size (fun q hq => (Oc10.out.lt q hq).1)); obtain ⟨A10, c10, rfl, _, _⟩ := own_shape ho1; have O10 := Lib.hid ho1; have AK10 := Lib.hid (app_keep AP9.out Gc10.out.1 hg1 hw1); have G10 := Lib.hid (show gl < w10.heap.size ∧ w10.heap[gl]? = w9.heap[gl]? from ⟨AK10.out.1.1, AK10.out.1.2.trans Gc10.out.2⟩); have AP10 := Lib.hid AK10.out.2; clear ho1 hg1 hw1 AK10))
      clear O9 P9 G9 AP9 Oc10 Pc10 Gc10 H10
      clear q0 q1 q2 q3
      clear l0_ l1_ l2_ l3_ l4_ l5_ l6_ l7_ l8_
      obtain ⟨q0, q1, q2, q3, q4⟩ := HC.out _ P10.out
      clear q4
      obtain ⟨l0_, l1_, l2_, l3_, l4_, l5_, l6_, l7_, l8_⟩ := HLC.out _ G10.out.2
      go_upto_region 11 with (first
            | (go_at_call 44; refine (refint_any x.g.n hgn_.1 hgn_.2 _).mono ?_; intro e v11 hm; obtain ⟨D11, d11, rfl, ho, hb, _, _⟩ := hm.n (n64_len' _); have H11 := Lib.hid (Made.bs ho (n64_bytes' _)); have Oc11 := Lib.hid (own_below O10.out hb (Nat.le_refl _)); have Pc11 := Lib.hid (P10.out.trans (hb.mono P10.out.size)); have Gc11 := Lib.hid (show gl < v11.heap.size ∧ v11.heap[gl]? = w9.heap[gl]? from ⟨Nat.lt_of_lt_of_le G10.out.1 hb.size, (hb.block gl G10.out.1).trans G10.out.2⟩); clear hm ho hb)
            | (at_builtin; refine wpList_appW _ rfl (.tmp 46) (.tmp 49) 22 rfl W1.heap.size 5 1 1 Try.underlying22 u8_info (by omega) (.slice A10 (N + 8) c10) (N + 8) (vals (repF2 x.z ++ n64 x.n)) rfl Oc11.out D11 (8) d11 (vals (n64 x.g.n)) rfl H11.out.lies.1 H11.out.lies.2 (vals_one _) (by unfold maxLen; omega) (by omega) Pc11.out.size ?_; intro v1 w11 ho1 hg1 hw1; rw [← vals_app] at ho1; have P11 := Lib.hid (Pc11.out.grown hg1 Pc11.out.size (fun q hq => (Oc11.out.lt q hq).1)); obtain ⟨A11, c11, rfl, _, _⟩ := own_shape ho1; have O11 := Lib.hid ho1; have AK11 := Lib.hid (app_keep AP10.out Gc11.out.1 hg1 hw1); have G11 := Lib.hid (show gl < w11.heap.size ∧ w11.heap[gl]? = w9.heap[gl]? from ⟨AK11.out.1.1, AK11.out.1.2.trans Gc11.out.2⟩); have AP11 := Lib.hid AK11.out.2; clear ho1 hg1 hw1 AK11))
      clear O10 P10 G10 AP10 Oc11 Pc11 Gc11 H11
      clear q0 q1 q2 q3
      clear l0_ l1_ l2_ l3_ l4_ l5_ l6_ l7_ l8_
      obtain ⟨q0, q1, q2, q3, q4⟩ := HC.out _ P11.out
      clear q4
      obtain ⟨l0_, l1_, l2_, l3_, l4_, l5_, l6_, l7_, l8_⟩ := HLC.out _ G11.out.2
      go_upto_region 12 with (first
            | (go_at_call 44; refine (refint_any x.g.st hgst.1 hgst.2 _).mono ?_; intro e v12 hm; obtain ⟨D12, d12, rfl, ho, hb, _, _⟩ := hm.n (n64_len' _); have H12 := Lib.hid (Made.bs ho (n64_bytes' _)); have Oc12 := Lib.hid (own_below O11.out hb (Nat.le_refl _)); have Pc12 := Lib.hid (P11.out.trans (hb.mono P11.out.size)); have Gc12 := Lib.hid (show gl < v12.heap.size ∧ v12.heap[gl]? = w9.heap[gl]? from ⟨Nat.lt_of_lt_of_le G11.out.1 hb.size, (hb.block gl G11.out.1).trans G11.out.2⟩); clear hm ho hb)
            | (at_builtin; refine wpList_appW _ rfl (.tmp 51) (.tmp 54) 22 rfl W1.heap.size 5 1 1 Try.underlying22 u8_info (by omega) (.slice A11 (N + 8 + 8) c11) (N + 8 + 8) (vals (repF2 x.z ++ n64 x.n ++ n64 x.g.n)) rfl Oc12.out D12 (8) d12 (vals (n64 x.g.st)) rfl H12.out.lies.1 H12.out.lies.2 (vals_one _) (by unfold maxLen; omega) (by omega) Pc12.out.size ?_; intro v1 w12 ho1 hg1 hw1; rw [← vals_app] at ho1; have P12 := Lib.hid (Pc12.out.grown hg1 Pc12.out.size (fun q hq => (Oc12.out.lt q hq).1)); obtain ⟨A12, c12, rfl, _, _⟩ := own_shape ho1; have O12 := Lib.hid ho1; have AK12 := Lib.hid (app_keep AP11.out Gc12.out.1 hg1 hw1); have G12 := Lib.hid (show gl < w12.heap.size ∧ w12.heap[gl]? = w9.heap[gl]? from ⟨AK12.out.1.1, AK12.out.1.2.trans Gc12.out.2⟩); have AP12 := Lib.hid AK12.out.2; clear ho1 hg1 hw1 AK12))
      clear O11 P11 G11 AP11 Oc12 Pc12 Gc12 H12
      clear q0 q1 q2 q3
      clear l0_ l1_ l2_ l3_ l4_ l5_ l6_ l7_ l8_
      obtain ⟨q0, q1, q2, q3, q4⟩ := HC.out _ P12.out
      clear q4
      obtain ⟨l0_, l1_, l2_, l3_, l4_, l5_, l6_, l7_, l8_⟩ := HLC.out _ G12.out.2
      have Ob := Lib.hid (O12.out.alloc (.cells #[.int .u8 x.g.op] 5))
      have Hb := Lib.hid (bs_new w12 [x.g.op] 1 rfl (one_byte x.g.op hgop.1 hgop.2) 5 _ rfl)
      have Pb := Lib.hid (P12.out.trans ((below_one w12 (.cells #[.int .u8 x.g.op] 5)).mono P12.out.size))
      have Gb := Lib.hid (show gl < (w12.alloc (.cells #[.int .u8 x.g.op] 5)).heap.size ∧ (w12.alloc (.cells #[.int .u8 x.g.op] 5)).heap[gl]? = w9.heap[gl]? from ⟨Nat.lt_of_lt_of_le G12.out.1 (below_one w12 _).size, ((below_one w12 (.cells #[.int .u8 x.g.op] 5)).block gl G12.out.1).trans G12.out.2⟩)
      go_upto_region 13 with (at_builtin; refine wpList_appW _ rfl (.tmp 56) (.tmp 59) 22 rfl W1.heap.size 5 1 1 Try.underlying22 u8_info (by omega) (.slice A12 (N + 8 + 8 + 8) c12) (N + 8 + 8 + 8) (vals (repF2 x.z ++ n64 x.n ++ n64 x.g.n ++ n64 x.g.st)) rfl Ob.out (some ⟨w12.heap.size, 0, none⟩) (1) 1 (vals ([x.g.op])) rfl Hb.out.lies.1 Hb.out.lies.2 (vals_one _) (by unfold maxLen; omega) (by omega) Pb.out.size ?_; intro v1 w13 ho1 hg1 hw1; rw [← vals_app] at ho1; have P13 := Lib.hid (Pb.out.grown hg1 Pb.out.size (fun q hq => (Ob.out.lt q hq).1)); obtain ⟨A13, c13, rfl, _, _⟩ := own_shape ho1; have O13 := Lib.hid ho1; have AK13 := Lib.hid (app_keep AP12.out Gb.out.1 hg1 hw1); have G13 := Lib.hid (show gl < w13.heap.size ∧ w13.heap[gl]? = w9.heap[gl]? from ⟨AK13.out.1.1, AK13.out.1.2.trans Gb.out.2⟩); have AP13 := Lib.hid AK13.out.2; clear ho1 hg1 hw1 AK13)
      clear O12 P12 G12 AP12 Ob Hb Pb Gb
      clear q0 q1 q2 q3
      clear l0_ l1_ l2_ l3_ l4_ l5_ l6_ l7_ l8_
      obtain ⟨q0, q1, q2, q3, q4⟩ := HC.out _ P13.out
      clear q4
      obtain ⟨l0_, l1_, l2_, l3_, l4_, l5_, l6_, l7_, l8_⟩ := HLC.out _ G13.out.2
      go_upto_region 14 with fail
      obtain ⟨wl, hwl⟩ : ∃ W, W = w13.alloc (.cells #[.int .i64 x.g.tn, .int .i64 x.g.a, .int .i64 x.g.b, .int .i64 x.g.c] 3) := ⟨_, rfl⟩
      rw [← hwl]
      obtain ⟨lb, hlb⟩ : ∃ b, w13.heap.size = b := ⟨_, rfl⟩
      rw [hlb]
      have OL := Lib.hid (show wl.ownsRow W1.heap.size 5 1 (.slice A13 (N + 8 + 8 + 8 + 1) c13) (N + 8 + 8 + 8 + 1) (vals (repF2 x.z ++ n64 x.n ++ n64 x.g.n ++ n64 x.g.st ++ [x.g.op])) by rw [hwl]; exact O13.out.alloc _)
      have PL := Lib.hid (show Below W1.heap.size W1 wl by rw [hwl]; exact P13.out.trans ((below_one _ _).mono P13.out.size))
      have GL := Lib.hid (show gl < wl.heap.size ∧ wl.heap[gl]? = w9.heap[gl]? by rw [hwl]; exact ⟨Nat.lt_of_lt_of_le G13.out.1 (below_one w13 _).size, ((below_one w13 _).block gl G13.out.1).trans G13.out.2⟩)
      have APA := Lib.hid (show ∀ b, A13 = some b → b.block ≠ lb from fun b hA => by have := (O13.out.lt b.block (by rw [hA]; rfl)).2; rw [← hlb]; omega)
      have LB := Lib.hid (show W1.heap.size ≤ lb ∧ lb < wl.heap.size by rw [hwl, ← hlb]; exact ⟨P13.out.size, by simp⟩)
      have LC := Lib.hid (show ∀ j, j < 4 → wl.cell? ⟨lb, j, none⟩ = some (.int .i64 (four x.g.tn x.g.a x.g.b x.g.c j)) by
        intro j hj
        rw [hwl, ← hlb, cell_of_row _ _ _ _ _ _ (heap_alloc_new w13 _)]
        match j, hj with
        | 0, _ => rfl
        | 1, _ => rfl
        | 2, _ => rfl
        | 3, _ => rfl)
      obtain ⟨M, hM⟩ : ∃ M, N + 8 + 8 + 8 + 1 = M := ⟨_, rfl⟩
      have hM5 : M ≤ 20000 := by omega
      rw [hM] at OL
      obtain ⟨zz, hzz⟩ : ∃ z, repF2 x.z ++ n64 x.n ++ n64 x.g.n ++ n64 x.g.st ++ [x.g.op] = z := ⟨_, rfl⟩
      rw [hzz] at OL
      rw [hM]
      have HZZ := Lib.hid hzz
      clear hwl hlb hM hzz O13 P13 G13
      clear q0 q1 q2 q3
      clear l0_ l1_ l2_ l3_ l4_ l5_ l6_ l7_ l8_
      go_wp2
      go_loopw [3, 7] (fun v i wr => FoSt W1 w9 gl lb M zz x.g.tn x.g.a x.g.b x.g.c v i wr) (fun _ i _ => 4 - (intOf i).toNat)
      case atStart => exact ⟨0, A13, c13, by omega, rfl, by rw [Nat.mul_zero, Nat.add_zero], Lib.hid (by rw [Nat.mul_zero, Nat.add_zero, show n4 x.g.tn x.g.a x.g.b x.g.c 0 = [] from rfl, List.append_nil]; exact OL.out), PL, Lib.hid ⟨LB.out.2, LC.out⟩, APA, GL, AP13⟩
      case round =>
        obtain ⟨k, A, c, hk, rfl, rfl, OR, PR, RC, RA, GR, GA⟩ := hrel
        by_cases hlt : k < 4
        · have hki : (k : Int) < 4 := by omega
          obtain ⟨v, hv⟩ : ∃ v, four x.g.tn x.g.a x.g.b x.g.c k = v := ⟨_, rfl⟩
          have hc := RC.out.2 k hlt
          rw [hv] at hc
          have hvi := H4.out k
          rw [hv] at hvi
          unfold InA at hvi
          have HV := Lib.hid hv
          have hNk : M + 8 * k ≤ 20100 := by omega
          clear hv
          go_wp2_with (first
            | (go_at_call 44; refine (refint_any v hvi.1 hvi.2 wr).mono ?_; intro e w18 hm; obtain ⟨D8, d8, rfl, ho, hb, _, _⟩ := hm.n (n64_len' _); have H8 := Lib.hid (Made.bs ho (n64_bytes' _)); have O8 := Lib.hid (own_below OR.out hb (Nat.le_refl _)); have P8 := Lib.hid (PR.out.trans (hb.mono PR.out.size)); have B8 := Lib.hid hb; clear hm ho hb)
            | (at_builtin; refine wpList_appW _ rfl (.tmp 76) (.tmp 81) 22 rfl W1.heap.size 5 1 1 Try.underlying22 u8_info (by omega) (.slice A (M + 8 * k) c) (M + 8 * k) (vals (zz ++ n4 x.g.tn x.g.a x.g.b x.g.c k)) rfl O8.out D8 8 d8 (vals (n64 v)) rfl H8.out.lies.1 H8.out.lies.2 (vals_one _) (by unfold maxLen; omega) (by omega) P8.out.size ?_; intro v1 w19 ho1 hg1 hw1; have P19 := Lib.hid (P8.out.grown hg1 P8.out.size (fun q hq => (O8.out.lt q hq).1)); obtain ⟨A19, c19, rfl, _, _⟩ := own_shape ho1; have O19 := Lib.hid ho1; have KL := Lib.hid (app_keep RA.out (Nat.lt_of_lt_of_le RC.out.1 B8.out.size) hg1 hw1); have KG := Lib.hid (app_keep GA.out (Nat.lt_of_lt_of_le GR.out.1 B8.out.size) hg1 hw1); clear ho1 hg1 hw1))
          have ec : Hid (vals (zz ++ n4 x.g.tn x.g.a x.g.b x.g.c (k + 1)) = vals (zz ++ n4 x.g.tn x.g.a x.g.b x.g.c k) ++ vals (n64 v)) := Lib.hid (by rw [← vals_app, List.append_assoc, ← HV.out]; rfl)
          have cc9 : Hid (lb < w19.heap.size ∧ ∀ j, j < 4 → w19.cell? ⟨lb, j, none⟩ = some (.int .i64 (four x.g.tn x.g.a x.g.b x.g.c j))) := Lib.hid ⟨KL.out.1.1, fun j hj => (World.cell?_of_block (a := ⟨lb, j, none⟩) KL.out.1.2).trans ((B8.out.cell (p := ⟨lb, j, none⟩) RC.out.1).trans (RC.out.2 j hj))⟩
          have gg9 : Hid (gl < w19.heap.size ∧ w19.heap[gl]? = w9.heap[gl]?) := Lib.hid ⟨KG.out.1.1, KG.out.1.2.trans ((B8.out.block gl GR.out.1).trans GR.out.2)⟩
          clear hc hvi
          go_roundw
          case rel => exact ⟨k + 1, A19, c19, by omega, by go_num, by rw [Nat.mul_add, ← Nat.add_assoc], Lib.hid (by rw [ec.out, Nat.mul_add, ← Nat.add_assoc]; exact O19.out), P19, cc9, Lib.hid KL.out.2, gg9, Lib.hid KG.out.2⟩
          case measure => simp [intOf]; omega
        · obtain rfl : k = 4 := by omega
          have O14 := Lib.hid (show wr.ownsRow W1.heap.size 5 1 (.slice A (M + 32) c) (M + 32) (vals (zz ++ n4 x.g.tn x.g.a x.g.b x.g.c 4)) from OR.out)
          have P14 := PR
          have G14 := GR
          have AP14 := GA
          clear OR RC RA OL PL LC GL AP13 hlt hk PR GR GA
          obtain ⟨q0, q1, q2, q3, q4⟩ := HC.out _ P14.out
          clear q4
          obtain ⟨l0_, l1_, l2_, l3_, l4_, l5_, l6_, l7_, l8_⟩ := HLC.out _ G14.out.2
          go_upto_region 19 with (first
                | (show wpList _ _ _ (⟨some 85, .load 42 (.tmp 84), _, _, _, _⟩ :: _) _ _; refine wpList_load_mid (op := ⟨some 85, .load 42 (.tmp 84), _, _, _, _⟩) rfl 42 (.tmp 84) rfl (gl) 7 rfl (vals x.g.H) _ (l7_) Try.underlying42 rfl (tag_size x.g.H x.g.hH) ?_)
                | (go_at_call 58; refine (reftag_any x.g.H x.g.hH HGO.out.H _).mono ?_; intro e v15 hm; obtain ⟨D15, d15, rfl, ho, hb, _, _⟩ := hm.n x.g.hH; have H15 := Lib.hid (Made.bs ho (HGO.out.H)); have Oc15 := Lib.hid (own_below O14.out hb (Nat.le_refl _)); have Pc15 := Lib.hid (P14.out.trans (hb.mono P14.out.size)); have Gc15 := Lib.hid (show gl < v15.heap.size ∧ v15.heap[gl]? = w9.heap[gl]? from ⟨Nat.lt_of_lt_of_le G14.out.1 hb.size, (hb.block gl G14.out.1).trans G14.out.2⟩); clear hm ho hb)
                | (at_builtin; refine wpList_appW _ rfl (.tmp 83) (.tmp 86) 22 rfl W1.heap.size 5 1 1 Try.underlying22 u8_info (by omega) (.slice A (M + 32) c) (M + 32) (vals (zz ++ n4 x.g.tn x.g.a x.g.b x.g.c 4)) rfl Oc15.out D15 (32) d15 (vals (x.g.H)) rfl H15.out.lies.1 H15.out.lies.2 (vals_one _) (by unfold maxLen; omega) (by omega) Pc15.out.size ?_; intro v1 w15 ho1 hg1 hw1; rw [← vals_app] at ho1; have P15 := Lib.hid (Pc15.out.grown hg1 Pc15.out.size (fun q hq => (Oc15.out.lt q hq).1)); obtain ⟨A15, c15, rfl, _, _⟩ := own_shape ho1; have O15 := Lib.hid ho1; have AK15 := Lib.hid (app_keep AP14.out Gc15.out.1 hg1 hw1); have G15 := Lib.hid (show gl < w15.heap.size ∧ w15.heap[gl]? = w9.heap[gl]? from ⟨AK15.out.1.1, AK15.out.1.2.trans Gc15.out.2⟩); have AP15 := Lib.hid AK15.out.2; clear ho1 hg1 hw1 AK15))
          clear O14 P14 G14 AP14 Oc15 Pc15 Gc15 H15
          clear q0 q1 q2 q3
          clear l0_ l1_ l2_ l3_ l4_ l5_ l6_ l7_ l8_
          obtain ⟨q0, q1, q2, q3, q4⟩ := HC.out _ P15.out
          clear q4
          obtain ⟨l0_, l1_, l2_, l3_, l4_, l5_, l6_, l7_, l8_⟩ := HLC.out _ G15.out.2
          go_wp2_with (first
                | (show wpList _ _ _ (⟨some 90, .load 42 (.tmp 89), _, _, _, _⟩ :: _) _ _; refine wpList_load_mid (op := ⟨some 90, .load 42 (.tmp 89), _, _, _, _⟩) rfl 42 (.tmp 89) rfl (gl) 39 rfl (vals x.g.S) _ (l8_) Try.underlying42 rfl (tag_size x.g.S x.g.hS) ?_)
                | (go_at_call 58; refine (reftag_any x.g.S x.g.hS HGO.out.S _).mono ?_; intro e v16 hm; obtain ⟨D16, d16, rfl, ho, hb, _, _⟩ := hm.n x.g.hS; have H16 := Lib.hid (Made.bs ho (HGO.out.S)); have Oc16 := Lib.hid (own_below O15.out hb (Nat.le_refl _)); have Pc16 := Lib.hid (P15.out.trans (hb.mono P15.out.size)); have Gc16 := Lib.hid (show gl < v16.heap.size ∧ v16.heap[gl]? = w9.heap[gl]? from ⟨Nat.lt_of_lt_of_le G15.out.1 hb.size, (hb.block gl G15.out.1).trans G15.out.2⟩); clear hm ho hb)
                | (at_builtin; refine wpList_appW _ rfl (.tmp 88) (.tmp 91) 22 rfl W1.heap.size 5 1 1 Try.underlying22 u8_info (by omega) (.slice A15 (M + 32 + 32) c15) (M + 32 + 32) (vals (zz ++ n4 x.g.tn x.g.a x.g.b x.g.c 4 ++ x.g.H)) rfl Oc16.out D16 (32) d16 (vals (x.g.S)) rfl H16.out.lies.1 H16.out.lies.2 (vals_one _) (by unfold maxLen; omega) (by omega) Pc16.out.size ?_; intro v1 w16 ho1 hg1 hw1; rw [← vals_app] at ho1; have P16 := Lib.hid (Pc16.out.grown hg1 Pc16.out.size (fun q hq => (Oc16.out.lt q hq).1)); obtain ⟨A16, c16, rfl, _, _⟩ := own_shape ho1; have O16 := Lib.hid ho1; have AK16 := Lib.hid (app_keep AP15.out Gc16.out.1 hg1 hw1); have G16 := Lib.hid (show gl < w16.heap.size ∧ w16.heap[gl]? = w9.heap[gl]? from ⟨AK16.out.1.1, AK16.out.1.2.trans Gc16.out.2⟩); have AP16 := Lib.hid AK16.out.2; clear ho1 hg1 hw1 AK16))
          go_ret
          have EZ : Hid (zz ++ n4 x.g.tn x.g.a x.g.b x.g.c 4 ++ x.g.H ++ x.g.S = repF x.z) := Lib.hid (by
            rw [← HZZ.out, n4_four]
            unfold repF repF3
            simp only [List.append_assoc]
            rfl)
          have OF := O16.out
          rw [EZ.out] at OF
          refine made_of ?_ (own_base OF b1.out.size) (b1.out.trans (P16.out.mono b1.out.size))
          have := OF.1
          rw [vals_len] at this
          omega
end Go.Proofs.Ytcgclaailhhbpaa
