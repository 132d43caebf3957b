/- A reply's form: the program's. -/
import Derived.Test.YtcgclaailhhbpaaRqW
import Derived.Test.YtcgclaailhhbpaaRsA
import Derived.Test.YtcgclaailhhbpaaRqH
import Derived.Test.YtcgclaailhhbpaaB3
namespace Go.Proofs.Ytcgclaailhhbpaa
open Go.ChangeShapes Go.WideShapes Go.ChangeAt Go.RowKit
set_option linter.unusedVariables false
set_option maxRecDepth 100000
set_option linter.unusedSimpArgs false
open Plain Sha Au Rp Rq
/-- Keys as bytes, one behind the other. -/
def keysF : List ByteArray → List Int
  | [] => []
  | k :: r => bytesF (strZ k) ++ keysF r
theorem keysF_snoc : ∀ (l : List ByteArray) (k : ByteArray), keysF (l ++ [k]) = keysF l ++ bytesF (strZ k)
  | [], k => by simp [keysF]
  | a :: l, k => by simp [keysF, keysF_snoc l k]
theorem keysF_len : ∀ (l : List ByteArray), (∀ k, k ∈ l → k.size ≤ 512) → (keysF l).length ≤ 516 * l.length
  | [], _ => by simp [keysF]
  | a :: l, h => by
    have h1 := keysF_len l (fun k hk => h k (by simp [hk]))
    have h2 := h a (by simp)
    simp only [keysF, List.length_append, bytesF_len, strZ_len, List.length_cons]
    omega
/-- A reply's form. -/
def repF1 (z : RepZ) : List Int := n64 z.err ++ bytesF (strZ z.val) ++ n64 (z.ks.length : Nat)
def repF2 (z : RepZ) : List Int := repF1 z ++ keysF z.ks
def repF3 (z : RepZ) : List Int := repF2 z ++ n64 z.n ++ n64 z.g.n ++ n64 z.g.st ++ [z.g.op]
def repF (z : RepZ) : List Int := repF3 z ++ n64 z.g.tn ++ n64 z.g.a ++ n64 z.g.b ++ n64 z.g.c ++ z.g.H ++ z.g.S
theorem repF1_len (z : RepZ) : (repF1 z).length = 20 + z.val.size := by unfold repF1; simp only [List.length_append, n64_len', bytesF_len, strZ_len]; omega
theorem repF_len (z : RepZ) : (repF z).length = 141 + z.val.size + (keysF z.ks).length := by
  unfold repF repF3 repF2
  simp only [List.length_append, n64_len', repF1_len, List.length_cons, List.length_nil, z.g.hH, z.g.hS]
  omega
theorem repF_short {z : RepZ} (h : mayR z = true) : (repF z).length ≤ 8909 := by
  obtain ⟨h1, h2, h3⟩ := mayR_yes h
  have := keysF_len z.ks h3
  rw [repF_len]
  omega
theorem st_rep1 (z : RepZ) (h : z.val.size ≤ 512) : wPut (wPut (wPut (some []) (n64 z.err)) (bytesF (strZ z.val))) (n64 (z.ks.length : Nat)) = some (repF1 z) := by
  unfold repF1
  rw [wPut_yes [] _ (by simp [n64_len']), List.nil_append]
  rw [wPut_yes _ _ (by rw [n64_len', bytesF_len, strZ_len]; omega)]
  rw [wPut_yes _ _ (by simp only [List.length_append, n64_len', bytesF_len, strZ_len]; omega)]
theorem st_rep3 (z : RepZ) (h : (repF z).length ≤ 65536) : wPut (wPut (wPut (wPut (some (repF2 z)) (n64 z.n)) (n64 z.g.n)) (n64 z.g.st)) [z.g.op] = some (repF3 z) := by
  unfold repF repF3 at h
  unfold repF3
  simp only [List.length_append] at h
  iterate 4 rw [wPut_yes _ _ (by (try simp only [List.length_append]); omega)]
theorem st_rep4 (z : RepZ) (h : (repF z).length ≤ 65536) : wPut (wPut (wPut (wPut (wPut (wPut (some (repF3 z)) (n64 z.g.tn)) (n64 z.g.a)) (n64 z.g.b)) (n64 z.g.c)) z.g.H) z.g.S = some (repF z) := by
  unfold repF at h ⊢
  simp only [List.length_append] at h
  iterate 6 rw [wPut_yes _ _ (by (try simp only [List.length_append]); omega)]
theorem rng_lk {w : World} {b o : Nat} {g : LinkZ} (h : w.rangeAt b o (lc g)) : w.cell? ⟨b, o, none⟩ = some (.int .i64 g.n) ∧ w.cell? ⟨b, o + 1, none⟩ = some (.int .i64 g.st) ∧ w.cell? ⟨b, o + 2, none⟩ = some (.int .u8 g.op) ∧ w.cell? ⟨b, o + 3, none⟩ = some (.int .i64 g.tn) ∧ w.cell? ⟨b, o + 4, none⟩ = some (.int .i64 g.a) ∧ w.cell? ⟨b, o + 5, none⟩ = some (.int .i64 g.b) ∧ w.cell? ⟨b, o + 6, none⟩ = some (.int .i64 g.c) ∧ w.rangeAt b (o + 7) (vals g.H) ∧ w.rangeAt b (o + 39) (vals g.S) :=
  ⟨h 0 _ rfl, h 1 _ rfl, h 2 _ rfl, h 3 _ rfl, h 4 _ rfl, h 5 _ rfl, h 6 _ rfl, fun j v hv => by
    have hj : j < 32 := by have := (List.getElem?_eq_some_iff.1 hv).1; rwa [vals_len, g.hH] at this
    have := h (7 + j) v (by rw [lc_H g j hj]; exact hv)
    rwa [← Nat.add_assoc] at this, fun j v hv => by
    have := h (39 + j) v (by rw [lc_S g j]; exact hv)
    rwa [← Nat.add_assoc] at this⟩
def PrSt (x : RX) (nb : Nat) (w2 : World) (i : Value) (wr : World) : Prop := ∃ (k : Nat) (gk : Option Nat), k ≤ x.kn ∧ i = .int .i64 k ∧ Hid (Wr wr nb gk (some (repF1 x.z ++ keysF (x.ks.take k)))) ∧ Hid (Below nb w2 wr)
def zLq : Array Value := (lc l0).toArray
theorem zLq_size : zLq.size = 71 := by unfold zLq; rw [List.size_toArray, lc_len]
theorem zLq_ne : ¬ zLq = #[] := fun h => by have := zLq_size; rw [h] at this; simp at this
theorem zLqk (w : World) : (zeroValue 44).run Try.prog w = .ok (.agg zLq) w := by
  obtain ⟨i, hi, hz, hs, hb⟩ := info_parts (show (Try.prog.info? 44).map (fun i => (i.zero, i.size, i.bytes)) = some (some (.agg (lc l0).toArray), 71, 120) by kernel_rfl)
  simp [zeroValue, run_typeInfo w hi, hz, zLq]
set_option maxHeartbeats 8000000 in
theorem printr_any {w : World} {B : Nat} {x : RX} (h : ROk w B x) (hB : B ≤ w.heap.size) : Calls Try.prog 22 #[.agg (rc x).toArray] w (Prints w (mayR x.z) (repF x.z)) := by
  obtain ⟨q, hq⟩ : ∃ q, mayR x.z = q := ⟨_, rfl⟩
  rw [hq]
  obtain ⟨W1, hW1⟩ : ∃ W, W = w.alloc (.cells (rc x).toArray 46) := ⟨_, rfl⟩
  have b1 := Lib.hid (show Below w.heap.size w W1 by rw [hW1]; exact below_one _ _)
  have MM := Lib.hid (mayreply_any (w := W1) q (h.below b1.out hB) (Nat.le_trans hB b1.out.size) hq)
  obtain ⟨g, hg⟩ : ∃ g, w.heap.size = g := ⟨_, rfl⟩
  have HG := Lib.hid hg
  have V1 := Lib.hid (show VBox W1 g 75 (rc x) by rw [hW1]; exact vbox_new _ _ _ _ _ hg (rc_len x) (by omega))
  have z1 := Lib.hid (show W1.heap.size = g + 1 by rw [hW1]; simp [hg])
  have HW1 := Lib.hid hW1
  have HH := Lib.hid h
  have HQ := Lib.hid hq
  have HB1 : Hid (B ≤ g) := Lib.hid (by rw [← hg]; exact hB)
  clear hW1 hg h hq hB
  cases q with
  | false =>
    go_enter Try.func22, Try.ntmps22
    go_upto_region 1 with fail
    rw [← HW1.out, HG.out]
    go_wp2_with (first
          | (show wpList _ _ _ (⟨some 8, .load 46 (.tmp 1), _, _, _, _⟩ :: _) _ _; refine wpList_load_mid (op := ⟨some 8, .load 46 (.tmp 1), _, _, _, _⟩) rfl 46 (.tmp 1) rfl (g) 0 rfl (rc x) _ (V1.out.range) Try.underlying46 rfl (r_size x) ?_)
          | (go_at_call 56; refine (MM.out).mono ?_; rintro e w2 ⟨rfl, hb⟩; have B2 := Lib.hid hb; clear hb))
    go_ret2
    exact ⟨.slice none 0 0, rfl, isList_nil _ _, b1.out.trans (B2.out.mono b1.out.size)⟩
  | true =>
    obtain ⟨hs1, hs2, hs3⟩ := mayR_yes HQ.out
    have hkn : x.kn ≤ 16 := by rw [← HH.out.ks.len]; exact hs1
    have hvs : x.val.size ≤ 512 := hs2
    have hv : x.val.size ≤ 140737488355328 := by omega
    have HKS : Hid (∀ k, k ∈ x.ks → k.size ≤ 512) := Lib.hid hs3
    have her := HH.out.err
    have hxn := HH.out.n
    have HGO := Lib.hid HH.out.g
    have hgn_ := HGO.out.n
    have hgst := HGO.out.st
    have hgop := HGO.out.op
    have hgtn := HGO.out.tn
    have hga := HGO.out.a
    have hgb := HGO.out.b
    have hgc := HGO.out.c
    unfold InA at her hxn hgn_ hgst hgtn hga hgb hgc
    have HLEN := Lib.hid (repF_short HQ.out)
    have HST1 := Lib.hid (st_rep1 x.z hs2)
    have HST3 := Lib.hid (st_rep3 x.z (Nat.le_trans HLEN.out (by omega)))
    have HST4 := Lib.hid (st_rep4 x.z (Nat.le_trans HLEN.out (by omega)))
    have HKL : Hid (((x.ks.length : Nat) : Int) = (x.kn : Int)) := Lib.hid (by rw [HH.out.ks.len])
    have HK3 : Hid (∀ k, (repF1 x.z ++ keysF (x.ks.take k)).length ≤ 8909) := Lib.hid (fun k => by
      have h1 := keysF_len (x.ks.take k) (fun y hy => hs3 y (List.mem_of_mem_take hy))
      have h2 : (x.ks.take k).length ≤ 16 := by rw [List.length_take]; have := HH.out.ks.len; omega
      rw [List.length_append, repF1_len]
      have : x.z.val.size = x.val.size := rfl
      omega)
    clear hs1 hs2 hs3
    go_enter Try.func22, Try.ntmps22
    go_upto_region 1 with fail
    rw [← HW1.out, HG.out]
    go_upto_region 3 with (first
          | (show wpList _ _ _ (⟨some 8, .load 46 (.tmp 1), _, _, _, _⟩ :: _) _ _; refine wpList_load_mid (op := ⟨some 8, .load 46 (.tmp 1), _, _, _, _⟩) rfl 46 (.tmp 1) rfl (g) 0 rfl (rc x) _ (V1.out.range) Try.underlying46 rfl (r_size x) ?_)
          | (go_at_call 56; refine (MM.out).mono ?_; rintro e w2 ⟨rfl, hb⟩; have B2 := Lib.hid hb; clear hb))
    obtain ⟨nb, hnb⟩ : ∃ nb, w2.heap.size = nb := ⟨_, rfl⟩
    have Z2 := Lib.hid hnb
    have hgn : Hid (g < nb) := Lib.hid (by rw [← hnb]; have := B2.out.size; have := z1.out; omega)
    have BA := Lib.hid (b1.out.trans (B2.out.mono b1.out.size))
    have V2 := Lib.hid (V1.out.below B2.out (by rw [z1.out]; omega))
    have HC := Lib.hid (show ∀ W, Below nb w2 W → W.cell? ⟨g, 0, none⟩ = some (.int .i64 x.err) ∧ W.cell? ⟨g, 1, none⟩ = some (.string x.val) ∧ W.cell? ⟨g, 2, none⟩ = some (.slice x.A x.kn x.kc) ∧ W.cell? ⟨g, 3, none⟩ = some (.int .i64 x.n) ∧ W.rangeAt g 4 (lc x.g) from fun W hW => by
      have := rng_r (V2.out.below hW hgn.out).range
      simpa only [Nat.zero_add] using this)
    have HT : Hid (∀ W, Below nb w2 W → Sr W B x.A x.kn x.ks) := Lib.hid (fun W hW => (HH.out.ks.below (BA.out.trans (hW.mono (by rw [HG.out]; have := hgn.out; omega))) (by rw [HG.out]; exact HB1.out)))
    obtain ⟨AA, hAA⟩ : ∃ AA, x.A = AA := ⟨_, rfl⟩
    rw [hAA] at HC HT
    clear hAA
    have P2 : Hid (Below nb w2 w2) := Lib.hid (Below.refl _ _)
    clear hnb
    refine Late.region (fun w' => Below nb w2 w') [] (by kernel_rfl) P2.out.drew (fun hHeld => ?_)
    refine Late.take (i := 1) (oi := ⟨some 12, Op.fieldAddr 46 (Operand.tmp 1) 0, _, _, _, _⟩) (v := ?_) rfl (by kernel_rfl) (by kernel_rfl) (by kernel_rfl) (by kernel_rfl) (fun _ _ _ h => h) (Or.inl ⟨by rfl, fun w hSw => ?_⟩) (by assumption) ?_
    rotate_left
    · (have s1 := hSw; go_simp; try with_reducible rfl)
    try simp only [Act.put, List.setIfInBounds_toArray, List.set_cons_zero, List.set_cons_succ]
    refine Late.take (i := 2) (oi := ⟨some 13, Op.load 29 (Operand.tmp 12), _, _, _, _⟩) (v := ?_) rfl (by kernel_rfl) (by kernel_rfl) (by kernel_rfl) (by kernel_rfl) (fun _ _ _ h => h) (Or.inl ⟨by rfl, fun w hSw => ?_⟩) (by assumption) ?_
    rotate_left
    · (have s1 := hSw; obtain ⟨d0, d1, d2, d3, _⟩ := HC.out _ hSw; go_simp; try with_reducible rfl)
    try simp only [Act.put, List.setIfInBounds_toArray, List.set_cons_zero, List.set_cons_succ]
    refine Late.take (i := 4) (oi := ⟨some 15, Op.fieldAddr 46 (Operand.tmp 1) 1, _, _, _, _⟩) (v := ?_) rfl (by kernel_rfl) (by kernel_rfl) (by kernel_rfl) (by kernel_rfl) (fun _ _ _ h => h) (Or.inl ⟨by rfl, fun w hSw => ?_⟩) (by assumption) ?_
    rotate_left
    · (have s1 := hSw; go_simp; try with_reducible rfl)
    try simp only [Act.put, List.setIfInBounds_toArray, List.set_cons_zero, List.set_cons_succ]
    refine Late.take (i := 5) (oi := ⟨some 16, Op.load 9 (Operand.tmp 15), _, _, _, _⟩) (v := ?_) rfl (by kernel_rfl) (by kernel_rfl) (by kernel_rfl) (by kernel_rfl) (fun _ _ _ h => h) (Or.inl ⟨by rfl, fun w hSw => ?_⟩) (by assumption) ?_
    rotate_left
    · (have s1 := hSw; obtain ⟨d0, d1, d2, d3, _⟩ := HC.out _ hSw; go_simp; try with_reducible rfl)
    try simp only [Act.put, List.setIfInBounds_toArray, List.set_cons_zero, List.set_cons_succ]
    refine Late.take (i := 7) (oi := ⟨some 18, Op.fieldAddr 46 (Operand.tmp 1) 2, _, _, _, _⟩) (v := ?_) rfl (by kernel_rfl) (by kernel_rfl) (by kernel_rfl) (by kernel_rfl) (fun _ _ _ h => h) (Or.inl ⟨by rfl, fun w hSw => ?_⟩) (by assumption) ?_
    rotate_left
    · (have s1 := hSw; go_simp; try with_reducible rfl)
    try simp only [Act.put, List.setIfInBounds_toArray, List.set_cons_zero, List.set_cons_succ]
    refine Late.take (i := 8) (oi := ⟨some 19, Op.load 40 (Operand.tmp 18), _, _, _, _⟩) (v := ?_) rfl (by kernel_rfl) (by kernel_rfl) (by kernel_rfl) (by kernel_rfl) (fun _ _ _ h => h) (Or.inl ⟨by rfl, fun w hSw => ?_⟩) (by assumption) ?_
    rotate_left
    · (have s1 := hSw; obtain ⟨d0, d1, d2, d3, _⟩ := HC.out _ hSw; go_simp; try with_reducible rfl)
    try simp only [Act.put, List.setIfInBounds_toArray, List.set_cons_zero, List.set_cons_succ]
    refine Late.take (i := 9) (oi := ⟨some 20, Op.call { callee := Callee.builtin Builtin.len, args := #[Operand.tmp 19], argTypes := #[40] }, _, _, _, _⟩) (v := ?_) rfl (by kernel_rfl) (by kernel_rfl) (by kernel_rfl) (by kernel_rfl) (fun _ _ _ h => h) (Or.inl ⟨by rfl, fun w hSw => ?_⟩) (by assumption) ?_
    rotate_left
    · (have s1 := hSw; go_simp; try with_reducible rfl)
    try simp only [Act.put, List.setIfInBounds_toArray, List.set_cons_zero, List.set_cons_succ]
    refine Late.one (i := 0) (o := ⟨some 11, Op.call { callee := Callee.value (Operand.func 33), args := #[], argTypes := #[] }, _, _, _, _⟩) (by kernel_rfl) rfl (fun K hK => ?_)
    go_simp
    refine (newwriter_at w2.drew nb Z2.out).mono ?_
    rintro e w3 ⟨rfl, r0, b0, z0⟩
    have hb0 := hHeld.trans b0
    refine hK.out _ _ (hb0) (fun hHeld2 => ?_)
    clear hK K hHeld
    have hHeld := hHeld2
    clear hHeld2
    try simp only [Act.put, List.setIfInBounds_toArray, List.set_cons_zero, List.set_cons_succ]
    refine Late.one (i := 3) (o := ⟨some 14, Op.call { callee := Callee.value (Operand.func 37), args := #[Operand.tmp 11, Operand.tmp 13], argTypes := #[65, 3] }, _, _, _, _⟩) (by kernel_rfl) rfl (fun K hK => ?_)
    go_simp
    refine (int_wr r0 x.err her.1 her.2).mono ?_
    rintro e w4 ⟨rfl, g1, r1, o1, f1⟩
    have hb1 := hHeld.trans ((Wr.below r0 o1 (Nat.le_refl _)).mono (Nat.le_refl _))
    refine hK.out _ _ (hb1) (fun hHeld2 => ?_)
    clear hK K hHeld
    have hHeld := hHeld2
    clear hHeld2
    try simp only [Act.put, List.setIfInBounds_toArray, List.set_cons_zero, List.set_cons_succ]
    refine Late.one (i := 6) (o := ⟨some 17, Op.call { callee := Callee.value (Operand.func 36), args := #[Operand.tmp 14, Operand.tmp 16], argTypes := #[65, 9] }, _, _, _, _⟩) (by kernel_rfl) rfl (fun K hK => ?_)
    go_simp
    refine (text_wr r1 x.val hv).mono ?_
    rintro e w5 ⟨rfl, g2, r2, o2, f2⟩
    have hb2 := hHeld.trans ((Wr.below r1 o2 (Nat.le_refl _)).mono (Nat.le_refl _))
    refine hK.out _ _ (hb2) (fun hHeld2 => ?_)
    clear hK K hHeld
    have hHeld := hHeld2
    clear hHeld2
    try simp only [Act.put, List.setIfInBounds_toArray, List.set_cons_zero, List.set_cons_succ]
    refine Late.one (i := 10) (o := ⟨some 21, Op.call { callee := Callee.value (Operand.func 37), args := #[Operand.tmp 17, Operand.tmp 20], argTypes := #[65, 3] }, _, _, _, _⟩) (by kernel_rfl) rfl (fun K hK => ?_)
    go_simp
    refine (int_wr r2 (x.kn : Int) (by omega) (by omega)).mono ?_
    rintro e w6 ⟨rfl, g3, r3, o3, f3⟩
    have hb3 := hHeld.trans ((Wr.below r2 o3 (Nat.le_refl _)).mono (Nat.le_refl _))
    refine hK.out _ _ (hb3) (fun hHeld2 => ?_)
    clear hK K hHeld
    have hHeld := hHeld2
    clear hHeld2
    try simp only [Act.put, List.setIfInBounds_toArray, List.set_cons_zero, List.set_cons_succ]
    refine Late.take (i := 11) (oi := ⟨some 4, Op.assign (Operand.tmp 21), _, _, _, _⟩) (v := ?_) rfl (by kernel_rfl) (by kernel_rfl) (by kernel_rfl) (by kernel_rfl) (fun _ _ _ h => h) (Or.inl ⟨by rfl, fun w hSw => ?_⟩) (by assumption) ?_
    rotate_left
    · (have s1 := hSw; go_simp; try with_reducible rfl)
    try simp only [Act.put, List.setIfInBounds_toArray, List.set_cons_zero, List.set_cons_succ]
    refine Late.done (by kernel_rfl) ?_ _
    refine NoPanic.normal ?_
    have R3 : Hid (Wr w6 nb g3 (some (repF1 x.z ++ keysF (x.ks.take 0)))) := Lib.hid (by
      rw [show keysF (x.ks.take 0) = [] from rfl, List.append_nil, ← HST1.out]
      have := r3
      rw [← HKL.out] at this
      exact this)
    have P3 := Lib.hid hHeld
    clear hHeld r1 r2 r3 o1 o2 o3 f1 f2 f3 hb1 hb2 hb3
    obtain ⟨d0, d1, d2, d3, _⟩ := HC.out _ P3.out
    go_wp2
    go_loopw [25] (fun i wr => PrSt x nb w2 i wr) (fun i _ => x.kn - (intOf i).toNat)
    case atStart => exact ⟨0, g3, by omega, rfl, R3, P3⟩
    case round =>
      obtain ⟨k, gk, hk, rfl, RK, PK⟩ := hrel
      by_cases hlt : k < x.kn
      · obtain ⟨b, off, z, hA, _, HZ, cz⟩ := (HT.out _ PK.out).at_ hlt
        subst hA
        have hki : (k : Int) < (x.kn : Int) := by omega
        have hzs : z.size ≤ 512 := HKS.out z (List.mem_of_getElem? HZ.out)
        have TW := Lib.hid (text_wr RK.out z (by omega))
        have HST : Hid (wPut (some (repF1 x.z ++ keysF (x.ks.take k))) (bytesF (strZ z)) = some (repF1 x.z ++ keysF (x.ks.take (k + 1)))) := Lib.hid (by
          rw [wPut_yes _ _ (by rw [bytesF_len, strZ_len]; have := HK3.out k; omega), List.append_assoc, ← keysF_snoc, List.take_add_one, HZ.out]
          rfl)
        go_wp2_with (go_at_call 36; refine TW.out.mono ?_; rintro e w7 ⟨rfl, g7, r7, o7, f7⟩; have R7 := Lib.hid r7; have P7 := Lib.hid (PK.out.trans (Wr.below RK.out o7 (Nat.le_refl _))); clear r7 o7 f7)
        go_roundw
        case rel => exact ⟨k + 1, g7, by omega, by go_num, Lib.hid (by rw [← HST.out]; exact R7.out), P7⟩
        case measure => simp [intOf]; omega
      · have hki : ¬ (k : Int) < (x.kn : Int) := by omega
        have RF : Hid (Wr wr nb gk (some (repF2 x.z))) := Lib.hid (by
          have := RK.out
          rw [List.take_of_length_le (by have := HH.out.ks.len; omega)] at this
          exact this)
        clear RK R3 P3 hk hlt d0 d1 d2 d3
        obtain ⟨d0, d1, d2, d3, d4⟩ := HC.out _ PK.out
        have zk := zLqk
        have zs := zLq_size
        have zn := zLq_ne
        have vn := Lib.hid (vbox_new wr (lc l0) 44 wr.heap.size 71 rfl (lc_len _) (by omega))
        have TH := Lib.hid (show (wr.alloc (.cells zLq 44)).there wr.heap.size 0 (lc x.g).toArray.size by rw [show (lc x.g).toArray.size = 71 from by rw [List.size_toArray, lc_len]]; exact vn.out.there)
        have D4 := Lib.hid d4
        clear d0 d1 d2 d3 d4
        go_upto_region 10 with (first
              | (show wpList _ _ _ (⟨some 34, .load 44 (.tmp 33), _, _, _, _⟩ :: _) _ _; refine wpList_load_mid (op := ⟨some 34, .load 44 (.tmp 33), _, _, _, _⟩) rfl 44 (.tmp 33) rfl (g) 4 rfl (lc x.g) _ (D4.out) Try.underlying44 rfl (lk_size x.g) ?_)
              | (show wpList _ _ _ (⟨none, .store 44 (.tmp 7) (.tmp 34), _, _, _, _⟩ :: _) _ _; refine wpList_store_as (op := ⟨none, .store 44 (.tmp 7) (.tmp 34), _, _, _, _⟩) rfl 44 (.tmp 7) (.tmp 34) rfl (wr.heap.size) 0 (lc x.g).toArray rfl rfl (TH.out) (lk_sizeA x.g) (lk_one x.g) ?_; intro w9 hw9))
        obtain ⟨gl, hgl⟩ : ∃ gl, wr.heap.size = gl := ⟨_, rfl⟩
        have VL : Hid (VBox w9 gl 71 (lc x.g)) := Lib.hid (by rw [← hgl]; exact vn.out.store (lc_len _) hw9)
        have b9 := Lib.hid (show Below wr.heap.size wr w9 by rw [hw9.out]; exact below_setCells (Nat.le_refl _) _ _ _ (below_one wr _))
        have R9 : Hid (Wr w9 nb gk (some (repF2 x.z))) := Lib.hid (RF.out.keep (b9.out.block nb RF.out.lt) (fun j hj => b9.out.block j (RF.out.own j hj).2))
        have P9 := Lib.hid (PK.out.trans (b9.out.mono (by have := RF.out.lt; omega)))
        have GLT : Hid (gl < w9.heap.size) := Lib.hid VL.out.lt
        have GNB : Hid (gl ≠ nb) := Lib.hid (by have := RF.out.lt; omega)
        have NG9 : Hid (∀ j, gk = some j → j ≠ gl) := Lib.hid (fun j hj => by have := (RF.out.own j hj).2; omega)
        have SZ9 : Hid (∀ W : World, W.heap[gl]? = w9.heap[gl]? → gl < W.heap.size) := Lib.hid (fun W hW => (VL.out.same hW).lt)
        have HLC := Lib.hid (show ∀ W : World, W.heap[gl]? = w9.heap[gl]? → W.cell? ⟨gl, 0, none⟩ = some (.int .i64 x.g.n) ∧ W.cell? ⟨gl, 1, none⟩ = some (.int .i64 x.g.st) ∧ W.cell? ⟨gl, 2, none⟩ = some (.int .u8 x.g.op) ∧ W.cell? ⟨gl, 3, none⟩ = some (.int .i64 x.g.tn) ∧ W.cell? ⟨gl, 4, none⟩ = some (.int .i64 x.g.a) ∧ W.cell? ⟨gl, 5, none⟩ = some (.int .i64 x.g.b) ∧ W.cell? ⟨gl, 6, none⟩ = some (.int .i64 x.g.c) ∧ W.rangeAt gl 7 (vals x.g.H) ∧ W.rangeAt gl 39 (vals x.g.S) from fun W hW => by
          have := rng_lk (VL.out.same hW).range
          simpa only [Nat.zero_add] using this)
        rw [hgl]
        clear vn TH hw9 zk zs zn D4 RF PK hgl
        have PP9 := Lib.hid (show Below nb w2 w9 ∧ w9.heap[gl]? = w9.heap[gl]? from ⟨P9.out, rfl⟩)
        refine Late.region (fun w' => Below nb w2 w' ∧ w'.heap[gl]? = w9.heap[gl]?) [] (by kernel_rfl) ⟨PP9.out.1.drew, PP9.out.2⟩ (fun hHeld => ?_)
        refine Late.take (i := 0) (oi := ⟨some 35, Op.move (Operand.tmp 4), _, _, _, _⟩) (v := ?_) rfl (by kernel_rfl) (by kernel_rfl) (by kernel_rfl) (by kernel_rfl) (fun _ _ _ h => h) (Or.inl ⟨by rfl, fun w hSw => ?_⟩) (by assumption) ?_
        rotate_left
        · (have s1 := hSw; go_simp; try with_reducible rfl)
        try simp only [Act.put, List.setIfInBounds_toArray, List.set_cons_zero, List.set_cons_succ]
        refine Late.take (i := 1) (oi := ⟨some 36, Op.fieldAddr 46 (Operand.tmp 1) 3, _, _, _, _⟩) (v := ?_) rfl (by kernel_rfl) (by kernel_rfl) (by kernel_rfl) (by kernel_rfl) (fun _ _ _ h => h) (Or.inl ⟨by rfl, fun w hSw => ?_⟩) (by assumption) ?_
        rotate_left
        · (have s1 := hSw; go_simp; try with_reducible rfl)
        try simp only [Act.put, List.setIfInBounds_toArray, List.set_cons_zero, List.set_cons_succ]
        refine Late.take (i := 2) (oi := ⟨some 37, Op.load 3 (Operand.tmp 36), _, _, _, _⟩) (v := ?_) rfl (by kernel_rfl) (by kernel_rfl) (by kernel_rfl) (by kernel_rfl) (fun _ _ _ h => h) (Or.inl ⟨by rfl, fun w hSw => ?_⟩) (by assumption) ?_
        rotate_left
        · (have s1 := hSw; obtain ⟨d0, d1, d2, d3, _⟩ := HC.out _ hSw.1; obtain ⟨l0_, l1_, l2_, l3_, l4_, l5_, l6_, _, _⟩ := HLC.out _ hSw.2; go_simp; try with_reducible rfl)
        try simp only [Act.put, List.setIfInBounds_toArray, List.set_cons_zero, List.set_cons_succ]
        refine Late.take (i := 4) (oi := ⟨some 39, Op.fieldAddr 44 (Operand.tmp 7) 0, _, _, _, _⟩) (v := ?_) rfl (by kernel_rfl) (by kernel_rfl) (by kernel_rfl) (by kernel_rfl) (fun _ _ _ h => h) (Or.inl ⟨by rfl, fun w hSw => ?_⟩) (by assumption) ?_
        rotate_left
        · (have s1 := hSw; go_simp; try with_reducible rfl)
        try simp only [Act.put, List.setIfInBounds_toArray, List.set_cons_zero, List.set_cons_succ]
        refine Late.take (i := 5) (oi := ⟨some 40, Op.load 3 (Operand.tmp 39), _, _, _, _⟩) (v := ?_) rfl (by kernel_rfl) (by kernel_rfl) (by kernel_rfl) (by kernel_rfl) (fun _ _ _ h => h) (Or.inl ⟨by rfl, fun w hSw => ?_⟩) (by assumption) ?_
        rotate_left
        · (have s1 := hSw; obtain ⟨d0, d1, d2, d3, _⟩ := HC.out _ hSw.1; obtain ⟨l0_, l1_, l2_, l3_, l4_, l5_, l6_, _, _⟩ := HLC.out _ hSw.2; go_simp; try with_reducible rfl)
        try simp only [Act.put, List.setIfInBounds_toArray, List.set_cons_zero, List.set_cons_succ]
        refine Late.take (i := 7) (oi := ⟨some 42, Op.fieldAddr 44 (Operand.tmp 7) 1, _, _, _, _⟩) (v := ?_) rfl (by kernel_rfl) (by kernel_rfl) (by kernel_rfl) (by kernel_rfl) (fun _ _ _ h => h) (Or.inl ⟨by rfl, fun w hSw => ?_⟩) (by assumption) ?_
        rotate_left
        · (have s1 := hSw; go_simp; try with_reducible rfl)
        try simp only [Act.put, List.setIfInBounds_toArray, List.set_cons_zero, List.set_cons_succ]
        refine Late.take (i := 8) (oi := ⟨some 43, Op.load 3 (Operand.tmp 42), _, _, _, _⟩) (v := ?_) rfl (by kernel_rfl) (by kernel_rfl) (by kernel_rfl) (by kernel_rfl) (fun _ _ _ h => h) (Or.inl ⟨by rfl, fun w hSw => ?_⟩) (by assumption) ?_
        rotate_left
        · (have s1 := hSw; obtain ⟨d0, d1, d2, d3, _⟩ := HC.out _ hSw.1; obtain ⟨l0_, l1_, l2_, l3_, l4_, l5_, l6_, _, _⟩ := HLC.out _ hSw.2; go_simp; try with_reducible rfl)
        try simp only [Act.put, List.setIfInBounds_toArray, List.set_cons_zero, List.set_cons_succ]
        refine Late.take (i := 10) (oi := ⟨some 45, Op.fieldAddr 44 (Operand.tmp 7) 2, _, _, _, _⟩) (v := ?_) rfl (by kernel_rfl) (by kernel_rfl) (by kernel_rfl) (by kernel_rfl) (fun _ _ _ h => h) (Or.inl ⟨by rfl, fun w hSw => ?_⟩) (by assumption) ?_
        rotate_left
        · (have s1 := hSw; go_simp; try with_reducible rfl)
        try simp only [Act.put, List.setIfInBounds_toArray, List.set_cons_zero, List.set_cons_succ]
        refine Late.take (i := 11) (oi := ⟨some 46, Op.load 5 (Operand.tmp 45), _, _, _, _⟩) (v := ?_) rfl (by kernel_rfl) (by kernel_rfl) (by kernel_rfl) (by kernel_rfl) (fun _ _ _ h => h) (Or.inl ⟨by rfl, fun w hSw => ?_⟩) (by assumption) ?_
        rotate_left
        · (have s1 := hSw; obtain ⟨d0, d1, d2, d3, _⟩ := HC.out _ hSw.1; obtain ⟨l0_, l1_, l2_, l3_, l4_, l5_, l6_, _, _⟩ := HLC.out _ hSw.2; go_simp; try with_reducible rfl)
        try simp only [Act.put, List.setIfInBounds_toArray, List.set_cons_zero, List.set_cons_succ]
        refine Late.one (i := 3) (o := ⟨some 38, Op.call { callee := Callee.value (Operand.func 37), args := #[Operand.tmp 35, Operand.tmp 37], argTypes := #[65, 3] }, _, _, _, _⟩) (by kernel_rfl) rfl (fun K hK => ?_)
        go_simp
        refine (int_wr R9.out.drew x.n hxn.1 hxn.2).mono ?_
        rintro e w10 ⟨rfl, g11, r11, o11, f11⟩
        have hb11 := (show Below nb w2 w10 ∧ w10.heap[gl]? = w9.heap[gl]? from ⟨hHeld.1.trans ((Wr.below R9.out.drew o11 (Nat.le_refl _)).mono (Nat.le_refl _)), (o11.block gl (SZ9.out _ hHeld.2) GNB.out (fun e => NG9.out gl e.symm rfl)).trans hHeld.2⟩)
        have NG11 : Hid (∀ j, g11 = some j → j ≠ gl) := Lib.hid (fun j hj => by
          rcases f11 with h | h
          · rw [h] at hj; exact NG9.out j hj
          · have := h j hj
            have := SZ9.out _ hHeld.2
            omega)
        refine hK.out _ _ (hb11) (fun hHeld2 => ?_)
        clear hK K hHeld
        have hHeld := hHeld2
        clear hHeld2
        try simp only [Act.put, List.setIfInBounds_toArray, List.set_cons_zero, List.set_cons_succ]
        refine Late.one (i := 6) (o := ⟨some 41, Op.call { callee := Callee.value (Operand.func 37), args := #[Operand.tmp 38, Operand.tmp 40], argTypes := #[65, 3] }, _, _, _, _⟩) (by kernel_rfl) rfl (fun K hK => ?_)
        go_simp
        refine (int_wr r11 x.g.n hgn_.1 hgn_.2).mono ?_
        rintro e w11 ⟨rfl, g12, r12, o12, f12⟩
        have hb12 := (show Below nb w2 w11 ∧ w11.heap[gl]? = w9.heap[gl]? from ⟨hHeld.1.trans ((Wr.below r11 o12 (Nat.le_refl _)).mono (Nat.le_refl _)), (o12.block gl (SZ9.out _ hHeld.2) GNB.out (fun e => NG11.out gl e.symm rfl)).trans hHeld.2⟩)
        have NG12 : Hid (∀ j, g12 = some j → j ≠ gl) := Lib.hid (fun j hj => by
          rcases f12 with h | h
          · rw [h] at hj; exact NG11.out j hj
          · have := h j hj
            have := SZ9.out _ hHeld.2
            omega)
        refine hK.out _ _ (hb12) (fun hHeld2 => ?_)
        clear hK K hHeld
        have hHeld := hHeld2
        clear hHeld2
        try simp only [Act.put, List.setIfInBounds_toArray, List.set_cons_zero, List.set_cons_succ]
        refine Late.one (i := 9) (o := ⟨some 44, Op.call { callee := Callee.value (Operand.func 37), args := #[Operand.tmp 41, Operand.tmp 43], argTypes := #[65, 3] }, _, _, _, _⟩) (by kernel_rfl) rfl (fun K hK => ?_)
        go_simp
        refine (int_wr r12 x.g.st hgst.1 hgst.2).mono ?_
        rintro e w12 ⟨rfl, g13, r13, o13, f13⟩
        have hb13 := (show Below nb w2 w12 ∧ w12.heap[gl]? = w9.heap[gl]? from ⟨hHeld.1.trans ((Wr.below r12 o13 (Nat.le_refl _)).mono (Nat.le_refl _)), (o13.block gl (SZ9.out _ hHeld.2) GNB.out (fun e => NG12.out gl e.symm rfl)).trans hHeld.2⟩)
        have NG13 : Hid (∀ j, g13 = some j → j ≠ gl) := Lib.hid (fun j hj => by
          rcases f13 with h | h
          · rw [h] at hj; exact NG12.out j hj
          · have := h j hj
            have := SZ9.out _ hHeld.2
            omega)
        refine hK.out _ _ (hb13) (fun hHeld2 => ?_)
        clear hK K hHeld
        have hHeld := hHeld2
        clear hHeld2
        try simp only [Act.put, List.setIfInBounds_toArray, List.set_cons_zero, List.set_cons_succ]
        refine Late.one (i := 12) (o := ⟨some 47, Op.call { callee := Callee.value (Operand.func 34), args := #[Operand.tmp 44, Operand.tmp 46], argTypes := #[65, 5] }, _, _, _, _⟩) (by kernel_rfl) rfl (fun K hK => ?_)
        go_simp
        refine (byte_wr r13 x.g.op hgop.1 hgop.2).mono ?_
        rintro e w13 ⟨rfl, g14, r14, o14, f14⟩
        have hb14 := (show Below nb w2 w13 ∧ w13.heap[gl]? = w9.heap[gl]? from ⟨hHeld.1.trans ((Wr.below r13 o14 (Nat.le_refl _)).mono (Nat.le_refl _)), (o14.block gl (SZ9.out _ hHeld.2) GNB.out (fun e => NG13.out gl e.symm rfl)).trans hHeld.2⟩)
        have NG14 : Hid (∀ j, g14 = some j → j ≠ gl) := Lib.hid (fun j hj => by
          rcases f14 with h | h
          · rw [h] at hj; exact NG13.out j hj
          · have := h j hj
            have := SZ9.out _ hHeld.2
            omega)
        refine hK.out _ _ (hb14) (fun hHeld2 => ?_)
        clear hK K hHeld
        have hHeld := hHeld2
        clear hHeld2
        try simp only [Act.put, List.setIfInBounds_toArray, List.set_cons_zero, List.set_cons_succ]
        refine Late.done (by kernel_rfl) ?_ _
        refine NoPanic.normal ?_
        have R14 : Hid (Wr w13 nb g14 (some (repF3 x.z))) := Lib.hid (by rw [← HST3.out]; exact r14)
        have P13 := Lib.hid hHeld
        clear hHeld r11 r12 r13 r14 o11 o12 o13 o14 f11 f12 f13 f14 hb11 hb12 hb13 hb14
        go_upto_region 11 with fail
        refine Late.region (fun w' => Below nb w2 w' ∧ w'.heap[gl]? = w9.heap[gl]?) [] (by kernel_rfl) ⟨P13.out.1.drew, P13.out.2⟩ (fun hHeld => ?_)
        refine Late.take (i := 0) (oi := ⟨some 48, Op.move (Operand.tmp 4), _, _, _, _⟩) (v := ?_) rfl (by kernel_rfl) (by kernel_rfl) (by kernel_rfl) (by kernel_rfl) (fun _ _ _ h => h) (Or.inl ⟨by rfl, fun w hSw => ?_⟩) (by assumption) ?_
        rotate_left
        · (have s1 := hSw; go_simp; try with_reducible rfl)
        try simp only [Act.put, List.setIfInBounds_toArray, List.set_cons_zero, List.set_cons_succ]
        refine Late.take (i := 1) (oi := ⟨some 49, Op.fieldAddr 44 (Operand.tmp 7) 3, _, _, _, _⟩) (v := ?_) rfl (by kernel_rfl) (by kernel_rfl) (by kernel_rfl) (by kernel_rfl) (fun _ _ _ h => h) (Or.inl ⟨by rfl, fun w hSw => ?_⟩) (by assumption) ?_
        rotate_left
        · (have s1 := hSw; go_simp; try with_reducible rfl)
        try simp only [Act.put, List.setIfInBounds_toArray, List.set_cons_zero, List.set_cons_succ]
        refine Late.take (i := 2) (oi := ⟨some 50, Op.load 3 (Operand.tmp 49), _, _, _, _⟩) (v := ?_) rfl (by kernel_rfl) (by kernel_rfl) (by kernel_rfl) (by kernel_rfl) (fun _ _ _ h => h) (Or.inl ⟨by rfl, fun w hSw => ?_⟩) (by assumption) ?_
        rotate_left
        · (have s1 := hSw; obtain ⟨d0, d1, d2, d3, _⟩ := HC.out _ hSw.1; obtain ⟨l0_, l1_, l2_, l3_, l4_, l5_, l6_, _, _⟩ := HLC.out _ hSw.2; go_simp; try with_reducible rfl)
        try simp only [Act.put, List.setIfInBounds_toArray, List.set_cons_zero, List.set_cons_succ]
        refine Late.take (i := 4) (oi := ⟨some 52, Op.fieldAddr 44 (Operand.tmp 7) 4, _, _, _, _⟩) (v := ?_) rfl (by kernel_rfl) (by kernel_rfl) (by kernel_rfl) (by kernel_rfl) (fun _ _ _ h => h) (Or.inl ⟨by rfl, fun w hSw => ?_⟩) (by assumption) ?_
        rotate_left
        · (have s1 := hSw; go_simp; try with_reducible rfl)
        try simp only [Act.put, List.setIfInBounds_toArray, List.set_cons_zero, List.set_cons_succ]
        refine Late.take (i := 5) (oi := ⟨some 53, Op.load 3 (Operand.tmp 52), _, _, _, _⟩) (v := ?_) rfl (by kernel_rfl) (by kernel_rfl) (by kernel_rfl) (by kernel_rfl) (fun _ _ _ h => h) (Or.inl ⟨by rfl, fun w hSw => ?_⟩) (by assumption) ?_
        rotate_left
        · (have s1 := hSw; obtain ⟨d0, d1, d2, d3, _⟩ := HC.out _ hSw.1; obtain ⟨l0_, l1_, l2_, l3_, l4_, l5_, l6_, _, _⟩ := HLC.out _ hSw.2; go_simp; try with_reducible rfl)
        try simp only [Act.put, List.setIfInBounds_toArray, List.set_cons_zero, List.set_cons_succ]
        refine Late.take (i := 7) (oi := ⟨some 55, Op.fieldAddr 44 (Operand.tmp 7) 5, _, _, _, _⟩) (v := ?_) rfl (by kernel_rfl) (by kernel_rfl) (by kernel_rfl) (by kernel_rfl) (fun _ _ _ h => h) (Or.inl ⟨by rfl, fun w hSw => ?_⟩) (by assumption) ?_
        rotate_left
        · (have s1 := hSw; go_simp; try with_reducible rfl)
        try simp only [Act.put, List.setIfInBounds_toArray, List.set_cons_zero, List.set_cons_succ]
        refine Late.take (i := 8) (oi := ⟨some 56, Op.load 3 (Operand.tmp 55), _, _, _, _⟩) (v := ?_) rfl (by kernel_rfl) (by kernel_rfl) (by kernel_rfl) (by kernel_rfl) (fun _ _ _ h => h) (Or.inl ⟨by rfl, fun w hSw => ?_⟩) (by assumption) ?_
        rotate_left
        · (have s1 := hSw; obtain ⟨d0, d1, d2, d3, _⟩ := HC.out _ hSw.1; obtain ⟨l0_, l1_, l2_, l3_, l4_, l5_, l6_, _, _⟩ := HLC.out _ hSw.2; go_simp; try with_reducible rfl)
        try simp only [Act.put, List.setIfInBounds_toArray, List.set_cons_zero, List.set_cons_succ]
        refine Late.take (i := 10) (oi := ⟨some 58, Op.fieldAddr 44 (Operand.tmp 7) 6, _, _, _, _⟩) (v := ?_) rfl (by kernel_rfl) (by kernel_rfl) (by kernel_rfl) (by kernel_rfl) (fun _ _ _ h => h) (Or.inl ⟨by rfl, fun w hSw => ?_⟩) (by assumption) ?_
        rotate_left
        · (have s1 := hSw; go_simp; try with_reducible rfl)
        try simp only [Act.put, List.setIfInBounds_toArray, List.set_cons_zero, List.set_cons_succ]
        refine Late.take (i := 11) (oi := ⟨some 59, Op.load 3 (Operand.tmp 58), _, _, _, _⟩) (v := ?_) rfl (by kernel_rfl) (by kernel_rfl) (by kernel_rfl) (by kernel_rfl) (fun _ _ _ h => h) (Or.inl ⟨by rfl, fun w hSw => ?_⟩) (by assumption) ?_
        rotate_left
        · (have s1 := hSw; obtain ⟨d0, d1, d2, d3, _⟩ := HC.out _ hSw.1; obtain ⟨l0_, l1_, l2_, l3_, l4_, l5_, l6_, _, _⟩ := HLC.out _ hSw.2; go_simp; try with_reducible rfl)
        try simp only [Act.put, List.setIfInBounds_toArray, List.set_cons_zero, List.set_cons_succ]
        refine Late.take (i := 13) (oi := ⟨some 61, Op.fieldAddr 44 (Operand.tmp 7) 7, _, _, _, _⟩) (v := ?_) rfl (by kernel_rfl) (by kernel_rfl) (by kernel_rfl) (by kernel_rfl) (fun _ _ _ h => h) (Or.inl ⟨by rfl, fun w hSw => ?_⟩) (by assumption) ?_
        rotate_left
        · (have s1 := hSw; go_simp; try with_reducible rfl)
        try simp only [Act.put, List.setIfInBounds_toArray, List.set_cons_zero, List.set_cons_succ]
        refine Late.take (i := 14) (oi := ⟨some 62, Op.load 42 (Operand.tmp 61), _, _, _, _⟩) (v := _) rfl (by kernel_rfl) (by kernel_rfl) (by kernel_rfl) (by kernel_rfl) (fun _ _ _ h => h) (yieldsIf_load_mid (by rfl) _ _ rfl _ _ rfl (vals x.g.H) _ (fun W hW => (HLC.out _ hW.2).2.2.2.2.2.2.2.1) Try.underlying42 rfl (tag_size x.g.H x.g.hH)) (by assumption) ?_
        try simp only [Act.put, List.setIfInBounds_toArray, List.set_cons_zero, List.set_cons_succ]
        refine Late.take (i := 16) (oi := ⟨some 64, Op.fieldAddr 44 (Operand.tmp 7) 8, _, _, _, _⟩) (v := ?_) rfl (by kernel_rfl) (by kernel_rfl) (by kernel_rfl) (by kernel_rfl) (fun _ _ _ h => h) (Or.inl ⟨by rfl, fun w hSw => ?_⟩) (by assumption) ?_
        rotate_left
        · (have s1 := hSw; go_simp; try with_reducible rfl)
        try simp only [Act.put, List.setIfInBounds_toArray, List.set_cons_zero, List.set_cons_succ]
        refine Late.take (i := 17) (oi := ⟨some 65, Op.load 42 (Operand.tmp 64), _, _, _, _⟩) (v := _) rfl (by kernel_rfl) (by kernel_rfl) (by kernel_rfl) (by kernel_rfl) (fun _ _ _ h => h) (yieldsIf_load_mid (by rfl) _ _ rfl _ _ rfl (vals x.g.S) _ (fun W hW => (HLC.out _ hW.2).2.2.2.2.2.2.2.2) Try.underlying42 rfl (tag_size x.g.S x.g.hS)) (by assumption) ?_
        try simp only [Act.put, List.setIfInBounds_toArray, List.set_cons_zero, List.set_cons_succ]
        refine Late.one (i := 3) (o := ⟨some 51, Op.call { callee := Callee.value (Operand.func 37), args := #[Operand.tmp 48, Operand.tmp 50], argTypes := #[65, 3] }, _, _, _, _⟩) (by kernel_rfl) rfl (fun K hK => ?_)
        go_simp
        refine (int_wr R14.out.drew x.g.tn hgtn.1 hgtn.2).mono ?_
        rintro e w14 ⟨rfl, g15, r15, o15, f15⟩
        have hb15 := (show Below nb w2 w14 ∧ w14.heap[gl]? = w9.heap[gl]? from ⟨hHeld.1.trans ((Wr.below R14.out.drew o15 (Nat.le_refl _)).mono (Nat.le_refl _)), (o15.block gl (SZ9.out _ hHeld.2) GNB.out (fun e => NG14.out gl e.symm rfl)).trans hHeld.2⟩)
        have NG15 : Hid (∀ j, g15 = some j → j ≠ gl) := Lib.hid (fun j hj => by
          rcases f15 with h | h
          · rw [h] at hj; exact NG14.out j hj
          · have := h j hj
            have := SZ9.out _ hHeld.2
            omega)
        refine hK.out _ _ (hb15) (fun hHeld2 => ?_)
        clear hK K hHeld
        have hHeld := hHeld2
        clear hHeld2
        try simp only [Act.put, List.setIfInBounds_toArray, List.set_cons_zero, List.set_cons_succ]
        refine Late.one (i := 6) (o := ⟨some 54, Op.call { callee := Callee.value (Operand.func 37), args := #[Operand.tmp 51, Operand.tmp 53], argTypes := #[65, 3] }, _, _, _, _⟩) (by kernel_rfl) rfl (fun K hK => ?_)
        go_simp
        refine (int_wr r15 x.g.a hga.1 hga.2).mono ?_
        rintro e w15 ⟨rfl, g16, r16, o16, f16⟩
        have hb16 := (show Below nb w2 w15 ∧ w15.heap[gl]? = w9.heap[gl]? from ⟨hHeld.1.trans ((Wr.below r15 o16 (Nat.le_refl _)).mono (Nat.le_refl _)), (o16.block gl (SZ9.out _ hHeld.2) GNB.out (fun e => NG15.out gl e.symm rfl)).trans hHeld.2⟩)
        have NG16 : Hid (∀ j, g16 = some j → j ≠ gl) := Lib.hid (fun j hj => by
          rcases f16 with h | h
          · rw [h] at hj; exact NG15.out j hj
          · have := h j hj
            have := SZ9.out _ hHeld.2
            omega)
        refine hK.out _ _ (hb16) (fun hHeld2 => ?_)
        clear hK K hHeld
        have hHeld := hHeld2
        clear hHeld2
        try simp only [Act.put, List.setIfInBounds_toArray, List.set_cons_zero, List.set_cons_succ]
        refine Late.one (i := 9) (o := ⟨some 57, Op.call { callee := Callee.value (Operand.func 37), args := #[Operand.tmp 54, Operand.tmp 56], argTypes := #[65, 3] }, _, _, _, _⟩) (by kernel_rfl) rfl (fun K hK => ?_)
        go_simp
        refine (int_wr r16 x.g.b hgb.1 hgb.2).mono ?_
        rintro e w16 ⟨rfl, g17, r17, o17, f17⟩
        have hb17 := (show Below nb w2 w16 ∧ w16.heap[gl]? = w9.heap[gl]? from ⟨hHeld.1.trans ((Wr.below r16 o17 (Nat.le_refl _)).mono (Nat.le_refl _)), (o17.block gl (SZ9.out _ hHeld.2) GNB.out (fun e => NG16.out gl e.symm rfl)).trans hHeld.2⟩)
        have NG17 : Hid (∀ j, g17 = some j → j ≠ gl) := Lib.hid (fun j hj => by
          rcases f17 with h | h
          · rw [h] at hj; exact NG16.out j hj
          · have := h j hj
            have := SZ9.out _ hHeld.2
            omega)
        refine hK.out _ _ (hb17) (fun hHeld2 => ?_)
        clear hK K hHeld
        have hHeld := hHeld2
        clear hHeld2
        try simp only [Act.put, List.setIfInBounds_toArray, List.set_cons_zero, List.set_cons_succ]
        refine Late.one (i := 12) (o := ⟨some 60, Op.call { callee := Callee.value (Operand.func 37), args := #[Operand.tmp 57, Operand.tmp 59], argTypes := #[65, 3] }, _, _, _, _⟩) (by kernel_rfl) rfl (fun K hK => ?_)
        go_simp
        refine (int_wr r17 x.g.c hgc.1 hgc.2).mono ?_
        rintro e w17 ⟨rfl, g18, r18, o18, f18⟩
        have hb18 := (show Below nb w2 w17 ∧ w17.heap[gl]? = w9.heap[gl]? from ⟨hHeld.1.trans ((Wr.below r17 o18 (Nat.le_refl _)).mono (Nat.le_refl _)), (o18.block gl (SZ9.out _ hHeld.2) GNB.out (fun e => NG17.out gl e.symm rfl)).trans hHeld.2⟩)
        have NG18 : Hid (∀ j, g18 = some j → j ≠ gl) := Lib.hid (fun j hj => by
          rcases f18 with h | h
          · rw [h] at hj; exact NG17.out j hj
          · have := h j hj
            have := SZ9.out _ hHeld.2
            omega)
        refine hK.out _ _ (hb18) (fun hHeld2 => ?_)
        clear hK K hHeld
        have hHeld := hHeld2
        clear hHeld2
        try simp only [Act.put, List.setIfInBounds_toArray, List.set_cons_zero, List.set_cons_succ]
        refine Late.one (i := 15) (o := ⟨some 63, Op.call { callee := Callee.value (Operand.func 57), args := #[Operand.tmp 60, Operand.tmp 62], argTypes := #[65, 42] }, _, _, _, _⟩) (by kernel_rfl) rfl (fun K hK => ?_)
        go_simp
        refine (tag_wr r18 x.g.H x.g.hH HGO.out.H).mono ?_
        rintro e w18 ⟨rfl, g19, r19, o19, f19⟩
        have hb19 := (show Below nb w2 w18 ∧ w18.heap[gl]? = w9.heap[gl]? from ⟨hHeld.1.trans ((Wr.below r18 o19 (Nat.le_refl _)).mono (Nat.le_refl _)), (o19.block gl (SZ9.out _ hHeld.2) GNB.out (fun e => NG18.out gl e.symm rfl)).trans hHeld.2⟩)
        have NG19 : Hid (∀ j, g19 = some j → j ≠ gl) := Lib.hid (fun j hj => by
          rcases f19 with h | h
          · rw [h] at hj; exact NG18.out j hj
          · have := h j hj
            have := SZ9.out _ hHeld.2
            omega)
        refine hK.out _ _ (hb19) (fun hHeld2 => ?_)
        clear hK K hHeld
        have hHeld := hHeld2
        clear hHeld2
        try simp only [Act.put, List.setIfInBounds_toArray, List.set_cons_zero, List.set_cons_succ]
        refine Late.one (i := 18) (o := ⟨some 66, Op.call { callee := Callee.value (Operand.func 57), args := #[Operand.tmp 63, Operand.tmp 65], argTypes := #[65, 42] }, _, _, _, _⟩) (by kernel_rfl) rfl (fun K hK => ?_)
        go_simp
        refine (tag_wr r19 x.g.S x.g.hS HGO.out.S).mono ?_
        rintro e w19 ⟨rfl, g20, r20, o20, f20⟩
        have hb20 := (show Below nb w2 w19 ∧ w19.heap[gl]? = w9.heap[gl]? from ⟨hHeld.1.trans ((Wr.below r19 o20 (Nat.le_refl _)).mono (Nat.le_refl _)), (o20.block gl (SZ9.out _ hHeld.2) GNB.out (fun e => NG19.out gl e.symm rfl)).trans hHeld.2⟩)
        have NG20 : Hid (∀ j, g20 = some j → j ≠ gl) := Lib.hid (fun j hj => by
          rcases f20 with h | h
          · rw [h] at hj; exact NG19.out j hj
          · have := h j hj
            have := SZ9.out _ hHeld.2
            omega)
        refine hK.out _ _ (hb20) (fun hHeld2 => ?_)
        clear hK K hHeld
        have hHeld := hHeld2
        clear hHeld2
        try simp only [Act.put, List.setIfInBounds_toArray, List.set_cons_zero, List.set_cons_succ]
        refine Late.one (i := 19) (o := ⟨some 67, Op.call { callee := Callee.value (Operand.func 38), args := #[Operand.tmp 66], argTypes := #[65] }, _, _, _, _⟩) (by kernel_rfl) rfl (fun K hK => ?_)
        have r20b : Wr w19 nb g20 (some (repF x.z)) := by rw [← HST4.out]; exact r20
        go_simp
        refine (done_ok r20b).mono ?_
        rintro e w20 ⟨u, rfl, hu, b21⟩
        have hz19 : w.heap.size ≤ w19.heap.size := by have := r20.lt; have := hgn.out; have := HG.out; omega
        have hb21 := (show Below nb w2 w20 ∧ w20.heap[gl]? = w9.heap[gl]? from ⟨hHeld.1.trans (b21.mono (by have := r20.lt; omega)), (b21.block gl (SZ9.out _ hHeld.2)).trans hHeld.2⟩)
        refine hK.out _ _ (hb21) (fun hHeld2 => ?_)
        clear hK K hHeld
        have hHeld := hHeld2
        clear hHeld2
        try simp only [Act.put, List.setIfInBounds_toArray, List.set_cons_zero, List.set_cons_succ]
        refine Late.take (i := 20) (oi := ⟨some 68, Op.extract (Operand.tmp 67) 0, _, _, _, _⟩) (v := ?_) rfl (by kernel_rfl) (by kernel_rfl) (by kernel_rfl) (by kernel_rfl) (fun _ _ _ h => h) (Or.inl ⟨by rfl, fun w hSw => ?_⟩) (by assumption) ?_
        rotate_left
        · (have s1 := hSw; go_simp; try with_reducible rfl)
        try simp only [Act.put, List.setIfInBounds_toArray, List.set_cons_zero, List.set_cons_succ]
        refine Late.take (i := 21) (oi := ⟨some 69, Op.extract (Operand.tmp 67) 1, _, _, _, _⟩) (v := ?_) rfl (by kernel_rfl) (by kernel_rfl) (by kernel_rfl) (by kernel_rfl) (fun _ _ _ h => h) (Or.inl ⟨by rfl, fun w hSw => ?_⟩) (by assumption) ?_
        rotate_left
        · (have s1 := hSw; go_simp; try with_reducible rfl)
        try simp only [Act.put, List.setIfInBounds_toArray, List.set_cons_zero, List.set_cons_succ]
        refine Late.take (i := 22) (oi := ⟨some 2, Op.assign (Operand.tmp 68), _, _, _, _⟩) (v := ?_) rfl (by kernel_rfl) (by kernel_rfl) (by kernel_rfl) (by kernel_rfl) (fun _ _ _ h => h) (Or.inl ⟨by rfl, fun w hSw => ?_⟩) (by assumption) ?_
        rotate_left
        · (have s1 := hSw; go_simp; try with_reducible rfl)
        try simp only [Act.put, List.setIfInBounds_toArray, List.set_cons_zero, List.set_cons_succ]
        refine Late.take (i := 23) (oi := ⟨some 3, Op.assign (Operand.tmp 69), _, _, _, _⟩) (v := ?_) rfl (by kernel_rfl) (by kernel_rfl) (by kernel_rfl) (by kernel_rfl) (fun _ _ _ h => h) (Or.inl ⟨by rfl, fun w hSw => ?_⟩) (by assumption) ?_
        rotate_left
        · (have s1 := hSw; go_simp; try with_reducible rfl)
        try simp only [Act.put, List.setIfInBounds_toArray, List.set_cons_zero, List.set_cons_succ]
        refine Late.done (by kernel_rfl) ?_ _
        refine NoPanic.normal ?_
        have HU := Lib.hid hu
        have BZ19 := Lib.hid hz19
        have BZ := Lib.hid (BA.out.trans (hHeld.1.mono (by rw [HG.out]; have := hgn.out; omega)))
        clear hHeld hu
        go_wp2
        go_ret2
        obtain ⟨D, c, e1, e2, e3⟩ := HU.out
        exact ⟨u, rfl, ⟨D, c, e1, own_base e2 BZ19.out, e3⟩, BZ.out⟩
end Go.Proofs.Ytcgclaailhhbpaa
