/- The tag of bytes, as the program's Sum tells it. -/
import Derived.Test.YtcihbkdpkhhhcaaDoorSum
namespace Go.Proofs.YtcihbkdpkhhhcaaDoor
open Go.ChangeShapes Go.WideShapes Go.ChangeAt Go.RowKit
set_option linter.unusedVariables false
open Plain Sha
theorem below_hash {w w' : World} {b : Nat} (h : w.grownBy w' (some b)) {B : Nat} (hb : B ≤ b) {a : World} (ha : Below B a w) (hB : B ≤ w.heap.size) : Below B a w' := ha.grown h hB (fun k e => by injection e with e; omega)
set_option maxRecDepth 100000 in
set_option maxHeartbeats 1000000 in
theorem sumB_any {w : World} {B : Nat} {A : Option Addr} {n : Nat} (c : Nat) {zs : List Int} (hz : Bs w B A n zs) (hB : B ≤ w.heap.size) (hn : n ≤ 1000000000) (hF : LaidF w) (hK : LaidK w) :
    Calls Tryd.prog 37 #[.slice A n c] w fun e w' => e = .returned (.agg (vals (shaZ zs)).toArray) ∧ Below w.heap.size w w' := by
  obtain ⟨T, hT⟩ : ∃ T, shaZ zs = T := ⟨_, rfl⟩
  have hTl : T.length = 32 := by rw [← hT]; unfold shaZ; exact tagZ_len _
  obtain ⟨W0, hW0⟩ : ∃ W0, W0 = w.alloc (.cells (vals (List.replicate 32 0)).toArray 50) := ⟨_, rfl⟩
  have b0 : Below w.heap.size w W0 := by rw [hW0]; exact (Below.refl _ _).alloc (Nat.le_refl _) _
  have s0 : W0.heap.size = w.heap.size + 1 := by rw [hW0]; simp
  have g0 : W0.there w.heap.size 0 32 := by rw [hW0]; simpa using (Row8.new w (List.replicate 32 0) 50).there
  have HFl := Lib.hid hF.lt
  have HKl := Lib.hid hK.lt
  have HW0 := Lib.hid hW0
  have HI := Lib.hid (show (Tryd.prog.info? 50).map (·.size) = some (vals T).length by rw [vals_len, hTl]; kernel_rfl)
  have HT := Lib.hid hT
  have HTl := Lib.hid hTl
  have A32 := Lib.hid (all_oneCell_toArray (vals_one T))
  clear hW0 hT hTl
  go_enter Tryd.func37, Tryd.ntmps37
  go_wp2_with fail
  refine (show Calls Tryd.prog _ _ (w.alloc (.cells (vals (List.replicate 32 0)).toArray 50)) _ from ?_)
  rw [← HW0.out]
  refine (new_any W0 (hF.below b0 HFl.out)).mono ?_
  rintro e w1 ⟨rfl, h1, b1, s1⟩
  rw [s0] at h1 s1
  have q1 : Below w.heap.size w w1 := b0.trans (b1.mono (by omega))
  have g1 : w1.there w.heap.size 0 32 := there_same g0 (b1.block _ (by omega))
  have K1 := Lib.hid (hK.below q1 HKl.out)
  have z1 : Bs w1 B A n zs := (hz.belowM q1 hB)
  have H1 := Lib.hid h1
  clear h1 b1 g0
  go_wp2_with fail
  refine (write_any H1.out IsBytes.nil c z1 (by omega) (by simp; omega) K1.out (by have := HKl.out; omega)).mono ?_
  rintro e w2 ⟨rfl, h2, g2⟩
  rw [List.nil_append] at h2
  have q2 : Below w.heap.size w w2 := below_hash g2 (by omega) q1 (by omega)
  have t2 : w2.there w.heap.size 0 32 := there_same g1 (g2.block _ (by omega) (by simp <;> omega))
  have s2 := g2.size
  have K2 := Lib.hid (hK.below q2 HKl.out)
  have H2 := Lib.hid h2
  clear h2 g2 g1 z1 K1 H1
  go_wp2_with fail
  refine (sum_any H2.out hz.isBytes (by rw [hz.len]; omega) K2.out).mono ?_
  rw [HT.out]
  rintro e w3 ⟨rfl, b3⟩
  have q3 : Below w.heap.size w w3 := q2.trans (b3.mono (by omega))
  have t3 : w3.there w.heap.size 0 32 := there_same t2 (b3.block _ (by omega))
  have s3 := b3.size
  have T4 : Hid ((w3.alloc (.cells (vals (List.replicate 32 0)).toArray 50)).there w3.heap.size 0 (vals T).toArray.size) := Lib.hid (by
    have e : (vals T).toArray.size = 32 := by rw [List.size_toArray, vals_len, HTl.out]
    rw [e]; simpa using (Row8.new w3 (List.replicate 32 0) 50).there)
  have T3 := Lib.hid (t3)
  have hX : ∀ w4, Hid (w4 = (w3.alloc (.cells (vals (List.replicate 32 0)).toArray 50)).setCells w3.heap.size 0 (vals T).toArray.toList) → w4.rangeAt w3.heap.size 0 (vals T) ∧ w4.there w.heap.size 0 (vals T).toArray.size ∧ Below w.heap.size w w4 := fun w4 hw4 => by
    have e : (vals T).toArray.size = 32 := by rw [List.size_toArray, vals_len, HTl.out]
    rw [hw4.out]
    refine ⟨World.rangeAt_setCells_same _ _ _ _ T4.out, ?_, below_setCells (by omega) _ _ _ (q3.alloc (by omega) _)⟩
    rw [e]
    exact World.there_setCells (World.there_alloc T3.out _) _ _ _
  have HX := Lib.hid hX
  clear b3 t3 t2 K2 H2 hX
  go_wp2_with (first
    | (have g := T4; clear g; refine wpList_store_as (op := ⟨none, .store 50 (.tmp 4) (.tmp 13), _, _, _, _⟩) rfl 50 (.tmp 4) (.tmp 13) rfl w3.heap.size 0 (vals T).toArray rfl rfl T4.out HI.out A32.out ?_; intro w4 hw4; have X4 := Lib.hid (HX.out w4 hw4); clear T4; have G2 := X4)
    | (have g := G2; clear g G2; refine wpList_load_mid (op := ⟨some 15, _, _, _, _, _⟩) rfl 50 (.tmp 4) rfl w3.heap.size 0 rfl (vals T) _ X4.out.1 Tryd.underlying50 rfl HI.out ?_; have G3 := X4)
    | (have g := G3; clear g G3; refine wpList_store_as (op := ⟨none, .store 50 (.tmp 2) (.tmp 15), _, _, _, _⟩) rfl 50 (.tmp 2) (.tmp 15) rfl w.heap.size 0 (vals T).toArray rfl rfl X4.out.2.1 HI.out A32.out ?_; intro w5 hw5))
  have R5 : w5.rangeAt w.heap.size 0 (vals T) := by
    rw [hw5.out]
    exact World.rangeAt_setCells_same _ _ _ _ X4.out.2.1
  have b5 : Below w.heap.size w w5 := by rw [hw5.out]; exact below_setCells (Nat.le_refl _) _ _ _ X4.out.2.2
  exact bodyPost_ret (v := .agg (vals T).toArray) (results_mid (p := 2) (ty := 50) rfl _ _ w.heap.size 0 (vals T) _ rfl R5 Tryd.underlying50 rfl HI.out) rfl ⟨by rw [HT.out], b5⟩
end Go.Proofs.YtcihbkdpkhhhcaaDoor
