/- Noughts of two lengths have one tag just where the lengths are one. -/
import Derived.Test.YtbidgikibmicdaaDoorShaAwake
import Derived.Test.YtbidgikibmicdaaDoorTagEq
import Derived.Deep.DrawnRows
namespace Go.Proofs.YtbidgikibmicdaaDoor
open Go.ChangeShapes Go.WideShapes Go.ChangeAt Go.RowKit
set_option linter.unusedVariables false
open Plain Sha
set_option maxRecDepth 100000 in
set_option maxHeartbeats 2000000 in
theorem shaEnds_out (a0 a1 : Int) (w : World) (hF : LaidF w) (hK : LaidK w) (h : a0 < 0 ∨ (¬ a0 < 0 ∧ 200 < a0) ∨ (¬ a0 < 0 ∧ ¬ 200 < a0 ∧ a1 < 0) ∨ (¬ a0 < 0 ∧ ¬ 200 < a0 ∧ ¬ a1 < 0 ∧ 200 < a1)) :
    Calls Tryd.prog 8 #[.int .i64 a0, .int .i64 a1] w fun e w' => e = .returned (.bool true) ∧ Below w.heap.size w w' := by
  rcases h with h | ⟨h1, h2⟩ | ⟨h1, h2, h3⟩ | ⟨h1, h2, h3, h4⟩
  all_goals
    go_enter Tryd.func8, Tryd.ntmps8
    go_wp2_with fail
    refine (shaAwake_any w hF hK).mono ?_
    rintro e w1 ⟨rfl, b1⟩
    go_wp2
    go_ret
    exact ⟨rfl, b1⟩
theorem bs_cells {W : World} {g n : Nat} {t : TypeId} {zs : List Int} {fr : Nat × Nat} (h : W.heap[g]? = some (.cells (vals zs).toArray t fr)) (hz : IsBytes zs) (hn : zs.length = n) : Bs W W.heap.size (some ⟨g, 0, none⟩) n zs := by
  refine ⟨hn, fun j hj => hz j (by omega), fun _ => ⟨g, 0, rfl, ?_, fun j hj => ?_⟩⟩
  · rw [Array.getElem?_eq_some_iff] at h; exact h.1
  · have hh : W.cell? ⟨g, 0 + j, none⟩ = (vals zs).toArray[0 + j]? := cell_of_row _ _ _ _ _ _ h
    rw [hh, Nat.zero_add]
    simp [vals, List.getElem?_map, List.getD_eq_getElem?_getD, List.getElem?_eq_getElem (show j < zs.length by omega)]
theorem hp0 {W : World} {c} {g : Nat} (h : W.heap.size = g) : (W.alloc c).heap[g]? = some c := by subst h; exact heap_alloc_new W c
theorem hp1 {W : World} {c d} {g : Nat} (h : W.heap.size = g) : ((W.alloc c).alloc d).heap[g]? = some c := by
  rw [Below.heap_alloc _ _ _ (by simp; omega)]; exact hp0 h
/-- The tag of so many noughts, in a world that has them. -/
theorem sumN {w W : World} (q : Below w.heap.size w W) {g n : Nat} {t : TypeId} {fr : Nat × Nat} (h : W.heap[g]? = some (.cells (vals (List.replicate n 0)).toArray t fr)) (hn : n ≤ 200) (hF : LaidF w) (hK : LaidK w) (T : List Int) (hT : shaZ (List.replicate n 0) = T) (c : Nat) :
    Calls Tryd.prog 11 #[.slice (some ⟨g, 0, none⟩) n c] W fun e w' => e = .returned (.agg (vals T).toArray) ∧ Below W.heap.size W w' ∧ Below w.heap.size w w' ∧ g < W.heap.size := by
  refine (sumB_any c (bs_cells h (noughts_bytes n) (List.length_replicate ..)) (Nat.le_refl _) (by omega) (hF.below q hF.lt) (hK.below q hK.lt)).mono ?_
  rintro e w' ⟨rfl, b⟩
  rw [hT]
  refine ⟨rfl, b, q.trans (b.mono q.size), ?_⟩
  rw [Array.getElem?_eq_some_iff] at h; exact h.1
set_option maxRecDepth 100000 in
set_option maxHeartbeats 40000000 in
theorem shaEnds_in (n m : Nat) (hn : n ≤ 200) (hm : m ≤ 200) (w : World) (hF : LaidF w) (hK : LaidK w) :
    Calls Tryd.prog 8 #[.int .i64 (n : Int), .int .i64 (m : Int)] w fun e w' => e = .returned (.bool true) ∧ Below w.heap.size w w' := by
  obtain ⟨Tn, hTn⟩ : ∃ T, shaZ (List.replicate n 0) = T := ⟨_, rfl⟩
  obtain ⟨Tm, hTm⟩ : ∃ T, shaZ (List.replicate m 0) = T := ⟨_, rfl⟩
  have ln : Tn.length = 32 := by rw [← hTn]; exact shaZ_len _
  have lm : Tm.length = 32 := by rw [← hTm]; exact shaZ_len _
  obtain ⟨X, hX⟩ : ∃ X, eqB Tn Tm = X := ⟨_, rfl⟩
  have hX2 : X = decide ((n : Int) = m) := by
    rw [← hX, ← hTn, ← hTm, eqB, Bool.eq_iff_iff, decide_eq_true_eq, decide_eq_true_eq]
    constructor
    · intro h; rw [noughts_sha n m hn hm h]
    · intro h; rw [show n = m by omega]
  have hE : ∀ w, (binOp .eql 25 (.agg (vals Tn).toArray) (.agg (vals Tm).toArray)).run Tryd.prog w = .ok (.bool X) w := fun w => by rw [run_tagEq Tn Tm ln lm w, hX]
  have hmn : ∀ w : World, _ := fun w => make_u8 n (by omega) w
  have hmm : ∀ w : World, _ := fun w => make_u8 m (by omega) w
  rw [madeCells_vals] at hmn hmm
  have g1 : ¬ (n : Int) < 0 := by omega
  have g2 : ¬ 200 < (n : Int) := by omega
  have g3 : ¬ (m : Int) < 0 := by omega
  have g4 : ¬ 200 < (m : Int) := by omega
  have HTn := Lib.hid hTn
  have HTm := Lib.hid hTm
  have HX2 := Lib.hid hX2
  clear hTn hTm hX hX2 ln lm
  go_enter Tryd.func8, Tryd.ntmps8
  go_wp2_with fail
  refine (shaAwake_any w hF hK).mono ?_
  rintro e w1 ⟨rfl, b1⟩
  have HF1 := Lib.hid (hF.below b1 hF.lt)
  have HK1 := Lib.hid (hK.below b1 hK.lt)
  have F0 : ∀ (W : World) c, (W.alloc c).heap[W.heap.size]? = some c := fun W c => hp0 rfl
  have F1 : ∀ c, (w1.alloc c).drew.heap[w1.heap.size]? = some c := fun c => show (w1.alloc c).heap[w1.heap.size]? = some c from hp0 rfl
  have F2a : ∀ c d, ((w1.alloc c).alloc d).drew.heap[w1.heap.size]? = some c := fun c d => show ((w1.alloc c).alloc d).heap[w1.heap.size]? = some c from hp1 rfl
  have F2b : ∀ c d, ((w1.alloc c).alloc d).drew.heap[w1.heap.size + 1]? = some d := fun c d => show ((w1.alloc c).alloc d).heap[w1.heap.size + 1]? = some d from hp0 (by simp)
  have L2a : ∀ c d, w1.heap.size < ((w1.alloc c).alloc d).drew.heap.size := fun c d => show w1.heap.size < ((w1.alloc c).alloc d).heap.size by simp <;> omega
  have L2b : ∀ c d, w1.heap.size + 1 < ((w1.alloc c).alloc d).drew.heap.size := fun c d => show w1.heap.size + 1 < ((w1.alloc c).alloc d).heap.size by simp
  have A1 : ∀ c, Below w1.heap.size w1 (w1.alloc c).drew := fun c => ((Below.refl _ _).alloc (Nat.le_refl _) c).drew
  have A2 : ∀ c d, Below w1.heap.size w1 ((w1.alloc c).alloc d).drew := fun c d => (((Below.refl _ _).alloc (Nat.le_refl _) c).alloc (by simp) d).drew
  clear hF hK
  go_wp2
  go_region_held3 (fun _ => True) (exact trivial) ((first
    | (go_at_call 11; with_reducible (show Calls Tryd.prog 11 #[.slice (some ⟨w1.heap.size, 0, none⟩) n n] (w2) _); refine (sumN (w := w1) (W := w2) (n := n) q2 ((hb2.block _ (L2a _ _)).trans (F2a _ _)) hn HF1.out HK1.out Tn HTn.out _).mono ?_; rintro e w3 ⟨rfl, hb3, q3, p3⟩)
    | (go_at_call 11; with_reducible (show Calls Tryd.prog 11 #[.slice (some ⟨w1.heap.size + 1, 0, none⟩) n n] (w2) _); refine (sumN (w := w1) (W := w2) (n := n) q2 ((hb2.block _ (L2b _ _)).trans (F2b _ _)) hn HF1.out HK1.out Tn HTn.out _).mono ?_; rintro e w3 ⟨rfl, hb3, q3, p3⟩)
    | (go_at_call 11; with_reducible (show Calls Tryd.prog 11 #[.slice (some ⟨w2.heap.size, 0, none⟩) n n] (w2.alloc _) _); refine (sumN (w := w1) (W := w2.alloc _) (g := w2.heap.size) (n := n) (q2.alloc q2.size _) (F0 _ _) hn HF1.out HK1.out Tn HTn.out _).mono ?_; rintro e w3 ⟨rfl, hb3, q3, p3⟩)
    | (go_at_call 11; with_reducible (show Calls Tryd.prog 11 #[.slice (some ⟨w1.heap.size, 0, none⟩) m m] (w2) _); refine (sumN (w := w1) (W := w2) (n := m) q2 ((hb2.block _ (L2a _ _)).trans (F2a _ _)) hm HF1.out HK1.out Tm HTm.out _).mono ?_; rintro e w3 ⟨rfl, hb3, q3, p3⟩)
    | (go_at_call 11; with_reducible (show Calls Tryd.prog 11 #[.slice (some ⟨w1.heap.size + 1, 0, none⟩) m m] (w2) _); refine (sumN (w := w1) (W := w2) (n := m) q2 ((hb2.block _ (L2b _ _)).trans (F2b _ _)) hm HF1.out HK1.out Tm HTm.out _).mono ?_; rintro e w3 ⟨rfl, hb3, q3, p3⟩)
    | (go_at_call 11; with_reducible (show Calls Tryd.prog 11 #[.slice (some ⟨w2.heap.size, 0, none⟩) m m] (w2.alloc _) _); refine (sumN (w := w1) (W := w2.alloc _) (g := w2.heap.size) (n := m) (q2.alloc q2.size _) (F0 _ _) hm HF1.out HK1.out Tm HTm.out _).mono ?_; rintro e w3 ⟨rfl, hb3, q3, p3⟩)
    | (go_at_call 11; with_reducible (show Calls Tryd.prog 11 #[.slice (some ⟨w1.heap.size, 0, none⟩) n n] ((w1.alloc _).drew) _); refine (sumN (w := w1) (n := n) (A1 _) (F1 _) hn HF1.out HK1.out Tn HTn.out _).mono ?_; rintro e w2 ⟨rfl, hb2, q2, p2⟩)
    | (go_at_call 11; with_reducible (show Calls Tryd.prog 11 #[.slice (some ⟨w1.heap.size, 0, none⟩) n n] (((w1.alloc _).alloc _).drew) _); refine (sumN (w := w1) (n := n) (A2 _ _) (F2a _ _) hn HF1.out HK1.out Tn HTn.out _).mono ?_; rintro e w2 ⟨rfl, hb2, q2, p2⟩)
    | (go_at_call 11; with_reducible (show Calls Tryd.prog 11 #[.slice (some ⟨w1.heap.size + 1, 0, none⟩) n n] (((w1.alloc _).alloc _).drew) _); refine (sumN (w := w1) (n := n) (A2 _ _) (F2b _ _) hn HF1.out HK1.out Tn HTn.out _).mono ?_; rintro e w2 ⟨rfl, hb2, q2, p2⟩)
    | (go_at_call 11; with_reducible (show Calls Tryd.prog 11 #[.slice (some ⟨w1.heap.size, 0, none⟩) m m] ((w1.alloc _).drew) _); refine (sumN (w := w1) (n := m) (A1 _) (F1 _) hm HF1.out HK1.out Tm HTm.out _).mono ?_; rintro e w2 ⟨rfl, hb2, q2, p2⟩)
    | (go_at_call 11; with_reducible (show Calls Tryd.prog 11 #[.slice (some ⟨w1.heap.size, 0, none⟩) m m] (((w1.alloc _).alloc _).drew) _); refine (sumN (w := w1) (n := m) (A2 _ _) (F2a _ _) hm HF1.out HK1.out Tm HTm.out _).mono ?_; rintro e w2 ⟨rfl, hb2, q2, p2⟩)
    | (go_at_call 11; with_reducible (show Calls Tryd.prog 11 #[.slice (some ⟨w1.heap.size + 1, 0, none⟩) m m] (((w1.alloc _).alloc _).drew) _); refine (sumN (w := w1) (n := m) (A2 _ _) (F2b _ _) hm HF1.out HK1.out Tm HTm.out _).mono ?_; rintro e w2 ⟨rfl, hb2, q2, p2⟩)))
  all_goals
    clear hb2 hb3 p2 p3
    go_wp2
    go_ret
    refine ⟨?_, b1.trans (q3.mono b1.size)⟩
    rw [HX2.out, show ((n : Int) == m) = decide ((n : Int) = m) by rw [Bool.eq_iff_iff]; simp]
    simp
theorem shaEnds_any (a0 a1 : Int) (w0 : (Lit.int .i64 a0).wf = true) (w1 : (Lit.int .i64 a1).wf = true) (w : World) (hF : LaidF w) (hK : LaidK w) :
    Calls Tryd.prog 8 #[.int .i64 a0, .int .i64 a1] w fun e w' => e = .returned (.bool true) ∧ Below w.heap.size w w' := by
  by_cases h : a0 < 0 ∨ (¬ a0 < 0 ∧ 200 < a0) ∨ (¬ a0 < 0 ∧ ¬ 200 < a0 ∧ a1 < 0) ∨ (¬ a0 < 0 ∧ ¬ 200 < a0 ∧ ¬ a1 < 0 ∧ 200 < a1)
  · exact shaEnds_out a0 a1 w hF hK h
  · obtain ⟨n, rfl⟩ := Int.eq_ofNat_of_zero_le (show 0 ≤ a0 by omega)
    obtain ⟨m, rfl⟩ := Int.eq_ofNat_of_zero_le (show 0 ≤ a1 by omega)
    exact shaEnds_in n m (by omega) (by omega) w hF hK
end Go.Proofs.YtbidgikibmicdaaDoor
