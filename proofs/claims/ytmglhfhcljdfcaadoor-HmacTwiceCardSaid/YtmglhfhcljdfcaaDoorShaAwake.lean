/- The chapter's examples, as the laws of sha ask them, hold. -/
import Derived.Test.YtmglhfhcljdfcaaDoorShaSumB
import Derived.Test.YtmglhfhcljdfcaaDoorNoughts
import Derived.Lib.SlBytesConst
namespace Go.Proofs.YtmglhfhcljdfcaaDoor
open Go.ChangeShapes Go.WideShapes Go.ChangeAt Go.RowKit
set_option linter.unusedVariables false
open Plain Sha
set_option maxRecDepth 100000 in
set_option maxHeartbeats 1000000 in
theorem begins_any (T : List Int) (hl : T.length = 32) (x : Int) (hx0 : 0 ≤ x) (hx1 : x < 4294967296) (h0 : T.getD 0 0 = x / 16777216 % 256) (h1 : T.getD 1 0 = x / 65536 % 256) (h2 : T.getD 2 0 = x / 256 % 256) (h3 : T.getD 3 0 = x % 256) (w : World) :
    Calls Tryd.prog 40 #[.agg (vals T).toArray, .int .u32 x] w fun e w' => e = .returned (.bool true) ∧ Below w.heap.size w w' := by
  have R := (Row8.new w T 25).range
  have c0 := R 0 _ (vals_at T 0 (by omega))
  have c1 := R 1 _ (vals_at T 1 (by omega))
  have c2 := R 2 _ (vals_at T 2 (by omega))
  have c3 := R 3 _ (vals_at T 3 (by omega))
  rw [h0] at c0
  rw [h1] at c1
  rw [h2] at c2
  rw [h3] at c3
  have HB : Hid (Below w.heap.size w (w.alloc (.cells (vals T).toArray 25))) := Lib.hid ((Below.refl _ _).alloc (Nat.le_refl _) _)
  clear R h0 h1 h2 h3 hl
  simp only [Nat.zero_add] at c0 c1 c2 c3
  go_enter Tryd.func40, Tryd.ntmps40
  go_wp2
  go_ret
  exact ⟨rfl, HB.out⟩
theorem u8_row' : (Tryd.prog.info? 5).map (fun i => (i.zero, i.size, i.bytes)) = some (some (.int .u8 0), 1, 1) := by kernel_rfl
theorem run_indexT (T : List Int) (hl : T.length = 32) (k : Nat) (hk : k < 32) (x : Int) (hx : T.getD k 0 = x) (w : World) :
    (Instr.index 25 (.agg (vals T).toArray) (.int .i64 (k : Int))).run Tryd.prog w = .ok (.int .u8 x) w := by
  obtain ⟨i, hi, hz, hs, hb⟩ := info_parts u8_row'
  have hx2 : (vals T)[k]? = some (.int .u8 x) := by rw [vals_at T k (by omega), hx]
  have h0 : (0 : Int) ≤ (k : Int) ∧ (k : Int) < 32 := by omega
  simp [Instr.index, run_underlying Tryd.underlying25, asIntOf, h0, sizeOf, typeInfo, hi, hs, part, isAgg, run_underlying Tryd.underlying5, hx2, go_sem]
  intro h; omega
theorem bs_newF (w : World) (zs : List Int) (n : Nat) (hn : zs.length = n) (h : IsBytes zs) (t : TypeId) (fr : Nat × Nat) (g : Nat) (hg : w.heap.size = g) : Bs (w.alloc (.cells (vals zs).toArray t fr)) (g + 1) (some ⟨g, 0, none⟩) n zs := by
  subst hg
  exact ⟨hn, fun j hj => h j (by omega), fun _ => ⟨w.heap.size, 0, rfl, by omega, fun j hj => by
    have hh : (w.alloc (.cells (vals zs).toArray t fr)).cell? ⟨w.heap.size, 0 + j, none⟩ = (vals zs).toArray[0 + j]? := cell_of_row _ _ _ _ _ _ (heap_alloc_new w _)
    rw [hh, Nat.zero_add]
    simp [vals, List.getElem?_map, List.getD_eq_getElem?_getD, List.getElem?_eq_getElem (show j < zs.length by omega)]⟩⟩
theorem laid_both {w w' : World} (hF : LaidF w) (hK : LaidK w) (hb : Below w.heap.size w w') : LaidF w' ∧ LaidK w' := ⟨hF.below hb hF.lt, hK.below hb hK.lt⟩
theorem bytes_abc : IsBytes [97, 98, 99] := by unfold IsBytes; decide
theorem bytes_two : IsBytes m_two := by unfold IsBytes m_two; decide
set_option maxRecDepth 100000 in
set_option maxHeartbeats 2000000 in
theorem shaAwake_any (w : World) (hF : LaidF w) (hK : LaidK w) : Calls Tryd.prog 22 #[] w fun e w' => e = .returned (.bool true) ∧ Below w.heap.size w w' := by
  obtain ⟨T0, hT0⟩ : ∃ T, shaZ [] = T := ⟨_, rfl⟩
  obtain ⟨T1, hT1⟩ : ∃ T, shaZ [97, 98, 99] = T := ⟨_, rfl⟩
  obtain ⟨T2, hT2⟩ : ∃ T, shaZ m_two = T := ⟨_, rfl⟩
  have l0 : Hid (T0.length = 32) := Lib.hid (by rw [← hT0, tag_nil]; rfl)
  have l1 : Hid (T1.length = 32) := Lib.hid (by rw [← hT1, tag_abc]; rfl)
  have l2 : Hid (T2.length = 32) := Lib.hid (by rw [← hT2, tag_two]; rfl)
  have g0 : Hid (T0.getD 0 0 = 3820012610 / 16777216 % 256 ∧ T0.getD 1 0 = 3820012610 / 65536 % 256 ∧ T0.getD 2 0 = 3820012610 / 256 % 256 ∧ T0.getD 3 0 = 3820012610 % 256 ∧ T0.getD 31 0 = 85) := Lib.hid (by rw [← hT0, tag_nil]; decide)
  have g1 : Hid (T1.getD 0 0 = 3128432319 / 16777216 % 256 ∧ T1.getD 1 0 = 3128432319 / 65536 % 256 ∧ T1.getD 2 0 = 3128432319 / 256 % 256 ∧ T1.getD 3 0 = 3128432319 % 256 ∧ T1.getD 31 0 = 173) := Lib.hid (by rw [← hT1, tag_abc]; decide)
  have g2 : Hid (T2.getD 0 0 = 613247585 / 16777216 % 256 ∧ T2.getD 1 0 = 613247585 / 65536 % 256 ∧ T2.getD 2 0 = 613247585 / 256 % 256 ∧ T2.getD 3 0 = 613247585 % 256) := Lib.hid (by rw [← hT2, tag_two]; decide)
  have H0 := Lib.hid hT0
  have H1 := Lib.hid hT1
  have H2 := Lib.hid hT2
  have hi0 : ∀ w, (Instr.index 25 (.agg (vals T0).toArray) (.int .i64 31)).run Tryd.prog w = .ok (.int .u8 85) w := fun w => run_indexT T0 l0.out 31 (by omega) 85 g0.out.2.2.2.2 w
  have hi1 : ∀ w, (Instr.index 25 (.agg (vals T1).toArray) (.int .i64 31)).run Tryd.prog w = .ok (.int .u8 173) w := fun w => run_indexT T1 l1.out 31 (by omega) 173 g1.out.2.2.2.2 w
  have hcv := fun (w : World) (C : Array Value) (n c : Nat) => Go.Lib.run_convert_bytes_const (P := Tryd.prog) w 22 5 C n c Tryd.underlying22 Tryd.underlying5
  have HF := Lib.hid hF
  have HK := Lib.hid hK
  clear hT0 hT1 hT2 hF hK
  go_enter Tryd.func22, Tryd.ntmps22
  go_wp2_with fail
  refine (sumB_any 0 (Bs.nil (B := 0)) (by omega) (by omega) HF.out HK.out).mono ?_
  rw [H0.out]
  rintro e w1 ⟨rfl, b1⟩
  go_wp2_with fail
  refine (begins_any T0 l0.out _ (by omega) (by omega) g0.out.1 g0.out.2.1 g0.out.2.2.1 g0.out.2.2.2.1 _).mono ?_
  rintro e w2 ⟨rfl, b2⟩
  have q2 : Below w.heap.size w w2 := b1.trans (b2.mono b1.size)
  clear b1 b2
  go_wp2_with fail
  refine (sumB_any 3 (bs_newF w2 [97, 98, 99] 3 rfl bytes_abc 5 _ w2.heap.size rfl) (by simp) (by omega) (HF.out.below (q2.alloc q2.size _) HF.out.lt) (HK.out.below (q2.alloc q2.size _) HK.out.lt)).mono ?_
  rw [H1.out]
  rintro e w3 ⟨rfl, b3⟩
  have q3 : Below w.heap.size w w3 := (q2.alloc q2.size _).trans (b3.mono (by have := q2.size; simp; omega))
  clear q2 b3
  go_wp2_with fail
  refine (begins_any T1 l1.out _ (by omega) (by omega) g1.out.1 g1.out.2.1 g1.out.2.2.1 g1.out.2.2.2.1 _).mono ?_
  rintro e w4 ⟨rfl, b4⟩
  have q4 : Below w.heap.size w w4 := q3.trans (b4.mono q3.size)
  clear q3 b4
  go_wp2_with fail
  refine (sumB_any 56 (bs_newF w4 m_two 56 rfl bytes_two 5 _ w4.heap.size rfl) (by simp) (by omega) (HF.out.below (q4.alloc q4.size _) HF.out.lt) (HK.out.below (q4.alloc q4.size _) HK.out.lt)).mono ?_
  rw [H2.out]
  rintro e w5 ⟨rfl, b5⟩
  have q5 : Below w.heap.size w w5 := (q4.alloc q4.size _).trans (b5.mono (by have := q4.size; simp; omega))
  clear q4 b5
  go_wp2_with fail
  refine (begins_any T2 l2.out _ (by omega) (by omega) g2.out.1 g2.out.2.1 g2.out.2.2.1 g2.out.2.2.2 _).mono ?_
  rintro e w6 ⟨rfl, b6⟩
  have q6 : Below w.heap.size w w6 := q5.trans (b6.mono q5.size)
  clear q5 b6
  go_wp2_with fail
  refine (sumB_any 0 (Bs.nil (B := 0)) (by omega) (by omega) (HF.out.below q6 HF.out.lt) (HK.out.below q6 HK.out.lt)).mono ?_
  rw [H0.out]
  rintro e w7 ⟨rfl, b7⟩
  have q7 : Below w.heap.size w w7 := q6.trans (b7.mono q6.size)
  clear q6 b7
  go_wp2_with fail
  refine (sumB_any 3 (bs_newF w7 [97, 98, 99] 3 rfl bytes_abc 5 _ w7.heap.size rfl) (by simp) (by omega) (HF.out.below (q7.alloc q7.size _) HF.out.lt) (HK.out.below (q7.alloc q7.size _) HK.out.lt)).mono ?_
  rw [H1.out]
  rintro e w8 ⟨rfl, b8⟩
  have q8 : Below w.heap.size w w8 := (q7.alloc q7.size _).trans (b8.mono (by have := q7.size; simp; omega))
  clear q7 b8
  go_wp2
  go_ret
  exact ⟨rfl, q8⟩
end Go.Proofs.YtmglhfhcljdfcaaDoor
