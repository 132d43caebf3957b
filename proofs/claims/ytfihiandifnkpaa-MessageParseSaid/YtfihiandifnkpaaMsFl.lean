/- Which messages may be: the document's. Printed by gen_msfl.py. -/
import Derived.Test.YtfihiandifnkpaaMsT
import Derived.Test.YtfihiandifnkpaaMsR
import Derived.Test.YtfihiandifnkpaaMsZ2
import Derived.Test.YtfihiandifnkpaaMsG
namespace Go.Proofs.Ytfihiandifnkpaa
open Go.ChangeShapes Go.WideShapes Go.ChangeAt Go.RowKit
set_option linter.unusedVariables false
set_option maxRecDepth 100000
set_option linter.unusedSimpArgs false
open Plain Sha Ms
/-- A message's own fields alone. -/
def ownX (x : MX) : MX :=
  if x.kind = 1 ∨ x.kind = 6 then { mx0 with kind := x.kind, client := x.client, id := x.id, A := x.A, n := x.n, c := x.c, body := x.body }
  else if x.kind = 2 then { mx0 with kind := x.kind, upto := x.upto, frm := x.frm, EA := x.EA, en := x.en, ecp := x.ecp, es := x.es }
  else if x.kind = 3 then { mx0 with kind := x.kind, hav := x.hav, don := x.don }
  else if x.kind = 4 then { mx0 with kind := x.kind, ep := x.ep, MA := x.MA, mn := x.mn, mcp := x.mcp, ms := x.ms }
  else if x.kind = 5 then { mx0 with kind := x.kind, since := x.since }
  else { mx0 with kind := x.kind }
set_option maxHeartbeats 8000000 in
theorem fields_any (x : MX) (w : World) : Calls Try.prog 39 #[.agg (mc x).toArray] w (fun e w' => e = .returned (.agg (mc (ownX x)).toArray) ∧ Below w.heap.size w w') := by
  obtain ⟨W1, hW1⟩ : ∃ W, W = w.alloc (.cells (mc x).toArray 28) := ⟨_, rfl⟩
  obtain ⟨W2, hW2⟩ : ∃ W, W = W1.alloc (.cells #[.int .u8 0, .int .i64 0, .int .i64 0, .slice none 0 0, .int .i64 0, .int .i64 0, .slice none 0 0, .int .i64 0, .int .i64 0, .int .i64 0, .slice none 0 0, .int .i64 0] 28) := ⟨_, rfl⟩
  obtain ⟨g, hg⟩ : ∃ g, w.heap.size = g := ⟨_, rfl⟩
  have hz : W1.heap.size = g + 1 := by rw [hW1]; simp [hg]
  have hz2 : W2.heap.size = g + 1 + 1 := by rw [hW2]; simp [hz]
  have b1 := Lib.hid (show Below w.heap.size w W1 by rw [hW1]; exact below_one _ _)
  have b2 := Lib.hid (show Below w.heap.size w W2 by rw [hW2]; exact b1.out.trans ((below_one _ _).mono b1.out.size))
  have V1 := Lib.hid (show VBox W2 g 12 (mc x) by rw [hW2]; exact (show VBox W1 g 12 (mc x) by rw [hW1]; exact vbox_new _ _ _ _ _ hg rfl (by omega)).grow (below_one _ _))
  have V2 := Lib.hid (show VBox W2 (g + 1) 12 (mc mx0) by rw [hW2]; exact vbox_new _ (mc mx0) _ _ _ hz rfl (by omega))
  have Hg := Lib.hid hg
  have HW1 := Lib.hid hW1
  have HW2 := Lib.hid hW2
  have HZ2 := Lib.hid hz2
  clear hW1 hW2 hg hz hz2
  go_enter Try.func39, Try.ntmps39
  go_upto_region 1 with fail
  rw [← HW1.out, ← HW2.out, Hg.out]
  obtain ⟨q0, q1, q2, q3, q4, q5, q6, q7, q8, q9, q10, q11⟩ := V1.out.m
  go_upto_region 2 with fail
  obtain ⟨kd, hkd⟩ : ∃ k, x.kind = k := ⟨_, rfl⟩
  rw [hkd]
  obtain ⟨W3, hW3⟩ : ∃ W, W = W2.alloc (.cells #[.int .u8 kd, .int .i64 0, .int .i64 0, .slice none 0 0, .int .i64 0, .int .i64 0, .slice none 0 0, .int .i64 0, .int .i64 0, .int .i64 0, .slice none 0 0, .int .i64 0] 28) := ⟨_, rfl⟩
  rw [← hW3, HZ2.out]
  have V3 := Lib.hid (show VBox W3 (g + 1 + 1) 12 (mc { mx0 with kind := kd }) by rw [hW3]; exact vbox_new _ (mc { mx0 with kind := kd }) _ _ _ HZ2.out rfl (by omega))
  have VA := Lib.hid (show VBox W3 g 12 (mc x) by rw [hW3]; exact V1.out.grow (below_one _ _))
  have VB := Lib.hid (show VBox W3 (g + 1) 12 (mc mx0) by rw [hW3]; exact V2.out.grow (below_one _ _))
  have b3 := Lib.hid (show Below w.heap.size w W3 by rw [hW3]; exact b2.out.trans ((below_one _ _).mono b2.out.size))
  clear V2 hW3 q0 q1 q2 q3 q4 q5 q6 q7 q8 q9 q10 q11
  have V2 := VB
  clear VB
  obtain ⟨q0, q1, q2, q3, q4, q5, q6, q7, q8, q9, q10, q11⟩ := VA.out.m
  rw [hkd] at q0
  by_cases e1 : kd = 1
  · subst e1
    have HO := Lib.hid (show ownX x = { mx0 with kind := 1, client := x.client, id := x.id, A := x.A, n := x.n, c := x.c, body := x.body } by unfold ownX; simp [hkd])
    go_upto_region 5 with fail
    have y1 := V3.out.fr1 (i := 1) (by omega)
    have x1 := V3.out.at1 (i := 1) rfl
    have y2 := V3.out.fr1 (i := 2) (by omega)
    have x2 := V3.out.at1 (i := 2) rfl
    have y3 := V3.out.fr1 (i := 3) (by omega)
    have x3 := V3.out.at1 (i := 3) rfl
    go_region
    go_upto_region 14 with fail
    obtain ⟨w8, hw8⟩ : ∃ W, W = (((W3.setCell ⟨g + 1 + 1, 1, none⟩ (.int .i64 x.client)).setCell ⟨g + 1 + 1, 2, none⟩ (.int .i64 x.id)).setCell ⟨g + 1 + 1, 3, none⟩ (.slice x.A x.n x.c)).drew := ⟨_, rfl⟩
    rw [← hw8]
    have V8 := Lib.hid (show VBox w8 (g + 1 + 1) 12 (mc (ownX x)) by rw [hw8, HO.out]; exact (VBox.same (((V3.out.set1 (i := 1) (by omega) (.int .i64 x.client)).set1 (i := 2) (by omega) (.int .i64 x.id)).set1 (i := 3) (by omega) (.slice x.A x.n x.c)) rfl))
    have V8b := Lib.hid (show VBox w8 (g + 1) 12 (mc mx0) by rw [hw8]; exact V2.out.same ((Below.heap_setCell _ _ _ _ (by show g + 1 ≠ g + 1 + 1; omega)).trans ((Below.heap_setCell _ _ _ _ (by show g + 1 ≠ g + 1 + 1; omega)).trans (Below.heap_setCell _ _ _ _ (by show g + 1 ≠ g + 1 + 1; omega)))))
    have b8 := Lib.hid (show Below w.heap.size w w8 by rw [hw8]; exact (below_drewN (((b3.out.setCell (p := ⟨g + 1 + 1, 1, none⟩) (by rw [Hg.out]; show g ≤ g + 1 + 1; omega) (.int .i64 x.client)).setCell (p := ⟨g + 1 + 1, 2, none⟩) (by rw [Hg.out]; show g ≤ g + 1 + 1; omega) (.int .i64 x.id)).setCell (p := ⟨g + 1 + 1, 3, none⟩) (by rw [Hg.out]; show g ≤ g + 1 + 1; omega) (.slice x.A x.n x.c)) 1))
    clear q0 q1 q2 q3 q4 q5 q6 q7 q8 q9 q10 q11 x1 y1 x2 y2 x3 y3 hw8
    have VT := Lib.hid (vthere V8b.out (us := mc (ownX x)) rfl)
    go_wp2_with (first
          | (with_reducible show wpList _ _ _ (⟨some 50, .load 28 (.tmp 3), _, _, _, _⟩ :: _) _ _; refine wpList_load_mid (op := ⟨some 50, .load 28 (.tmp 3), _, _, _, _⟩) rfl 28 (.tmp 3) rfl (g + 1 + 1) (0) rfl (mc (ownX x)) _ (V8.out.range) Try.underlying28 rfl (m_size _) ?_)
          | (with_reducible show wpList _ _ _ (⟨none, .store 28 (.tmp 2) (.tmp 50), _, _, _, _⟩ :: _) _ _; refine wpList_store_as (op := ⟨none, .store 28 (.tmp 2) (.tmp 50), _, _, _, _⟩) rfl 28 (.tmp 2) (.tmp 50) rfl (g + 1) 0 (mc (ownX x)).toArray rfl rfl (VT.out) (m_sizeA _) (m_oneA _) ?_; intro w9 hw9))
    obtain ⟨V9, b9⟩ := vstored V8b.out rfl hw9 (by rw [Hg.out]; omega) b8.out
    exact bodyPost_ret (v := .agg (mc (ownX x)).toArray) (results_mid (p := 2) (ty := 28) rfl _ _ (g + 1) 0 (mc (ownX x)) _ rfl V9.range Try.underlying28 rfl (m_size _)) rfl ⟨rfl, b9⟩
  · by_cases e6 : kd = 6
    · subst e6
      have HO := Lib.hid (show ownX x = { mx0 with kind := 6, client := x.client, id := x.id, A := x.A, n := x.n, c := x.c, body := x.body } by unfold ownX; simp [hkd])
      go_upto_region 5 with fail
      have y1 := V3.out.fr1 (i := 1) (by omega)
      have x1 := V3.out.at1 (i := 1) rfl
      have y2 := V3.out.fr1 (i := 2) (by omega)
      have x2 := V3.out.at1 (i := 2) rfl
      have y3 := V3.out.fr1 (i := 3) (by omega)
      have x3 := V3.out.at1 (i := 3) rfl
      go_region
      go_upto_region 14 with fail
      obtain ⟨w8, hw8⟩ : ∃ W, W = (((W3.setCell ⟨g + 1 + 1, 1, none⟩ (.int .i64 x.client)).setCell ⟨g + 1 + 1, 2, none⟩ (.int .i64 x.id)).setCell ⟨g + 1 + 1, 3, none⟩ (.slice x.A x.n x.c)).drew := ⟨_, rfl⟩
      rw [← hw8]
      have V8 := Lib.hid (show VBox w8 (g + 1 + 1) 12 (mc (ownX x)) by rw [hw8, HO.out]; exact (VBox.same (((V3.out.set1 (i := 1) (by omega) (.int .i64 x.client)).set1 (i := 2) (by omega) (.int .i64 x.id)).set1 (i := 3) (by omega) (.slice x.A x.n x.c)) rfl))
      have V8b := Lib.hid (show VBox w8 (g + 1) 12 (mc mx0) by rw [hw8]; exact V2.out.same ((Below.heap_setCell _ _ _ _ (by show g + 1 ≠ g + 1 + 1; omega)).trans ((Below.heap_setCell _ _ _ _ (by show g + 1 ≠ g + 1 + 1; omega)).trans (Below.heap_setCell _ _ _ _ (by show g + 1 ≠ g + 1 + 1; omega)))))
      have b8 := Lib.hid (show Below w.heap.size w w8 by rw [hw8]; exact (below_drewN (((b3.out.setCell (p := ⟨g + 1 + 1, 1, none⟩) (by rw [Hg.out]; show g ≤ g + 1 + 1; omega) (.int .i64 x.client)).setCell (p := ⟨g + 1 + 1, 2, none⟩) (by rw [Hg.out]; show g ≤ g + 1 + 1; omega) (.int .i64 x.id)).setCell (p := ⟨g + 1 + 1, 3, none⟩) (by rw [Hg.out]; show g ≤ g + 1 + 1; omega) (.slice x.A x.n x.c)) 1))
      clear q0 q1 q2 q3 q4 q5 q6 q7 q8 q9 q10 q11 x1 y1 x2 y2 x3 y3 hw8
      have VT := Lib.hid (vthere V8b.out (us := mc (ownX x)) rfl)
      go_wp2_with (first
            | (with_reducible show wpList _ _ _ (⟨some 50, .load 28 (.tmp 3), _, _, _, _⟩ :: _) _ _; refine wpList_load_mid (op := ⟨some 50, .load 28 (.tmp 3), _, _, _, _⟩) rfl 28 (.tmp 3) rfl (g + 1 + 1) (0) rfl (mc (ownX x)) _ (V8.out.range) Try.underlying28 rfl (m_size _) ?_)
            | (with_reducible show wpList _ _ _ (⟨none, .store 28 (.tmp 2) (.tmp 50), _, _, _, _⟩ :: _) _ _; refine wpList_store_as (op := ⟨none, .store 28 (.tmp 2) (.tmp 50), _, _, _, _⟩) rfl 28 (.tmp 2) (.tmp 50) rfl (g + 1) 0 (mc (ownX x)).toArray rfl rfl (VT.out) (m_sizeA _) (m_oneA _) ?_; intro w9 hw9))
      obtain ⟨V9, b9⟩ := vstored V8b.out rfl hw9 (by rw [Hg.out]; omega) b8.out
      exact bodyPost_ret (v := .agg (mc (ownX x)).toArray) (results_mid (p := 2) (ty := 28) rfl _ _ (g + 1) 0 (mc (ownX x)) _ rfl V9.range Try.underlying28 rfl (m_size _)) rfl ⟨rfl, b9⟩
    · by_cases e2 : kd = 2
      · subst e2
        have HO := Lib.hid (show ownX x = { mx0 with kind := 2, upto := x.upto, frm := x.frm, EA := x.EA, en := x.en, ecp := x.ecp, es := x.es } by unfold ownX; simp [hkd])
        go_upto_region 7 with fail
        have y4 := V3.out.fr1 (i := 4) (by omega)
        have x4 := V3.out.at1 (i := 4) rfl
        have y5 := V3.out.fr1 (i := 5) (by omega)
        have x5 := V3.out.at1 (i := 5) rfl
        have y6 := V3.out.fr1 (i := 6) (by omega)
        have x6 := V3.out.at1 (i := 6) rfl
        go_region
        go_upto_region 14 with fail
        obtain ⟨w8, hw8⟩ : ∃ W, W = (((W3.setCell ⟨g + 1 + 1, 4, none⟩ (.int .i64 x.upto)).setCell ⟨g + 1 + 1, 5, none⟩ (.int .i64 x.frm)).setCell ⟨g + 1 + 1, 6, none⟩ (.slice x.EA x.en x.ecp)).drew := ⟨_, rfl⟩
        rw [← hw8]
        have V8 := Lib.hid (show VBox w8 (g + 1 + 1) 12 (mc (ownX x)) by rw [hw8, HO.out]; exact (VBox.same (((V3.out.set1 (i := 4) (by omega) (.int .i64 x.upto)).set1 (i := 5) (by omega) (.int .i64 x.frm)).set1 (i := 6) (by omega) (.slice x.EA x.en x.ecp)) rfl))
        have V8b := Lib.hid (show VBox w8 (g + 1) 12 (mc mx0) by rw [hw8]; exact V2.out.same ((Below.heap_setCell _ _ _ _ (by show g + 1 ≠ g + 1 + 1; omega)).trans ((Below.heap_setCell _ _ _ _ (by show g + 1 ≠ g + 1 + 1; omega)).trans (Below.heap_setCell _ _ _ _ (by show g + 1 ≠ g + 1 + 1; omega)))))
        have b8 := Lib.hid (show Below w.heap.size w w8 by rw [hw8]; exact (below_drewN (((b3.out.setCell (p := ⟨g + 1 + 1, 4, none⟩) (by rw [Hg.out]; show g ≤ g + 1 + 1; omega) (.int .i64 x.upto)).setCell (p := ⟨g + 1 + 1, 5, none⟩) (by rw [Hg.out]; show g ≤ g + 1 + 1; omega) (.int .i64 x.frm)).setCell (p := ⟨g + 1 + 1, 6, none⟩) (by rw [Hg.out]; show g ≤ g + 1 + 1; omega) (.slice x.EA x.en x.ecp)) 1))
        clear q0 q1 q2 q3 q4 q5 q6 q7 q8 q9 q10 q11 x4 y4 x5 y5 x6 y6 hw8
        have VT := Lib.hid (vthere V8b.out (us := mc (ownX x)) rfl)
        go_wp2_with (first
              | (with_reducible show wpList _ _ _ (⟨some 50, .load 28 (.tmp 3), _, _, _, _⟩ :: _) _ _; refine wpList_load_mid (op := ⟨some 50, .load 28 (.tmp 3), _, _, _, _⟩) rfl 28 (.tmp 3) rfl (g + 1 + 1) (0) rfl (mc (ownX x)) _ (V8.out.range) Try.underlying28 rfl (m_size _) ?_)
              | (with_reducible show wpList _ _ _ (⟨none, .store 28 (.tmp 2) (.tmp 50), _, _, _, _⟩ :: _) _ _; refine wpList_store_as (op := ⟨none, .store 28 (.tmp 2) (.tmp 50), _, _, _, _⟩) rfl 28 (.tmp 2) (.tmp 50) rfl (g + 1) 0 (mc (ownX x)).toArray rfl rfl (VT.out) (m_sizeA _) (m_oneA _) ?_; intro w9 hw9))
        obtain ⟨V9, b9⟩ := vstored V8b.out rfl hw9 (by rw [Hg.out]; omega) b8.out
        exact bodyPost_ret (v := .agg (mc (ownX x)).toArray) (results_mid (p := 2) (ty := 28) rfl _ _ (g + 1) 0 (mc (ownX x)) _ rfl V9.range Try.underlying28 rfl (m_size _)) rfl ⟨rfl, b9⟩
      · by_cases e3 : kd = 3
        · subst e3
          have HO := Lib.hid (show ownX x = { mx0 with kind := 3, hav := x.hav, don := x.don } by unfold ownX; simp [hkd])
          go_upto_region 9 with fail
          have y7 := V3.out.fr1 (i := 7) (by omega)
          have x7 := V3.out.at1 (i := 7) rfl
          have y8 := V3.out.fr1 (i := 8) (by omega)
          have x8 := V3.out.at1 (i := 8) rfl
          go_region
          go_upto_region 14 with fail
          obtain ⟨w8, hw8⟩ : ∃ W, W = ((W3.setCell ⟨g + 1 + 1, 7, none⟩ (.int .i64 x.hav)).setCell ⟨g + 1 + 1, 8, none⟩ (.int .i64 x.don)).drew := ⟨_, rfl⟩
          rw [← hw8]
          have V8 := Lib.hid (show VBox w8 (g + 1 + 1) 12 (mc (ownX x)) by rw [hw8, HO.out]; exact (VBox.same ((V3.out.set1 (i := 7) (by omega) (.int .i64 x.hav)).set1 (i := 8) (by omega) (.int .i64 x.don)) rfl))
          have V8b := Lib.hid (show VBox w8 (g + 1) 12 (mc mx0) by rw [hw8]; exact V2.out.same ((Below.heap_setCell _ _ _ _ (by show g + 1 ≠ g + 1 + 1; omega)).trans (Below.heap_setCell _ _ _ _ (by show g + 1 ≠ g + 1 + 1; omega))))
          have b8 := Lib.hid (show Below w.heap.size w w8 by rw [hw8]; exact (below_drewN ((b3.out.setCell (p := ⟨g + 1 + 1, 7, none⟩) (by rw [Hg.out]; show g ≤ g + 1 + 1; omega) (.int .i64 x.hav)).setCell (p := ⟨g + 1 + 1, 8, none⟩) (by rw [Hg.out]; show g ≤ g + 1 + 1; omega) (.int .i64 x.don)) 1))
          clear q0 q1 q2 q3 q4 q5 q6 q7 q8 q9 q10 q11 x7 y7 x8 y8 hw8
          have VT := Lib.hid (vthere V8b.out (us := mc (ownX x)) rfl)
          go_wp2_with (first
                | (with_reducible show wpList _ _ _ (⟨some 50, .load 28 (.tmp 3), _, _, _, _⟩ :: _) _ _; refine wpList_load_mid (op := ⟨some 50, .load 28 (.tmp 3), _, _, _, _⟩) rfl 28 (.tmp 3) rfl (g + 1 + 1) (0) rfl (mc (ownX x)) _ (V8.out.range) Try.underlying28 rfl (m_size _) ?_)
                | (with_reducible show wpList _ _ _ (⟨none, .store 28 (.tmp 2) (.tmp 50), _, _, _, _⟩ :: _) _ _; refine wpList_store_as (op := ⟨none, .store 28 (.tmp 2) (.tmp 50), _, _, _, _⟩) rfl 28 (.tmp 2) (.tmp 50) rfl (g + 1) 0 (mc (ownX x)).toArray rfl rfl (VT.out) (m_sizeA _) (m_oneA _) ?_; intro w9 hw9))
          obtain ⟨V9, b9⟩ := vstored V8b.out rfl hw9 (by rw [Hg.out]; omega) b8.out
          exact bodyPost_ret (v := .agg (mc (ownX x)).toArray) (results_mid (p := 2) (ty := 28) rfl _ _ (g + 1) 0 (mc (ownX x)) _ rfl V9.range Try.underlying28 rfl (m_size _)) rfl ⟨rfl, b9⟩
        · by_cases e4 : kd = 4
          · subst e4
            have HO := Lib.hid (show ownX x = { mx0 with kind := 4, ep := x.ep, MA := x.MA, mn := x.mn, mcp := x.mcp, ms := x.ms } by unfold ownX; simp [hkd])
            go_upto_region 11 with fail
            have y9 := V3.out.fr1 (i := 9) (by omega)
            have x9 := V3.out.at1 (i := 9) rfl
            have y10 := V3.out.fr1 (i := 10) (by omega)
            have x10 := V3.out.at1 (i := 10) rfl
            have TT := V3.out.thereI (i := 9) (n := 2) (by omega)
            go_upto_region 14 with fail
            obtain ⟨w8, hw8⟩ : ∃ W, W = ((W3.setCell ⟨g + 1 + 1, 9, none⟩ (.int .i64 x.ep)).setCell ⟨g + 1 + 1, 10, none⟩ (.slice x.MA x.mn x.mcp)) := ⟨_, rfl⟩
            rw [← hw8]
            have V8 := Lib.hid (show VBox w8 (g + 1 + 1) 12 (mc (ownX x)) by rw [hw8, HO.out]; exact ((V3.out.set1 (i := 9) (by omega) (.int .i64 x.ep)).set1 (i := 10) (by omega) (.slice x.MA x.mn x.mcp)))
            have V8b := Lib.hid (show VBox w8 (g + 1) 12 (mc mx0) by rw [hw8]; exact V2.out.same ((Below.heap_setCell _ _ _ _ (by show g + 1 ≠ g + 1 + 1; omega)).trans (Below.heap_setCell _ _ _ _ (by show g + 1 ≠ g + 1 + 1; omega))))
            have b8 := Lib.hid (show Below w.heap.size w w8 by rw [hw8]; exact ((b3.out.setCell (p := ⟨g + 1 + 1, 9, none⟩) (by rw [Hg.out]; show g ≤ g + 1 + 1; omega) (.int .i64 x.ep)).setCell (p := ⟨g + 1 + 1, 10, none⟩) (by rw [Hg.out]; show g ≤ g + 1 + 1; omega) (.slice x.MA x.mn x.mcp)))
            clear q0 q1 q2 q3 q4 q5 q6 q7 q8 q9 q10 q11 x9 y9 x10 y10 hw8
            have VT := Lib.hid (vthere V8b.out (us := mc (ownX x)) rfl)
            go_wp2_with (first
                  | (with_reducible show wpList _ _ _ (⟨some 50, .load 28 (.tmp 3), _, _, _, _⟩ :: _) _ _; refine wpList_load_mid (op := ⟨some 50, .load 28 (.tmp 3), _, _, _, _⟩) rfl 28 (.tmp 3) rfl (g + 1 + 1) (0) rfl (mc (ownX x)) _ (V8.out.range) Try.underlying28 rfl (m_size _) ?_)
                  | (with_reducible show wpList _ _ _ (⟨none, .store 28 (.tmp 2) (.tmp 50), _, _, _, _⟩ :: _) _ _; refine wpList_store_as (op := ⟨none, .store 28 (.tmp 2) (.tmp 50), _, _, _, _⟩) rfl 28 (.tmp 2) (.tmp 50) rfl (g + 1) 0 (mc (ownX x)).toArray rfl rfl (VT.out) (m_sizeA _) (m_oneA _) ?_; intro w9 hw9))
            obtain ⟨V9, b9⟩ := vstored V8b.out rfl hw9 (by rw [Hg.out]; omega) b8.out
            exact bodyPost_ret (v := .agg (mc (ownX x)).toArray) (results_mid (p := 2) (ty := 28) rfl _ _ (g + 1) 0 (mc (ownX x)) _ rfl V9.range Try.underlying28 rfl (m_size _)) rfl ⟨rfl, b9⟩
          · by_cases e5 : kd = 5
            · subst e5
              have HO := Lib.hid (show ownX x = { mx0 with kind := 5, since := x.since } by unfold ownX; simp [hkd])
              go_upto_region 13 with fail
              have y11 := V3.out.fr1 (i := 11) (by omega)
              have x11 := V3.out.at1 (i := 11) rfl
              go_upto_region 14 with fail
              obtain ⟨w8, hw8⟩ : ∃ W, W = (W3.setCell ⟨g + 1 + 1, 11, none⟩ (.int .i64 x.since)) := ⟨_, rfl⟩
              rw [← hw8]
              have V8 := Lib.hid (show VBox w8 (g + 1 + 1) 12 (mc (ownX x)) by rw [hw8, HO.out]; exact (V3.out.set1 (i := 11) (by omega) (.int .i64 x.since)))
              have V8b := Lib.hid (show VBox w8 (g + 1) 12 (mc mx0) by rw [hw8]; exact V2.out.same (Below.heap_setCell _ _ _ _ (by show g + 1 ≠ g + 1 + 1; omega)))
              have b8 := Lib.hid (show Below w.heap.size w w8 by rw [hw8]; exact (b3.out.setCell (p := ⟨g + 1 + 1, 11, none⟩) (by rw [Hg.out]; show g ≤ g + 1 + 1; omega) (.int .i64 x.since)))
              clear q0 q1 q2 q3 q4 q5 q6 q7 q8 q9 q10 q11 x11 y11 hw8
              have VT := Lib.hid (vthere V8b.out (us := mc (ownX x)) rfl)
              go_wp2_with (first
                    | (with_reducible show wpList _ _ _ (⟨some 50, .load 28 (.tmp 3), _, _, _, _⟩ :: _) _ _; refine wpList_load_mid (op := ⟨some 50, .load 28 (.tmp 3), _, _, _, _⟩) rfl 28 (.tmp 3) rfl (g + 1 + 1) (0) rfl (mc (ownX x)) _ (V8.out.range) Try.underlying28 rfl (m_size _) ?_)
                    | (with_reducible show wpList _ _ _ (⟨none, .store 28 (.tmp 2) (.tmp 50), _, _, _, _⟩ :: _) _ _; refine wpList_store_as (op := ⟨none, .store 28 (.tmp 2) (.tmp 50), _, _, _, _⟩) rfl 28 (.tmp 2) (.tmp 50) rfl (g + 1) 0 (mc (ownX x)).toArray rfl rfl (VT.out) (m_sizeA _) (m_oneA _) ?_; intro w9 hw9))
              obtain ⟨V9, b9⟩ := vstored V8b.out rfl hw9 (by rw [Hg.out]; omega) b8.out
              exact bodyPost_ret (v := .agg (mc (ownX x)).toArray) (results_mid (p := 2) (ty := 28) rfl _ _ (g + 1) 0 (mc (ownX x)) _ rfl V9.range Try.underlying28 rfl (m_size _)) rfl ⟨rfl, b9⟩
            · have HO := Lib.hid (show ownX x = { mx0 with kind := kd } by unfold ownX; simp [hkd, e1, e6, e2, e3, e4, e5])
              go_upto_region 14 with fail
              obtain ⟨w8, hw8⟩ : ∃ W, W = W3 := ⟨_, rfl⟩
              rw [← hw8]
              have V8 := Lib.hid (show VBox w8 (g + 1 + 1) 12 (mc (ownX x)) by rw [hw8, HO.out]; exact V3.out)
              have V8b := Lib.hid (show VBox w8 (g + 1) 12 (mc mx0) by rw [hw8]; exact V2.out.same rfl)
              have b8 := Lib.hid (show Below w.heap.size w w8 by rw [hw8]; exact b3.out)
              clear q0 q1 q2 q3 q4 q5 q6 q7 q8 q9 q10 q11  hw8
              have VT := Lib.hid (vthere V8b.out (us := mc (ownX x)) rfl)
              go_wp2_with (first
                    | (with_reducible show wpList _ _ _ (⟨some 50, .load 28 (.tmp 3), _, _, _, _⟩ :: _) _ _; refine wpList_load_mid (op := ⟨some 50, .load 28 (.tmp 3), _, _, _, _⟩) rfl 28 (.tmp 3) rfl (g + 1 + 1) (0) rfl (mc (ownX x)) _ (V8.out.range) Try.underlying28 rfl (m_size _) ?_)
                    | (with_reducible show wpList _ _ _ (⟨none, .store 28 (.tmp 2) (.tmp 50), _, _, _, _⟩ :: _) _ _; refine wpList_store_as (op := ⟨none, .store 28 (.tmp 2) (.tmp 50), _, _, _, _⟩) rfl 28 (.tmp 2) (.tmp 50) rfl (g + 1) 0 (mc (ownX x)).toArray rfl rfl (VT.out) (m_sizeA _) (m_oneA _) ?_; intro w9 hw9))
              obtain ⟨V9, b9⟩ := vstored V8b.out rfl hw9 (by rw [Hg.out]; omega) b8.out
              exact bodyPost_ret (v := .agg (mc (ownX x)).toArray) (results_mid (p := 2) (ty := 28) rfl _ _ (g + 1) 0 (mc (ownX x)) _ rfl V9.range Try.underlying28 rfl (m_size _)) rfl ⟨rfl, b9⟩
end Go.Proofs.Ytfihiandifnkpaa
