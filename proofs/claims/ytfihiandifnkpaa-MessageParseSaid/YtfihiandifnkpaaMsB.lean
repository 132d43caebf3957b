/- No field but a Kind's own. Printed by gen_msb.py. -/
import Derived.Test.YtfihiandifnkpaaMsA
namespace Go.Proofs.Ytfihiandifnkpaa
open Go.ChangeShapes Go.WideShapes Go.ChangeAt Go.RowKit
set_option linter.unusedVariables false
set_option maxRecDepth 100000
set_option linter.unusedSimpArgs false
open Plain Sha Ms
namespace Ms
def noneX (x : MX) : Bool := decide (x.client = 0) && decide (x.id = 0) && decide (x.n = 0) && decide (x.upto = 0) && decide (x.frm = 0) && decide (x.en = 0) && decide (x.hav = 0) && decide (x.don = 0) && decide (x.ep = 0) && decide (x.mn = 0) && decide (x.since = 0)
def othX (k : Int) (x : MX) : MX :=
  if k = 1 ∨ k = 6 then { x with client := 0, id := 0, A := none, n := 0, c := 0, body := [] }
  else if k = 2 then { x with upto := 0, frm := 0, EA := none, en := 0, ecp := 0, es := [] }
  else if k = 3 then { x with hav := 0, don := 0 }
  else if k = 4 then { x with ep := 0, MA := none, mn := 0, mcp := 0, ms := [] }
  else { x with since := 0 }
end Ms
set_option maxHeartbeats 4000000 in
theorem none_any (x : MX) (q : Bool) (hq : noneX x = q) (w : World) : Calls Try.prog 43 #[.agg (mc x).toArray] w (fun e w' => e = .returned (.bool q) ∧ Below w.heap.size w w') := by
  obtain ⟨W1, hW1⟩ : ∃ W, W = w.alloc (.cells (mc x).toArray 28) := ⟨_, rfl⟩
  have b1 := Lib.hid (show Below w.heap.size w W1 by rw [hW1]; exact below_one _ _)
  obtain ⟨g, hg⟩ : ∃ g, w.heap.size = g := ⟨_, rfl⟩
  have Hg := Lib.hid hg
  have V1 := Lib.hid (show VBox W1 g 12 (mc x) by rw [hW1]; exact vbox_new _ _ _ _ _ hg rfl (by omega))
  have z1 := Lib.hid (show W1.heap.size = g + 1 by rw [hW1]; simp [hg])
  have HW1 := Lib.hid hW1
  obtain ⟨q0, q1, q2, q3, q4, q5, q6, q7, q8, q9, q10, q11⟩ := V1.out.m
  clear hW1 hg
  have HQ := Lib.hid hq
  clear hq
  unfold noneX at HQ
  by_cases h0 : x.client = 0
  · by_cases h1 : x.id = 0
    · by_cases h2 : x.n = 0
      · have i2 : (x.n : Int) = 0 := by omega
        by_cases h3 : x.upto = 0
        · by_cases h4 : x.frm = 0
          · by_cases h5 : x.en = 0
            · have i5 : (x.en : Int) = 0 := by omega
              by_cases h6 : x.hav = 0
              · by_cases h7 : x.don = 0
                · by_cases h8 : x.ep = 0
                  · by_cases h9 : x.mn = 0
                    · have i9 : (x.mn : Int) = 0 := by omega
                      have e : decide (x.since = 0) = q := by rw [← HQ.out]; simp [h0, h1, h2, h3, h4, h5, h6, h7, h8, h9]
                      clear HQ
                      go_enter Try.func43, Try.ntmps43
                      go_upto_region 1 with fail
                      rw [← HW1.out, Hg.out]
                      go_wp2
                      go_ret
                      exact ⟨(by rw [← e]; rfl), b1.out⟩
                    · have i9 : ¬ (x.mn : Int) = 0 := by omega
                      have e : false = q := by rw [← HQ.out]; simp [h0, h1, h2, h3, h4, h5, h6, h7, h8, h9]
                      subst e
                      clear HQ
                      go_enter Try.func43, Try.ntmps43
                      go_upto_region 1 with fail
                      rw [← HW1.out, Hg.out]
                      go_wp2
                      go_ret
                      exact ⟨rfl, b1.out⟩
                  · have e : false = q := by rw [← HQ.out]; simp [h0, h1, h2, h3, h4, h5, h6, h7, h8]
                    subst e
                    clear HQ
                    go_enter Try.func43, Try.ntmps43
                    go_upto_region 1 with fail
                    rw [← HW1.out, Hg.out]
                    go_wp2
                    go_ret
                    exact ⟨rfl, b1.out⟩
                · have e : false = q := by rw [← HQ.out]; simp [h0, h1, h2, h3, h4, h5, h6, h7]
                  subst e
                  clear HQ
                  go_enter Try.func43, Try.ntmps43
                  go_upto_region 1 with fail
                  rw [← HW1.out, Hg.out]
                  go_wp2
                  go_ret
                  exact ⟨rfl, b1.out⟩
              · have e : false = q := by rw [← HQ.out]; simp [h0, h1, h2, h3, h4, h5, h6]
                subst e
                clear HQ
                go_enter Try.func43, Try.ntmps43
                go_upto_region 1 with fail
                rw [← HW1.out, Hg.out]
                go_wp2
                go_ret
                exact ⟨rfl, b1.out⟩
            · have i5 : ¬ (x.en : Int) = 0 := by omega
              have e : false = q := by rw [← HQ.out]; simp [h0, h1, h2, h3, h4, h5]
              subst e
              clear HQ
              go_enter Try.func43, Try.ntmps43
              go_upto_region 1 with fail
              rw [← HW1.out, Hg.out]
              go_wp2
              go_ret
              exact ⟨rfl, b1.out⟩
          · have e : false = q := by rw [← HQ.out]; simp [h0, h1, h2, h3, h4]
            subst e
            clear HQ
            go_enter Try.func43, Try.ntmps43
            go_upto_region 1 with fail
            rw [← HW1.out, Hg.out]
            go_wp2
            go_ret
            exact ⟨rfl, b1.out⟩
        · have e : false = q := by rw [← HQ.out]; simp [h0, h1, h2, h3]
          subst e
          clear HQ
          go_enter Try.func43, Try.ntmps43
          go_upto_region 1 with fail
          rw [← HW1.out, Hg.out]
          go_wp2
          go_ret
          exact ⟨rfl, b1.out⟩
      · have i2 : ¬ (x.n : Int) = 0 := by omega
        have e : false = q := by rw [← HQ.out]; simp [h0, h1, h2]
        subst e
        clear HQ
        go_enter Try.func43, Try.ntmps43
        go_upto_region 1 with fail
        rw [← HW1.out, Hg.out]
        go_wp2
        go_ret
        exact ⟨rfl, b1.out⟩
    · have e : false = q := by rw [← HQ.out]; simp [h0, h1]
      subst e
      clear HQ
      go_enter Try.func43, Try.ntmps43
      go_upto_region 1 with fail
      rw [← HW1.out, Hg.out]
      go_wp2
      go_ret
      exact ⟨rfl, b1.out⟩
  · have e : false = q := by rw [← HQ.out]; simp [h0]
    subst e
    clear HQ
    go_enter Try.func43, Try.ntmps43
    go_upto_region 1 with fail
    rw [← HW1.out, Hg.out]
    go_wp2
    go_ret
    exact ⟨rfl, b1.out⟩
theorem mayid_any (c i : Int) (q : Bool) (hq : cliB c i = q) (w : World) : Calls Try.prog 63 #[.int .i64 c, .int .i64 i] w (Says (.bool q) w) := by
  have HQ := Lib.hid hq
  clear hq
  unfold cliB at HQ
  by_cases h0 : 0 ≤ c
  · by_cases h1 : c < 4
    · have e : decide (1 ≤ i) = q := by rw [← HQ.out]; simp [h0, h1]
      clear HQ
      go_enter Try.func63, Try.ntmps63
      go_wp2
      go_ret
      exact ⟨(by rw [← e]; rfl), rfl⟩
    · have e : false = q := by rw [← HQ.out]; simp [h0, h1]
      subst e
      clear HQ
      go_enter Try.func63, Try.ntmps63
      go_wp2
      go_ret
      exact ⟨rfl, rfl⟩
  · have e : false = q := by rw [← HQ.out]; simp [h0]
    subst e
    clear HQ
    go_enter Try.func63, Try.ntmps63
    go_wp2
    go_ret
    exact ⟨rfl, rfl⟩
theorem rclient_any (c i : Int) (q : Bool) (hq : cliB c i = q) (w : World) : Calls Try.prog 40 #[.int .i64 c, .int .i64 i] w (Says (.bool q) w) := by
  have HQ := Lib.hid hq
  clear hq
  unfold cliB at HQ
  by_cases h0 : 0 ≤ c
  · by_cases h1 : c < 4
    · have i1 : c ≤ 3 := by omega
      have e : decide (1 ≤ i) = q := by rw [← HQ.out]; simp [h0, h1]
      clear HQ
      go_enter Try.func40, Try.ntmps40
      go_wp2
      go_ret
      exact ⟨(by rw [← e]; rfl), rfl⟩
    · have i1 : ¬ c ≤ 3 := by omega
      have e : false = q := by rw [← HQ.out]; simp [h0, h1]
      subst e
      clear HQ
      go_enter Try.func40, Try.ntmps40
      go_wp2
      go_ret
      exact ⟨rfl, rfl⟩
  · have e : false = q := by rw [← HQ.out]; simp [h0]
    subst e
    clear HQ
    go_enter Try.func40, Try.ntmps40
    go_wp2
    go_ret
    exact ⟨rfl, rfl⟩
set_option maxHeartbeats 4000000 in
theorem oth1_any (x : MX) (w : World) : Calls Try.prog 90 #[.agg (mc x).toArray] w (fun e w' => e = .returned (.agg (mc (othX 1 x)).toArray) ∧ Below w.heap.size w w') := by
  obtain ⟨W1, hW1⟩ : ∃ W, W = w.alloc (.cells (mc (othX 1 x)).toArray 28) := ⟨_, rfl⟩
  obtain ⟨W2, hW2⟩ : ∃ W, W = W1.alloc (.cells #[.int .u8 0, .int .i64 0, .int .i64 0, .slice none 0 0, .int .i64 0, .int .i64 0, .slice none 0 0, .int .i64 0, .int .i64 0, .int .i64 0, .slice none 0 0, .int .i64 0] 28) := ⟨_, rfl⟩
  obtain ⟨g, hg⟩ : ∃ g, w.heap.size = g := ⟨_, rfl⟩
  have hz : W1.heap.size = g + 1 := by rw [hW1]; simp [hg]
  have b1 := Lib.hid (show Below w.heap.size w W1 by rw [hW1]; exact below_one _ _)
  have b2 := Lib.hid (show Below w.heap.size w W2 by rw [hW2]; exact b1.out.trans ((below_one _ _).mono b1.out.size))
  have V1 := Lib.hid (show VBox W2 g 12 (mc (othX 1 x)) by rw [hW2]; exact (show VBox W1 g 12 (mc (othX 1 x)) by rw [hW1]; exact vbox_new _ _ _ _ _ hg rfl (by omega)).grow (below_one _ _))
  have V2 := Lib.hid (show VBox W2 (g + 1) 12 (mc mx0) by rw [hW2]; exact vbox_new _ (mc mx0) _ _ _ hz rfl (by omega))
  have Hg := Lib.hid hg
  have HW1 := Lib.hid hW1
  have HW2 := Lib.hid hW2
  have VT := Lib.hid (vthere V2.out (us := mc (othX 1 x)) rfl)
  clear hW1 hW2 hg hz
  have hs : (((mc x).set 1 (Value.int IntKind.i64 0)).set 2 (Value.int IntKind.i64 0)).set 3 (Value.slice none 0 0) = mc (othX 1 x) := rfl
  go_enter Try.func90, Try.ntmps90
  go_upto_region 2 with fail
  rw [← HW1.out, ← HW2.out, Hg.out]
  go_wp2_with (first
        | (with_reducible show wpList _ _ _ (⟨some 6, .load 28 (.tmp 1), _, _, _, _⟩ :: _) _ _; refine wpList_load_mid (op := ⟨some 6, .load 28 (.tmp 1), _, _, _, _⟩) rfl 28 (.tmp 1) rfl (g) (0) rfl (mc (othX 1 x)) _ (V1.out.range) Try.underlying28 rfl (m_size _) ?_)
        | (with_reducible show wpList _ _ _ (⟨none, .store 28 (.tmp 2) (.tmp 6), _, _, _, _⟩ :: _) _ _; refine wpList_store_as (op := ⟨none, .store 28 (.tmp 2) (.tmp 6), _, _, _, _⟩) rfl 28 (.tmp 2) (.tmp 6) rfl (g + 1) 0 (mc (othX 1 x)).toArray rfl rfl (VT.out) (m_sizeA _) (m_oneA _) ?_; intro w9 hw9))
  obtain ⟨V9, b9⟩ := vstored V2.out rfl hw9 (by rw [Hg.out]; omega) b2.out
  exact bodyPost_ret (v := .agg (mc (othX 1 x)).toArray) (results_mid (p := 2) (ty := 28) rfl _ _ (g + 1) 0 (mc (othX 1 x)) _ rfl V9.range Try.underlying28 rfl (m_size _)) rfl ⟨rfl, b9⟩
set_option maxHeartbeats 4000000 in
theorem oth2_any (x : MX) (w : World) : Calls Try.prog 94 #[.agg (mc x).toArray] w (fun e w' => e = .returned (.agg (mc (othX 2 x)).toArray) ∧ Below w.heap.size w w') := by
  obtain ⟨W1, hW1⟩ : ∃ W, W = w.alloc (.cells (mc (othX 2 x)).toArray 28) := ⟨_, rfl⟩
  obtain ⟨W2, hW2⟩ : ∃ W, W = W1.alloc (.cells #[.int .u8 0, .int .i64 0, .int .i64 0, .slice none 0 0, .int .i64 0, .int .i64 0, .slice none 0 0, .int .i64 0, .int .i64 0, .int .i64 0, .slice none 0 0, .int .i64 0] 28) := ⟨_, rfl⟩
  obtain ⟨g, hg⟩ : ∃ g, w.heap.size = g := ⟨_, rfl⟩
  have hz : W1.heap.size = g + 1 := by rw [hW1]; simp [hg]
  have b1 := Lib.hid (show Below w.heap.size w W1 by rw [hW1]; exact below_one _ _)
  have b2 := Lib.hid (show Below w.heap.size w W2 by rw [hW2]; exact b1.out.trans ((below_one _ _).mono b1.out.size))
  have V1 := Lib.hid (show VBox W2 g 12 (mc (othX 2 x)) by rw [hW2]; exact (show VBox W1 g 12 (mc (othX 2 x)) by rw [hW1]; exact vbox_new _ _ _ _ _ hg rfl (by omega)).grow (below_one _ _))
  have V2 := Lib.hid (show VBox W2 (g + 1) 12 (mc mx0) by rw [hW2]; exact vbox_new _ (mc mx0) _ _ _ hz rfl (by omega))
  have Hg := Lib.hid hg
  have HW1 := Lib.hid hW1
  have HW2 := Lib.hid hW2
  have VT := Lib.hid (vthere V2.out (us := mc (othX 2 x)) rfl)
  clear hW1 hW2 hg hz
  have hs : (((mc x).set 4 (Value.int IntKind.i64 0)).set 5 (Value.int IntKind.i64 0)).set 6 (Value.slice none 0 0) = mc (othX 2 x) := rfl
  go_enter Try.func94, Try.ntmps94
  go_upto_region 2 with fail
  rw [← HW1.out, ← HW2.out, Hg.out]
  go_wp2_with (first
        | (with_reducible show wpList _ _ _ (⟨some 6, .load 28 (.tmp 1), _, _, _, _⟩ :: _) _ _; refine wpList_load_mid (op := ⟨some 6, .load 28 (.tmp 1), _, _, _, _⟩) rfl 28 (.tmp 1) rfl (g) (0) rfl (mc (othX 2 x)) _ (V1.out.range) Try.underlying28 rfl (m_size _) ?_)
        | (with_reducible show wpList _ _ _ (⟨none, .store 28 (.tmp 2) (.tmp 6), _, _, _, _⟩ :: _) _ _; refine wpList_store_as (op := ⟨none, .store 28 (.tmp 2) (.tmp 6), _, _, _, _⟩) rfl 28 (.tmp 2) (.tmp 6) rfl (g + 1) 0 (mc (othX 2 x)).toArray rfl rfl (VT.out) (m_sizeA _) (m_oneA _) ?_; intro w9 hw9))
  obtain ⟨V9, b9⟩ := vstored V2.out rfl hw9 (by rw [Hg.out]; omega) b2.out
  exact bodyPost_ret (v := .agg (mc (othX 2 x)).toArray) (results_mid (p := 2) (ty := 28) rfl _ _ (g + 1) 0 (mc (othX 2 x)) _ rfl V9.range Try.underlying28 rfl (m_size _)) rfl ⟨rfl, b9⟩
set_option maxHeartbeats 4000000 in
theorem oth3_any (x : MX) (w : World) : Calls Try.prog 98 #[.agg (mc x).toArray] w (fun e w' => e = .returned (.agg (mc (othX 3 x)).toArray) ∧ Below w.heap.size w w') := by
  obtain ⟨W1, hW1⟩ : ∃ W, W = w.alloc (.cells (mc (othX 3 x)).toArray 28) := ⟨_, rfl⟩
  obtain ⟨W2, hW2⟩ : ∃ W, W = W1.alloc (.cells #[.int .u8 0, .int .i64 0, .int .i64 0, .slice none 0 0, .int .i64 0, .int .i64 0, .slice none 0 0, .int .i64 0, .int .i64 0, .int .i64 0, .slice none 0 0, .int .i64 0] 28) := ⟨_, rfl⟩
  obtain ⟨g, hg⟩ : ∃ g, w.heap.size = g := ⟨_, rfl⟩
  have hz : W1.heap.size = g + 1 := by rw [hW1]; simp [hg]
  have b1 := Lib.hid (show Below w.heap.size w W1 by rw [hW1]; exact below_one _ _)
  have b2 := Lib.hid (show Below w.heap.size w W2 by rw [hW2]; exact b1.out.trans ((below_one _ _).mono b1.out.size))
  have V1 := Lib.hid (show VBox W2 g 12 (mc (othX 3 x)) by rw [hW2]; exact (show VBox W1 g 12 (mc (othX 3 x)) by rw [hW1]; exact vbox_new _ _ _ _ _ hg rfl (by omega)).grow (below_one _ _))
  have V2 := Lib.hid (show VBox W2 (g + 1) 12 (mc mx0) by rw [hW2]; exact vbox_new _ (mc mx0) _ _ _ hz rfl (by omega))
  have Hg := Lib.hid hg
  have HW1 := Lib.hid hW1
  have HW2 := Lib.hid hW2
  have VT := Lib.hid (vthere V2.out (us := mc (othX 3 x)) rfl)
  clear hW1 hW2 hg hz
  have hs : ((mc x).set 7 (Value.int IntKind.i64 0)).set 8 (Value.int IntKind.i64 0) = mc (othX 3 x) := rfl
  go_enter Try.func98, Try.ntmps98
  go_upto_region 2 with fail
  rw [← HW1.out, ← HW2.out, Hg.out]
  go_wp2_with (first
        | (with_reducible show wpList _ _ _ (⟨some 5, .load 28 (.tmp 1), _, _, _, _⟩ :: _) _ _; refine wpList_load_mid (op := ⟨some 5, .load 28 (.tmp 1), _, _, _, _⟩) rfl 28 (.tmp 1) rfl (g) (0) rfl (mc (othX 3 x)) _ (V1.out.range) Try.underlying28 rfl (m_size _) ?_)
        | (with_reducible show wpList _ _ _ (⟨none, .store 28 (.tmp 2) (.tmp 5), _, _, _, _⟩ :: _) _ _; refine wpList_store_as (op := ⟨none, .store 28 (.tmp 2) (.tmp 5), _, _, _, _⟩) rfl 28 (.tmp 2) (.tmp 5) rfl (g + 1) 0 (mc (othX 3 x)).toArray rfl rfl (VT.out) (m_sizeA _) (m_oneA _) ?_; intro w9 hw9))
  obtain ⟨V9, b9⟩ := vstored V2.out rfl hw9 (by rw [Hg.out]; omega) b2.out
  exact bodyPost_ret (v := .agg (mc (othX 3 x)).toArray) (results_mid (p := 2) (ty := 28) rfl _ _ (g + 1) 0 (mc (othX 3 x)) _ rfl V9.range Try.underlying28 rfl (m_size _)) rfl ⟨rfl, b9⟩
set_option maxHeartbeats 4000000 in
theorem oth5_any (x : MX) (w : World) : Calls Try.prog 106 #[.agg (mc x).toArray] w (fun e w' => e = .returned (.agg (mc (othX 5 x)).toArray) ∧ Below w.heap.size w w') := by
  obtain ⟨W1, hW1⟩ : ∃ W, W = w.alloc (.cells (mc (othX 5 x)).toArray 28) := ⟨_, rfl⟩
  obtain ⟨W2, hW2⟩ : ∃ W, W = W1.alloc (.cells #[.int .u8 0, .int .i64 0, .int .i64 0, .slice none 0 0, .int .i64 0, .int .i64 0, .slice none 0 0, .int .i64 0, .int .i64 0, .int .i64 0, .slice none 0 0, .int .i64 0] 28) := ⟨_, rfl⟩
  obtain ⟨g, hg⟩ : ∃ g, w.heap.size = g := ⟨_, rfl⟩
  have hz : W1.heap.size = g + 1 := by rw [hW1]; simp [hg]
  have b1 := Lib.hid (show Below w.heap.size w W1 by rw [hW1]; exact below_one _ _)
  have b2 := Lib.hid (show Below w.heap.size w W2 by rw [hW2]; exact b1.out.trans ((below_one _ _).mono b1.out.size))
  have V1 := Lib.hid (show VBox W2 g 12 (mc (othX 5 x)) by rw [hW2]; exact (show VBox W1 g 12 (mc (othX 5 x)) by rw [hW1]; exact vbox_new _ _ _ _ _ hg rfl (by omega)).grow (below_one _ _))
  have V2 := Lib.hid (show VBox W2 (g + 1) 12 (mc mx0) by rw [hW2]; exact vbox_new _ (mc mx0) _ _ _ hz rfl (by omega))
  have Hg := Lib.hid hg
  have HW1 := Lib.hid hW1
  have HW2 := Lib.hid hW2
  have VT := Lib.hid (vthere V2.out (us := mc (othX 5 x)) rfl)
  clear hW1 hW2 hg hz
  have hs : (mc x).set 11 (Value.int IntKind.i64 0) = mc (othX 5 x) := rfl
  go_enter Try.func106, Try.ntmps106
  go_upto_region 2 with fail
  rw [← HW1.out, ← HW2.out, Hg.out]
  go_wp2_with (first
        | (with_reducible show wpList _ _ _ (⟨some 4, .load 28 (.tmp 1), _, _, _, _⟩ :: _) _ _; refine wpList_load_mid (op := ⟨some 4, .load 28 (.tmp 1), _, _, _, _⟩) rfl 28 (.tmp 1) rfl (g) (0) rfl (mc (othX 5 x)) _ (V1.out.range) Try.underlying28 rfl (m_size _) ?_)
        | (with_reducible show wpList _ _ _ (⟨none, .store 28 (.tmp 2) (.tmp 4), _, _, _, _⟩ :: _) _ _; refine wpList_store_as (op := ⟨none, .store 28 (.tmp 2) (.tmp 4), _, _, _, _⟩) rfl 28 (.tmp 2) (.tmp 4) rfl (g + 1) 0 (mc (othX 5 x)).toArray rfl rfl (VT.out) (m_sizeA _) (m_oneA _) ?_; intro w9 hw9))
  obtain ⟨V9, b9⟩ := vstored V2.out rfl hw9 (by rw [Hg.out]; omega) b2.out
  exact bodyPost_ret (v := .agg (mc (othX 5 x)).toArray) (results_mid (p := 2) (ty := 28) rfl _ _ (g + 1) 0 (mc (othX 5 x)) _ rfl V9.range Try.underlying28 rfl (m_size _)) rfl ⟨rfl, b9⟩
set_option maxHeartbeats 4000000 in
theorem oth4_any (x : MX) (w : World) : Calls Try.prog 102 #[.agg (mc x).toArray] w (fun e w' => e = .returned (.agg (mc (othX 4 x)).toArray) ∧ Below w.heap.size w w') := by
  obtain ⟨W1, hW1⟩ : ∃ W, W = w.alloc (.cells (mc x).toArray 28) := ⟨_, rfl⟩
  obtain ⟨W2, hW2⟩ : ∃ W, W = W1.alloc (.cells #[.int .u8 0, .int .i64 0, .int .i64 0, .slice none 0 0, .int .i64 0, .int .i64 0, .slice none 0 0, .int .i64 0, .int .i64 0, .int .i64 0, .slice none 0 0, .int .i64 0] 28) := ⟨_, rfl⟩
  obtain ⟨g, hg⟩ : ∃ g, w.heap.size = g := ⟨_, rfl⟩
  have hz : W1.heap.size = g + 1 := by rw [hW1]; simp [hg]
  have b1 := Lib.hid (show Below w.heap.size w W1 by rw [hW1]; exact below_one _ _)
  have b2 := Lib.hid (show Below w.heap.size w W2 by rw [hW2]; exact b1.out.trans ((below_one _ _).mono b1.out.size))
  have V1 := Lib.hid (show VBox W2 g 12 (mc x) by rw [hW2]; exact (show VBox W1 g 12 (mc x) by rw [hW1]; exact vbox_new _ _ _ _ _ hg rfl (by omega)).grow (below_one _ _))
  have V2 := Lib.hid (show VBox W2 (g + 1) 12 (mc mx0) by rw [hW2]; exact vbox_new _ (mc mx0) _ _ _ hz rfl (by omega))
  have Hg := Lib.hid hg
  have HW1 := Lib.hid hW1
  have HW2 := Lib.hid hW2
  have VT := Lib.hid (vthere V2.out (us := mc (othX 4 x)) rfl)
  clear hW1 hW2 hg hz
  have T9 := Lib.hid (V1.out.thereI (i := 9) (n := 2) (by omega))
  go_enter Try.func102, Try.ntmps102
  go_upto_region 1 with fail
  rw [← HW1.out, ← HW2.out, Hg.out]
  have x9 := V1.out.at1 (i := 9) rfl
  have y9 := V1.out.fr1 (i := 9) (by omega)
  have V1a := Lib.hid (V1.out.set1 (i := 9) (by omega) (.int .i64 0))
  have x10 := V1a.out.at1 (i := 10) rfl
  have y10 := V1a.out.fr1 (i := 10) (by omega)
  go_upto_region 2 with fail
  obtain ⟨w8, hw8⟩ : ∃ W, W = (W2.setCell ⟨g, 9, none⟩ (.int .i64 0)).setCell ⟨g, 10, none⟩ (.slice none 0 0) := ⟨_, rfl⟩
  rw [← hw8]
  have V8 := Lib.hid (show VBox w8 g 12 (mc (othX 4 x)) by rw [hw8]; exact V1a.out.set1 (i := 10) (by omega) (.slice none 0 0))
  have V8b := Lib.hid (show VBox w8 (g + 1) 12 (mc mx0) by rw [hw8]; exact V2.out.same ((Below.heap_setCell _ _ _ _ (by show g + 1 ≠ g; omega)).trans (Below.heap_setCell _ _ _ _ (by show g + 1 ≠ g; omega))))
  have b8 := Lib.hid (show Below w.heap.size w w8 by rw [hw8]; exact (b2.out.setCell (p := ⟨g, 9, none⟩) (by rw [Hg.out]; exact Nat.le_refl _) _).setCell (p := ⟨g, 10, none⟩) (by rw [Hg.out]; exact Nat.le_refl _) _)
  clear x9 y9 x10 y10
  have VT := Lib.hid (vthere V8b.out (us := mc (othX 4 x)) rfl)
  clear hw8
  go_wp2_with (first
        | (with_reducible show wpList _ _ _ (⟨some 5, .load 28 (.tmp 1), _, _, _, _⟩ :: _) _ _; refine wpList_load_mid (op := ⟨some 5, .load 28 (.tmp 1), _, _, _, _⟩) rfl 28 (.tmp 1) rfl (g) (0) rfl (mc (othX 4 x)) _ (V8.out.range) Try.underlying28 rfl (m_size _) ?_)
        | (with_reducible show wpList _ _ _ (⟨none, .store 28 (.tmp 2) (.tmp 5), _, _, _, _⟩ :: _) _ _; refine wpList_store_as (op := ⟨none, .store 28 (.tmp 2) (.tmp 5), _, _, _, _⟩) rfl 28 (.tmp 2) (.tmp 5) rfl (g + 1) 0 (mc (othX 4 x)).toArray rfl rfl (VT.out) (m_sizeA _) (m_oneA _) ?_; intro w9 hw9))
  obtain ⟨V9, b9⟩ := vstored V8b.out rfl hw9 (by rw [Hg.out]; omega) b8.out
  exact bodyPost_ret (v := .agg (mc (othX 4 x)).toArray) (results_mid (p := 2) (ty := 28) rfl _ _ (g + 1) 0 (mc (othX 4 x)) _ rfl V9.range Try.underlying28 rfl (m_size _)) rfl ⟨rfl, b9⟩
end Go.Proofs.Ytfihiandifnkpaa
