/- Whether a message may be: the program's. Printed by gen_msg.py. -/
import Derived.Test.YtfihiandifnkpaaMsF
namespace Go.Proofs.Ytfihiandifnkpaa
open Go.ChangeShapes Go.WideShapes Go.ChangeAt Go.RowKit
set_option linter.unusedVariables false
set_option maxRecDepth 100000
set_option linter.unusedSimpArgs false
open Plain Sha Ms
/-- What a Kind's function asks. -/
def AskK (w : World) (F : FuncId) (x : MX) : Prop := ∀ W, Below w.heap.size w W → Calls Try.prog F #[.agg (mc x).toArray] W (fun e w' => e = .returned (.bool (askM x.z)) ∧ Below W.heap.size W w')
section
variable {w : World} {B : Nat} {x : MX}
theorem askM_1 (h : x.kind = 1 ∨ x.kind = 6) (hl : x.body.length = x.n) : askM x.z = (cliB x.client x.id && decide (x.n ≤ 20000)) := by
  unfold askM
  rw [if_pos (show x.z.kind = 1 ∨ x.z.kind = 6 from h), ← hl]
  rfl
theorem askM_2 (h : x.kind = 2) : askM x.z = appB x.upto x.frm (x.es.map EX.z) := by
  have hk : x.z.kind = 2 := h
  unfold askM
  simp only [hk]
  rfl
theorem askM_3 (h : x.kind = 3) : askM x.z = (decide (0 ≤ x.don) && decide (x.don ≤ x.hav)) := by
  have hk : x.z.kind = 3 := h
  unfold askM
  simp only [hk]
  rfl
theorem askM_4 (h : x.kind = 4) : askM x.z = confB x.ep x.ms := by
  have hk : x.z.kind = 4 := h
  unfold askM
  simp only [hk]
  rfl
theorem askM_5 (h : x.kind = 5) : askM x.z = decide (1 ≤ x.since) := by
  have hk : x.z.kind = 5 := h
  unfold askM
  simp only [hk]
  rfl
theorem en_le (h : MXOk w B x) : x.en ≤ 9223372036854775807 := by have h1 := h.ecap; have h2 := h.emax; unfold maxLen at h2; omega
theorem askk_1 (h : MXOk w B x) (hk : x.kind = 1 ∨ x.kind = 6) : AskK w 91 x := fun W _ => ask1_any x _ (askM_1 hk h.body.len).symm W
theorem askk_2 (h : MXOk w B x) (hB : B ≤ w.heap.size) (hk : x.kind = 2) : AskK w 95 x := fun W hW => mayapp_any _ (h.below hW hB) (Nat.le_trans hB hW.size) (en_le h) (askM_2 hk).symm
theorem askk_3 (h : MXOk w B x) (hk : x.kind = 3) : AskK w 99 x := fun W _ => ask3_any x _ (askM_3 hk).symm W
theorem askk_4 (h : MXOk w B x) (hB : B ≤ w.heap.size) (hk : x.kind = 4) : AskK w 103 x := fun W hW => ask4_any _ (h.below hW hB) (Nat.le_trans hB hW.size) (askM_4 hk).symm
theorem askk_5 (h : MXOk w B x) (hk : x.kind = 5) : AskK w 107 x := fun W _ => ask5_any x _ (askM_5 hk).symm W
end
set_option maxHeartbeats 8000000 in
theorem may_any {w : World} {B : Nat} {x : MX} (q : Bool) (h : MXOk w B x) (hB : B ≤ w.heap.size) (hq : mayM x.z = q) : Calls Try.prog 13 #[.agg (mc x).toArray] w (fun e w' => e = .returned (.bool q) ∧ Below w.heap.size w w') := by
  obtain ⟨kv, hkv⟩ : ∃ b, kindB x.kind = b := ⟨_, rfl⟩
  obtain ⟨nv, hnv⟩ : ∃ b, noneX (othX x.kind x) = b := ⟨_, rfl⟩
  have HQ : Hid ((kv && nv && askM x.z) = q) := Lib.hid (by rw [← hq, ← hkv, ← hnv, none_oth h]; rfl)
  obtain ⟨W1, hW1⟩ : ∃ W, W = w.alloc (.cells (mc x).toArray 28) := ⟨_, rfl⟩
  have b1 := Lib.hid (show Below w.heap.size w W1 by rw [hW1]; exact below_one _ _)
  obtain ⟨g, hg⟩ : ∃ g, w.heap.size = g := ⟨_, rfl⟩
  have Hg := Lib.hid hg
  have V1 := Lib.hid (show VBox W1 g 12 (mc x) by rw [hW1]; exact vbox_new _ _ _ _ _ hg rfl (by omega))
  have z1 := Lib.hid (show W1.heap.size = g + 1 by rw [hW1]; simp [hg])
  have HW1 := Lib.hid hW1
  obtain ⟨q0, q1, q2, q3, q4, q5, q6, q7, q8, q9, q10, q11⟩ := V1.out.m
  clear hW1 hg
  have KO := Lib.hid (kindof_any x.kind W1)
  have NN := Lib.hid (none_any (othX x.kind x) nv hnv)
  have HK := Lib.hid h
  have HN := Lib.hid hnv
  rw [hkv] at KO
  clear h hq hnv
  cases kv with
  | false =>
    have e : false = q := by rw [← HQ.out]; rfl
    subst e
    rw [kcell_no hkv] at KO
    have KO := Lib.hid (show Calls Try.prog 41 #[.int .u8 x.kind] W1 (fun e w' => e = .returned (.tuple #[.agg #[.nilFunc, .nilFunc, .nilFunc, .nilFunc], .bool false]) ∧ Below W1.heap.size W1 w') from KO.out)
    have hst := fun (p : Addr) (W : World) => run_store Try.prog W p .nilFunc .plain rfl
    go_enter Try.func13, Try.ntmps13
    go_upto_region 1 with fail
    rw [← HW1.out, Hg.out]
    go_wp2_with (first
        | (go_at_call 41; refine KO.out.mono ?_; rintro e w5 ⟨rfl, hb⟩; have B5 := Lib.hid (b1.out.trans (hb.mono b1.out.size)); have V5 := Lib.hid (V1.out.grow hb); clear hb)
        | fail)
    go_ret
    exact ⟨rfl, B5.out.trans ((below_one _ _).mono B5.out.size)⟩
  | true =>
    rcases kind_cases hkv with hk | hk | hk | hk | hk | hk
    · have AK := Lib.hid (askk_1 (w := w) HK.out (.inl hk))
      have OT := Lib.hid (show ∀ W, Calls Try.prog 90 #[.agg (mc x).toArray] W (fun e w' => e = .returned (.agg (mc (othX x.kind x)).toArray) ∧ Below W.heap.size W w') from fun W => by rw [hk]; exact oth1_any x W)
      have KC : Hid (kcell x.kind = kc1) := Lib.hid (by rw [hk]; rfl)
      have KO := Lib.hid (show Calls Try.prog 41 #[.int .u8 x.kind] W1 (fun e w' => e = .returned (.tuple #[.agg #[.func (.func 90) #[] #[], .func (.func 91) #[] #[], .func (.func 92) #[] #[], .func (.func 93) #[] #[]], .bool true]) ∧ Below W1.heap.size W1 w') from by have := KO.out; rw [KC.out] at this; exact this)
      have hst := fun (f : Fn) (p : Addr) (W : World) => run_store Try.prog W p (.func f #[] #[]) .plain rfl
      clear hk hkv
      go_enter Try.func13, Try.ntmps13
      go_upto_region 1 with fail
      rw [← HW1.out, Hg.out]
      go_upto_region 2 with (first
          | (go_at_call 41; refine KO.out.mono ?_; rintro e w5 ⟨rfl, hb⟩; have B5 := Lib.hid (b1.out.trans (hb.mono b1.out.size)); have V5 := Lib.hid (V1.out.grow hb); clear hb)
          | fail)
      obtain ⟨w7, hw7⟩ : ∃ W, W = w5.alloc (.cells #[.func (.func 90) #[] #[], .func (.func 91) #[] #[], .func (.func 92) #[] #[], .func (.func 93) #[] #[]] 71) := ⟨_, rfl⟩
      have B7 := Lib.hid (show Below w.heap.size w w7 by rw [hw7]; exact B5.out.trans ((below_one _ _).mono B5.out.size))
      have V7 := Lib.hid (show VBox w7 w5.heap.size 4 kc1 by rw [hw7]; exact vbox_new w5 kc1 _ _ 4 rfl rfl (by omega))
      have V17 := Lib.hid (show VBox w7 g 12 (mc x) by rw [hw7]; exact V5.out.grow (below_one _ _))
      obtain ⟨g5, hg5⟩ : ∃ b, w5.heap.size = b := ⟨_, rfl⟩
      rw [← hw7, hg5]
      rw [hg5] at V7
      clear hw7 hg5 hst
      have x0 := V7.out.at1 (i := 0) rfl
      cases nv with
      | false =>
        have e : false = q := by rw [← HQ.out]; rfl
        subst e
        unfold fv at x0
        go_wp2_with (first
            | (with_reducible show wpList _ _ _ (⟨some 15, .load 28 (.tmp 1), _, _, _, _⟩ :: _) _ _; refine wpList_load_guardL (op := ⟨some 15, .load 28 (.tmp 1), _, _, _, some (1, true)⟩) (by first | rfl | go_simp) 28 (.tmp 1) rfl (g) (0) rfl (mc x) _ (V17.out.range) Try.underlying28 rfl (m_size _) ?_)
            | (go_at_call 90; refine (OT.out _).mono ?_; rintro e w8 ⟨rfl, hb⟩; have B8 := Lib.hid (B7.out.trans (hb.mono B7.out.size)); clear hb)
            | (go_at_call 43; refine (NN.out _).mono ?_; rintro e w9 ⟨rfl, hb⟩; have B9 := Lib.hid (B8.out.trans (hb.mono B8.out.size)); clear hb))
        go_ret
        exact ⟨rfl, B9.out⟩
      | true =>
        have e : askM x.z = q := by rw [← HQ.out]; rfl
        subst e
        unfold fv at x0
        go_wp2_with (first
            | (with_reducible show wpList _ _ _ (⟨some 15, .load 28 (.tmp 1), _, _, _, _⟩ :: _) _ _; refine wpList_load_guardL (op := ⟨some 15, .load 28 (.tmp 1), _, _, _, some (1, true)⟩) (by first | rfl | go_simp) 28 (.tmp 1) rfl (g) (0) rfl (mc x) _ (V17.out.range) Try.underlying28 rfl (m_size _) ?_)
            | (go_at_call 90; refine (OT.out _).mono ?_; rintro e w8 ⟨rfl, hb⟩; have B8 := Lib.hid (B7.out.trans (hb.mono B7.out.size)); have V18 := Lib.hid (V17.out.grow hb); have V8 := Lib.hid (V7.out.grow hb); clear hb)
            | (go_at_call 43; refine (NN.out _).mono ?_; rintro e w9 ⟨rfl, hb⟩; have B9 := Lib.hid (B8.out.trans (hb.mono B8.out.size)); have V19 := Lib.hid (V18.out.grow hb); have V9 := Lib.hid (V8.out.grow hb); clear hb; have x1 := V9.out.at1 (i := 1) rfl; unfold fv at x1)
            | (with_reducible show wpList _ _ _ (⟨some 22, .load 28 (.tmp 1), _, _, _, _⟩ :: _) _ _; refine wpList_load_guardL (op := ⟨some 22, .load 28 (.tmp 1), _, _, _, some (8, true)⟩) (by first | rfl | go_simp) 28 (.tmp 1) rfl (g) (0) rfl (mc x) _ (V19.out.range) Try.underlying28 rfl (m_size _) ?_)
            | (go_at_call 91; refine (AK.out _ B9.out).mono ?_; rintro e w10 ⟨rfl, hb⟩; have B10 := Lib.hid (B9.out.trans (hb.mono B9.out.size)); clear hb))
        go_ret
        exact ⟨rfl, B10.out⟩
    · have AK := Lib.hid (askk_2 HK.out hB hk)
      have OT := Lib.hid (show ∀ W, Calls Try.prog 94 #[.agg (mc x).toArray] W (fun e w' => e = .returned (.agg (mc (othX x.kind x)).toArray) ∧ Below W.heap.size W w') from fun W => by rw [hk]; exact oth2_any x W)
      have KC : Hid (kcell x.kind = kc2) := Lib.hid (by rw [hk]; rfl)
      have KO := Lib.hid (show Calls Try.prog 41 #[.int .u8 x.kind] W1 (fun e w' => e = .returned (.tuple #[.agg #[.func (.func 94) #[] #[], .func (.func 95) #[] #[], .func (.func 96) #[] #[], .func (.func 97) #[] #[]], .bool true]) ∧ Below W1.heap.size W1 w') from by have := KO.out; rw [KC.out] at this; exact this)
      have hst := fun (f : Fn) (p : Addr) (W : World) => run_store Try.prog W p (.func f #[] #[]) .plain rfl
      clear hk hkv
      go_enter Try.func13, Try.ntmps13
      go_upto_region 1 with fail
      rw [← HW1.out, Hg.out]
      go_upto_region 2 with (first
          | (go_at_call 41; refine KO.out.mono ?_; rintro e w5 ⟨rfl, hb⟩; have B5 := Lib.hid (b1.out.trans (hb.mono b1.out.size)); have V5 := Lib.hid (V1.out.grow hb); clear hb)
          | fail)
      obtain ⟨w7, hw7⟩ : ∃ W, W = w5.alloc (.cells #[.func (.func 94) #[] #[], .func (.func 95) #[] #[], .func (.func 96) #[] #[], .func (.func 97) #[] #[]] 71) := ⟨_, rfl⟩
      have B7 := Lib.hid (show Below w.heap.size w w7 by rw [hw7]; exact B5.out.trans ((below_one _ _).mono B5.out.size))
      have V7 := Lib.hid (show VBox w7 w5.heap.size 4 kc2 by rw [hw7]; exact vbox_new w5 kc2 _ _ 4 rfl rfl (by omega))
      have V17 := Lib.hid (show VBox w7 g 12 (mc x) by rw [hw7]; exact V5.out.grow (below_one _ _))
      obtain ⟨g5, hg5⟩ : ∃ b, w5.heap.size = b := ⟨_, rfl⟩
      rw [← hw7, hg5]
      rw [hg5] at V7
      clear hw7 hg5 hst
      have x0 := V7.out.at1 (i := 0) rfl
      cases nv with
      | false =>
        have e : false = q := by rw [← HQ.out]; rfl
        subst e
        unfold fv at x0
        go_wp2_with (first
            | (with_reducible show wpList _ _ _ (⟨some 15, .load 28 (.tmp 1), _, _, _, _⟩ :: _) _ _; refine wpList_load_guardL (op := ⟨some 15, .load 28 (.tmp 1), _, _, _, some (1, true)⟩) (by first | rfl | go_simp) 28 (.tmp 1) rfl (g) (0) rfl (mc x) _ (V17.out.range) Try.underlying28 rfl (m_size _) ?_)
            | (go_at_call 94; refine (OT.out _).mono ?_; rintro e w8 ⟨rfl, hb⟩; have B8 := Lib.hid (B7.out.trans (hb.mono B7.out.size)); clear hb)
            | (go_at_call 43; refine (NN.out _).mono ?_; rintro e w9 ⟨rfl, hb⟩; have B9 := Lib.hid (B8.out.trans (hb.mono B8.out.size)); clear hb))
        go_ret
        exact ⟨rfl, B9.out⟩
      | true =>
        have e : askM x.z = q := by rw [← HQ.out]; rfl
        subst e
        unfold fv at x0
        go_wp2_with (first
            | (with_reducible show wpList _ _ _ (⟨some 15, .load 28 (.tmp 1), _, _, _, _⟩ :: _) _ _; refine wpList_load_guardL (op := ⟨some 15, .load 28 (.tmp 1), _, _, _, some (1, true)⟩) (by first | rfl | go_simp) 28 (.tmp 1) rfl (g) (0) rfl (mc x) _ (V17.out.range) Try.underlying28 rfl (m_size _) ?_)
            | (go_at_call 94; refine (OT.out _).mono ?_; rintro e w8 ⟨rfl, hb⟩; have B8 := Lib.hid (B7.out.trans (hb.mono B7.out.size)); have V18 := Lib.hid (V17.out.grow hb); have V8 := Lib.hid (V7.out.grow hb); clear hb)
            | (go_at_call 43; refine (NN.out _).mono ?_; rintro e w9 ⟨rfl, hb⟩; have B9 := Lib.hid (B8.out.trans (hb.mono B8.out.size)); have V19 := Lib.hid (V18.out.grow hb); have V9 := Lib.hid (V8.out.grow hb); clear hb; have x1 := V9.out.at1 (i := 1) rfl; unfold fv at x1)
            | (with_reducible show wpList _ _ _ (⟨some 22, .load 28 (.tmp 1), _, _, _, _⟩ :: _) _ _; refine wpList_load_guardL (op := ⟨some 22, .load 28 (.tmp 1), _, _, _, some (8, true)⟩) (by first | rfl | go_simp) 28 (.tmp 1) rfl (g) (0) rfl (mc x) _ (V19.out.range) Try.underlying28 rfl (m_size _) ?_)
            | (go_at_call 95; refine (AK.out _ B9.out).mono ?_; rintro e w10 ⟨rfl, hb⟩; have B10 := Lib.hid (B9.out.trans (hb.mono B9.out.size)); clear hb))
        go_ret
        exact ⟨rfl, B10.out⟩
    · have AK := Lib.hid (askk_3 (w := w) HK.out hk)
      have OT := Lib.hid (show ∀ W, Calls Try.prog 98 #[.agg (mc x).toArray] W (fun e w' => e = .returned (.agg (mc (othX x.kind x)).toArray) ∧ Below W.heap.size W w') from fun W => by rw [hk]; exact oth3_any x W)
      have KC : Hid (kcell x.kind = kc3) := Lib.hid (by rw [hk]; rfl)
      have KO := Lib.hid (show Calls Try.prog 41 #[.int .u8 x.kind] W1 (fun e w' => e = .returned (.tuple #[.agg #[.func (.func 98) #[] #[], .func (.func 99) #[] #[], .func (.func 100) #[] #[], .func (.func 101) #[] #[]], .bool true]) ∧ Below W1.heap.size W1 w') from by have := KO.out; rw [KC.out] at this; exact this)
      have hst := fun (f : Fn) (p : Addr) (W : World) => run_store Try.prog W p (.func f #[] #[]) .plain rfl
      clear hk hkv
      go_enter Try.func13, Try.ntmps13
      go_upto_region 1 with fail
      rw [← HW1.out, Hg.out]
      go_upto_region 2 with (first
          | (go_at_call 41; refine KO.out.mono ?_; rintro e w5 ⟨rfl, hb⟩; have B5 := Lib.hid (b1.out.trans (hb.mono b1.out.size)); have V5 := Lib.hid (V1.out.grow hb); clear hb)
          | fail)
      obtain ⟨w7, hw7⟩ : ∃ W, W = w5.alloc (.cells #[.func (.func 98) #[] #[], .func (.func 99) #[] #[], .func (.func 100) #[] #[], .func (.func 101) #[] #[]] 71) := ⟨_, rfl⟩
      have B7 := Lib.hid (show Below w.heap.size w w7 by rw [hw7]; exact B5.out.trans ((below_one _ _).mono B5.out.size))
      have V7 := Lib.hid (show VBox w7 w5.heap.size 4 kc3 by rw [hw7]; exact vbox_new w5 kc3 _ _ 4 rfl rfl (by omega))
      have V17 := Lib.hid (show VBox w7 g 12 (mc x) by rw [hw7]; exact V5.out.grow (below_one _ _))
      obtain ⟨g5, hg5⟩ : ∃ b, w5.heap.size = b := ⟨_, rfl⟩
      rw [← hw7, hg5]
      rw [hg5] at V7
      clear hw7 hg5 hst
      have x0 := V7.out.at1 (i := 0) rfl
      cases nv with
      | false =>
        have e : false = q := by rw [← HQ.out]; rfl
        subst e
        unfold fv at x0
        go_wp2_with (first
            | (with_reducible show wpList _ _ _ (⟨some 15, .load 28 (.tmp 1), _, _, _, _⟩ :: _) _ _; refine wpList_load_guardL (op := ⟨some 15, .load 28 (.tmp 1), _, _, _, some (1, true)⟩) (by first | rfl | go_simp) 28 (.tmp 1) rfl (g) (0) rfl (mc x) _ (V17.out.range) Try.underlying28 rfl (m_size _) ?_)
            | (go_at_call 98; refine (OT.out _).mono ?_; rintro e w8 ⟨rfl, hb⟩; have B8 := Lib.hid (B7.out.trans (hb.mono B7.out.size)); clear hb)
            | (go_at_call 43; refine (NN.out _).mono ?_; rintro e w9 ⟨rfl, hb⟩; have B9 := Lib.hid (B8.out.trans (hb.mono B8.out.size)); clear hb))
        go_ret
        exact ⟨rfl, B9.out⟩
      | true =>
        have e : askM x.z = q := by rw [← HQ.out]; rfl
        subst e
        unfold fv at x0
        go_wp2_with (first
            | (with_reducible show wpList _ _ _ (⟨some 15, .load 28 (.tmp 1), _, _, _, _⟩ :: _) _ _; refine wpList_load_guardL (op := ⟨some 15, .load 28 (.tmp 1), _, _, _, some (1, true)⟩) (by first | rfl | go_simp) 28 (.tmp 1) rfl (g) (0) rfl (mc x) _ (V17.out.range) Try.underlying28 rfl (m_size _) ?_)
            | (go_at_call 98; refine (OT.out _).mono ?_; rintro e w8 ⟨rfl, hb⟩; have B8 := Lib.hid (B7.out.trans (hb.mono B7.out.size)); have V18 := Lib.hid (V17.out.grow hb); have V8 := Lib.hid (V7.out.grow hb); clear hb)
            | (go_at_call 43; refine (NN.out _).mono ?_; rintro e w9 ⟨rfl, hb⟩; have B9 := Lib.hid (B8.out.trans (hb.mono B8.out.size)); have V19 := Lib.hid (V18.out.grow hb); have V9 := Lib.hid (V8.out.grow hb); clear hb; have x1 := V9.out.at1 (i := 1) rfl; unfold fv at x1)
            | (with_reducible show wpList _ _ _ (⟨some 22, .load 28 (.tmp 1), _, _, _, _⟩ :: _) _ _; refine wpList_load_guardL (op := ⟨some 22, .load 28 (.tmp 1), _, _, _, some (8, true)⟩) (by first | rfl | go_simp) 28 (.tmp 1) rfl (g) (0) rfl (mc x) _ (V19.out.range) Try.underlying28 rfl (m_size _) ?_)
            | (go_at_call 99; refine (AK.out _ B9.out).mono ?_; rintro e w10 ⟨rfl, hb⟩; have B10 := Lib.hid (B9.out.trans (hb.mono B9.out.size)); clear hb))
        go_ret
        exact ⟨rfl, B10.out⟩
    · have AK := Lib.hid (askk_4 HK.out hB hk)
      have OT := Lib.hid (show ∀ W, Calls Try.prog 102 #[.agg (mc x).toArray] W (fun e w' => e = .returned (.agg (mc (othX x.kind x)).toArray) ∧ Below W.heap.size W w') from fun W => by rw [hk]; exact oth4_any x W)
      have KC : Hid (kcell x.kind = kc4) := Lib.hid (by rw [hk]; rfl)
      have KO := Lib.hid (show Calls Try.prog 41 #[.int .u8 x.kind] W1 (fun e w' => e = .returned (.tuple #[.agg #[.func (.func 102) #[] #[], .func (.func 103) #[] #[], .func (.func 104) #[] #[], .func (.func 105) #[] #[]], .bool true]) ∧ Below W1.heap.size W1 w') from by have := KO.out; rw [KC.out] at this; exact this)
      have hst := fun (f : Fn) (p : Addr) (W : World) => run_store Try.prog W p (.func f #[] #[]) .plain rfl
      clear hk hkv
      go_enter Try.func13, Try.ntmps13
      go_upto_region 1 with fail
      rw [← HW1.out, Hg.out]
      go_upto_region 2 with (first
          | (go_at_call 41; refine KO.out.mono ?_; rintro e w5 ⟨rfl, hb⟩; have B5 := Lib.hid (b1.out.trans (hb.mono b1.out.size)); have V5 := Lib.hid (V1.out.grow hb); clear hb)
          | fail)
      obtain ⟨w7, hw7⟩ : ∃ W, W = w5.alloc (.cells #[.func (.func 102) #[] #[], .func (.func 103) #[] #[], .func (.func 104) #[] #[], .func (.func 105) #[] #[]] 71) := ⟨_, rfl⟩
      have B7 := Lib.hid (show Below w.heap.size w w7 by rw [hw7]; exact B5.out.trans ((below_one _ _).mono B5.out.size))
      have V7 := Lib.hid (show VBox w7 w5.heap.size 4 kc4 by rw [hw7]; exact vbox_new w5 kc4 _ _ 4 rfl rfl (by omega))
      have V17 := Lib.hid (show VBox w7 g 12 (mc x) by rw [hw7]; exact V5.out.grow (below_one _ _))
      obtain ⟨g5, hg5⟩ : ∃ b, w5.heap.size = b := ⟨_, rfl⟩
      rw [← hw7, hg5]
      rw [hg5] at V7
      clear hw7 hg5 hst
      have x0 := V7.out.at1 (i := 0) rfl
      cases nv with
      | false =>
        have e : false = q := by rw [← HQ.out]; rfl
        subst e
        unfold fv at x0
        go_wp2_with (first
            | (with_reducible show wpList _ _ _ (⟨some 15, .load 28 (.tmp 1), _, _, _, _⟩ :: _) _ _; refine wpList_load_guardL (op := ⟨some 15, .load 28 (.tmp 1), _, _, _, some (1, true)⟩) (by first | rfl | go_simp) 28 (.tmp 1) rfl (g) (0) rfl (mc x) _ (V17.out.range) Try.underlying28 rfl (m_size _) ?_)
            | (go_at_call 102; refine (OT.out _).mono ?_; rintro e w8 ⟨rfl, hb⟩; have B8 := Lib.hid (B7.out.trans (hb.mono B7.out.size)); clear hb)
            | (go_at_call 43; refine (NN.out _).mono ?_; rintro e w9 ⟨rfl, hb⟩; have B9 := Lib.hid (B8.out.trans (hb.mono B8.out.size)); clear hb))
        go_ret
        exact ⟨rfl, B9.out⟩
      | true =>
        have e : askM x.z = q := by rw [← HQ.out]; rfl
        subst e
        unfold fv at x0
        go_wp2_with (first
            | (with_reducible show wpList _ _ _ (⟨some 15, .load 28 (.tmp 1), _, _, _, _⟩ :: _) _ _; refine wpList_load_guardL (op := ⟨some 15, .load 28 (.tmp 1), _, _, _, some (1, true)⟩) (by first | rfl | go_simp) 28 (.tmp 1) rfl (g) (0) rfl (mc x) _ (V17.out.range) Try.underlying28 rfl (m_size _) ?_)
            | (go_at_call 102; refine (OT.out _).mono ?_; rintro e w8 ⟨rfl, hb⟩; have B8 := Lib.hid (B7.out.trans (hb.mono B7.out.size)); have V18 := Lib.hid (V17.out.grow hb); have V8 := Lib.hid (V7.out.grow hb); clear hb)
            | (go_at_call 43; refine (NN.out _).mono ?_; rintro e w9 ⟨rfl, hb⟩; have B9 := Lib.hid (B8.out.trans (hb.mono B8.out.size)); have V19 := Lib.hid (V18.out.grow hb); have V9 := Lib.hid (V8.out.grow hb); clear hb; have x1 := V9.out.at1 (i := 1) rfl; unfold fv at x1)
            | (with_reducible show wpList _ _ _ (⟨some 22, .load 28 (.tmp 1), _, _, _, _⟩ :: _) _ _; refine wpList_load_guardL (op := ⟨some 22, .load 28 (.tmp 1), _, _, _, some (8, true)⟩) (by first | rfl | go_simp) 28 (.tmp 1) rfl (g) (0) rfl (mc x) _ (V19.out.range) Try.underlying28 rfl (m_size _) ?_)
            | (go_at_call 103; refine (AK.out _ B9.out).mono ?_; rintro e w10 ⟨rfl, hb⟩; have B10 := Lib.hid (B9.out.trans (hb.mono B9.out.size)); clear hb))
        go_ret
        exact ⟨rfl, B10.out⟩
    · have AK := Lib.hid (askk_5 (w := w) HK.out hk)
      have OT := Lib.hid (show ∀ W, Calls Try.prog 106 #[.agg (mc x).toArray] W (fun e w' => e = .returned (.agg (mc (othX x.kind x)).toArray) ∧ Below W.heap.size W w') from fun W => by rw [hk]; exact oth5_any x W)
      have KC : Hid (kcell x.kind = kc5) := Lib.hid (by rw [hk]; rfl)
      have KO := Lib.hid (show Calls Try.prog 41 #[.int .u8 x.kind] W1 (fun e w' => e = .returned (.tuple #[.agg #[.func (.func 106) #[] #[], .func (.func 107) #[] #[], .func (.func 108) #[] #[], .func (.func 109) #[] #[]], .bool true]) ∧ Below W1.heap.size W1 w') from by have := KO.out; rw [KC.out] at this; exact this)
      have hst := fun (f : Fn) (p : Addr) (W : World) => run_store Try.prog W p (.func f #[] #[]) .plain rfl
      clear hk hkv
      go_enter Try.func13, Try.ntmps13
      go_upto_region 1 with fail
      rw [← HW1.out, Hg.out]
      go_upto_region 2 with (first
          | (go_at_call 41; refine KO.out.mono ?_; rintro e w5 ⟨rfl, hb⟩; have B5 := Lib.hid (b1.out.trans (hb.mono b1.out.size)); have V5 := Lib.hid (V1.out.grow hb); clear hb)
          | fail)
      obtain ⟨w7, hw7⟩ : ∃ W, W = w5.alloc (.cells #[.func (.func 106) #[] #[], .func (.func 107) #[] #[], .func (.func 108) #[] #[], .func (.func 109) #[] #[]] 71) := ⟨_, rfl⟩
      have B7 := Lib.hid (show Below w.heap.size w w7 by rw [hw7]; exact B5.out.trans ((below_one _ _).mono B5.out.size))
      have V7 := Lib.hid (show VBox w7 w5.heap.size 4 kc5 by rw [hw7]; exact vbox_new w5 kc5 _ _ 4 rfl rfl (by omega))
      have V17 := Lib.hid (show VBox w7 g 12 (mc x) by rw [hw7]; exact V5.out.grow (below_one _ _))
      obtain ⟨g5, hg5⟩ : ∃ b, w5.heap.size = b := ⟨_, rfl⟩
      rw [← hw7, hg5]
      rw [hg5] at V7
      clear hw7 hg5 hst
      have x0 := V7.out.at1 (i := 0) rfl
      cases nv with
      | false =>
        have e : false = q := by rw [← HQ.out]; rfl
        subst e
        unfold fv at x0
        go_wp2_with (first
            | (with_reducible show wpList _ _ _ (⟨some 15, .load 28 (.tmp 1), _, _, _, _⟩ :: _) _ _; refine wpList_load_guardL (op := ⟨some 15, .load 28 (.tmp 1), _, _, _, some (1, true)⟩) (by first | rfl | go_simp) 28 (.tmp 1) rfl (g) (0) rfl (mc x) _ (V17.out.range) Try.underlying28 rfl (m_size _) ?_)
            | (go_at_call 106; refine (OT.out _).mono ?_; rintro e w8 ⟨rfl, hb⟩; have B8 := Lib.hid (B7.out.trans (hb.mono B7.out.size)); clear hb)
            | (go_at_call 43; refine (NN.out _).mono ?_; rintro e w9 ⟨rfl, hb⟩; have B9 := Lib.hid (B8.out.trans (hb.mono B8.out.size)); clear hb))
        go_ret
        exact ⟨rfl, B9.out⟩
      | true =>
        have e : askM x.z = q := by rw [← HQ.out]; rfl
        subst e
        unfold fv at x0
        go_wp2_with (first
            | (with_reducible show wpList _ _ _ (⟨some 15, .load 28 (.tmp 1), _, _, _, _⟩ :: _) _ _; refine wpList_load_guardL (op := ⟨some 15, .load 28 (.tmp 1), _, _, _, some (1, true)⟩) (by first | rfl | go_simp) 28 (.tmp 1) rfl (g) (0) rfl (mc x) _ (V17.out.range) Try.underlying28 rfl (m_size _) ?_)
            | (go_at_call 106; refine (OT.out _).mono ?_; rintro e w8 ⟨rfl, hb⟩; have B8 := Lib.hid (B7.out.trans (hb.mono B7.out.size)); have V18 := Lib.hid (V17.out.grow hb); have V8 := Lib.hid (V7.out.grow hb); clear hb)
            | (go_at_call 43; refine (NN.out _).mono ?_; rintro e w9 ⟨rfl, hb⟩; have B9 := Lib.hid (B8.out.trans (hb.mono B8.out.size)); have V19 := Lib.hid (V18.out.grow hb); have V9 := Lib.hid (V8.out.grow hb); clear hb; have x1 := V9.out.at1 (i := 1) rfl; unfold fv at x1)
            | (with_reducible show wpList _ _ _ (⟨some 22, .load 28 (.tmp 1), _, _, _, _⟩ :: _) _ _; refine wpList_load_guardL (op := ⟨some 22, .load 28 (.tmp 1), _, _, _, some (8, true)⟩) (by first | rfl | go_simp) 28 (.tmp 1) rfl (g) (0) rfl (mc x) _ (V19.out.range) Try.underlying28 rfl (m_size _) ?_)
            | (go_at_call 107; refine (AK.out _ B9.out).mono ?_; rintro e w10 ⟨rfl, hb⟩; have B10 := Lib.hid (B9.out.trans (hb.mono B9.out.size)); clear hb))
        go_ret
        exact ⟨rfl, B10.out⟩
    · have AK := Lib.hid (askk_1 (w := w) HK.out (.inr hk))
      have OT := Lib.hid (show ∀ W, Calls Try.prog 90 #[.agg (mc x).toArray] W (fun e w' => e = .returned (.agg (mc (othX x.kind x)).toArray) ∧ Below W.heap.size W w') from fun W => by rw [hk]; exact oth1_any x W)
      have KC : Hid (kcell x.kind = kc1) := Lib.hid (by rw [hk]; rfl)
      have KO := Lib.hid (show Calls Try.prog 41 #[.int .u8 x.kind] W1 (fun e w' => e = .returned (.tuple #[.agg #[.func (.func 90) #[] #[], .func (.func 91) #[] #[], .func (.func 92) #[] #[], .func (.func 93) #[] #[]], .bool true]) ∧ Below W1.heap.size W1 w') from by have := KO.out; rw [KC.out] at this; exact this)
      have hst := fun (f : Fn) (p : Addr) (W : World) => run_store Try.prog W p (.func f #[] #[]) .plain rfl
      clear hk hkv
      go_enter Try.func13, Try.ntmps13
      go_upto_region 1 with fail
      rw [← HW1.out, Hg.out]
      go_upto_region 2 with (first
          | (go_at_call 41; refine KO.out.mono ?_; rintro e w5 ⟨rfl, hb⟩; have B5 := Lib.hid (b1.out.trans (hb.mono b1.out.size)); have V5 := Lib.hid (V1.out.grow hb); clear hb)
          | fail)
      obtain ⟨w7, hw7⟩ : ∃ W, W = w5.alloc (.cells #[.func (.func 90) #[] #[], .func (.func 91) #[] #[], .func (.func 92) #[] #[], .func (.func 93) #[] #[]] 71) := ⟨_, rfl⟩
      have B7 := Lib.hid (show Below w.heap.size w w7 by rw [hw7]; exact B5.out.trans ((below_one _ _).mono B5.out.size))
      have V7 := Lib.hid (show VBox w7 w5.heap.size 4 kc1 by rw [hw7]; exact vbox_new w5 kc1 _ _ 4 rfl rfl (by omega))
      have V17 := Lib.hid (show VBox w7 g 12 (mc x) by rw [hw7]; exact V5.out.grow (below_one _ _))
      obtain ⟨g5, hg5⟩ : ∃ b, w5.heap.size = b := ⟨_, rfl⟩
      rw [← hw7, hg5]
      rw [hg5] at V7
      clear hw7 hg5 hst
      have x0 := V7.out.at1 (i := 0) rfl
      cases nv with
      | false =>
        have e : false = q := by rw [← HQ.out]; rfl
        subst e
        unfold fv at x0
        go_wp2_with (first
            | (with_reducible show wpList _ _ _ (⟨some 15, .load 28 (.tmp 1), _, _, _, _⟩ :: _) _ _; refine wpList_load_guardL (op := ⟨some 15, .load 28 (.tmp 1), _, _, _, some (1, true)⟩) (by first | rfl | go_simp) 28 (.tmp 1) rfl (g) (0) rfl (mc x) _ (V17.out.range) Try.underlying28 rfl (m_size _) ?_)
            | (go_at_call 90; refine (OT.out _).mono ?_; rintro e w8 ⟨rfl, hb⟩; have B8 := Lib.hid (B7.out.trans (hb.mono B7.out.size)); clear hb)
            | (go_at_call 43; refine (NN.out _).mono ?_; rintro e w9 ⟨rfl, hb⟩; have B9 := Lib.hid (B8.out.trans (hb.mono B8.out.size)); clear hb))
        go_ret
        exact ⟨rfl, B9.out⟩
      | true =>
        have e : askM x.z = q := by rw [← HQ.out]; rfl
        subst e
        unfold fv at x0
        go_wp2_with (first
            | (with_reducible show wpList _ _ _ (⟨some 15, .load 28 (.tmp 1), _, _, _, _⟩ :: _) _ _; refine wpList_load_guardL (op := ⟨some 15, .load 28 (.tmp 1), _, _, _, some (1, true)⟩) (by first | rfl | go_simp) 28 (.tmp 1) rfl (g) (0) rfl (mc x) _ (V17.out.range) Try.underlying28 rfl (m_size _) ?_)
            | (go_at_call 90; refine (OT.out _).mono ?_; rintro e w8 ⟨rfl, hb⟩; have B8 := Lib.hid (B7.out.trans (hb.mono B7.out.size)); have V18 := Lib.hid (V17.out.grow hb); have V8 := Lib.hid (V7.out.grow hb); clear hb)
            | (go_at_call 43; refine (NN.out _).mono ?_; rintro e w9 ⟨rfl, hb⟩; have B9 := Lib.hid (B8.out.trans (hb.mono B8.out.size)); have V19 := Lib.hid (V18.out.grow hb); have V9 := Lib.hid (V8.out.grow hb); clear hb; have x1 := V9.out.at1 (i := 1) rfl; unfold fv at x1)
            | (with_reducible show wpList _ _ _ (⟨some 22, .load 28 (.tmp 1), _, _, _, _⟩ :: _) _ _; refine wpList_load_guardL (op := ⟨some 22, .load 28 (.tmp 1), _, _, _, some (8, true)⟩) (by first | rfl | go_simp) 28 (.tmp 1) rfl (g) (0) rfl (mc x) _ (V19.out.range) Try.underlying28 rfl (m_size _) ?_)
            | (go_at_call 91; refine (AK.out _ B9.out).mono ?_; rintro e w10 ⟨rfl, hb⟩; have B10 := Lib.hid (B9.out.trans (hb.mono B9.out.size)); clear hb))
        go_ret
        exact ⟨rfl, B10.out⟩
end Go.Proofs.Ytfihiandifnkpaa
