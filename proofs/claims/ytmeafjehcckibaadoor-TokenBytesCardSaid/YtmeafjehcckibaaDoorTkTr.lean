/- Whether a token may be, by the document's own answer. -/
import Derived.Test.YtmeafjehcckibaaDoorB8
import Derived.Test.YtmeafjehcckibaaDoorB5
namespace Go.Proofs.YtmeafjehcckibaaDoor
open Go.ChangeShapes Go.WideShapes Go.ChangeAt Go.RowKit
set_option linter.unusedVariables false
open Plain Sha
set_option maxRecDepth 100000 in
set_option maxHeartbeats 1000000 in
theorem rtmay_any {w : World} {B : Nat} {t : TokZ} {l : List GrantZ} (h : Tok w B t l) (hB : B ≤ w.heap.size) : Calls Tryd.prog 13 #[.agg (tv t).toArray] w (fun e w' => e = .returned (.bool (mayT t.tn l)) ∧ Below w.heap.size w w') := by
  obtain ⟨W1, hW1⟩ : ∃ W, W = w.alloc (.cells (tv t).toArray 26) := ⟨_, rfl⟩
  have b1 : Below w.heap.size w W1 := by rw [hW1]; exact (Below.refl _ _).alloc (Nat.le_refl _) _
  have x1 : Box W1 w.heap.size t := by rw [hW1]; exact box_new w t h.len _ _ rfl
  have c0 := x1.c0
  have c1 := x1.c1
  obtain ⟨q, hq⟩ : ∃ q, lineB l = q := ⟨_, rfl⟩
  have HQ := Lib.hid hq
  have hcm : t.m ≤ maxLen := Nat.le_trans h.mc h.cm
  have HG := Lib.hid (h.line.belowM b1 hB)
  have HM := Lib.hid hcm
  have HB := Lib.hid hB
  have B1 := Lib.hid b1
  have HW1 := Lib.hid hW1
  have ht : Hid (mayT t.tn l = (decide (0 ≤ t.tn) && decide (t.tn ≤ 8) && q)) := Lib.hid (by unfold mayT; rw [hq])
  clear hq h hB b1 hW1 x1 hcm
  rw [ht.out]
  generalize tv t = V at *
  generalize t.tn = tn at *
  generalize t.A = A at *
  generalize t.m = m at *
  generalize t.c = c at *
  clear ht
  by_cases h1 : 0 ≤ tn
  · by_cases h2 : tn ≤ 8
    · have HD : Hid ((decide (0 ≤ tn) && decide (tn ≤ 8) && q) = q) := Lib.hid (by rw [decide_eq_true h1, decide_eq_true h2]; rfl)
      rw [HD.out]
      go_enter Tryd.func13, Tryd.ntmps13
      go_upto_region 1 with fail
      rw [← HW1.out]
      go_wp2_with (go_at_call 27; refine (refline_val c _ HG.out (Nat.le_trans HB.out B1.out.size) HM.out HQ.out).mono ?_; rintro e w2 ⟨rfl, hb2⟩)
      go_ret
      cases q <;> exact ⟨rfl, B1.out.trans (hb2.mono B1.out.size)⟩
    · have HD : Hid ((decide (0 ≤ tn) && decide (tn ≤ 8) && q) = false) := Lib.hid (by rw [decide_eq_false h2]; simp)
      rw [HD.out]
      go_enter Tryd.func13, Tryd.ntmps13
      go_upto_region 1 with fail
      rw [← HW1.out]
      go_wp2
      go_ret
      exact ⟨rfl, B1.out⟩
  · have HD : Hid ((decide (0 ≤ tn) && decide (tn ≤ 8) && q) = false) := Lib.hid (by rw [decide_eq_false h1]; simp)
    rw [HD.out]
    go_enter Tryd.func13, Tryd.ntmps13
    go_upto_region 1 with fail
    rw [← HW1.out]
    go_wp2
    go_ret
    exact ⟨rfl, B1.out⟩
theorem rtmay_val {w : World} {B : Nat} {t : TokZ} {l : List GrantZ} (q : Bool) (h : Tok w B t l) (hB : B ≤ w.heap.size) (hq : mayT t.tn l = q) : Calls Tryd.prog 13 #[.agg (tv t).toArray] w (fun e w' => e = .returned (.bool q) ∧ Below w.heap.size w w') := by
  subst hq
  exact rtmay_any h hB
end Go.Proofs.YtmeafjehcckibaaDoor
