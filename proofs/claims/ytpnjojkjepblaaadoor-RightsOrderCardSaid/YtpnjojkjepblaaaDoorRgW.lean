/- Which line leaves no more than another one. -/
import Derived.Test.YtpnjojkjepblaaaDoorRgV
namespace Go.Proofs.YtpnjojkjepblaaaDoor
open Go.ChangeShapes Go.WideShapes Go.ChangeAt Go.RowKit
set_option linter.unusedVariables false
open Plain
def withinB (a b : List GrantZ) : Bool := lineB a && lineB b && hasB (lvR b) (lvR a) && decide (lvX a ≤ lvX b)
theorem leaves_val {w : World} {B m : Nat} {A : Option Addr} {l : List GrantZ} (c : Nat) (R X E : Int) (h : Grants w B A m l) (hB : B ≤ w.heap.size) (hm : m ≤ maxLen) (hR : leR l = R) (hX : leX l = X) (hE : leE l = E) : Calls Tryd.prog 13 #[.slice A m c] w (fun e w' => e = .returned (.tuple #[.int .u8 R, .int .i64 X, .int .i64 E]) ∧ Below w.heap.size w w') := by
  subst hR hX hE
  exact leaves_any c h hB hm
theorem le_no {l : List GrantZ} (h : lineB l = false) : leR l = 0 ∧ leX l = 0 ∧ leE l = 2 := by simp [leR, leX, leE, h]
theorem le_yes {l : List GrantZ} (h : lineB l = true) : leR l = lvR l ∧ leX l = lvX l ∧ leE l = 0 := by simp [leR, leX, leE, h]
set_option maxHeartbeats 1000000 in
theorem within_any {w : World} {B1 B2 m1 m2 : Nat} {A1 A2 : Option Addr} {a b : List GrantZ} (c1 c2 : Nat) (h1 : Grants w B1 A1 m1 a) (h2 : Grants w B2 A2 m2 b) (hB1 : B1 ≤ w.heap.size) (hB2 : B2 ≤ w.heap.size) (hm1 : m1 ≤ maxLen) (hm2 : m2 ≤ maxLen) : Calls Tryd.prog 20 #[.slice A1 m1 c1, .slice A2 m2 c2] w (fun e w' => e = .returned (.bool (withinB a b)) ∧ Below w.heap.size w w') := by
  have HM1 := Lib.hid hm1
  have HM2 := Lib.hid hm2
  have HG1 := Lib.hid h1
  have HB1 := Lib.hid hB1
  have HG2 := Lib.hid h2
  have HB2 := Lib.hid hB2
  clear hm1 hm2 h1 h2 hB1 hB2
  obtain ⟨p, hp⟩ : ∃ p, lineB a = p := ⟨_, rfl⟩
  obtain ⟨q, hq⟩ : ∃ q, lineB b = q := ⟨_, rfl⟩
  have HP := Lib.hid hp
  have HQ := Lib.hid hq
  clear hp hq
  cases p
  · have HT : Hid (withinB a b = false) := Lib.hid (by simp [withinB, HP.out])
    go_enter Tryd.func20, Tryd.ntmps20
    go_wp2_with (go_at_call 13; refine (leaves_val c1 0 0 2 HG1.out HB1.out HM1.out (le_no HP.out).1 (le_no HP.out).2.1 (le_no HP.out).2.2).mono ?_; rintro e w1 ⟨rfl, hb1⟩)
    go_ret
    rw [HT.out]
    exact ⟨rfl, hb1⟩
  · cases q
    · have HT : Hid (withinB a b = false) := Lib.hid (by simp [withinB, HQ.out])
      obtain ⟨R, hR⟩ : ∃ R, lvR a = R := ⟨_, rfl⟩
      obtain ⟨X, hX⟩ : ∃ X, lvX a = X := ⟨_, rfl⟩
      have HR := Lib.hid hR
      have HX := Lib.hid hX
      clear hR hX
      go_enter Tryd.func20, Tryd.ntmps20
      go_wp2_with fail
      refine (leaves_val c1 R X 0 HG1.out HB1.out HM1.out ((le_yes HP.out).1.trans HR.out) ((le_yes HP.out).2.1.trans HX.out) (le_yes HP.out).2.2).mono ?_
      rintro e w1 ⟨rfl, hb1⟩
      have HW := Lib.hid hb1
      clear hb1
      go_wp2_with fail
      refine (leaves_val c2 0 0 2 (HG2.out.belowM HW.out HB2.out) (Nat.le_trans HB2.out HW.out.size) HM2.out (le_no HQ.out).1 (le_no HQ.out).2.1 (le_no HQ.out).2.2).mono ?_
      rintro e w2 ⟨rfl, hb2⟩
      go_wp2
      go_ret
      rw [HT.out]
      exact ⟨rfl, HW.out.trans (hb2.mono HW.out.size)⟩
    · obtain ⟨R, hR⟩ : ∃ R, lvR a = R := ⟨_, rfl⟩
      obtain ⟨X, hX⟩ : ∃ X, lvX a = X := ⟨_, rfl⟩
      obtain ⟨R', hR'⟩ : ∃ R, lvR b = R := ⟨_, rfl⟩
      obtain ⟨X', hX'⟩ : ∃ X, lvX b = X := ⟨_, rfl⟩
      have HT : Hid (withinB a b = (hasB R' R && decide (X ≤ X'))) := Lib.hid (by simp [withinB, HP.out, HQ.out, hR, hX, hR', hX'])
      have HR := Lib.hid hR
      have HX := Lib.hid hX
      have HR' := Lib.hid hR'
      have HX' := Lib.hid hX'
      clear hR hX hR' hX'
      obtain ⟨u, hu⟩ : ∃ u, hasB R' R = u := ⟨_, rfl⟩
      have HU := Lib.hid hu
      clear hu
      go_enter Tryd.func20, Tryd.ntmps20
      go_wp2_with fail
      refine (leaves_val c1 R X 0 HG1.out HB1.out HM1.out ((le_yes HP.out).1.trans HR.out) ((le_yes HP.out).2.1.trans HX.out) (le_yes HP.out).2.2).mono ?_
      rintro e w1 ⟨rfl, hb1⟩
      have HW := Lib.hid hb1
      clear hb1
      go_wp2_with fail
      refine (leaves_val c2 R' X' 0 (HG2.out.belowM HW.out HB2.out) (Nat.le_trans HB2.out HW.out.size) HM2.out ((le_yes HQ.out).1.trans HR'.out) ((le_yes HQ.out).2.1.trans HX'.out) (le_yes HQ.out).2.2).mono ?_
      rintro e w2 ⟨rfl, hb2⟩
      have HW2 := Lib.hid (HW.out.trans (hb2.mono HW.out.size))
      clear hb2
      cases u
      · go_wp2_with (go_at_call 21; refine (has_val _ _ _ HU.out _).mono ?_; rintro e w' ⟨rfl, rfl⟩)
        go_ret
        rw [HT.out, HU.out]
        exact ⟨rfl, HW2.out⟩
      · by_cases hle : X ≤ X'
        · have HD : Hid (decide (X ≤ X') = true) := Lib.hid (decide_eq_true hle)
          go_wp2_with (go_at_call 21; refine (has_val _ _ _ HU.out _).mono ?_; rintro e w' ⟨rfl, rfl⟩)
          go_ret
          rw [HT.out, HU.out, HD.out]
          exact ⟨rfl, HW2.out⟩
        · have HD : Hid (decide (X ≤ X') = false) := Lib.hid (decide_eq_false hle)
          go_wp2_with (go_at_call 21; refine (has_val _ _ _ HU.out _).mono ?_; rintro e w' ⟨rfl, rfl⟩)
          go_ret
          rw [HT.out, HU.out, HD.out]
          exact ⟨rfl, HW2.out⟩
theorem within_val {w : World} {B1 B2 m1 m2 : Nat} {A1 A2 : Option Addr} {a b : List GrantZ} (c1 c2 : Nat) (q : Bool) (h1 : Grants w B1 A1 m1 a) (h2 : Grants w B2 A2 m2 b) (hB1 : B1 ≤ w.heap.size) (hB2 : B2 ≤ w.heap.size) (hm1 : m1 ≤ maxLen) (hm2 : m2 ≤ maxLen) (hq : withinB a b = q) : Calls Tryd.prog 20 #[.slice A1 m1 c1, .slice A2 m2 c2] w (fun e w' => e = .returned (.bool q) ∧ Below w.heap.size w w') := by
  subst hq
  exact within_any c1 c2 h1 h2 hB1 hB2 hm1 hm2
end Go.Proofs.YtpnjojkjepblaaaDoor
