/- The walk of RightsWithin. -/
import Derived.Test.YtpnjojkjepblaaaDoorRgR
namespace Go.Proofs.YtpnjojkjepblaaaDoor
open Go.ChangeShapes Go.WideShapes Go.ChangeAt Go.RowKit
set_option linter.unusedVariables false
open Plain
theorem Quiet.plain {v : Value} {w : World} {e : Ending} {w' : World} (h : Quiet v w e w') : e = .returned v ∧ Below w.heap.size w w' := by
  obtain ⟨he, m, rfl⟩ := h
  exact ⟨he, below_drewN (Below.refl _ _) m⟩
theorem refleaves_val {w : World} {B m : Nat} {A : Option Addr} {l : List GrantZ} (c : Nat) (R X : Int) (h : Grants w B A m l) (hB : B ≤ w.heap.size) (hm : m ≤ maxLen) (hR : rfR l = R) (hX : rfX l = X) : Calls Tryd.prog 19 #[.slice A m c] w (fun e w' => e = .returned (.tuple #[.int .u8 R, .int .i64 X]) ∧ Below w.heap.size w w') := by
  subst hR hX
  exact (refleaves_any c h hB hm).mono fun _ _ h => h.plain
theorem nat_or_and (a b : Nat) : a ||| b = a ↔ a &&& b = b := by
  constructor
  · intro h
    apply Nat.eq_of_testBit_eq
    intro i
    have := congrArg (·.testBit i) h
    simp only [Nat.testBit_or, Nat.testBit_and] at this ⊢
    cases ha : a.testBit i <;> cases hb : b.testBit i <;> simp_all
  · intro h
    apply Nat.eq_of_testBit_eq
    intro i
    have := congrArg (·.testBit i) h
    simp only [Nat.testBit_or, Nat.testBit_and] at this ⊢
    cases ha : a.testBit i <;> cases hb : b.testBit i <;> simp_all
theorem bits_or {a b : Int} (h0 : 0 ≤ a) (h1 : a < 256) (h2 : 0 ≤ b) (h3 : b < 256) : bits .or .u8 a b = ((a.toNat ||| b.toNat : Nat) : Int) := by
  have e : ∀ x : Int, 0 ≤ x → x < 256 → (BitVec.ofInt 8 x).toNat = x.toNat := fun x hx hy => by
    rw [BitVec.toNat_ofInt]
    have : x % ((2 ^ 8 : Nat) : Int) = x := Int.emod_eq_of_lt hx (by simpa using hy)
    rw [this]
  show IntKind.u8.wrap ((BitVec.ofInt 8 a ||| BitVec.ofInt 8 b).toNat : Int) = _
  rw [BitVec.toNat_or, e a h0 h1, e b h2 h3]
  have hlt : a.toNat ||| b.toNat < 2 ^ 8 := Nat.or_lt_two_pow (by omega) (by omega)
  generalize a.toNat ||| b.toNat = c at *
  have := IntKind.wrap_u8 (c : Int)
  rw [this]; omega
theorem or_and (r n : Int) (h0 : 0 ≤ r) (h1 : r < 256) (h2 : 0 ≤ n) (h3 : n < 256) : (bits .or .u8 r n == r) = hasB r n := by
  unfold hasB
  rw [bits_or h0 h1 h2 h3, bits_and h0 h1 h2 h3]
  unfold andZ
  rw [Bool.eq_iff_iff]
  have := nat_or_and r.toNat n.toNat
  simp only [beq_iff_eq, decide_eq_true_eq]
  omega
theorem andZ_comm (a b : Int) : andZ a b = andZ b a := by unfold andZ; rw [Nat.and_comm]
/-- What the document's answer comes to. -/
theorem within_rf {a b : List GrantZ} (ha : ∀ g, g ∈ a → GOk g) (hb : ∀ g, g ∈ b → GOk g) : withinB a b = (lineB a && lineB b && (bits .and .u8 (rfR a) (rfR b) == rfR a) && decide (rfX a ≤ rfX b)) := by
  unfold withinB
  cases la : lineB a
  · simp
  cases lb : lineB b
  · simp
  have e1 := rf_line la ha
  have e2 := rf_line lb hb
  have b1 := lvR_bound a
  have b2 := lvR_bound b
  rw [e1.1, e1.2, e2.1, e2.2]
  unfold hasB
  rw [bits_and b1.1 (by omega) b2.1 (by omega), bits_and b2.1 (by omega) b1.1 (by omega), andZ_comm]
  rfl
set_option maxHeartbeats 4000000 in
theorem rightsWithin_in {A1 A2 : Option Addr} {m1 m2 : Nat} (c1 c2 : Nat) {a b : List GrantZ} (r n : Int) (w : World) (g1 : Grants w w.heap.size A1 m1 a) (g2 : Grants w w.heap.size A2 m2 b) (hm1 : m1 ≤ 20) (hm2 : m2 ≤ 20) (h0 : 0 ≤ r) (h1 : r < 256) (h2 : 0 ≤ n) (h3 : n < 256) (hL : LaidL w) :
    Calls Tryd.prog 5 #[.slice A1 m1 c1, .slice A2 m2 c2, .int .u8 r, .int .u8 n] w (fun e w' => e = .returned (.bool true) ∧ Below w.heap.size w w') := by
  have HL := Lib.hid hL
  have HG1 := Lib.hid g1
  have HG2 := Lib.hid g2
  have HM1 : Hid (m1 ≤ maxLen) := Lib.hid (by unfold maxLen; omega)
  have HM2 : Hid (m2 ≤ maxLen) := Lib.hid (by unfold maxLen; omega)
  have hI1 : ¬ 20 < (m1 : Int) := by omega
  have hI2 : ¬ 20 < (m2 : Int) := by omega
  obtain ⟨la, hla⟩ : ∃ q, lineB a = q := ⟨_, rfl⟩
  obtain ⟨lb, hlb⟩ : ∃ q, lineB b = q := ⟨_, rfl⟩
  obtain ⟨P, hP⟩ : ∃ q, rfR a = q := ⟨_, rfl⟩
  obtain ⟨Q, hQ⟩ : ∃ q, rfR b = q := ⟨_, rfl⟩
  obtain ⟨X, hX⟩ : ∃ q, rfX a = q := ⟨_, rfl⟩
  obtain ⟨Y, hY⟩ : ∃ q, rfX b = q := ⟨_, rfl⟩
  obtain ⟨v1, hv1⟩ : ∃ q, (bits .and .u8 P Q == P) = q := ⟨_, rfl⟩
  obtain ⟨hh, hhh⟩ : ∃ q, hasB r n = q := ⟨_, rfl⟩
  have hor := (or_and r n h0 h1 h2 h3).trans hhh
  have HW := Lib.hid (within_rf g1.ok g2.ok)
  have HU : Hid (withinB a b = (la && lb && v1 && decide (X ≤ Y))) := Lib.hid (by rw [HW.out, hla, hlb, hP, hQ, hv1, hX, hY])
  have HLA := Lib.hid hla
  have HLB := Lib.hid hlb
  have HP := Lib.hid hP
  have HQ := Lib.hid hQ
  have HX := Lib.hid hX
  have HY := Lib.hid hY
  have HH := Lib.hid hhh
  have HV := Lib.hid hv1
  have HOR := Lib.hid hor
  clear hL g1 g2 hm1 hm2 hla hlb hP hQ hX hY hhh hor HW hv1
  have Hw : Hid (Below w.heap.size w w) := Lib.hid (Below.refl _ _)
  go_enter Tryd.func5, Tryd.ntmps5
  go_wp2_with fail
  refine (refleaves_val c1 P X HG1.out (Nat.le_refl _) HM1.out HP.out HX.out).mono ?_
  rintro e w1 ⟨rfl, hb⟩
  have Hw1 : Hid (Below w.heap.size w w1) := Lib.hid (Hw.out.trans (hb.mono Hw.out.size))
  clear hb
  go_wp2_with fail
  refine (refleaves_val c2 Q Y (HG2.out.belowM Hw1.out (Nat.le_refl _)) Hw1.out.size HM2.out HQ.out HY.out).mono ?_
  rintro e w2 ⟨rfl, hb⟩
  have Hw2 : Hid (Below w.heap.size w w2) := Lib.hid (Hw1.out.trans (hb.mono Hw1.out.size))
  clear hb
  cases la
  · have HUV : Hid ((false && lb && v1 && decide (X ≤ Y)) = false) := Lib.hid (by simp)
    go_wp2_with fail
    refine (refline_val c1 false (HG1.out.belowM Hw2.out (Nat.le_refl _)) Hw2.out.size HM1.out HLA.out).mono ?_
    rintro e w3 ⟨rfl, hb⟩
    have Hw3 : Hid (Below w.heap.size w w3) := Lib.hid (Hw2.out.trans (hb.mono Hw2.out.size))
    clear hb
    go_wp2_with fail
    refine (within_val c1 c2 false (HG1.out.belowM Hw3.out (Nat.le_refl _)) (HG2.out.belowM Hw3.out (Nat.le_refl _)) Hw3.out.size Hw3.out.size HM1.out HM2.out (HU.out.trans HUV.out)).mono ?_
    rintro e w5 ⟨rfl, hb⟩
    have Hw5 : Hid (Below w.heap.size w w5) := Lib.hid (Hw3.out.trans (hb.mono Hw3.out.size))
    clear hb
    have hor := HOR.out
    cases hh
    all_goals
      go_wp2_with (first
        | (go_at_call 21; refine (has_val _ _ _ HH.out _).mono ?_; rintro e w' ⟨rfl, rfl⟩)
        | (go_at_call 12; refine (awake_any _ (HL.out.grown Hw5.out)).mono ?_; rintro e w6 ⟨rfl, hb6⟩))
      go_ret
      exact ⟨rfl, Hw5.out.trans (hb6.mono Hw5.out.size)⟩
  · cases lb
    · have HUV : Hid ((true && false && v1 && decide (X ≤ Y)) = false) := Lib.hid (by simp)
      go_wp2_with fail
      refine (refline_val c1 true (HG1.out.belowM Hw2.out (Nat.le_refl _)) Hw2.out.size HM1.out HLA.out).mono ?_
      rintro e w3 ⟨rfl, hb⟩
      have Hw3 : Hid (Below w.heap.size w w3) := Lib.hid (Hw2.out.trans (hb.mono Hw2.out.size))
      clear hb
      go_wp2_with fail
      refine (refline_val c2 false (HG2.out.belowM Hw3.out (Nat.le_refl _)) Hw3.out.size HM2.out HLB.out).mono ?_
      rintro e w4 ⟨rfl, hb⟩
      have Hw4 : Hid (Below w.heap.size w w4) := Lib.hid (Hw3.out.trans (hb.mono Hw3.out.size))
      clear hb
      go_wp2_with fail
      refine (within_val c1 c2 false (HG1.out.belowM Hw4.out (Nat.le_refl _)) (HG2.out.belowM Hw4.out (Nat.le_refl _)) Hw4.out.size Hw4.out.size HM1.out HM2.out (HU.out.trans HUV.out)).mono ?_
      rintro e w5 ⟨rfl, hb⟩
      have Hw5 : Hid (Below w.heap.size w w5) := Lib.hid (Hw4.out.trans (hb.mono Hw4.out.size))
      clear hb
      have hor := HOR.out
      cases hh
      all_goals
        go_wp2_with (first
          | (go_at_call 21; refine (has_val _ _ _ HH.out _).mono ?_; rintro e w' ⟨rfl, rfl⟩)
          | (go_at_call 12; refine (awake_any _ (HL.out.grown Hw5.out)).mono ?_; rintro e w6 ⟨rfl, hb6⟩))
        go_ret
        exact ⟨rfl, Hw5.out.trans (hb6.mono Hw5.out.size)⟩
    · cases v1
      · have HUV : Hid ((true && true && false && decide (X ≤ Y)) = false) := Lib.hid (by simp)
        go_wp2_with fail
        refine (refline_val c1 true (HG1.out.belowM Hw2.out (Nat.le_refl _)) Hw2.out.size HM1.out HLA.out).mono ?_
        rintro e w3 ⟨rfl, hb⟩
        have Hw3 : Hid (Below w.heap.size w w3) := Lib.hid (Hw2.out.trans (hb.mono Hw2.out.size))
        clear hb
        go_wp2_with fail
        refine (refline_val c2 true (HG2.out.belowM Hw3.out (Nat.le_refl _)) Hw3.out.size HM2.out HLB.out).mono ?_
        rintro e w4 ⟨rfl, hb⟩
        have Hw4 : Hid (Below w.heap.size w w4) := Lib.hid (Hw3.out.trans (hb.mono Hw3.out.size))
        clear hb
        have hv := HV.out
        go_wp2_with fail
        refine (within_val c1 c2 false (HG1.out.belowM Hw4.out (Nat.le_refl _)) (HG2.out.belowM Hw4.out (Nat.le_refl _)) Hw4.out.size Hw4.out.size HM1.out HM2.out (HU.out.trans HUV.out)).mono ?_
        rintro e w5 ⟨rfl, hb⟩
        have Hw5 : Hid (Below w.heap.size w w5) := Lib.hid (Hw4.out.trans (hb.mono Hw4.out.size))
        clear hb
        have hor := HOR.out
        cases hh
        all_goals
          go_wp2_with (first
            | (go_at_call 21; refine (has_val _ _ _ HH.out _).mono ?_; rintro e w' ⟨rfl, rfl⟩)
            | (go_at_call 12; refine (awake_any _ (HL.out.grown Hw5.out)).mono ?_; rintro e w6 ⟨rfl, hb6⟩))
          go_ret
          exact ⟨rfl, Hw5.out.trans (hb6.mono Hw5.out.size)⟩
      · by_cases hle : X ≤ Y
        · have HUV : Hid ((true && true && true && decide (X ≤ Y)) = true) := Lib.hid (by simp [hle])
          go_wp2_with fail
          refine (refline_val c1 true (HG1.out.belowM Hw2.out (Nat.le_refl _)) Hw2.out.size HM1.out HLA.out).mono ?_
          rintro e w3 ⟨rfl, hb⟩
          have Hw3 : Hid (Below w.heap.size w w3) := Lib.hid (Hw2.out.trans (hb.mono Hw2.out.size))
          clear hb
          go_wp2_with fail
          refine (refline_val c2 true (HG2.out.belowM Hw3.out (Nat.le_refl _)) Hw3.out.size HM2.out HLB.out).mono ?_
          rintro e w4 ⟨rfl, hb⟩
          have Hw4 : Hid (Below w.heap.size w w4) := Lib.hid (Hw3.out.trans (hb.mono Hw3.out.size))
          clear hb
          have hv := HV.out
          go_wp2_with fail
          refine (within_val c1 c2 true (HG1.out.belowM Hw4.out (Nat.le_refl _)) (HG2.out.belowM Hw4.out (Nat.le_refl _)) Hw4.out.size Hw4.out.size HM1.out HM2.out (HU.out.trans HUV.out)).mono ?_
          rintro e w5 ⟨rfl, hb⟩
          have Hw5 : Hid (Below w.heap.size w w5) := Lib.hid (Hw4.out.trans (hb.mono Hw4.out.size))
          clear hb
          have hor := HOR.out
          cases hh
          all_goals
            go_wp2_with (first
              | (go_at_call 21; refine (has_val _ _ _ HH.out _).mono ?_; rintro e w' ⟨rfl, rfl⟩)
              | (go_at_call 12; refine (awake_any _ (HL.out.grown Hw5.out)).mono ?_; rintro e w6 ⟨rfl, hb6⟩))
            go_ret
            exact ⟨rfl, Hw5.out.trans (hb6.mono Hw5.out.size)⟩
        · have HUV : Hid ((true && true && true && decide (X ≤ Y)) = false) := Lib.hid (by simp [hle])
          have hd : decide (X ≤ Y) = false := decide_eq_false hle
          go_wp2_with fail
          refine (refline_val c1 true (HG1.out.belowM Hw2.out (Nat.le_refl _)) Hw2.out.size HM1.out HLA.out).mono ?_
          rintro e w3 ⟨rfl, hb⟩
          have Hw3 : Hid (Below w.heap.size w w3) := Lib.hid (Hw2.out.trans (hb.mono Hw2.out.size))
          clear hb
          go_wp2_with fail
          refine (refline_val c2 true (HG2.out.belowM Hw3.out (Nat.le_refl _)) Hw3.out.size HM2.out HLB.out).mono ?_
          rintro e w4 ⟨rfl, hb⟩
          have Hw4 : Hid (Below w.heap.size w w4) := Lib.hid (Hw3.out.trans (hb.mono Hw3.out.size))
          clear hb
          have hv := HV.out
          go_wp2_with fail
          refine (within_val c1 c2 false (HG1.out.belowM Hw4.out (Nat.le_refl _)) (HG2.out.belowM Hw4.out (Nat.le_refl _)) Hw4.out.size Hw4.out.size HM1.out HM2.out (HU.out.trans HUV.out)).mono ?_
          rintro e w5 ⟨rfl, hb⟩
          have Hw5 : Hid (Below w.heap.size w w5) := Lib.hid (Hw4.out.trans (hb.mono Hw4.out.size))
          clear hb
          have hor := HOR.out
          cases hh
          all_goals
            go_wp2_with (first
              | (go_at_call 21; refine (has_val _ _ _ HH.out _).mono ?_; rintro e w' ⟨rfl, rfl⟩)
              | (go_at_call 12; refine (awake_any _ (HL.out.grown Hw5.out)).mono ?_; rintro e w6 ⟨rfl, hb6⟩))
            go_ret
            exact ⟨rfl, Hw5.out.trans (hb6.mono Hw5.out.size)⟩
theorem rightsWithin_any (A1 : Option Addr) (m1 c1 : Nat) (a : List GrantZ) (A2 : Option Addr) (m2 c2 : Nat) (b : List GrantZ) (r n : Int) (w : World) (g1 : Grants w w.heap.size A1 m1 a) (hm1 : m1 ≤ maxLen) (g2 : Grants w w.heap.size A2 m2 b) (hm2 : m2 ≤ maxLen) (h0 : 0 ≤ r) (h1 : r < 256) (h2 : 0 ≤ n) (h3 : n < 256) (hL : LaidL w) :
    Calls Tryd.prog 5 #[.slice A1 m1 c1, .slice A2 m2 c2, .int .u8 r, .int .u8 n] w (fun e w' => e = .returned (.bool true) ∧ Below w.heap.size w w') := by
  unfold maxLen at hm1 hm2
  by_cases k1 : 20 < m1
  · have hI1 : 20 < (m1 : Int) := by omega
    clear g1 g2 hL
    go_enter Tryd.func5, Tryd.ntmps5
    go_wp2
    go_ret
    exact ⟨rfl, Below.refl _ _⟩
  by_cases k2 : 20 < m2
  · have hI1 : ¬ 20 < (m1 : Int) := by omega
    have hI2 : 20 < (m2 : Int) := by omega
    clear g1 g2 hL
    go_enter Tryd.func5, Tryd.ntmps5
    go_wp2
    go_ret
    exact ⟨rfl, Below.refl _ _⟩
  exact rightsWithin_in c1 c2 r n w g1 g2 (by omega) (by omega) h0 h1 h2 h3 hL
end Go.Proofs.YtpnjojkjepblaaaDoor
