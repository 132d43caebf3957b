/- The walk of RightsWithin. -/
import Derived.Test.YtmeafjehcckibaaB2
namespace Go.Proofs.Ytmeafjehcckibaa
open Go.ChangeShapes Go.WideShapes Go.ChangeAt Go.RowKit
set_option linter.unusedVariables false
open Plain
theorem Quiet.plain {v : Value} {w : World} {e : Ending} {w' : World} (h : Quiet v w e w') : e = .returned v ∧ Below w.heap.size w w' := by
  obtain ⟨he, m, rfl⟩ := h
  exact ⟨he, below_drewN (Below.refl _ _) m⟩
theorem nat_or_and (a b : Nat) : a ||| b = a ↔ a &&& b = b := by
  constructor
  · intro h
    apply Nat.eq_of_testBit_eq
    intro i
    have := congrArg (·.testBit i) h
    simp only [Nat.testBit_or, Nat.testBit_and] at this ⊢
    cases ha : a.testBit i <;> cases hb : b.testBit i <;> simp_all
  · intro h
    apply Nat.eq_of_testBit_eq
    intro i
    have := congrArg (·.testBit i) h
    simp only [Nat.testBit_or, Nat.testBit_and] at this ⊢
    cases ha : a.testBit i <;> cases hb : b.testBit i <;> simp_all
theorem bits_or {a b : Int} (h0 : 0 ≤ a) (h1 : a < 256) (h2 : 0 ≤ b) (h3 : b < 256) : bits .or .u8 a b = ((a.toNat ||| b.toNat : Nat) : Int) := by
  have e : ∀ x : Int, 0 ≤ x → x < 256 → (BitVec.ofInt 8 x).toNat = x.toNat := fun x hx hy => by
    rw [BitVec.toNat_ofInt]
    have : x % ((2 ^ 8 : Nat) : Int) = x := Int.emod_eq_of_lt hx (by simpa using hy)
    rw [this]
  show IntKind.u8.wrap ((BitVec.ofInt 8 a ||| BitVec.ofInt 8 b).toNat : Int) = _
  rw [BitVec.toNat_or, e a h0 h1, e b h2 h3]
  have hlt : a.toNat ||| b.toNat < 2 ^ 8 := Nat.or_lt_two_pow (by omega) (by omega)
  generalize a.toNat ||| b.toNat = c at *
  have := IntKind.wrap_u8 (c : Int)
  rw [this]; omega
theorem or_and (r n : Int) (h0 : 0 ≤ r) (h1 : r < 256) (h2 : 0 ≤ n) (h3 : n < 256) : (bits .or .u8 r n == r) = hasB r n := by
  unfold hasB
  rw [bits_or h0 h1 h2 h3, bits_and h0 h1 h2 h3]
  unfold andZ
  rw [Bool.eq_iff_iff]
  have := nat_or_and r.toNat n.toNat
  simp only [beq_iff_eq, decide_eq_true_eq]
  omega
theorem andZ_comm (a b : Int) : andZ a b = andZ b a := by unfold andZ; rw [Nat.and_comm]
/-- What the document's answer comes to. -/
theorem within_rf {a b : List GrantZ} (ha : ∀ g, g ∈ a → GOk g) (hb : ∀ g, g ∈ b → GOk g) : withinB a b = (lineB a && lineB b && (bits .and .u8 (rfR a) (rfR b) == rfR a) && decide (rfX a ≤ rfX b)) := by
  unfold withinB
  cases la : lineB a
  · simp
  cases lb : lineB b
  · simp
  have e1 := rf_line la ha
  have e2 := rf_line lb hb
  have b1 := lvR_bound a
  have b2 := lvR_bound b
  rw [e1.1, e1.2, e2.1, e2.2]
  unfold hasB
  rw [bits_and b1.1 (by omega) b2.1 (by omega), bits_and b2.1 (by omega) b1.1 (by omega), andZ_comm]
  rfl
end Go.Proofs.Ytmeafjehcckibaa
