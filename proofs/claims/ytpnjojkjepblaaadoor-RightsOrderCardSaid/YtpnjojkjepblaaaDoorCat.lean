/- Lists put together: what the program's Cat returns, of any number of lists. -/
import Derived.Test.YtpnjojkjepblaaaDoorXor
namespace Go.Proofs.YtpnjojkjepblaaaDoor
open Go.ChangeShapes Go.WideShapes Go.ChangeAt Go.RowKit
set_option linter.unusedVariables false
def sumTo (N : Nat → Nat) : Nat → Nat
  | 0 => 0
  | k + 1 => sumTo N k + N k
def catTo (Z : Nat → List Int) : Nat → List Int
  | 0 => []
  | k + 1 => catTo Z k ++ Z k
theorem sumTo_le (N : Nat → Nat) : ∀ k m, k ≤ m → sumTo N k ≤ sumTo N m := by
  intro k m h
  induction m with
  | zero => have : k = 0 := by omega
            subst this; exact Nat.le_refl _
  | succ m ih =>
    by_cases hk : k = m + 1
    · subst hk; exact Nat.le_refl _
    · have := ih (by omega)
      show _ ≤ sumTo N m + N m
      omega
theorem catTo_len (Z : Nat → List Int) (N : Nat → Nat) : ∀ k, (∀ j, j < k → (Z j).length = N j) → (catTo Z k).length = sumTo N k := by
  intro k
  induction k with
  | zero => intro _; rfl
  | succ k ih =>
    intro h
    show (catTo Z k ++ Z k).length = sumTo N k + N k
    rw [List.length_append, ih (fun j hj => h j (by omega)), h k (by omega)]
theorem catTo_bytes (Z : Nat → List Int) : ∀ k, (∀ j, j < k → IsBytes (Z j)) → IsBytes (catTo Z k) := by
  intro k
  induction k with
  | zero => intro _; exact IsBytes.nil
  | succ k ih => intro h; exact (ih (fun j hj => h j (by omega))).app (h k (by omega))

/-- The m lists that the slice at A tells of. -/
structure Lists (w : World) (B : Nat) (A : Option Addr) (m : Nat) (As : Nat → Option Addr) (Ns Cs : Nat → Nat) (Zs : Nat → List Int) : Prop where
  row : 0 < m → ∃ b off, A = some ⟨b, off, none⟩ ∧ b < B ∧ ∀ j, j < m → w.cell? ⟨b, off + j, none⟩ = some (.slice (As j) (Ns j) (Cs j))
  bs : ∀ j, j < m → Bs w B (As j) (Ns j) (Zs j)
theorem Lists.below {w w' : World} {B m : Nat} {A : Option Addr} {As : Nat → Option Addr} {Ns Cs : Nat → Nat} {Zs : Nat → List Int} (h : Lists w B A m As Ns Cs Zs) (hb : Below B w w') : Lists w' B A m As Ns Cs Zs :=
  ⟨fun hm => by
    obtain ⟨b, off, rfl, hlt, hc⟩ := h.row hm
    exact ⟨b, off, rfl, hlt, fun j hj => (hb.cell (p := ⟨b, off + j, none⟩) hlt).trans (hc j hj)⟩, fun j hj => (h.bs j hj).below hb⟩
theorem Lists.at_ {w : World} {B m : Nat} {A : Option Addr} {As : Nat → Option Addr} {Ns Cs : Nat → Nat} {Zs : Nat → List Int} (h : Lists w B A m As Ns Cs Zs) {k : Nat} (hk : k < m) :
    ∃ b off, A = some ⟨b, off, none⟩ ∧ b < B ∧ w.cell? ⟨b, off + k, none⟩ = some (.slice (As k) (Ns k) (Cs k)) := by
  obtain ⟨b, off, rfl, hlt, hc⟩ := h.row (by omega)
  exact ⟨b, off, rfl, hlt, hc k hk⟩

end Go.Proofs.YtpnjojkjepblaaaDoor
