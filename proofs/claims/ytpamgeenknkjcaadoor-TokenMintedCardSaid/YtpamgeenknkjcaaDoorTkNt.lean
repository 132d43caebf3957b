/- What of some rights is not among others; the two flags of a line. -/
import Derived.Test.YtpamgeenknkjcaaDoorTkMd
import Derived.Test.YtpamgeenknkjcaaDoorTkHolder
namespace Go.Proofs.YtpamgeenknkjcaaDoor
open Go.ChangeShapes Go.WideShapes Go.ChangeAt Go.RowKit
set_option linter.unusedVariables false
open Plain Sha
theorem u8_of (x : Int) (h0 : 0 ≤ x) (h1 : x < 256) : (BitVec.ofInt 8 x).toNat = x.toNat := by
  rw [BitVec.toNat_ofInt]
  have : x % ((2 ^ 8 : Nat) : Int) = x := Int.emod_eq_of_lt h0 (by simpa using h1)
  rw [this]
theorem not_bits {a b : Int} (h0 : 0 ≤ a) (h1 : a < 256) (h2 : 0 ≤ b) (h3 : b < 256) : bits .andNot .u8 b a = 0 ↔ andZ a b = b := by
  have e : bits .andNot .u8 b a = IntKind.u8.wrap ((BitVec.ofInt 8 b &&& ~~~BitVec.ofInt 8 a).toNat : Int) := rfl
  rw [e]
  have hx := u8_of a h0 h1
  have hy := u8_of b h2 h3
  generalize BitVec.ofInt 8 a = x at *
  generalize BitVec.ofInt 8 b = y at *
  have hw : IntKind.u8.wrap ((y &&& ~~~x).toNat : Int) = ((y &&& ~~~x).toNat : Int) := by
    have := IntKind.wrap_u8 ((y &&& ~~~x).toNat : Int)
    have := (y &&& ~~~x).isLt
    omega
  rw [hw]
  have k : y &&& ~~~x = 0#8 ↔ x &&& y = y := by
    constructor
    · intro h
      apply BitVec.eq_of_getLsbD_eq
      intro i hi
      have := congrArg (fun v => BitVec.getLsbD v i) h
      simp [hi] at this ⊢
      intro hyi
      by_cases hxi : x.getLsbD i = true
      · exact hxi
      · simp_all
    · intro h
      apply BitVec.eq_of_getLsbD_eq
      intro i hi
      have := congrArg (fun v => BitVec.getLsbD v i) h
      simp [hi] at this ⊢
      intro hyi
      exact this hyi
  unfold andZ
  rw [← hx, ← hy, ← BitVec.toNat_and]
  constructor
  · intro h
    have h4 : (y &&& ~~~x).toNat = 0 := by omega
    have h5 : y &&& ~~~x = 0#8 := BitVec.eq_of_toNat_eq (by rw [h4]; rfl)
    rw [k.1 h5]
    omega
  · intro h
    have h5 : x &&& y = y := BitVec.eq_of_toNat_eq (by omega)
    rw [k.2 h5]
    rfl
/-- Whether one of the grants is over; whether one of them lacks a right. -/
def lateB (now : Int) (l : List GrantZ) : Bool := l.any fun g => decide (g.x ≤ now)
def lessB (need : Int) (l : List GrantZ) : Bool := l.any fun g => bits .andNot .u8 need g.r != 0
theorem lateB_snoc (now : Int) (l : List GrantZ) (g : GrantZ) : lateB now (l ++ [g]) = (lateB now l || decide (g.x ≤ now)) := by simp [lateB]
theorem lessB_snoc (need : Int) (l : List GrantZ) (g : GrantZ) : lessB need (l ++ [g]) = (lessB need l || bits .andNot .u8 need g.r != 0) := by simp [lessB]
theorem foldX_le (now : Int) (l : List GrantZ) : ∀ a : Int, l.foldl (fun a g => min a g.x) a ≤ now ↔ a ≤ now ∨ lateB now l = true := by
  induction l with
  | nil => intro a; simp [lateB]
  | cons g l ih =>
    intro a
    rw [List.foldl_cons, ih]
    simp only [lateB, List.any_cons, Bool.or_eq_true, decide_eq_true_eq]
    rw [show min a g.x ≤ now ↔ a ≤ now ∨ g.x ≤ now by omega]
    exact or_assoc
theorem foldR_has (need : Int) (h0 : 0 ≤ need) (h1 : need < 256) (l : List GrantZ) : ∀ a : Int, 0 ≤ a → a < 256 → (∀ g, g ∈ l → GOk g) →
    (andZ (l.foldl (fun a g => andZ a g.r) a) need = need ↔ andZ a need = need ∧ lessB need l = false) := by
  induction l with
  | nil => intro a ha hb _; simp [lessB]
  | cons g l ih =>
    intro a ha hb hg
    have hgo := hg g (by simp)
    have c := andZ_le a g.r ha
    rw [List.foldl_cons, ih _ c.1 (by omega) (fun x hx => hg x (by simp [hx]))]
    have key : andZ (andZ a g.r) need = need ↔ andZ a need = need ∧ andZ g.r need = need := by
      unfold andZ
      rw [Int.toNat_natCast]
      obtain ⟨n, rfl⟩ := Int.eq_ofNat_of_zero_le h0
      obtain ⟨x, rfl⟩ := Int.eq_ofNat_of_zero_le ha
      obtain ⟨y, hy⟩ := Int.eq_ofNat_of_zero_le hgo.r.1
      rw [hy]
      simp only [Int.toNat_natCast]
      constructor
      · intro h
        have h' : x &&& y &&& n = n := by omega
        constructor
        · have : x &&& n = n := by
            rw [← h', ← Nat.and_assoc, ← Nat.and_assoc, Nat.and_self]
          omega
        · have : y &&& n = n := by
            rw [← h', Nat.and_comm x y, ← Nat.and_assoc, ← Nat.and_assoc, Nat.and_self]
          omega
      · rintro ⟨ha', hb'⟩
        have e1 : x &&& n = n := by omega
        have e2 : y &&& n = n := by omega
        have : x &&& y &&& n = n := by rw [Nat.and_assoc, e2, e1]
        omega
    rw [key]
    simp only [lessB, List.any_cons, Bool.or_eq_false_iff, bne_eq_false_iff_eq]
    rw [not_bits hgo.r.1 hgo.r.2 h0 h1]
    exact and_assoc
theorem late_iff {l : List GrantZ} (hl : lineB l = true) (now : Int) : lvX l ≤ now ↔ lateB now l = true := by
  unfold lvX
  rw [foldX_le]
  constructor
  · rintro (h | h)
    · cases l with
      | nil => simp [lineB] at hl
      | cons g l =>
        have hm : mayB g = true := by simp [lineB] at hl; exact hl.2.1
        have := may_r hm
        simp only [lateB, List.any_cons, Bool.or_eq_true, decide_eq_true_eq]
        exact .inl (by omega)
    · exact h
  · exact .inr
theorem less_iff {l : List GrantZ} (hl : lineB l = true) (hg : ∀ g, g ∈ l → GOk g) (need : Int) (h0 : 0 ≤ need) (h1 : need < 256) : hasB (lvR l) need = !lessB need l := by
  have b := lvR_bound l
  have e : hasB (lvR l) need = true ↔ lessB need l = false := by
    rw [has_iff b.1 (by omega) h0 h1]
    unfold lvR
    rw [foldR_has need h0 h1 l 15 (by omega) (by omega) hg]
    constructor
    · exact fun h => h.2
    · intro h
      refine ⟨?_, h⟩
      cases l with
      | nil => simp [lineB] at hl
      | cons g l =>
        have hm : mayB g = true := by simp [lineB] at hl; exact hl.2.1
        have hr := (may_r hm).1
        have hgo := hg g (by simp)
        simp only [lessB, List.any_cons, Bool.or_eq_false_iff, bne_eq_false_iff_eq] at h
        have h2 := (not_bits hgo.r.1 hgo.r.2 h0 h1).1 h.1
        have h3 := and15 g.r hgo.r.1 hr
        have h4 : need ≤ g.r := by have := (andZ_le g.r need hgo.r.1).2; omega
        exact and15 need h0 (by omega)
  cases hb : hasB (lvR l) need
  · cases hs : lessB need l
    · rw [e.2 hs] at hb; cases hb
    · rfl
  · rw [e.1 hb]; rfl
end Go.Proofs.YtpamgeenknkjcaaDoor
