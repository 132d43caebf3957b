/- Rows of fields that came in; whether they are too many. -/
import Derived.Test.YtcihbkdpkhhhcaaField
import Derived.Test.YtcihbkdpkhhhcaaTagRd
namespace Go.Proofs.Ytcihbkdpkhhhcaa
open Go.ChangeShapes Go.WideShapes Go.ChangeAt Go.RowKit
set_option linter.unusedVariables false
open Plain
/-- The m fields that the slice at A holds. -/
structure Fields (w : World) (B : Nat) (A : Option Addr) (m : Nat) (F : Nat → FieldZ) : Prop where
  row : 0 < m → ∃ b off, A = some ⟨b, off, none⟩ ∧ b < B ∧ ∀ j, j < m → w.rangeAt b (off + j * 35) (fCells (F j))
  ok : ∀ j, j < m → FieldOk w B (F j)
theorem Fields.below {w w' : World} {B m : Nat} {A : Option Addr} {F : Nat → FieldZ} (h : Fields w B A m F) (hb : Below B w w') : Fields w' B A m F :=
  ⟨fun hm => by
    obtain ⟨b, off, rfl, hlt, hc⟩ := h.row hm
    exact ⟨b, off, rfl, hlt, fun j hj => rangeAt_same (hc j hj) (hb.block b hlt)⟩, fun j hj => (h.ok j hj).below hb⟩
theorem Fields.at_ {w : World} {B m : Nat} {A : Option Addr} {F : Nat → FieldZ} (h : Fields w B A m F) {k : Nat} (hk : k < m) :
    ∃ b off, A = some ⟨b, off, none⟩ ∧ b < B ∧ w.rangeAt b (off + k * 35) (fCells (F k)) ∧ w.cell? ⟨b, off + k * 35, none⟩ = some (.int .i64 (F k).kind) ∧ w.cell? ⟨b, off + k * 35 + 2, none⟩ = some (.slice (F k).A (F k).len (F k).cap) := by
  obtain ⟨b, off, rfl, hlt, hc⟩ := h.row (by omega)
  have := hc k hk
  exact ⟨b, off, rfl, hlt, this, this 0 _ rfl, this 2 _ rfl⟩
def gsum (F : Nat → FieldZ) : Nat → Nat
  | 0 => 0
  | k + 1 => gsum F k + (F k).len + 40
theorem gsum_le (F : Nat → FieldZ) : ∀ k m, k ≤ m → gsum F k ≤ gsum F m := by
  intro k m h
  induction m with
  | zero => have : k = 0 := by omega
            subst this; exact Nat.le_refl _
  | succ m ih =>
    by_cases hk : k = m + 1
    · subst hk; exact Nat.le_refl _
    · have := ih (by omega)
      show _ ≤ gsum F m + (F m).len + 40
      omega
set_option maxRecDepth 100000 in
set_option maxHeartbeats 1000000 in
theorem great_any {w : World} {B m : Nat} {A : Option Addr} {F : Nat → FieldZ} (c : Nat) (h : Fields w B A m F) (hm : m ≤ maxLen) : Calls Try.prog 7 #[.slice A m c] w (Says (.bool (decide (4000 < gsum F m))) w) := by
  unfold maxLen at hm
  obtain ⟨r, hr⟩ : ∃ r, decide (4000 < gsum F m) = r := ⟨_, rfl⟩
  rw [hr]
  have HR := Lib.hid hr
  have HLE := Lib.hid (gsum_le F)
  have HF := Lib.hid h
  clear hr h
  go_enter Try.func7, Try.ntmps7
  go_wp2
  go_loop [3, 4] (fun n i => ∃ k : Nat, k ≤ m ∧ i = .int .i64 k ∧ ∃ s : Nat, n = .int .i64 s ∧ Hid (gsum F k = s) ∧ s ≤ 4000) (fun _ i => m - (intOf i).toNat)
  case atStart => exact ⟨0, by omega, rfl, 0, rfl, rfl, by omega⟩
  case round =>
    obtain ⟨k, hk, rfl, s, rfl, HS, hs⟩ := hrel
    by_cases hlt : k < m
    · obtain ⟨b, off, rfl, hb, _, _, c2⟩ := HF.out.at_ hlt
      have hl := (HF.out.ok k hlt).small
      have h2 : Hid (gsum F (k + 1) = s + (F k).len + 40) := Lib.hid (by rw [← HS.out]; rfl)
      have h3 := Lib.hid (HLE.out (k + 1) m (by omega))
      generalize (F k).len = lk at *
      have hltI : (k : Int) < (m : Int) := by omega
      have e1 : wrap64 ((s : Int) + (lk : Int)) = (s : Int) + (lk : Int) := by unfold wrap64; omega
      have e2 : wrap64 ((s : Int) + (lk : Int) + 40) = (s : Int) + (lk : Int) + 40 := by unfold wrap64; omega
      by_cases hbig : 4000 < s + lk + 40
      · have hbI : 4000 < (s : Int) + (lk : Int) + 40 := by omega
        have HT : Hid (r = true) := Lib.hid (by rw [← HR.out]; have := h2.out; have := h3.out; exact decide_eq_true (by omega))
        clear hbig hs
        go_wp2
        go_ret
        exact ⟨by rw [HT.out]; rfl, rfl⟩
      · have hbI : ¬ 4000 < (s : Int) + (lk : Int) + 40 := by omega
        have hb2 := Lib.hid hbig
        clear hs hbig
        go_wp2
        go_round
        case rel => exact ⟨k + 1, by omega, by go_num, s + lk + 40, by go_num, h2, by have := hb2.out; omega⟩
        case measure => simp [intOf]; omega
    · have hkm : k = m := by omega
      have HT : Hid (r = false) := Lib.hid (by rw [← HR.out, ← hkm, HS.out]; exact decide_eq_false (by omega))
      clear hkm hs
      go_wp2
      go_ret
      exact ⟨by rw [HT.out]; rfl, rfl⟩
end Go.Proofs.Ytcihbkdpkhhhcaa
