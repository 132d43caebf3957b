/- The statement WireBack: the walk. -/
import Derived.Test.YtcihbkdpkhhhcaaBackZ
namespace Go.Proofs.Ytcihbkdpkhhhcaa
open Go.ChangeShapes Go.WideShapes Go.ChangeAt Go.RowKit
set_option linter.unusedVariables false
open Plain
theorem fz_of {w : World} {B : Nat} {f : FieldZ} (h : FieldOk w B f) (hs : f.len ≤ 65536) : FZ f := ⟨h.n, by rw [h.bs.len]; exact hs, h.tag⟩
theorem len_le_gsum (F : Nat → FieldZ) {j m : Nat} (h : j < m) : (F j).len ≤ gsum F m := by
  have := gsum_le F (j + 1) m h
  have h2 : gsum F (j + 1) = gsum F j + (F j).len + 40 := rfl
  omega
theorem wPut_form {F : Nat → FieldZ} {k : Nat} (h : formN F (k + 1) ≤ 65536) : wPut (some (formB F k)) (fieldB (F k)) = some (formB F (k + 1)) := by
  rw [wPut_yes _ _ (by rw [formB_len]; rw [formN_succ] at h; exact h)]; rfl
theorem formB_bytes {w : World} {B m : Nat} {A : Option Addr} {F : Nat → FieldZ} (h : ∀ j, j < m → IsBytes (fieldB (F j))) : IsBytes (formB F m) := catTo_bytes _ m h
theorem fieldB_bytes {w : World} {B : Nat} {f : FieldZ} (h : FieldOk w B f) : IsBytes (fieldB f) := by
  unfold fieldB
  by_cases k0 : f.kind = 0
  · rw [if_pos k0]; exact one_byte _ (by omega) (by omega)
  by_cases k1 : f.kind = 1
  · rw [if_neg k0, if_pos k1]; exact n64_bytes' _
  by_cases k2 : f.kind = 2
  · rw [if_neg k0, if_neg k1, if_pos k2]; split <;> exact one_byte _ (by omega) (by omega)
  by_cases k3 : f.kind = 3
  · rw [if_neg k0, if_neg k1, if_neg k2, if_pos k3]; exact (putZ_bytes _ _).app h.bs.isBytes
  by_cases k4 : f.kind = 4
  · rw [if_neg k0, if_neg k1, if_neg k2, if_neg k3, if_pos k4]; exact (putZ_bytes _ _).app h.bs.isBytes
  by_cases k5 : f.kind = 5
  · rw [if_neg k0, if_neg k1, if_neg k2, if_neg k3, if_neg k4, if_pos k5]; exact h.bytes
  · rw [if_neg k0, if_neg k1, if_neg k2, if_neg k3, if_neg k4, if_neg k5]; exact IsBytes.nil
theorem newWhy_cut (F : Nat → FieldZ) (j m : Nat) (h : m ≤ 65536) : newWhy ((formB F j).take m) = cutSt F j m 0 := by
  have e : formN F 0 = 0 := rfl
  unfold newWhy cutSt
  rw [e, if_pos (Nat.zero_le _), List.drop_zero, if_pos (by rw [List.length_take]; omega)]
theorem wrap_small (m : Nat) (h : m ≤ 4000) : wrap64 (m : Int) = (m : Int) := by unfold wrap64; omega
end Go.Proofs.Ytcihbkdpkhhhcaa
