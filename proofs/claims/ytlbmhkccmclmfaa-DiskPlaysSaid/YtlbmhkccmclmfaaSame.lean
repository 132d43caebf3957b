/- What the two functions that compare lists return. -/
import Derived.Test.YtlbmhkccmclmfaaMem
namespace Go.Proofs.Ytlbmhkccmclmfaa
open Go.ChangeShapes Go.WideShapes Go.ChangeAt Go.RowKit
set_option linter.unusedVariables false

def eqB (a b : List Int) : Bool := decide (a = b)
theorem eqB_no_len {a b : List Int} (h : a.length ≠ b.length) : eqB a b = false := by
  unfold eqB; exact decide_eq_false (fun e => h (by rw [e]))
theorem eqB_no_at {a b : List Int} {k : Nat} (h : a.getD k 0 ≠ b.getD k 0) : eqB a b = false := by
  unfold eqB; exact decide_eq_false (fun e => h (by rw [e]))
theorem take_succ_eq {a b : List Int} {k : Nat} (ha : k < a.length) (hb : k < b.length) (h : a.take k = b.take k) (hk : a.getD k 0 = b.getD k 0) : a.take (k + 1) = b.take (k + 1) := by
  rw [List.take_succ_eq_append_getElem ha, List.take_succ_eq_append_getElem hb, h]
  simp [List.getD_eq_getElem?_getD, List.getElem?_eq_getElem ha, List.getElem?_eq_getElem hb] at hk
  rw [hk]
theorem eqB_yes {a b : List Int} {n : Nat} (ha : a.length = n) (hb : b.length = n) (h : a.take n = b.take n) : eqB a b = true := by
  unfold eqB
  rw [List.take_of_length_le (by omega), List.take_of_length_le (by omega)] at h
  exact decide_eq_true h
theorem ret_bool {a b : Bool} (h : a = b) : Ending.returned (.bool a) = .returned (.bool b) := by rw [h]

theorem same_any {B1 B2 : Nat} {A1 A2 : Option Addr} {n1 n2 : Nat} (c1 c2 : Nat) {zs1 zs2 : List Int} {w : World} (h1 : Bs w B1 A1 n1 zs1) (h2 : Bs w B2 A2 n2 zs2) (hn1 : n1 ≤ maxLen) (hn2 : n2 ≤ maxLen) :
    Calls Try.prog 24 #[.slice A1 n1 c1, .slice A2 n2 c2] w (Quiet (.bool (eqB zs1 zs2)) w) := by
  unfold maxLen at hn1 hn2
  have hl1 := h1.len
  have hl2 := h2.len
  by_cases hn : n1 = n2
  · subst hn
    have H1 := Lib.hid hl1
    have H2 := Lib.hid hl2
    clear hl1 hl2
    go_enter Try.func24, Try.ntmps24
    go_wp2
    go_loopw [13] (fun i wr => ∃ k m : Nat, k ≤ n1 ∧ i = .int .i64 k ∧ wr = w.drewN m ∧ Hid (zs1.take k = zs2.take k)) (fun i _ => n1 - (intOf i).toNat)
    case atStart => exact ⟨0, 0, by omega, rfl, rfl, Lib.hid (by simp)⟩
    case round =>
      obtain ⟨k, m, hk, rfl, rfl, HT⟩ := hrel
      by_cases hlt : k < n1
      · obtain ⟨b1, o1, u1, rfl, _, HU1, hu1, hu1', hc1⟩ := h1.at_ hlt
        obtain ⟨b2, o2, u2, rfl, _, HU2, hu2, hu2', hc2⟩ := h2.at_ hlt
        by_cases hu : u1 = u2
        · subst hu
          have HT' := Lib.hid (take_succ_eq (by rw [H1.out]; omega) (by rw [H2.out]; omega) HT.out (HU1.out.trans HU2.out.symm))
          go_wp2
          go_quiet (fail)
          go_wp2
          go_roundw
          case rel => exact ⟨k + 1, _, by omega, by go_num, rfl, HT'⟩
          case measure => simp [intOf]; omega
        · have hne : (u1 == u2) = false := by simpa using hu
          have hne' : (u1 != u2) = true := by simpa using hu
          have HF := Lib.hid (eqB_no_at (a := zs1) (b := zs2) (k := k) (by rw [HU1.out, HU2.out]; exact hu))
          clear hu
          go_wp2
          go_quiet (fail)
          go_wp2
          go_ret
          exact ⟨ret_bool HF.out.symm, _, World.drewN_drewN ..⟩
      · have hkn : k = n1 := by omega
        have HF := Lib.hid (eqB_yes H1.out H2.out (by rw [← hkn]; exact HT.out))
        clear hkn
        go_wp2
        go_ret
        exact ⟨ret_bool HF.out.symm, _, rfl⟩
  · have hne : ((n1 : Int) == (n2 : Int)) = false := by simp; omega
    have HF := Lib.hid (eqB_no_len (a := zs1) (b := zs2) (by omega))
    clear hl1 hl2
    go_enter Try.func24, Try.ntmps24
    go_wp2
    go_ret
    exact ⟨ret_bool HF.out.symm, 0, rfl⟩
theorem refsame_any {B1 B2 : Nat} {A1 A2 : Option Addr} {n1 n2 : Nat} (c1 c2 : Nat) {zs1 zs2 : List Int} {w : World} (h1 : Bs w B1 A1 n1 zs1) (h2 : Bs w B2 A2 n2 zs2) (hn1 : n1 ≤ maxLen) (hn2 : n2 ≤ maxLen) :
    Calls Try.prog 11 #[.slice A1 n1 c1, .slice A2 n2 c2] w (Quiet (.bool (eqB zs1 zs2)) w) := by
  unfold maxLen at hn1 hn2
  have hl1 := h1.len
  have hl2 := h2.len
  by_cases hn : n1 = n2
  · subst hn
    have H1 := Lib.hid hl1
    have H2 := Lib.hid hl2
    clear hl1 hl2
    go_enter Try.func11, Try.ntmps11
    go_wp2
    go_loopw [5] (fun i wr => ∃ k m : Nat, k ≤ n1 ∧ i = .int .i64 k ∧ wr = w.drewN m ∧ Hid (zs1.take k = zs2.take k)) (fun i _ => n1 - (intOf i).toNat)
    case atStart => exact ⟨0, 0, by omega, rfl, rfl, Lib.hid (by simp)⟩
    case round =>
      obtain ⟨k, m, hk, rfl, rfl, HT⟩ := hrel
      by_cases hlt : k < n1
      · obtain ⟨b1, o1, u1, rfl, _, HU1, hu1, hu1', hc1⟩ := h1.at_ hlt
        obtain ⟨b2, o2, u2, rfl, _, HU2, hu2, hu2', hc2⟩ := h2.at_ hlt
        by_cases hu : u1 = u2
        · subst hu
          have HT' := Lib.hid (take_succ_eq (by rw [H1.out]; omega) (by rw [H2.out]; omega) HT.out (HU1.out.trans HU2.out.symm))
          go_wp2
          go_quiet (fail)
          go_wp2
          go_roundw
          case rel => exact ⟨k + 1, _, by omega, by go_num, rfl, HT'⟩
          case measure => simp [intOf]; omega
        · have hne : (u1 == u2) = false := by simpa using hu
          have hne' : (u1 != u2) = true := by simpa using hu
          have HF := Lib.hid (eqB_no_at (a := zs1) (b := zs2) (k := k) (by rw [HU1.out, HU2.out]; exact hu))
          clear hu
          go_wp2
          go_quiet (fail)
          go_wp2
          go_ret
          exact ⟨ret_bool HF.out.symm, _, World.drewN_drewN ..⟩
      · have hkn : k = n1 := by omega
        have HF := Lib.hid (eqB_yes H1.out H2.out (by rw [← hkn]; exact HT.out))
        clear hkn
        go_wp2
        go_ret
        exact ⟨ret_bool HF.out.symm, _, rfl⟩
  · have hne : ((n1 : Int) == (n2 : Int)) = false := by simp; omega
    have HF := Lib.hid (eqB_no_len (a := zs1) (b := zs2) (by omega))
    clear hl1 hl2
    go_enter Try.func11, Try.ntmps11
    go_wp2
    go_ret
    exact ⟨ret_bool HF.out.symm, 0, rfl⟩
end Go.Proofs.Ytlbmhkccmclmfaa
