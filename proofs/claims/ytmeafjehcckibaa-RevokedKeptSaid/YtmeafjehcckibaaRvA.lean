/- Which lists are sets: the program's May, the document's; whether a serial is in a list. -/
import Derived.Test.YtmeafjehcckibaaRvM
namespace Go.Proofs.Ytmeafjehcckibaa
open Go.ChangeShapes Go.WideShapes Go.ChangeAt Go.RowKit
set_option linter.unusedVariables false
set_option linter.unusedSimpArgs false
open Plain
theorem drop_at {zs : List Int} {k : Nat} (h : k < zs.length) : zs.drop k = zs.getD k 0 :: zs.drop (k + 1) := by
  rw [List.drop_eq_getElem_cons h]
  simp [List.getD_eq_getElem?_getD, List.getElem?_eq_getElem h]
theorem rise_no {x z : Int} {l : List Int} (h : z ≤ x ∨ 1099511627776 < z) : riseB x (z :: l) = false := by
  rw [← Bool.not_eq_true, rise_cons]
  omega
theorem rise_yes {x z : Int} {l : List Int} (h1 : x < z) (h2 : z ≤ 1099511627776) : riseB x (z :: l) = riseB z l := by
  simp [riseB, h1, h2]
set_option maxRecDepth 100000 in
set_option maxHeartbeats 1000000 in
theorem may_any {w : World} {B n : Nat} {A : Option Addr} (c : Nat) {zs : List Int} (h : Ir w B A n zs) :
    Calls Try.prog 12 #[.slice A n c] w (fun e w' => e = .returned (.bool (setB zs)) ∧ w' = w) := by
  obtain ⟨q, hq⟩ : ∃ q, setB zs = q := ⟨_, rfl⟩
  rw [hq]
  have L := Lib.hid h.len
  have HZ := Lib.hid h
  have HQ := Lib.hid hq
  clear h hq
  by_cases h32 : 32 < n
  · have hI : 32 < (n : Int) := by omega
    have e : q = false := by rw [← HQ.out]; unfold setB; rw [L.out]; simp; intro h; omega
    subst e
    go_enter Try.func12, Try.ntmps12
    go_wp2
    go_ret
    exact ⟨rfl, rfl⟩
  have hI : ¬ (32 < (n : Int)) := by omega
  have HR : Hid (riseB 0 zs = q) := Lib.hid (by
    have := HQ.out
    unfold setB at this
    rw [L.out] at this
    simpa [show n ≤ 32 by omega] using this)
  go_enter Try.func12, Try.ntmps12
  go_wp2
  go_loopw [3, 11] (fun x i wr => ∃ k : Nat, k ≤ n ∧ i = .int .i64 k ∧ wr = w ∧ ∃ y : Int, x = .int .i64 y ∧ Hid (riseB y (zs.drop k) = q)) (fun _ i _ => n - (intOf i).toNat)
  case atStart => exact ⟨0, by omega, rfl, rfl, 0, rfl, Lib.hid HR.out⟩
  case round =>
    obtain ⟨k, hk, rfl, rfl, y, rfl, HY⟩ := hrel
    by_cases hlt : k < n
    · have hltI : (k : Int) < (n : Int) := by omega
      obtain ⟨b, off, rfl, hb, hc⟩ := HZ.out.at_ hlt
      have HD : Hid (riseB y (zs.getD k 0 :: zs.drop (k + 1)) = q) := Lib.hid (by rw [← drop_at (by rw [L.out]; exact hlt)]; exact HY.out)
      generalize zs.getD k 0 = z at *
      by_cases h1 : z ≤ y
      · have e : q = false := by rw [← HD.out]; exact rise_no (.inl h1)
        subst e
        go_wp2
        go_ret
        exact ⟨rfl, rfl⟩
      by_cases h2 : 1099511627776 < z
      · have e : q = false := by rw [← HD.out]; exact rise_no (.inr h2)
        subst e
        go_wp2
        go_ret
        exact ⟨rfl, rfl⟩
      have HD2 : Hid (riseB z (zs.drop (k + 1)) = q) := Lib.hid (by rw [← rise_yes (x := y) (by omega) (by omega)]; exact HD.out)
      go_wp2
      go_roundw
      case rel => exact ⟨k + 1, by omega, by go_num, by trivial, z, rfl, HD2⟩
      case measure => simp [intOf]; omega
    · have e : q = true := by
        have := HY.out
        rw [List.drop_eq_nil_of_le (by rw [L.out]; omega)] at this
        exact this.symm
      subst e
      go_wp2
      go_ret
      exact ⟨rfl, rfl⟩
theorem refserial_any (n : Int) (w : World) : Calls Try.prog 22 #[.int .i64 n] w (Quiet (.bool (serB n)) w) := by
  by_cases h1 : 0 < n
  · by_cases h2 : n ≤ 1099511627776
    · go_enter Try.func22, Try.ntmps22
      go_wp2
      go_ret
      exact ⟨by simp [serB, h1, h2], 0, rfl⟩
    · go_enter Try.func22, Try.ntmps22
      go_wp2
      go_ret
      exact ⟨by simp [serB, h1, h2], 0, rfl⟩
  · go_enter Try.func22, Try.ntmps22
    go_wp2
    go_ret
    exact ⟨by simp [serB]; omega, 0, rfl⟩
theorem quiet_more {w w' : World} {m : Nat} {v : Value} (h : Hid (∃ m, w' = w.drewN m)) : Quiet v w (.returned v) (w'.drewN m) := by
  obtain ⟨k, hk⟩ := h.out
  exact ⟨rfl, k + m, by rw [hk, World.drewN_drewN]⟩
theorem quiet_more0 {w w' : World} {v : Value} (h : Hid (∃ m, w' = w.drewN m)) : Quiet v w (.returned v) w' := ⟨rfl, h.out⟩
theorem quiet_on {w w' : World} (h : Hid (∃ m, w' = w.drewN m)) (k : Nat) : Hid (∃ m, w'.drewN k = w.drewN m) := by
  obtain ⟨m, hm⟩ := h.out
  exact Lib.hid ⟨m + k, by rw [hm, World.drewN_drewN]⟩
theorem set_step {zs : List Int} {k : Nat} {y z : Int} {q : Bool} (hq : setB zs = q) (h : riseB 0 zs = riseB y (z :: zs.drop (k + 1))) : (z ≤ y ∨ 1099511627776 < z → q = false) ∧ (y < z → z ≤ 1099511627776 → riseB 0 zs = riseB z (zs.drop (k + 1))) := by
  refine ⟨fun hz => ?_, fun h1 h2 => by rw [h, rise_yes h1 h2]⟩
  rw [← hq]
  unfold setB
  rw [h, rise_no hz, Bool.and_false]
set_option maxRecDepth 100000 in
set_option maxHeartbeats 4000000 in
theorem refmay10_any {w : World} {B n : Nat} {A : Option Addr} (c : Nat) {zs : List Int} (h : Ir w B A n zs) (hn : n ≤ maxLen) :
    Calls Try.prog 13 #[.slice A n c] w (Quiet (.bool (setB zs)) w) := by
  obtain ⟨q, hq⟩ : ∃ q, setB zs = q := ⟨_, rfl⟩
  rw [hq]
  have L := Lib.hid h.len
  have HZ := Lib.hid h
  have HQ := Lib.hid hq
  unfold maxLen at hn
  clear h hq
  go_enter Try.func13, Try.ntmps13
  go_wp2
  go_loopw [3] (fun i wr => ∃ k : Nat, k ≤ n ∧ k ≤ 32 ∧ i = .int .i64 k ∧ Hid (∃ m, wr = w.drewN m) ∧ ∃ y : Int, 0 ≤ y ∧ Hid (y = if k = 0 then 0 else zs.getD (k - 1) 0) ∧ Hid (riseB 0 zs = riseB y (zs.drop k))) (fun i _ => n - (intOf i).toNat)
  case atStart => exact ⟨0, by omega, by omega, rfl, Lib.hid ⟨0, rfl⟩, 0, by omega, Lib.hid rfl, Lib.hid rfl⟩
  case round =>
    obtain ⟨k, hk, hk2, rfl, HW, y, hy0, HY, HR⟩ := hrel
    by_cases hlt : k < n
    · have hltI : (k : Int) < (n : Int) := by omega
      have HZ1 : Hid (Ir wr B A n zs) := Lib.hid (by
        obtain ⟨m, hm⟩ := HW.out
        rw [hm]; exact HZ.out.drewN m)
      by_cases h32 : k = 32
      · have e : q = false := by rw [← HQ.out]; unfold setB; rw [L.out]; simp; intro h; omega
        subst e
        have h32I : decide ((32 : Int) ≤ (k : Int)) = true := by simp; omega
        clear h32
        go_wp2
        go_quiet (fail)
        go_wp2
        go_ret
        exact quiet_more HW
      have h32I : decide ((32 : Int) ≤ (k : Int)) = false := by simp; omega
      obtain ⟨b, off, rfl, hb, hc⟩ := HZ1.out.at_ hlt
      have HD := Lib.hid (set_step (y := y) (k := k) (z := zs.getD k 0) HQ.out (by rw [← drop_at (by rw [L.out]; exact hlt)]; exact HR.out))
      have HN : Hid (zs.getD k 0 = if k + 1 = 0 then 0 else zs.getD (k + 1 - 1) 0) := Lib.hid rfl
      have HP : Hid (0 < k → wr.cell? ⟨b, off + (k - 1), none⟩ = some (.int .i64 y)) := Lib.hid (fun h0 => by
        obtain ⟨b', off', e, _, hc'⟩ := HZ1.out.at_ (k := k - 1) (by omega)
        injection e with e; injection e with e1 e2 e3
        subst e1 e2
        have := HY.out
        rw [if_neg (by omega)] at this
        rw [this]
        exact hc')
      generalize zs.getD k 0 = z at *
      obtain ⟨s, hs⟩ : ∃ s, serB z = s := ⟨_, rfl⟩
      have CS := fun w => refserial_any z w
      rw [hs] at CS
      cases s
      · have e : q = false := by
          simp only [serB, Bool.and_eq_false_iff, decide_eq_false_iff_not] at hs
          exact HD.out.1 (by omega)
        subst e
        go_wp2
        go_quiet ((go_at_call 22; first | exact quiet_at (CS) | exact quiet_add CS))
        go_wp2
        go_ret
        exact quiet_more HW
      have hs2 : 0 < z ∧ z ≤ 1099511627776 := by simpa [serB] using hs
      by_cases h0 : k = 0
      · have h0I : decide (0 < k) = false := by simp; omega
        have e0 : y = 0 := by have := HY.out; rwa [if_pos h0] at this
        have H0 := Lib.hid h0
        clear h0
        go_wp2
        go_quiet ((go_at_call 22; first | exact quiet_at (CS) | exact quiet_add CS))
        go_wp2
        go_roundw
        case rel => exact ⟨k + 1, by omega, by omega, by go_num, quiet_on HW _, z, by omega, HN, Lib.hid (HD.out.2 (by omega) hs2.2)⟩
        case measure => simp [intOf]; omega
      have h0I : decide (0 < k) = true := by simp; omega
      have hp := HP.out (by omega)
      obtain ⟨p, hp1⟩ : ∃ p, k - 1 = p := ⟨_, rfl⟩
      have w1 : IntKind.i64.wrap ((k : Int) - 1) = (p : Int) := by rw [IntKind.wrap_i64]; omega
      have w2 : (p : Int) < (n : Int) := by omega
      rw [hp1] at hp
      clear hp1
      by_cases hzy : z ≤ y
      · have e : q = false := HD.out.1 (.inl hzy)
        subst e
        go_wp2
        go_quiet ((go_at_call 22; first | exact quiet_at (CS) | exact quiet_add CS))
        go_wp2
        go_ret
        exact quiet_more HW
      go_wp2
      go_quiet ((go_at_call 22; first | exact quiet_at (CS) | exact quiet_add CS))
      go_wp2
      go_roundw
      case rel => exact ⟨k + 1, by omega, by omega, by go_num, quiet_on HW _, z, by omega, HN, Lib.hid (HD.out.2 (by omega) hs2.2)⟩
      case measure => simp [intOf]; omega
    · have e : q = true := by
        have := HQ.out
        unfold setB at this
        rw [HR.out, L.out, List.drop_eq_nil_of_le (by rw [L.out]; omega)] at this
        simpa [riseB, show n ≤ 32 by omega] using this.symm
      subst e
      go_wp2
      go_ret
      exact quiet_more0 HW
end Go.Proofs.Ytmeafjehcckibaa
