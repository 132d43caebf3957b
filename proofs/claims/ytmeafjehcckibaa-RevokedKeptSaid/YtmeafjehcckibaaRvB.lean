/- Whether a serial is in a list, whether two lists are the same. -/
import Derived.Test.YtmeafjehcckibaaRvA
namespace Go.Proofs.Ytmeafjehcckibaa
open Go.ChangeShapes Go.WideShapes Go.ChangeAt Go.RowKit
set_option linter.unusedVariables false
set_option linter.unusedSimpArgs false
open Plain
theorem has_yes (x : Int) (l : List Int) : hasL (x :: l) x = true := by simp [hasL]
theorem has_no {x z : Int} (l : List Int) (h : ¬ x = z) : hasL (z :: l) x = hasL l x := by simp [hasL, h]
set_option maxRecDepth 100000 in
set_option maxHeartbeats 1000000 in
theorem index_any {w : World} {B n : Nat} {A : Option Addr} (c : Nat) {zs : List Int} (x : Int) (q : Bool) (h : Ir w B A n zs) (hn : n ≤ maxLen) (hq : hasL zs x = q) :
    Calls Try.prog 27 #[.slice A n c, .int .i64 x] w (fun e w' => ∃ i : Int, e = .returned (.int .i64 i) ∧ decide (0 ≤ i) = q ∧ w' = w) := by
  have L := Lib.hid h.len
  have HZ := Lib.hid h
  have HQ := Lib.hid hq
  unfold maxLen at hn
  clear h hq
  go_enter Try.func27, Try.ntmps27
  go_wp2
  go_loopw [8] (fun i wr => ∃ k : Nat, k ≤ n ∧ i = .int .i64 k ∧ wr = w ∧ Hid (hasL (zs.drop k) x = q)) (fun i _ => n - (intOf i).toNat)
  case atStart => exact ⟨0, by omega, rfl, rfl, Lib.hid HQ.out⟩
  case round =>
    obtain ⟨k, hk, rfl, rfl, HY⟩ := hrel
    by_cases hlt : k < n
    · have hltI : (k : Int) < (n : Int) := by omega
      obtain ⟨b, off, rfl, hb, hc⟩ := HZ.out.at_ hlt
      have HD : Hid (hasL (zs.getD k 0 :: zs.drop (k + 1)) x = q) := Lib.hid (by rw [← drop_at (by rw [L.out]; exact hlt)]; exact HY.out)
      generalize zs.getD k 0 = z at *
      by_cases h1 : x = z
      · subst h1
        have e : q = true := by rw [← HD.out]; exact has_yes _ _
        subst e
        go_wp2
        go_ret
        exact ⟨_, rfl, by simp, rfl⟩
      have HD2 : Hid (hasL (zs.drop (k + 1)) x = q) := Lib.hid (by rw [← HD.out, has_no _ h1])
      go_wp2
      go_roundw
      case rel => exact ⟨k + 1, by omega, by go_num, by trivial, HD2⟩
      case measure => simp [intOf]; omega
    · have e : q = false := by
        have := HY.out
        rw [List.drop_eq_nil_of_le (by rw [L.out]; omega)] at this
        rw [← this]; simp [hasL]
      subst e
      go_wp2
      go_ret
      exact ⟨_, rfl, by decide, rfl⟩
theorem contains_any {w : World} {B n : Nat} {A : Option Addr} (c : Nat) {zs : List Int} (x : Int) (q : Bool) (h : Ir w B A n zs) (hn : n ≤ maxLen) (hq : hasL zs x = q) :
    Calls Try.prog 23 #[.slice A n c, .int .i64 x] w (fun e w' => e = .returned (.bool q) ∧ w' = w) := by
  have HC := Lib.hid (index_any c x q h hn hq)
  clear h hn hq
  go_enter Try.func23, Try.ntmps23
  go_wp2_with (go_at_call 27; refine HC.out.mono ?_; rintro e w' ⟨i, rfl, hi, rfl⟩; have HI := Lib.hid hi; clear hi)
  go_ret
  exact ⟨by rw [HI.out]; rfl, rfl⟩
theorem has_any10 {w : World} {B n : Nat} {A : Option Addr} (c : Nat) {zs : List Int} (x : Int) (q : Bool) (h : Ir w B A n zs) (hn : n ≤ maxLen) (hq : hasL zs x = q) :
    Calls Try.prog 15 #[.slice A n c, .int .i64 x] w (fun e w' => e = .returned (.bool q) ∧ w' = w) := by
  have HC := Lib.hid (contains_any c x q h hn hq)
  clear h hn hq
  go_enter Try.func15, Try.ntmps15
  go_wp2_with (go_at_call 23; refine HC.out.mono ?_; rintro e w' ⟨rfl, rfl⟩)
  go_ret
  exact ⟨rfl, rfl⟩
set_option maxRecDepth 100000 in
set_option maxHeartbeats 1000000 in
theorem refhas_any {w : World} {B n : Nat} {A : Option Addr} (c : Nat) {zs : List Int} (x : Int) (q : Bool) (h : Ir w B A n zs) (hn : n ≤ maxLen) (hq : hasL zs x = q) :
    Calls Try.prog 16 #[.slice A n c, .int .i64 x] w (fun e w' => e = .returned (.bool q) ∧ w' = w) := by
  have L := Lib.hid h.len
  have HZ := Lib.hid h
  have HQ := Lib.hid hq
  unfold maxLen at hn
  clear h hq
  go_enter Try.func16, Try.ntmps16
  go_wp2
  go_loopw [5] (fun i wr => ∃ k : Nat, k ≤ n ∧ i = .int .i64 k ∧ wr = w ∧ Hid (hasL (zs.drop k) x = q)) (fun i _ => n - (intOf i).toNat)
  case atStart => exact ⟨0, by omega, rfl, rfl, Lib.hid HQ.out⟩
  case round =>
    obtain ⟨k, hk, rfl, rfl, HY⟩ := hrel
    by_cases hlt : k < n
    · have hltI : (k : Int) < (n : Int) := by omega
      obtain ⟨b, off, rfl, hb, hc⟩ := HZ.out.at_ hlt
      have HD : Hid (hasL (zs.getD k 0 :: zs.drop (k + 1)) x = q) := Lib.hid (by rw [← drop_at (by rw [L.out]; exact hlt)]; exact HY.out)
      generalize zs.getD k 0 = z at *
      by_cases h1 : z = x
      · subst h1
        have e : q = true := by rw [← HD.out]; exact has_yes _ _
        subst e
        go_wp2
        go_ret
        exact ⟨rfl, rfl⟩
      have HD2 : Hid (hasL (zs.drop (k + 1)) x = q) := Lib.hid (by rw [← HD.out, has_no _ (fun e => h1 e.symm)])
      go_wp2
      go_roundw
      case rel => exact ⟨k + 1, by omega, by go_num, by trivial, HD2⟩
      case measure => simp [intOf]; omega
    · have e : q = false := by
        have := HY.out
        rw [List.drop_eq_nil_of_le (by rw [L.out]; omega)] at this
        rw [← this]; simp [hasL]
      subst e
      go_wp2
      go_ret
      exact ⟨rfl, rfl⟩
theorem eq_drop {z1 z2 : List Int} {n k : Nat} {q : Bool} {x y : Int} (l1 : z1.length = n) (l2 : z2.length = n) (hk : k < n) (hx : z1.getD k 0 = x) (hy : z2.getD k 0 = y) (hq : eqB (z1.drop k) (z2.drop k) = q) : (x ≠ y → q = false) ∧ (x = y → eqB (z1.drop (k + 1)) (z2.drop (k + 1)) = q) := by
  rw [drop_at (zs := z1) (by omega), drop_at (zs := z2) (by omega), hx, hy] at hq
  constructor
  · intro h
    rw [← hq]; simp [eqB, h]
  · intro h
    subst h
    rw [← hq]; simp [eqB]
set_option maxRecDepth 100000 in
set_option maxHeartbeats 1000000 in
theorem refsame10_any {w : World} {B1 B2 n1 n2 : Nat} {A1 A2 : Option Addr} (c1 c2 : Nat) {z1 z2 : List Int} (q : Bool) (h1 : Ir w B1 A1 n1 z1) (h2 : Ir w B2 A2 n2 z2) (hn1 : n1 ≤ maxLen) (hq : eqB z1 z2 = q) :
    Calls Try.prog 11 #[.slice A1 n1 c1, .slice A2 n2 c2] w (Quiet (.bool q) w) := by
  have L1 := Lib.hid h1.len
  have L2 := Lib.hid h2.len
  have HZ1 := Lib.hid h1
  have HZ2 := Lib.hid h2
  have HQ := Lib.hid hq
  unfold maxLen at hn1
  clear h1 h2 hq
  by_cases hnn : n1 = n2
  · subst hnn
    go_enter Try.func11, Try.ntmps11
    go_wp2
    go_loopw [5] (fun i wr => ∃ k : Nat, k ≤ n1 ∧ i = .int .i64 k ∧ Hid (∃ m, wr = w.drewN m) ∧ Hid (eqB (z1.drop k) (z2.drop k) = q)) (fun i _ => n1 - (intOf i).toNat)
    case atStart => exact ⟨0, by omega, rfl, Lib.hid ⟨0, rfl⟩, Lib.hid HQ.out⟩
    case round =>
      obtain ⟨k, hk, rfl, HW, HY⟩ := hrel
      by_cases hlt : k < n1
      · have hltI : (k : Int) < (n1 : Int) := by omega
        have HA : Hid (Ir wr B1 A1 n1 z1 ∧ Ir wr B2 A2 n1 z2) := Lib.hid (by
          obtain ⟨m, hm⟩ := HW.out
          rw [hm]; exact ⟨HZ1.out.drewN m, HZ2.out.drewN m⟩)
        obtain ⟨b, off, rfl, hb, hc⟩ := HA.out.1.at_ hlt
        obtain ⟨b', off', rfl, hb', hc'⟩ := HA.out.2.at_ hlt
        have HD := Lib.hid (eq_drop (x := z1.getD k 0) (y := z2.getD k 0) L1.out L2.out hlt rfl rfl HY.out)
        generalize z1.getD k 0 = x at *
        generalize z2.getD k 0 = y at *
        by_cases hxy : x = y
        · subst hxy
          have HD2 := Lib.hid (HD.out.2 rfl)
          go_wp2
          go_quiet (fail)
          go_wp2
          go_roundw
          case rel => exact ⟨k + 1, by omega, by go_num, quiet_on HW _, HD2⟩
          case measure => simp [intOf]; omega
        · have e : q = false := HD.out.1 hxy
          subst e
          go_wp2
          go_quiet (fail)
          go_wp2
          go_ret
          exact quiet_more HW
      · have e : q = true := by
          rw [← HY.out, List.drop_eq_nil_of_le (by rw [L1.out]; omega), List.drop_eq_nil_of_le (by rw [L2.out]; omega)]
          rfl
        subst e
        go_wp2
        go_ret
        exact quiet_more0 HW
  · have e : q = false := by
      rw [← HQ.out]; unfold eqB; rw [decide_eq_false_iff_not]
      intro e; subst e; exact hnn (L1.out.symm.trans L2.out)
    subst e
    have hnI : ¬ ((n1 : Int) = (n2 : Int)) := by omega
    go_enter Try.func11, Try.ntmps11
    go_wp2
    go_ret
    exact ⟨rfl, 0, rfl⟩
set_option maxRecDepth 100000 in
set_option maxHeartbeats 1000000 in
theorem is_any {w : World} {B1 B2 n1 n2 : Nat} {A1 A2 : Option Addr} (c1 c2 : Nat) {z1 z2 : List Int} (q : Bool) (h1 : Ir w B1 A1 n1 z1) (h2 : Ir w B2 A2 n2 z2) (hn1 : n1 ≤ maxLen) (hq : eqB z1 z2 = q) :
    Calls Try.prog 21 #[.slice A1 n1 c1, .int .i64 0, .slice A2 n2 c2] w (Quiet (.bool q) w) := by
  have L1 := Lib.hid h1.len
  have L2 := Lib.hid h2.len
  have HZ1 := Lib.hid h1
  have HZ2 := Lib.hid h2
  have HQ := Lib.hid hq
  unfold maxLen at hn1
  clear h1 h2 hq
  by_cases hnn : n1 = n2
  · subst hnn
    go_enter Try.func21, Try.ntmps21
    go_wp2
    go_loopw [7] (fun i wr => ∃ k : Nat, k ≤ n1 ∧ i = .int .i64 k ∧ Hid (∃ m, wr = w.drewN m) ∧ Hid (eqB (z1.drop k) (z2.drop k) = q)) (fun i _ => n1 - (intOf i).toNat)
    case atStart => exact ⟨0, by omega, rfl, Lib.hid ⟨0, rfl⟩, Lib.hid HQ.out⟩
    case round =>
      obtain ⟨k, hk, rfl, HW, HY⟩ := hrel
      by_cases hlt : k < n1
      · have hltI : (k : Int) < (n1 : Int) := by omega
        have HA : Hid (Ir wr B1 A1 n1 z1 ∧ Ir wr B2 A2 n1 z2) := Lib.hid (by
          obtain ⟨m, hm⟩ := HW.out
          rw [hm]; exact ⟨HZ1.out.drewN m, HZ2.out.drewN m⟩)
        obtain ⟨b, off, rfl, hb, hc⟩ := HA.out.1.at_ hlt
        obtain ⟨b', off', rfl, hb', hc'⟩ := HA.out.2.at_ hlt
        have HD := Lib.hid (eq_drop (x := z1.getD k 0) (y := z2.getD k 0) L1.out L2.out hlt rfl rfl HY.out)
        generalize z1.getD k 0 = x at *
        generalize z2.getD k 0 = y at *
        by_cases hxy : x = y
        · subst hxy
          have HD2 := Lib.hid (HD.out.2 rfl)
          go_wp2
          go_quiet (fail)
          go_wp2
          go_roundw
          case rel => exact ⟨k + 1, by omega, by go_num, quiet_on HW _, HD2⟩
          case measure => simp [intOf]; omega
        · have e : q = false := HD.out.1 hxy
          subst e
          go_wp2
          go_quiet (fail)
          go_wp2
          go_ret
          exact quiet_more HW
      · have e : q = true := by
          rw [← HY.out, List.drop_eq_nil_of_le (by rw [L1.out]; omega), List.drop_eq_nil_of_le (by rw [L2.out]; omega)]
          rfl
        subst e
        go_wp2
        go_ret
        exact quiet_more0 HW
  · have e : q = false := by
      rw [← HQ.out]; unfold eqB; rw [decide_eq_false_iff_not]
      intro e; subst e; exact hnn (L1.out.symm.trans L2.out)
    subst e
    have hnI : ¬ ((n1 : Int) = (n2 : Int)) := by omega
    go_enter Try.func21, Try.ntmps21
    go_wp2
    go_ret
    exact ⟨rfl, 0, rfl⟩
end Go.Proofs.Ytmeafjehcckibaa
