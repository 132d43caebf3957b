/- Which clients and ids may be; the closures; the first place; May. -/
import Derived.Test.YtlapdocikhjkcaaRpZ
import Derived.Deep.CutBlock
import Derived.Deep.DeepCutAuto
import Derived.Deep.CutRange
namespace Go.Proofs.Ytlapdocikhjkcaa
open Go.ChangeShapes Go.WideShapes Go.ChangeAt Go.RowKit
set_option linter.unusedVariables false
set_option linter.unusedSimpArgs false
open Plain Sha Au Rp
theorem drewN_zero (w : World) : w = w.drewN 0 := rfl
set_option maxRecDepth 100000 in
theorem asked_any (c id : Int) (q : Bool) (hq : askB c id = q) (w : World) :
    Calls Try.prog 24 #[.int .i64 c, .int .i64 id] w (Quiet (.bool q) w) := by
  have HQ := Lib.hid hq
  clear hq
  by_cases h1 : 0 ≤ c
  · by_cases h2 : c < 4
    · by_cases h3 : 1 ≤ id
      · have e : decide (id ≤ 1099511627776) = q := by rw [← HQ.out]; simp [askB, h1, h2, h3]
        go_enter Try.func24, Try.ntmps24
        go_wp2
        go_ret
        exact ⟨rfl, 0, rfl⟩
      · have e : q = false := by rw [← HQ.out]; simp [askB, h1, h2, h3]
        subst e
        go_enter Try.func24, Try.ntmps24
        go_wp2
        go_ret
        exact ⟨rfl, 0, rfl⟩
    · have e : q = false := by rw [← HQ.out]; simp [askB, h1, h2]
      subst e
      go_enter Try.func24, Try.ntmps24
      go_wp2
      go_ret
      exact ⟨rfl, 0, rfl⟩
  · have e : q = false := by rw [← HQ.out]; simp [askB, h1]
    subst e
    go_enter Try.func24, Try.ntmps24
    go_wp2
    go_ret
    exact ⟨rfl, 0, rfl⟩
set_option maxRecDepth 100000 in
theorem fits_any (c id : Int) (q : Bool) (hq : askB c id = q) (w : World) :
    Calls Try.prog 27 #[.int .i64 c, .int .i64 id] w (Quiet (.bool q) w) := by
  have HQ := Lib.hid hq
  clear hq
  by_cases h1 : 0 ≤ c
  · by_cases h2 : c < 4
    · by_cases h3 : 0 < id
      · have e : decide (id ≤ 1099511627776) = q := by rw [← HQ.out]; simp [askB, h1, h2, show 1 ≤ id by omega]
        go_enter Try.func27, Try.ntmps27
        go_wp2
        go_ret
        exact ⟨rfl, 0, rfl⟩
      · have e : q = false := by rw [← HQ.out]; simp [askB, h1, h2, show ¬ 1 ≤ id by omega]
        subst e
        go_enter Try.func27, Try.ntmps27
        go_wp2
        go_ret
        exact ⟨rfl, 0, rfl⟩
    · have e : q = false := by rw [← HQ.out]; simp [askB, h1, h2]
      subst e
      go_enter Try.func27, Try.ntmps27
      go_wp2
      go_ret
      exact ⟨rfl, 0, rfl⟩
  · have e : q = false := by rw [← HQ.out]; simp [askB, h1]
    subst e
    go_enter Try.func27, Try.ntmps27
    go_wp2
    go_ret
    exact ⟨rfl, 0, rfl⟩
set_option maxRecDepth 100000 in
theorem clos_eq {w : World} {B n k b1 b2 : Nat} {A : Option Addr} {l : List LX} (c : Nat) (t : Int) (q : Bool) (x : LX) (h : Las w B A n l) (hx : l[k]? = some x) (hc : w.cell? ⟨b1, 0, none⟩ = some (.slice A n c)) (ht : w.cell? ⟨b2, 0, none⟩ = some (.int .i64 t)) (hq : decide (x.c = t) = q) :
    Calls Try.prog 36 #[.int .i64 k, .pointer (some ⟨b1, 0, none⟩), .pointer (some ⟨b2, 0, none⟩)] w (Quiet (.bool q) w) := by
  have hk : k < n := by rw [← h.len]; exact (List.getElem?_eq_some_iff.1 hx).1
  obtain ⟨b, off, x', rfl, hb, HX, _, hr⟩ := h.at_ hk
  obtain rfl : x' = x := by have := HX.out; rw [hx] at this; injection this with e; exact e.symm
  obtain ⟨c0, _, _⟩ := rng_x hr
  have HE := Lib.hid (show (x'.c == t) = q from hq)
  have hkI : (k : Int) < (n : Int) := by omega
  clear hq hr HX h hx
  go_enter Try.func36, Try.ntmps36
  go_wp2
  go_quiet (fail)
  go_wp2
  go_ret
  exact ⟨congrArg (fun z => Ending.returned (.bool z)) HE.out, _, rfl⟩
set_option maxRecDepth 100000 in
theorem clos_ge {w : World} {B n k b1 b2 : Nat} {A : Option Addr} {l : List LX} (c : Nat) (t : Int) (q : Bool) (x : LX) (h : Las w B A n l) (hx : l[k]? = some x) (hc : w.cell? ⟨b1, 0, none⟩ = some (.slice A n c)) (ht : w.cell? ⟨b2, 0, none⟩ = some (.int .i64 t)) (hq : decide (t ≤ x.c) = q) :
    Calls Try.prog 30 #[.int .i64 k, .pointer (some ⟨b1, 0, none⟩), .pointer (some ⟨b2, 0, none⟩)] w (Quiet (.bool q) w) := by
  have hk : k < n := by rw [← h.len]; exact (List.getElem?_eq_some_iff.1 hx).1
  obtain ⟨b, off, x', rfl, hb, HX, _, hr⟩ := h.at_ hk
  obtain rfl : x' = x := by have := HX.out; rw [hx] at this; injection this with e; exact e.symm
  obtain ⟨c0, _, _⟩ := rng_x hr
  have HE := Lib.hid hq
  have hkI : (k : Int) < (n : Int) := by omega
  clear hq hr HX h hx
  go_enter Try.func30, Try.ntmps30
  go_wp2
  go_quiet (fail)
  go_wp2
  go_ret
  exact ⟨congrArg (fun z => Ending.returned (.bool z)) HE.out, _, rfl⟩
set_option maxRecDepth 100000 in
theorem clos_gt {w : World} {B n k b1 b2 : Nat} {A : Option Addr} {l : List LX} (c : Nat) (t : Int) (q : Bool) (x : LX) (h : Las w B A n l) (hx : l[k]? = some x) (hc : w.cell? ⟨b1, 0, none⟩ = some (.slice A n c)) (ht : w.cell? ⟨b2, 0, none⟩ = some (.int .i64 t)) (hq : decide (t < x.c) = q) :
    Calls Try.prog 31 #[.int .i64 k, .pointer (some ⟨b1, 0, none⟩), .pointer (some ⟨b2, 0, none⟩)] w (Quiet (.bool q) w) := by
  have hk : k < n := by rw [← h.len]; exact (List.getElem?_eq_some_iff.1 hx).1
  obtain ⟨b, off, x', rfl, hb, HX, _, hr⟩ := h.at_ hk
  obtain rfl : x' = x := by have := HX.out; rw [hx] at this; injection this with e; exact e.symm
  obtain ⟨c0, _, _⟩ := rng_x hr
  have HE := Lib.hid hq
  have hkI : (k : Int) < (n : Int) := by omega
  clear hq hr HX h hx
  go_enter Try.func31, Try.ntmps31
  go_wp2
  go_quiet (fail)
  go_wp2
  go_ret
  exact ⟨congrArg (fun z => Ending.returned (.bool z)) HE.out, _, rfl⟩
set_option maxRecDepth 100000 in
set_option maxHeartbeats 1000000 in
theorem clos_wrong {w : World} {B n k b1 : Nat} {A : Option Addr} {l : List LX} (c : Nat) (q : Bool) (h : Las w B A n l) (hk : k < n) (hnm : n ≤ 9223372036854775807) (hc : w.cell? ⟨b1, 0, none⟩ = some (.slice A n c)) (hq : wrongG LX.c LX.id l k = q) :
    Calls Try.prog 28 #[.int .i64 k, .pointer (some ⟨b1, 0, none⟩)] w (Quiet (.bool q) w) := by
  obtain ⟨b, off, x, rfl, hb, HX, _, hr⟩ := h.at_ hk
  obtain ⟨c0, c1, _⟩ := rng_x hr
  have hkI : (k : Int) < (n : Int) := by omega
  obtain ⟨a, ha⟩ : ∃ a, askB x.c x.id = a := ⟨_, rfl⟩
  have HA := Lib.hid (asked_any x.c x.id a ha)
  rcases Nat.eq_zero_or_pos k with h0 | h0
  · have e : q = !a := by subst h0; rw [← hq, wrong_zero HX.out, ha]
    subst e
    have g1 : decide (0 < k) = false := by simp [h0]
    have g2 : ¬ (0 < (k : Int)) := by omega
    clear hq hr HX h ha h0
    cases a
    all_goals
      go_enter Try.func28, Try.ntmps28
      go_wp2
      go_quiet ((go_at_call 24; exact quiet_at (HA.out)))
      go_wp2
      go_ret
      exact ⟨rfl, _, rfl⟩
  · obtain ⟨b', off', y, hA', _, HY, _, hry⟩ := h.at_ (k := k - 1) (by omega)
    injection hA' with hA'
    injection hA' with e1 e2
    subst e1 e2
    obtain ⟨d0, _, _⟩ := rng_x hry
    have e : (!a || decide (x.c ≤ y.c)) = q := by rw [← hq, wrong_more HX.out h0 HY.out, ha]
    clear hq hr HX h ha hry HY
    have hk1 : (0 : Int) < (k : Int) := by omega
    obtain ⟨k, rfl⟩ : ∃ j, k = j + 1 := ⟨k - 1, by omega⟩
    rw [Nat.add_sub_cancel] at d0
    have hw1 : IntKind.i64.wrap (((k + 1 : Nat) : Int) - 1) = (k : Int) := by rw [IntKind.wrap_i64]; omega
    have hk2 : (k : Int) < (n : Int) := by omega
    cases a
    · have e : q = true := by rw [← e]; rfl
      subst e
      go_enter Try.func28, Try.ntmps28
      go_wp2
      go_quiet ((go_at_call 24; exact quiet_at (HA.out)))
      go_wp2
      go_ret
      exact ⟨rfl, _, rfl⟩
    · have e : decide (x.c ≤ y.c) = q := by rw [← e]; rfl
      have HE := Lib.hid e
      clear e
      go_enter Try.func28, Try.ntmps28
      go_wp2
      go_quiet ((go_at_call 24; exact quiet_at (HA.out)))
      go_wp2
      go_ret
      exact ⟨congrArg (fun z => Ending.returned (.bool z)) HE.out, _, rfl⟩
end Go.Proofs.Ytlapdocikhjkcaa
