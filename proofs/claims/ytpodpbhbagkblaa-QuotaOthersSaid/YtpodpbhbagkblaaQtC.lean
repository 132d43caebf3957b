/- What shares leave; whether they fit; whether that is a pool; what is left: the program's. -/
import Derived.Test.YtpodpbhbagkblaaQtB
namespace Go.Proofs.Ytpodpbhbagkblaa
open Go.ChangeShapes Go.WideShapes Go.ChangeAt Go.RowKit
set_option linter.unusedVariables false
set_option linter.unusedSimpArgs false
open Plain Qt
theorem sums_take {l : List ShZ} (hr : riseQ 0 l = true) (k : Nat) : 0 ≤ sumK (l.take k) ∧ sumK (l.take k) ≤ 512 ∧ 0 ≤ sumS (l.take k) ∧ sumS (l.take k) ≤ 32768 := by
  have key : ∀ (a b : List ShZ) (p : Int), riseQ p (a ++ b) = true → riseQ p a = true := by
    intro a
    induction a with
    | nil => intro b p _; rfl
    | cons x a ih =>
      intro b p h
      simp only [List.cons_append, riseQ, Bool.and_eq_true, decide_eq_true_eq] at h ⊢
      exact ⟨h.1, ih b x.t h.2⟩
  have h1 : riseQ 0 (l.take k) = true := key _ (l.drop k) 0 (by rw [List.take_append_drop]; exact hr)
  have h2 := rise_sums h1
  have h3 := rise_len8 h1
  omega
theorem sumK_snoc {l : List ShZ} {k : Nat} {g : ShZ} (h : l[k]? = some g) : sumK (l.take (k + 1)) = sumK (l.take k) + g.k := by
  rw [take_snocQ l k g h, sumK_app]; simp [sumK]
theorem sumS_snoc {l : List ShZ} {k : Nat} {g : ShZ} (h : l[k]? = some g) : sumS (l.take (k + 1)) = sumS (l.take k) + g.s := by
  rw [take_snocQ l k g h, sumS_app]; simp [sumS]
theorem left_step {l : List ShZ} {k : Nat} {g : ShZ} {a b : Int} (hr : riseQ 0 l = true) (hg : l[k]? = some g) (ha : a = 64 - sumK (l.take k)) (hb : b = 4096 - sumS (l.take k)) :
    (IntKind.i64.wrap (a - g.k) = a - g.k ∧ IntKind.i64.wrap (b - g.s) = b - g.s) ∧ a - g.k = 64 - sumK (l.take (k + 1)) ∧ b - g.s = 4096 - sumS (l.take (k + 1)) := by
  have h1 := sums_take hr k
  have h2 := (rise_in hr g (List.mem_of_getElem? hg)).1
  have h3 := sumK_snoc hg
  have h4 := sumS_snoc hg
  obtain ⟨_, _, _, _, _, _⟩ := h2
  refine ⟨⟨?_, ?_⟩, by omega, by omega⟩
  · rw [IntKind.wrap_i64]; omega
  · rw [IntKind.wrap_i64]; omega
set_option maxRecDepth 100000 in
set_option maxHeartbeats 2000000 in
theorem rest_anyQ {w : World} {B n : Nat} {A : Option Addr} {l : List ShZ} (c : Nat) (x y : Int) (h : Shs w B A n l) (hr : riseQ 0 l = true) (hx : 64 - sumK l = x) (hy : 4096 - sumS l = y) :
    Calls Try.prog 30 #[.slice A n c] w (fun e w' => e = .returned (.tuple #[.int .i64 x, .int .i64 y]) ∧ w' = w) := by
  have L := Lib.hid h.len
  have hn : n ≤ 8 := by rw [← h.len]; exact rise_len8 hr
  have HG := Lib.hid h
  have HR := Lib.hid hr
  have HX := Lib.hid hx
  have HY := Lib.hid hy
  clear h hr hx hy
  go_enter Try.func30, Try.ntmps30
  go_wp2
  go_loopw [2, 3, 7] (fun a b i wr => ∃ k : Nat, k ≤ n ∧ i = .int .i64 k ∧ wr = w ∧ ∃ u v : Int, a = .int .i64 u ∧ b = .int .i64 v ∧ Hid (u = 64 - sumK (l.take k)) ∧ Hid (v = 4096 - sumS (l.take k))) (fun _ _ i _ => n - (intOf i).toNat)
  case atStart => exact ⟨0, by omega, rfl, rfl, 64, 4096, rfl, rfl, Lib.hid (by simp [sumK]), Lib.hid (by simp [sumS])⟩
  case round =>
    obtain ⟨k, hk, rfl, rfl, u, v, rfl, rfl, HU, HV⟩ := hrel
    by_cases hlt : k < n
    · have hltI : (k : Int) < (n : Int) := by omega
      obtain ⟨b, off, g, rfl, hb, HK, _, c0, c1, c2⟩ := HG.out.at_ hlt
      obtain ⟨⟨e1, e2⟩, h3, h4⟩ := left_step HR.out HK.out HU.out HV.out
      have H3 := Lib.hid h3
      have H4 := Lib.hid h4
      clear h3 h4
      go_wp2
      go_roundw
      case rel => exact ⟨k + 1, by omega, by go_num, by trivial, u - g.k, v - g.s, rfl, rfl, H3, H4⟩
      case measure => simp [intOf]; omega
    · have e : l.take k = l := List.take_of_length_le (by rw [L.out]; omega)
      have e1 : u = x := by rw [HU.out, e]; exact HX.out
      have e2 : v = y := by rw [HV.out, e]; exact HY.out
      subst e1 e2
      go_wp2
      go_ret2
      exact ⟨rfl, rfl⟩
set_option maxRecDepth 100000 in
theorem fits_anyQ {w : World} {B n : Nat} {A : Option Addr} {l : List ShZ} (c : Nat) (q : Bool) (h : Shs w B A n l) (hr : riseQ 0 l = true) (hq : fitB l = q) :
    Calls Try.prog 32 #[.slice A n c] w (fun e w' => e = .returned (.bool q) ∧ w' = w) := by
  obtain ⟨x, hx⟩ : ∃ x, 64 - sumK l = x := ⟨_, rfl⟩
  obtain ⟨y, hy⟩ : ∃ y, 4096 - sumS l = y := ⟨_, rfl⟩
  have RM := Lib.hid (rest_anyQ c x y h hr hx hy)
  have hq2 : (decide (0 ≤ x) && decide (0 ≤ y)) = q := by
    rw [← hq, ← hx, ← hy]; unfold fitB
    congr 1
    · rw [decide_eq_decide]; omega
    · rw [decide_eq_decide]; omega
  clear h hr hx hy hq
  by_cases h1 : 0 ≤ x
  · by_cases h2 : 0 ≤ y
    · have e : q = true := by rw [← hq2]; simp [h1, h2]
      subst e
      clear hq2
      go_enter Try.func32, Try.ntmps32
      go_wp2_with (go_at_call 30; refine RM.out.mono ?_; rintro e w' ⟨rfl, rfl⟩)
      go_ret
      exact ⟨rfl, rfl⟩
    · have e : q = false := by rw [← hq2]; simp [h1, h2]
      subst e
      have D2 : decide (0 ≤ y) = false := by simpa using h2
      clear hq2
      go_enter Try.func32, Try.ntmps32
      go_wp2_with (go_at_call 30; refine RM.out.mono ?_; rintro e w' ⟨rfl, rfl⟩)
      go_ret
      exact ⟨rfl, rfl⟩
  · have e : q = false := by rw [← hq2]; simp [h1]
    subst e
    clear hq2
    go_enter Try.func32, Try.ntmps32
    go_wp2_with (go_at_call 30; refine RM.out.mono ?_; rintro e w' ⟨rfl, rfl⟩)
    go_ret
    exact ⟨rfl, rfl⟩
set_option maxRecDepth 100000 in
theorem may_anyQ {w : World} {B n : Nat} {A : Option Addr} {l : List ShZ} (c : Nat) (q : Bool) (h : Shs w B A n l) (hB : B ≤ w.heap.size) (hn : n ≤ maxLen) (hq : mayB l = q) :
    Calls Try.prog 19 #[.slice A n c] w (fun e w' => e = .returned (.bool q) ∧ Below w.heap.size w w') := by
  cases hr : riseQ 0 l with
  | false =>
    have e : q = false := by rw [← hq]; simp [mayB, hr]
    subst e
    have RM := Lib.hid (rise_anyQ c false h hB hn hr)
    clear h hq hr
    go_enter Try.func19, Try.ntmps19
    go_wp2_with (go_at_call 31; refine RM.out.mono ?_; rintro e w' ⟨rfl, hb⟩; have HB := Lib.hid hb; clear hb)
    go_ret
    exact ⟨rfl, HB.out⟩
  | true =>
    have hf : fitB l = q := by rw [← hq]; simp [mayB, hr]
    have RM := Lib.hid (rise_anyQ c true h hB hn hr)
    have FM := Lib.hid (fun (V : World) (hV : Below w.heap.size w V) => fits_anyQ (w := V) c q (h.below hV hB) hr hf)
    clear h hq hr hf
    go_enter Try.func19, Try.ntmps19
    go_wp2_with (first
      | (go_at_call 31; refine RM.out.mono ?_; rintro e w' ⟨rfl, hb⟩; have HB := Lib.hid hb; clear hb)
      | (go_at_call 32; refine (FM.out _ HB.out).mono ?_; rintro e w' ⟨rfl, rfl⟩)
      | fail)
    go_ret
    exact ⟨rfl, HB.out⟩
set_option maxRecDepth 100000 in
theorem left_anyQ {w : World} {B n : Nat} {A : Option Addr} {l : List ShZ} (c : Nat) (x y : Int) (h : Shs w B A n l) (hB : B ≤ w.heap.size) (hn : n ≤ maxLen) (hq : leftR l = (x, y)) :
    Calls Try.prog 17 #[.slice A n c] w (fun e w' => e = .returned (.tuple #[.int .i64 x, .int .i64 y]) ∧ Below w.heap.size w w') := by
  unfold leftR at hq
  cases hm : mayB l with
  | false =>
    rw [hm] at hq
    obtain ⟨rfl, rfl⟩ : (0 : Int) = x ∧ (0 : Int) = y := by simpa using hq
    have MM := Lib.hid (may_anyQ c false h hB hn hm)
    clear h hq hm
    go_enter Try.func17, Try.ntmps17
    go_wp2_with (go_at_call 19; refine MM.out.mono ?_; rintro e w' ⟨rfl, hb⟩; have HB := Lib.hid hb; clear hb)
    go_ret2
    exact ⟨rfl, HB.out⟩
  | true =>
    rw [hm, if_pos rfl] at hq
    obtain ⟨hx, hy⟩ := Prod.mk.inj hq
    have MM := Lib.hid (may_anyQ c true h hB hn hm)
    have RM := Lib.hid (fun (V : World) (hV : Below w.heap.size w V) => rest_anyQ (w := V) c x y (h.below hV hB) (may_parts hm).1 hx hy)
    clear h hq hm hx hy
    go_enter Try.func17, Try.ntmps17
    go_wp2_with (first
      | (go_at_call 19; refine MM.out.mono ?_; rintro e w' ⟨rfl, hb⟩; have HB := Lib.hid hb; clear hb)
      | (go_at_call 30; refine (RM.out _ HB.out).mono ?_; rintro e w' ⟨rfl, rfl⟩)
      | fail)
    go_ret2
    exact ⟨rfl, HB.out⟩
set_option maxRecDepth 100000 in
theorem iffits_yesQ {w : World} {B n : Nat} {A : Option Addr} {l : List ShZ} (c : Nat) (h : Shs w B A n l) (hr : riseQ 0 l = true) (hq : fitB l = true) :
    Calls Try.prog 25 #[.slice A n c] w (fun e w' => e = .returned (.tuple #[.slice A n c, .int .i64 0]) ∧ w' = w) := by
  have FM := Lib.hid (fits_anyQ c true h hr hq)
  clear h hr hq
  go_enter Try.func25, Try.ntmps25
  go_wp2_with (go_at_call 32; refine FM.out.mono ?_; rintro e w' ⟨rfl, rfl⟩)
  go_ret2
  exact ⟨rfl, rfl⟩
set_option maxRecDepth 100000 in
theorem iffits_noQ {w : World} {B n : Nat} {A : Option Addr} {l : List ShZ} (c : Nat) (h : Shs w B A n l) (hr : riseQ 0 l = true) (hq : fitB l = false) :
    Calls Try.prog 25 #[.slice A n c] w (fun e w' => e = .returned (.tuple #[.slice none 0 0, .int .i64 120]) ∧ w' = w) := by
  have FM := Lib.hid (fits_anyQ c false h hr hq)
  clear h hr hq
  go_enter Try.func25, Try.ntmps25
  go_wp2_with (go_at_call 32; refine FM.out.mono ?_; rintro e w' ⟨rfl, rfl⟩)
  go_ret2
  exact ⟨rfl, rfl⟩
end Go.Proofs.Ytpodpbhbagkblaa
