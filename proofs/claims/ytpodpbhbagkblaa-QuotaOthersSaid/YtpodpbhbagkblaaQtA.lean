/- Which shares may be; which lists rise; what they leave; whether that is a pool: the program's checks. -/
import Derived.Test.YtpodpbhbagkblaaQtM
import Derived.Lib.MinMax
import Derived.Deep.CutBlock
import Derived.Deep.DeepCutAuto
namespace Go.Proofs.Ytpodpbhbagkblaa
open Go.ChangeShapes Go.WideShapes Go.ChangeAt Go.RowKit
set_option linter.unusedVariables false
set_option linter.unusedSimpArgs false
open Plain Qt
theorem within_any (n a b : Int) (q : Bool) (h : (decide (a ≤ n) && decide (n ≤ b)) = q) (w : World) : Calls Try.prog 33 #[.int .i64 n, .int .i64 a, .int .i64 b] w (fun e w' => e = .returned (.bool q) ∧ w' = w) := by
  subst h
  by_cases h1 : a ≤ n
  · by_cases h2 : n ≤ b
    · have HM : Hid ((decide (a ≤ n) && decide (n ≤ b)) = true) := Lib.hid (by simp [*])
      rw [HM.out]
      go_enter Try.func33, Try.ntmps33
      go_wp2
      go_ret
      exact ⟨rfl, rfl⟩
    · have HM : Hid ((decide (a ≤ n) && decide (n ≤ b)) = false) := Lib.hid (by simp [*])
      rw [HM.out]
      go_enter Try.func33, Try.ntmps33
      go_wp2
      go_ret
      exact ⟨rfl, rfl⟩
  · have HM : Hid ((decide (a ≤ n) && decide (n ≤ b)) = false) := Lib.hid (by simp [*])
    rw [HM.out]
    go_enter Try.func33, Try.ntmps33
    go_wp2
    go_ret
    exact ⟨rfl, rfl⟩
set_option maxHeartbeats 1000000 in
theorem isshare_any (x : ShZ) (q : Bool) (h : shB x = q) (w : World) : Calls Try.prog 21 #[.agg #[.int .i64 x.t, .int .i64 x.k, .int .i64 x.s]] w (fun e w' => e = .returned (.bool q) ∧ Below w.heap.size w w') := by
  obtain ⟨t, k, s⟩ := x
  show Calls Try.prog 21 #[.agg #[.int .i64 t, .int .i64 k, .int .i64 s]] w _
  have HB := Lib.hid (below_oneQ w (.cells #[.int .i64 t, .int .i64 k, .int .i64 s] 27))
  cases h1 : (decide (1 ≤ t) && decide (t ≤ 8)) with
  | false =>
    have e : q = false := by
      rw [← h]; simp only [shB, Bool.and_eq_true, Bool.and_eq_false_iff] at h1 ⊢
      exact .inl (.inl (.inl (.inl h1)))
    subst e
    have W1 := Lib.hid (within_any t 1 8 false h1)
    clear h h1
    go_enter Try.func21, Try.ntmps21
    go_wp2_with (go_at_call 33; refine (W1.out _).mono ?_; rintro e w' ⟨rfl, rfl⟩)
    go_ret
    exact ⟨rfl, HB.out⟩
  | true =>
    have W1 := Lib.hid (within_any t 1 8 true h1)
    cases h2 : (decide (0 ≤ k) && decide (k ≤ 64)) with
    | false =>
      have e : q = false := by
        rw [← h]; simp only [shB, Bool.and_eq_true, Bool.and_eq_false_iff, Bool.and_assoc] at h2 ⊢
        rcases h2 with h2 | h2 <;> simp [h2]
      subst e
      have W2 := Lib.hid (within_any k 0 64 false h2)
      clear h h1 h2
      go_enter Try.func21, Try.ntmps21
      go_wp2_with (first
        | (go_at_call 33; refine (W1.out _).mono ?_; clear W1; rintro e w' ⟨rfl, rfl⟩)
        | (go_at_call 33; refine (W2.out _).mono ?_; clear W2; rintro e w' ⟨rfl, rfl⟩))
      go_ret
      exact ⟨rfl, HB.out⟩
    | true =>
      have W2 := Lib.hid (within_any k 0 64 true h2)
      have h3 : (decide (0 ≤ s) && decide (s ≤ 4096)) = q := by
        rw [← h]
        simp only [Bool.and_eq_true] at h1 h2
        simp [shB, h1.1, h1.2, h2.1, h2.2]
      have W3 := Lib.hid (within_any s 0 4096 q h3)
      clear h h1 h2 h3
      cases q
      · go_enter Try.func21, Try.ntmps21
        go_wp2_with (first
          | (go_at_call 33; refine (W1.out _).mono ?_; clear W1; rintro e w' ⟨rfl, rfl⟩)
          | (go_at_call 33; refine (W2.out _).mono ?_; clear W2; rintro e w' ⟨rfl, rfl⟩)
          | (go_at_call 33; refine (W3.out _).mono ?_; clear W3; rintro e w' ⟨rfl, rfl⟩))
        go_ret
        exact ⟨rfl, HB.out⟩
      · go_enter Try.func21, Try.ntmps21
        go_wp2_with (first
          | (go_at_call 33; refine (W1.out _).mono ?_; clear W1; rintro e w' ⟨rfl, rfl⟩)
          | (go_at_call 33; refine (W2.out _).mono ?_; clear W2; rintro e w' ⟨rfl, rfl⟩)
          | (go_at_call 33; refine (W3.out _).mono ?_; clear W3; rintro e w' ⟨rfl, rfl⟩))
        go_ret
        exact ⟨rfl, HB.out⟩
theorem isshare_val (t k s : Int) (q : Bool) (h : shB ⟨t, k, s⟩ = q) (w : World) : Calls Try.prog 21 #[.agg #[.int .i64 t, .int .i64 k, .int .i64 s]] w (fun e w' => e = .returned (.bool q) ∧ Below w.heap.size w w') := isshare_any ⟨t, k, s⟩ q h w
/-- What one share more asks. -/
theorem riseQ_step {l : List ShZ} {k : Nat} {g : ShZ} {p : Int} {q : Bool} (h : l[k]? = some g) (hq : riseQ p (l.drop k) = q) :
    (shB g = false → q = false) ∧ (g.t ≤ p → q = false) ∧ (shB g = true → p < g.t → riseQ g.t (l.drop (k + 1)) = q) := by
  rw [drop_atQ h] at hq
  simp only [riseQ] at hq
  refine ⟨fun e => ?_, fun e => ?_, fun e1 e2 => ?_⟩
  · rw [← hq, e]; rfl
  · rw [← hq, decide_eq_false (by omega)]; simp
  · rw [← hq, e1, decide_eq_true e2]; rfl
end Go.Proofs.Ytpodpbhbagkblaa
