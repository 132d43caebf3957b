/- Two requests held against each other; is one great. -/
import Derived.Test.YtcgclaailhhbpaaRqG
import Derived.Test.YtcgclaailhhbpaaRqW
namespace Go.Proofs.Ytcgclaailhhbpaa
open Go.ChangeShapes Go.WideShapes Go.ChangeAt Go.RowKit
set_option linter.unusedVariables false
set_option maxRecDepth 100000
set_option linter.unusedSimpArgs false
open Plain Sha Au Rp Rq
set_option maxHeartbeats 4000000 in
theorem rqsame_any {w : World} {B1 B2 : Nat} {x y : QX} (q : Bool) (h1 : QOk w B1 x) (h2 : QOk w B2 y) (hB1 : B1 ≤ w.heap.size) (hB2 : B2 ≤ w.heap.size) (hq : reqB x.z y.z = q) :
    Calls Try.prog 20 #[.agg (qc x).toArray, .agg (qc y).toArray] w (fun e w' => e = .returned (.bool q) ∧ Below w.heap.size w w') := by
  obtain ⟨W1, hW1⟩ : ∃ W, W = (w.alloc (.cells (qc x).toArray 26)).alloc (.cells (qc y).toArray 26) := ⟨_, rfl⟩
  have b1 := Lib.hid (show Below w.heap.size w W1 by rw [hW1]; exact ((Below.refl _ _).alloc (Nat.le_refl _) _).alloc (by simp) _)
  obtain ⟨g, hg⟩ : ∃ g, w.heap.size = g := ⟨_, rfl⟩
  have HG := Lib.hid hg
  have V1 : Hid (VBox W1 g 12 (qc x)) := Lib.hid (by rw [hW1, ← hg]; exact (vbox_new w (qc x) _ _ 12 rfl (qc_len _) (by omega)).grow (below_one _ _))
  have V2 : Hid (VBox W1 (g + 1) 12 (qc y)) := Lib.hid (by rw [hW1, ← hg]; exact vbox_new _ _ _ _ _ (by simp) (qc_len _) (by omega))
  obtain ⟨c0, c1, c2, c3, c4, c5, c6, c7, c8, c9, c10, c11⟩ := rng_q V1.out.range
  obtain ⟨d0, d1, d2, d3, d4, d5, d6, d7, d8, d9, d10, d11⟩ := rng_q V2.out.range
  simp only [Nat.zero_add] at c0 c1 c2 c3 c4 c5 c6 c7 c8 c9 c10 c11 d0 d1 d2 d3 d4 d5 d6 d7 d8 d9 d10 d11
  have S1 := Lib.hid (h1.below b1.out hB1).tok
  have S2 := Lib.hid (h2.below b1.out hB2).tok
  have HW1 := Lib.hid hW1
  have N1 : Hid (x.tl ≤ maxLen ∧ y.tl ≤ maxLen) := Lib.hid ⟨Nat.le_trans h1.tc h1.tm, Nat.le_trans h2.tc h2.tm⟩
  have HQ : Hid ((decide (x.op = y.op) && (eqB x.tok y.tok && (decide (x.key = y.key) && (decide (x.val = y.val) && (decide (x.old = y.old) && (decide (x.n = y.n) && (decide (x.tn = y.tn) && (decide (x.ks = y.ks) && (decide (x.sp = y.sp) && grE x.rt x.ex x.sr y.rt y.ex y.sr))))))))) = q) := Lib.hid (by
    rw [← hq]
    unfold reqB grE
    simp only [Bool.and_assoc]
    rfl)
  have BW := Lib.hid (below_drewN b1.out)
  have hgr : ∀ W, (binOp .eql 24 (.agg #[.int .u8 x.rt, .int .i64 x.ex, .int .i64 x.sr]) (.agg #[.int .u8 y.rt, .int .i64 y.ex, .int .i64 y.sr])).run Try.prog W = .ok (.bool (grE x.rt x.ex x.sr y.rt y.ex y.sr)) W := fun W => run_grEq _ _ _ _ _ _ W
  clear hW1 h1 h2 hq hg hB1 hB2
  obtain ⟨b0, h0⟩ : ∃ b, (x.op == y.op) = b := ⟨_, rfl⟩
  have H0 : Hid (decide (x.op = y.op) = b0) := Lib.hid h0
  cases b0 with
  | false =>
    have e : false = q := by rw [← HQ.out, H0.out]; simp only [Bool.true_and, Bool.false_and]
    subst e
    go_enter Try.func20, Try.ntmps20
    go_upto_region 1 with fail
    rw [← HW1.out, HG.out]
    go_wp2
    go_ret
    exact ⟨rfl, BW.out 0⟩
  | true =>
    obtain ⟨b1, h1⟩ : ∃ b, eqB x.tok y.tok = b := ⟨_, rfl⟩
    have H1 : Hid (eqB x.tok y.tok = b1) := Lib.hid h1
    cases b1 with
    | false =>
      have e : false = q := by rw [← HQ.out, H0.out, H1.out]; simp only [Bool.true_and, Bool.false_and]
      subst e
      go_enter Try.func20, Try.ntmps20
      go_upto_region 1 with fail
      rw [← HW1.out, HG.out]
      go_wp2_with (go_at_call 16; refine (refsame_any x.tc y.tc S1.out S2.out N1.out.1 N1.out.2).mono ?_; rintro e5 w5 ⟨rfl, m5, rfl⟩)
      go_ret
      exact ⟨rfl, BW.out _⟩
    | true =>
      obtain ⟨b2, h2⟩ : ∃ b, (x.key.toList == y.key.toList) = b := ⟨_, rfl⟩
      have H2 : Hid (decide (x.key = y.key) = b2) := Lib.hid (by rw [← seq_of]; exact h2)
      cases b2 with
      | false =>
        have e : false = q := by rw [← HQ.out, H0.out, H1.out, H2.out]; simp only [Bool.true_and, Bool.false_and]
        subst e
        go_enter Try.func20, Try.ntmps20
        go_upto_region 1 with fail
        rw [← HW1.out, HG.out]
        go_wp2_with (go_at_call 16; refine (refsame_any x.tc y.tc S1.out S2.out N1.out.1 N1.out.2).mono ?_; rintro e5 w5 ⟨rfl, m5, rfl⟩)
        go_ret
        exact ⟨rfl, BW.out _⟩
      | true =>
        obtain ⟨b3, h3⟩ : ∃ b, (x.val.toList == y.val.toList) = b := ⟨_, rfl⟩
        have H3 : Hid (decide (x.val = y.val) = b3) := Lib.hid (by rw [← seq_of]; exact h3)
        cases b3 with
        | false =>
          have e : false = q := by rw [← HQ.out, H0.out, H1.out, H2.out, H3.out]; simp only [Bool.true_and, Bool.false_and]
          subst e
          go_enter Try.func20, Try.ntmps20
          go_upto_region 1 with fail
          rw [← HW1.out, HG.out]
          go_wp2_with (go_at_call 16; refine (refsame_any x.tc y.tc S1.out S2.out N1.out.1 N1.out.2).mono ?_; rintro e5 w5 ⟨rfl, m5, rfl⟩)
          go_ret
          exact ⟨rfl, BW.out _⟩
        | true =>
          obtain ⟨b4, h4⟩ : ∃ b, (x.old.toList == y.old.toList) = b := ⟨_, rfl⟩
          have H4 : Hid (decide (x.old = y.old) = b4) := Lib.hid (by rw [← seq_of]; exact h4)
          cases b4 with
          | false =>
            have e : false = q := by rw [← HQ.out, H0.out, H1.out, H2.out, H3.out, H4.out]; simp only [Bool.true_and, Bool.false_and]
            subst e
            go_enter Try.func20, Try.ntmps20
            go_upto_region 1 with fail
            rw [← HW1.out, HG.out]
            go_wp2_with (go_at_call 16; refine (refsame_any x.tc y.tc S1.out S2.out N1.out.1 N1.out.2).mono ?_; rintro e5 w5 ⟨rfl, m5, rfl⟩)
            go_ret
            exact ⟨rfl, BW.out _⟩
          | true =>
            obtain ⟨b5, h5⟩ : ∃ b, (x.n == y.n) = b := ⟨_, rfl⟩
            have H5 : Hid (decide (x.n = y.n) = b5) := Lib.hid h5
            cases b5 with
            | false =>
              have e : false = q := by rw [← HQ.out, H0.out, H1.out, H2.out, H3.out, H4.out, H5.out]; simp only [Bool.true_and, Bool.false_and]
              subst e
              go_enter Try.func20, Try.ntmps20
              go_upto_region 1 with fail
              rw [← HW1.out, HG.out]
              go_wp2_with (go_at_call 16; refine (refsame_any x.tc y.tc S1.out S2.out N1.out.1 N1.out.2).mono ?_; rintro e5 w5 ⟨rfl, m5, rfl⟩)
              go_ret
              exact ⟨rfl, BW.out _⟩
            | true =>
              obtain ⟨b6, h6⟩ : ∃ b, (x.tn == y.tn) = b := ⟨_, rfl⟩
              have H6 : Hid (decide (x.tn = y.tn) = b6) := Lib.hid h6
              cases b6 with
              | false =>
                have e : false = q := by rw [← HQ.out, H0.out, H1.out, H2.out, H3.out, H4.out, H5.out, H6.out]; simp only [Bool.true_and, Bool.false_and]
                subst e
                go_enter Try.func20, Try.ntmps20
                go_upto_region 1 with fail
                rw [← HW1.out, HG.out]
                go_wp2_with (go_at_call 16; refine (refsame_any x.tc y.tc S1.out S2.out N1.out.1 N1.out.2).mono ?_; rintro e5 w5 ⟨rfl, m5, rfl⟩)
                go_ret
                exact ⟨rfl, BW.out _⟩
              | true =>
                obtain ⟨b7, h7⟩ : ∃ b, (x.ks == y.ks) = b := ⟨_, rfl⟩
                have H7 : Hid (decide (x.ks = y.ks) = b7) := Lib.hid h7
                cases b7 with
                | false =>
                  have e : false = q := by rw [← HQ.out, H0.out, H1.out, H2.out, H3.out, H4.out, H5.out, H6.out, H7.out]; simp only [Bool.true_and, Bool.false_and]
                  subst e
                  go_enter Try.func20, Try.ntmps20
                  go_upto_region 1 with fail
                  rw [← HW1.out, HG.out]
                  go_wp2_with (go_at_call 16; refine (refsame_any x.tc y.tc S1.out S2.out N1.out.1 N1.out.2).mono ?_; rintro e5 w5 ⟨rfl, m5, rfl⟩)
                  go_ret
                  exact ⟨rfl, BW.out _⟩
                | true =>
                  obtain ⟨b8, h8⟩ : ∃ b, (x.sp == y.sp) = b := ⟨_, rfl⟩
                  have H8 : Hid (decide (x.sp = y.sp) = b8) := Lib.hid h8
                  cases b8 with
                  | false =>
                    have e : false = q := by rw [← HQ.out, H0.out, H1.out, H2.out, H3.out, H4.out, H5.out, H6.out, H7.out, H8.out]; simp only [Bool.true_and, Bool.false_and]
                    subst e
                    go_enter Try.func20, Try.ntmps20
                    go_upto_region 1 with fail
                    rw [← HW1.out, HG.out]
                    go_wp2_with (go_at_call 16; refine (refsame_any x.tc y.tc S1.out S2.out N1.out.1 N1.out.2).mono ?_; rintro e5 w5 ⟨rfl, m5, rfl⟩)
                    go_ret
                    exact ⟨rfl, BW.out _⟩
                  | true =>
                    have e : grE x.rt x.ex x.sr y.rt y.ex y.sr = q := by rw [← HQ.out, H0.out, H1.out, H2.out, H3.out, H4.out, H5.out, H6.out, H7.out, H8.out]; simp only [Bool.true_and]
                    have HE := Lib.hid e
                    clear e
                    go_enter Try.func20, Try.ntmps20
                    go_upto_region 1 with fail
                    rw [← HW1.out, HG.out]
                    go_wp2_with (go_at_call 16; refine (refsame_any x.tc y.tc S1.out S2.out N1.out.1 N1.out.2).mono ?_; rintro e5 w5 ⟨rfl, m5, rfl⟩)
                    go_ret
                    exact ⟨congrArg (fun z => Ending.returned (.bool z)) HE.out, BW.out _⟩
def greatQ (z : ReqZ) : Bool := decide (2000 < z.tok.length) || decide (500 < z.key.size) || decide (500 < z.val.size) || decide (500 < z.old.size)
theorem greatQ_no {z : ReqZ} (h : greatQ z = false) : z.tok.length ≤ 2000 ∧ z.key.size ≤ 500 ∧ z.val.size ≤ 500 ∧ z.old.size ≤ 500 := by
  unfold greatQ at h
  simp only [Bool.or_eq_false_iff, decide_eq_false_iff_not] at h
  omega
set_option maxHeartbeats 2000000 in
theorem greatq_any {w : World} {x : QX} (q : Bool) (htl : x.tok.length = x.tl) (hq : greatQ x.z = q) : Calls Try.prog 11 #[.agg (qc x).toArray] w (fun e w' => e = .returned (.bool q) ∧ Below w.heap.size w w') := by
  obtain ⟨W1, hW1⟩ : ∃ W, W = w.alloc (.cells (qc x).toArray 26) := ⟨_, rfl⟩
  have b1 := Lib.hid (show Below w.heap.size w W1 by rw [hW1]; exact below_one _ _)
  obtain ⟨g, hg⟩ : ∃ g, w.heap.size = g := ⟨_, rfl⟩
  have HG := Lib.hid hg
  have V1 := Lib.hid (show VBox W1 g 12 (qc x) by rw [hW1]; exact vbox_new _ _ _ _ _ hg (qc_len x) (by omega))
  obtain ⟨c0, c1, c2, c3, c4, c5, c6, c7, c8, c9, c10, c11⟩ := rng_q V1.out.range
  simp only [Nat.zero_add] at c0 c1 c2 c3 c4 c5 c6 c7 c8 c9 c10 c11
  have HW1 := Lib.hid hW1
  have HQ : Hid ((decide (2000 < x.tl) || decide (500 < x.key.size) || decide (500 < x.val.size) || decide (500 < x.old.size)) = q) := Lib.hid (by rw [← hq, ← htl]; rfl)
  clear hW1 hq hg htl
  by_cases h1 : 2000 < x.tl
  · have i1 : (2000 : Int) < (x.tl : Int) := by omega
    have e : true = q := by rw [← HQ.out, decide_eq_true h1]; simp
    subst e
    go_enter Try.func11, Try.ntmps11
    go_upto_region 1 with fail
    rw [← HW1.out, HG.out]
    go_wp2
    go_ret
    exact ⟨rfl, b1.out⟩
  · have i1 : ¬ (2000 : Int) < (x.tl : Int) := by omega
    by_cases h2 : 500 < x.key.size
    · have i2 : (500 : Int) < (x.key.size : Int) := by omega
      have e : true = q := by rw [← HQ.out, decide_eq_true h2]; simp
      subst e
      go_enter Try.func11, Try.ntmps11
      go_upto_region 1 with fail
      rw [← HW1.out, HG.out]
      go_wp2
      go_ret
      exact ⟨rfl, b1.out⟩
    · have i2 : ¬ (500 : Int) < (x.key.size : Int) := by omega
      by_cases h3 : 500 < x.val.size
      · have i3 : (500 : Int) < (x.val.size : Int) := by omega
        have e : true = q := by rw [← HQ.out, decide_eq_true h3]; simp
        subst e
        go_enter Try.func11, Try.ntmps11
        go_upto_region 1 with fail
        rw [← HW1.out, HG.out]
        go_wp2
        go_ret
        exact ⟨rfl, b1.out⟩
      · have i3 : ¬ (500 : Int) < (x.val.size : Int) := by omega
        by_cases h4 : 500 < x.old.size
        · have i4 : (500 : Int) < (x.old.size : Int) := by omega
          have e : true = q := by rw [← HQ.out, decide_eq_true h4]; simp
          subst e
          go_enter Try.func11, Try.ntmps11
          go_upto_region 1 with fail
          rw [← HW1.out, HG.out]
          go_wp2
          go_ret
          exact ⟨rfl, b1.out⟩
        · have i4 : ¬ (500 : Int) < (x.old.size : Int) := by omega
          have e : false = q := by rw [← HQ.out, decide_eq_false h1, decide_eq_false h2, decide_eq_false h3, decide_eq_false h4]; rfl
          subst e
          go_enter Try.func11, Try.ntmps11
          go_upto_region 1 with fail
          rw [← HW1.out, HG.out]
          go_wp2
          go_ret
          exact ⟨rfl, b1.out⟩
end Go.Proofs.Ytcgclaailhhbpaa
