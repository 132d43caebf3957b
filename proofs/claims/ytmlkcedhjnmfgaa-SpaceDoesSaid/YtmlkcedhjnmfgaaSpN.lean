/- Same. -/
import Derived.Test.YtmlkcedhjnmfgaaSpD
import Derived.Laws.StructEq
namespace Go.Proofs.Ytmlkcedhjnmfgaa
open Go.ChangeShapes Go.WideShapes Go.ChangeAt Go.RowKit
set_option linter.unusedVariables false
set_option linter.unusedSimpArgs false
open Plain Sp
theorem pair_ext {p q : PairZ} (h1 : p.k = q.k) (h2 : p.v = q.v) : p = q := by cases p; cases q; simp_all
theorem eqP_drop {l1 l2 : List PairZ} {k : Nat} {p1 p2 : PairZ} {q : Bool} (h1 : l1[k]? = some p1) (h2 : l2[k]? = some p2) (hq : decide (l1.drop k = l2.drop k) = q) :
    (p1.k ≠ p2.k → q = false) ∧ (p1.v ≠ p2.v → q = false) ∧ (p1.k = p2.k → p1.v = p2.v → decide (l1.drop (k + 1) = l2.drop (k + 1)) = q) := by
  rw [drop_atP h1, drop_atP h2] at hq
  refine ⟨fun e => ?_, fun e => ?_, fun e1 e2 => ?_⟩
  · rw [← hq, decide_eq_false_iff_not]; intro h; injection h with h _; exact e (by rw [h])
  · rw [← hq, decide_eq_false_iff_not]; intro h; injection h with h _; exact e (by rw [h])
  · rw [← hq, pair_ext e1 e2]; simp
set_option maxRecDepth 100000 in
set_option maxHeartbeats 4000000 in
theorem equal_any {w : World} {B1 B2 n1 n2 : Nat} {A1 A2 : Option Addr} {l1 l2 : List PairZ} (c1 c2 : Nat) (q : Bool) (h1 : Prs w B1 A1 n1 l1) (h2 : Prs w B2 A2 n2 l2) (hn1 : n1 ≤ 1000) (hn2 : n2 ≤ maxLen) (hq : decide (l1 = l2) = q) :
    Calls Try.prog 48 #[.slice A1 n1 c1, .slice A2 n2 c2] w (Quiet (.bool q) w) := by
  by_cases hn : n1 = n2
  · subst hn
    have L1 := Lib.hid h1.len
    have L2 := Lib.hid h2.len
    have H1 := Lib.hid h1
    have H2 := Lib.hid h2
    have HQ := Lib.hid hq
    clear h1 h2 hq hn2
    go_enter Try.func48, Try.ntmps48
    go_wp2
    go_loopw [13] (fun i wr => ∃ j : Nat, j ≤ n1 ∧ i = .int .i64 j ∧ Hid (∃ m, wr = w.drewN m) ∧ Hid (decide (l1.drop j = l2.drop j) = q)) (fun i _ => n1 - (intOf i).toNat)
    case atStart => exact ⟨0, by omega, rfl, Lib.hid ⟨0, rfl⟩, Lib.hid HQ.out⟩
    case round =>
      obtain ⟨j, hj, rfl, HW, HY⟩ := hrel
      by_cases hlt : j < n1
      · have hltI : (j : Int) < (n1 : Int) := by omega
        have HA : Hid (Prs wr B1 A1 n1 l1 ∧ Prs wr B2 A2 n1 l2) := Lib.hid (by
          obtain ⟨m, hm⟩ := HW.out
          rw [hm]; exact ⟨H1.out.drewN m, H2.out.drewN m⟩)
        obtain ⟨b1, o1, p1, rfl, hb1, K1, ok1, x0, x1⟩ := HA.out.1.at_ hlt
        obtain ⟨b2, o2, p2, rfl, hb2, K2, ok2, y0, y1⟩ := HA.out.2.at_ hlt
        have HD := Lib.hid (eqP_drop K1.out K2.out HY.out)
        clear ok1 ok2 HA
        by_cases hk : p1.k = p2.k
        · have SK := seq_of p1.k p2.k
          rw [decide_eq_true hk] at SK
          by_cases hv : p1.v = p2.v
          · have SV := seq_of p1.v p2.v
            rw [decide_eq_true hv] at SV
            have HD2 := Lib.hid (HD.out.2.2 hk hv)
            clear hk hv
            go_wp2
            go_quiet (fail)
            go_wp2
            go_roundw
            case rel => exact ⟨j + 1, by omega, by go_num, sq_on HW ⟨_, rfl⟩, HD2⟩
            case measure => simp [intOf]; omega
          · have SV := seq_of p1.v p2.v
            rw [decide_eq_false hv] at SV
            have e : q = false := HD.out.2.1 hv
            subst e
            clear hk hv
            go_wp2
            go_quiet (fail)
            go_wp2
            go_ret
            exact sq_more HW
        · have SK := seq_of p1.k p2.k
          rw [decide_eq_false hk] at SK
          have e : q = false := HD.out.1 hk
          subst e
          clear hk
          go_wp2
          go_quiet (fail)
          go_wp2
          go_ret
          exact sq_more HW
      · have e : q = true := by
          rw [← HY.out, List.drop_eq_nil_of_le (by rw [L1.out]; omega), List.drop_eq_nil_of_le (by rw [L2.out]; omega)]; rfl
        subst e
        go_wp2
        go_ret
        exact sq_more0 HW
  · have e : q = false := by
      rw [← hq, decide_eq_false_iff_not]
      intro e; subst e; exact hn (h1.len.symm.trans h2.len)
    subst e
    have hnI : ¬ ((n1 : Int) = (n2 : Int)) := by omega
    clear h1 h2 hq hn hn2
    go_enter Try.func48, Try.ntmps48
    go_wp2
    go_ret
    exact ⟨rfl, 0, rfl⟩
set_option maxRecDepth 100000 in
set_option maxHeartbeats 4000000 in
theorem same_any {w : World} {n1 n2 c1 c2 : Nat} {A1 A2 : Option Addr} {l1 l2 : List PairZ} (K1 Y1 K2 Y2 : Int) (q : Bool) (h1 : Spc w A1 n1 c1 l1) (h2 : Spc w A2 n2 c2 l2) (hq : sameB ⟨K1, Y1, l1⟩ ⟨K2, Y2, l2⟩ = q) :
    Calls Try.prog 28 #[.agg #[.int .i64 K1, .int .i64 Y1, .slice A1 n1 c1], .agg #[.int .i64 K2, .int .i64 Y2, .slice A2 n2 c2]] w (fun e w' => e = .returned (.bool q) ∧ Below w.heap.size w w') := by
  obtain ⟨W1, hW1⟩ : ∃ W, W = (w.alloc (.cells #[.int .i64 K1, .int .i64 Y1, .slice A1 n1 c1] 28)).alloc (.cells #[.int .i64 K2, .int .i64 Y2, .slice A2 n2 c2] 28) := ⟨_, rfl⟩
  have b1 := Lib.hid (show Below w.heap.size w W1 by rw [hW1]; exact (below_one _ _).alloc (by simp) _)
  have X1 := Lib.hid (show SBox W1 w.heap.size K1 Y1 A1 n1 c1 by rw [hW1]; exact (sbox_new _ _ _ _ _ _ _ _ rfl).grow (below_one _ _))
  have X2 := Lib.hid (show SBox W1 (w.heap.size + 1) K2 Y2 A2 n2 c2 by rw [hW1]; exact sbox_new _ _ _ _ _ _ _ _ (by simp))
  have HW1 := Lib.hid hW1
  have EM := Lib.hid (fun (q : Bool) (hq : decide (l1 = l2) = q) => equal_any (w := W1) c1 c2 q (h1.below b1.out).prs (h2.below b1.out).prs h1.nk h2.nm hq)
  clear hW1 h1 h2
  by_cases hK : K1 = K2
  · subst hK
    by_cases hY : Y1 = Y2
    · subst hY
      have EQ := Lib.hid (EM.out q (by rw [← hq]; simp [sameB]))
      clear hq EM
      go_enter Try.func28, Try.ntmps28
      go_upto_region 1 with fail
      rw [← HW1.out]
      obtain ⟨h1, h2, h3⟩ := X1.out
      obtain ⟨g1, g2, g3⟩ := X2.out
      go_wp2_with (go_at_call 48; refine EQ.out.mono ?_; rintro e w5 ⟨rfl, m, rfl⟩)
      go_ret
      exact ⟨rfl, below_drewN b1.out m⟩
    · have e : q = false := by rw [← hq]; simp [sameB, hY]
      subst e
      clear hq EM
      go_enter Try.func28, Try.ntmps28
      go_upto_region 1 with fail
      rw [← HW1.out]
      obtain ⟨h1, h2, h3⟩ := X1.out
      obtain ⟨g1, g2, g3⟩ := X2.out
      go_wp2
      go_ret
      exact ⟨rfl, b1.out⟩
  · have e : q = false := by rw [← hq]; simp [sameB, hK]
    subst e
    clear hq EM
    go_enter Try.func28, Try.ntmps28
    go_upto_region 1 with fail
    rw [← HW1.out]
    obtain ⟨h1, h2, h3⟩ := X1.out
    obtain ⟨g1, g2, g3⟩ := X2.out
    go_wp2
    go_ret
    exact ⟨rfl, b1.out⟩
end Go.Proofs.Ytmlkcedhjnmfgaa
