/- The law's is, the document's own Same. -/
import Derived.Test.YtmlkcedhjnmfgaaSpN
namespace Go.Proofs.Ytmlkcedhjnmfgaa
open Go.ChangeShapes Go.WideShapes Go.ChangeAt Go.RowKit
set_option linter.unusedVariables false
set_option linter.unusedSimpArgs false
open Plain Sp
set_option maxRecDepth 100000 in
set_option maxHeartbeats 4000000 in
theorem lis_any {w : World} {n1 n2 : Nat} {A1 A2 : Option Addr} {l1 l2 : List PairZ} (K1 Y1 K2 Y2 : Int) (c1 c2 : Nat) (q : Bool) (h1 : Prs w w.heap.size A1 n1 l1) (h2 : Prs w w.heap.size A2 n2 l2) (hn1 : n1 ≤ 1000) (hn2 : n2 ≤ maxLen) (hq : sameB ⟨K1, Y1, l1⟩ ⟨K2, Y2, l2⟩ = q) :
    Calls Try.prog 21 #[.agg #[.int .i64 K1, .int .i64 Y1, .slice A1 n1 c1], .agg #[.int .i64 K2, .int .i64 Y2, .slice A2 n2 c2]] w (fun e w' => e = .returned (.bool q) ∧ Below w.heap.size w w') := by
  obtain ⟨W1, hW1⟩ : ∃ W, W = (w.alloc (.cells #[.int .i64 K1, .int .i64 Y1, .slice A1 n1 c1] 28)).alloc (.cells #[.int .i64 K2, .int .i64 Y2, .slice A2 n2 c2] 24) := ⟨_, rfl⟩
  have b1 := Lib.hid (show Below w.heap.size w W1 by rw [hW1]; exact (below_one _ _).alloc (by simp) _)
  have X1 := Lib.hid (show SBox W1 w.heap.size K1 Y1 A1 n1 c1 by rw [hW1]; exact (sbox_new _ _ _ _ _ _ _ _ rfl).grow (below_one _ _))
  have X2 := Lib.hid (show SBox W1 (w.heap.size + 1) K2 Y2 A2 n2 c2 by rw [hW1]; exact sbox_new _ _ _ _ _ _ _ _ (by simp))
  have HW1 := Lib.hid hW1
  have H1 := Lib.hid (h1.below b1.out (Nat.le_refl _))
  have H2 := Lib.hid (h2.below b1.out (Nat.le_refl _))
  have L1 := Lib.hid h1.len
  have L2 := Lib.hid h2.len
  clear hW1 h1 h2
  have NO := Lib.hid (fun (h : ¬ (K1 = K2 ∧ Y1 = Y2 ∧ n1 = n2)) => show q = false from by
    rw [← hq, sameB, Bool.and_eq_false_iff, Bool.and_eq_false_iff, decide_eq_false_iff_not, decide_eq_false_iff_not, decide_eq_false_iff_not]
    by_cases a : K1 = K2
    · by_cases b : Y1 = Y2
      · exact .inr (fun e => h ⟨a, b, by rw [← L1.out, ← L2.out]; exact congrArg List.length e⟩)
      · exact .inl (.inr b)
    · exact .inl (.inl a))
  by_cases hK : K1 = K2
  · subst hK
    by_cases hY : Y1 = Y2
    · subst hY
      by_cases hn : n1 = n2
      · subst hn
        have HQ := Lib.hid (show decide (l1 = l2) = q by rw [← hq]; simp [sameB])
        clear hq NO hn2
        go_enter Try.func21, Try.ntmps21
        go_upto_region 1 with fail
        rw [← HW1.out]
        obtain ⟨x1, x2, x3⟩ := X1.out
        obtain ⟨y1, y2, y3⟩ := X2.out
        go_upto_region 3 with fail
        clear x1 x2 x3 y1 y2 y3
        go_wp2
        go_loopw [5] (fun i wr => ∃ j : Nat, j ≤ n1 ∧ i = .int .i64 j ∧ Hid (∃ m, wr = W1.drewN m) ∧ Hid (decide (l1.drop j = l2.drop j) = q)) (fun i _ => n1 - (intOf i).toNat)
        case atStart => exact ⟨0, by omega, rfl, Lib.hid ⟨0, rfl⟩, Lib.hid HQ.out⟩
        case round =>
          obtain ⟨j, hj, rfl, HW, HY⟩ := hrel
          have HA := Lib.hid (show (Prs wr w.heap.size A1 n1 l1 ∧ Prs wr w.heap.size A2 n1 l2) ∧ Below w.heap.size w wr from by
            obtain ⟨m, hm⟩ := HW.out
            rw [hm]; exact ⟨⟨H1.out.drewN m, H2.out.drewN m⟩, below_drewN b1.out m⟩)
          obtain ⟨x3, y3⟩ : wr.cell? ⟨w.heap.size, 2, none⟩ = some (.slice A1 n1 c1) ∧ wr.cell? ⟨w.heap.size + 1, 2, none⟩ = some (.slice A2 n1 c2) := by
            obtain ⟨m, hm⟩ := HW.out
            rw [hm]; exact ⟨X1.out.2.2, X2.out.2.2⟩
          by_cases hlt : j < n1
          · have hltI : (j : Int) < (n1 : Int) := by omega
            obtain ⟨b1', o1, p1, rfl, hb1, K1', ok1, c10, c11⟩ := HA.out.1.1.at_ hlt
            obtain ⟨b2', o2, p2, rfl, hb2, K2', ok2, c20, c21⟩ := HA.out.1.2.at_ hlt
            have HD := Lib.hid (eqP_drop K1'.out K2'.out HY.out)
            clear ok1 ok2
            by_cases hk : p1.k = p2.k
            · have SK := seq_of p1.k p2.k
              rw [decide_eq_true hk] at SK
              by_cases hv : p1.v = p2.v
              · have SV := seq_of p1.v p2.v
                rw [decide_eq_true hv] at SV
                have HD2 := Lib.hid (HD.out.2.2 hk hv)
                clear hk hv
                go_wp2
                go_quiet (fail)
                go_wp2
                go_roundw
                case rel => exact ⟨j + 1, by omega, by go_num, sq_on HW ⟨_, rfl⟩, HD2⟩
                case measure => simp [intOf]; omega
              · have SV := seq_of p1.v p2.v
                rw [decide_eq_false hv] at SV
                have e : q = false := HD.out.2.1 hv
                subst e
                clear hk hv
                go_wp2
                go_quiet (fail)
                go_wp2
                go_ret
                exact ⟨rfl, below_drewN HA.out.2 _⟩
            · have SK := seq_of p1.k p2.k
              rw [decide_eq_false hk] at SK
              have e : q = false := HD.out.1 hk
              subst e
              clear hk
              go_wp2
              go_quiet (fail)
              go_wp2
              go_ret
              exact ⟨rfl, below_drewN HA.out.2 _⟩
          · have e : q = true := by
              rw [← HY.out, List.drop_eq_nil_of_le (by rw [L1.out]; omega), List.drop_eq_nil_of_le (by rw [L2.out]; omega)]; rfl
            subst e
            go_wp2
            go_ret
            exact ⟨rfl, HA.out.2⟩
      · have e : q = false := NO.out (fun h => hn h.2.2)
        subst e
        have hnI : ¬ ((n1 : Int) = (n2 : Int)) := by omega
        clear hq NO
        go_enter Try.func21, Try.ntmps21
        go_upto_region 1 with fail
        rw [← HW1.out]
        obtain ⟨x1, x2, x3⟩ := X1.out
        obtain ⟨y1, y2, y3⟩ := X2.out
        go_wp2
        go_ret
        exact ⟨rfl, b1.out⟩
    · have e : q = false := NO.out (fun h => hY h.2.1)
      subst e
      clear hq NO
      go_enter Try.func21, Try.ntmps21
      go_upto_region 1 with fail
      rw [← HW1.out]
      obtain ⟨x1, x2, x3⟩ := X1.out
      obtain ⟨y1, y2, y3⟩ := X2.out
      go_wp2
      go_ret
      exact ⟨rfl, b1.out⟩
  · have e : q = false := NO.out (fun h => hK h.1)
    subst e
    clear hq NO
    go_enter Try.func21, Try.ntmps21
    go_upto_region 1 with fail
    rw [← HW1.out]
    obtain ⟨x1, x2, x3⟩ := X1.out
    obtain ⟨y1, y2, y3⟩ := X2.out
    go_wp2
    go_ret
    exact ⟨rfl, b1.out⟩
set_option maxRecDepth 100000 in
set_option maxHeartbeats 4000000 in
theorem rsame_any {w : World} {n1 n2 : Nat} {A1 A2 : Option Addr} {l1 l2 : List PairZ} (K1 Y1 K2 Y2 : Int) (c1 c2 : Nat) (q : Bool) (h1 : Prs w w.heap.size A1 n1 l1) (h2 : Prs w w.heap.size A2 n2 l2) (hn1 : n1 ≤ 1000) (hn2 : n2 ≤ maxLen) (hq : sameB ⟨K1, Y1, l1⟩ ⟨K2, Y2, l2⟩ = q) :
    Calls Try.prog 29 #[.agg #[.int .i64 K1, .int .i64 Y1, .slice A1 n1 c1], .agg #[.int .i64 K2, .int .i64 Y2, .slice A2 n2 c2]] w (fun e w' => e = .returned (.bool q) ∧ Below w.heap.size w w') := by
  obtain ⟨W1, hW1⟩ : ∃ W, W = (w.alloc (.cells #[.int .i64 K1, .int .i64 Y1, .slice A1 n1 c1] 24)).alloc (.cells #[.int .i64 K2, .int .i64 Y2, .slice A2 n2 c2] 24) := ⟨_, rfl⟩
  have b1 := Lib.hid (show Below w.heap.size w W1 by rw [hW1]; exact (below_one _ _).alloc (by simp) _)
  have X1 := Lib.hid (show SBox W1 w.heap.size K1 Y1 A1 n1 c1 by rw [hW1]; exact (sbox_new _ _ _ _ _ _ _ _ rfl).grow (below_one _ _))
  have X2 := Lib.hid (show SBox W1 (w.heap.size + 1) K2 Y2 A2 n2 c2 by rw [hW1]; exact sbox_new _ _ _ _ _ _ _ _ (by simp))
  have HW1 := Lib.hid hW1
  have H1 := Lib.hid (h1.below b1.out (Nat.le_refl _))
  have H2 := Lib.hid (h2.below b1.out (Nat.le_refl _))
  have L1 := Lib.hid h1.len
  have L2 := Lib.hid h2.len
  clear hW1 h1 h2
  have NO := Lib.hid (fun (h : ¬ (K1 = K2 ∧ Y1 = Y2 ∧ n1 = n2)) => show q = false from by
    rw [← hq, sameB, Bool.and_eq_false_iff, Bool.and_eq_false_iff, decide_eq_false_iff_not, decide_eq_false_iff_not, decide_eq_false_iff_not]
    by_cases a : K1 = K2
    · by_cases b : Y1 = Y2
      · exact .inr (fun e => h ⟨a, b, by rw [← L1.out, ← L2.out]; exact congrArg List.length e⟩)
      · exact .inl (.inr b)
    · exact .inl (.inl a))
  by_cases hK : K1 = K2
  · subst hK
    by_cases hY : Y1 = Y2
    · subst hY
      by_cases hn : n1 = n2
      · subst hn
        have HQ := Lib.hid (show decide (l1 = l2) = q by rw [← hq]; simp [sameB])
        clear hq NO hn2
        go_enter Try.func29, Try.ntmps29
        go_upto_region 1 with fail
        rw [← HW1.out]
        obtain ⟨x1, x2, x3⟩ := X1.out
        obtain ⟨y1, y2, y3⟩ := X2.out
        go_upto_region 3 with fail
        clear x1 x2 x3 y1 y2 y3
        go_wp2
        go_loopw [5] (fun i wr => ∃ j : Nat, j ≤ n1 ∧ i = .int .i64 j ∧ Hid (∃ m, wr = W1.drewN m) ∧ Hid (decide (l1.drop j = l2.drop j) = q)) (fun i _ => n1 - (intOf i).toNat)
        case atStart => exact ⟨0, by omega, rfl, Lib.hid ⟨0, rfl⟩, Lib.hid HQ.out⟩
        case round =>
          obtain ⟨j, hj, rfl, HW, HY⟩ := hrel
          have HA := Lib.hid (show (Prs wr w.heap.size A1 n1 l1 ∧ Prs wr w.heap.size A2 n1 l2) ∧ Below w.heap.size w wr from by
            obtain ⟨m, hm⟩ := HW.out
            rw [hm]; exact ⟨⟨H1.out.drewN m, H2.out.drewN m⟩, below_drewN b1.out m⟩)
          obtain ⟨x3, y3⟩ : wr.cell? ⟨w.heap.size, 2, none⟩ = some (.slice A1 n1 c1) ∧ wr.cell? ⟨w.heap.size + 1, 2, none⟩ = some (.slice A2 n1 c2) := by
            obtain ⟨m, hm⟩ := HW.out
            rw [hm]; exact ⟨X1.out.2.2, X2.out.2.2⟩
          by_cases hlt : j < n1
          · have hltI : (j : Int) < (n1 : Int) := by omega
            obtain ⟨b1', o1, p1, rfl, hb1, K1', ok1, c10, c11⟩ := HA.out.1.1.at_ hlt
            obtain ⟨b2', o2, p2, rfl, hb2, K2', ok2, c20, c21⟩ := HA.out.1.2.at_ hlt
            have HD := Lib.hid (eqP_drop K1'.out K2'.out HY.out)
            clear ok1 ok2
            by_cases hk : p1.k = p2.k
            · have SK := seq_of p1.k p2.k
              rw [decide_eq_true hk] at SK
              by_cases hv : p1.v = p2.v
              · have SV := seq_of p1.v p2.v
                rw [decide_eq_true hv] at SV
                have HD2 := Lib.hid (HD.out.2.2 hk hv)
                clear hk hv
                go_wp2
                go_quiet (fail)
                go_wp2
                go_roundw
                case rel => exact ⟨j + 1, by omega, by go_num, sq_on HW ⟨_, rfl⟩, HD2⟩
                case measure => simp [intOf]; omega
              · have SV := seq_of p1.v p2.v
                rw [decide_eq_false hv] at SV
                have e : q = false := HD.out.2.1 hv
                subst e
                clear hk hv
                go_wp2
                go_quiet (fail)
                go_wp2
                go_ret
                exact ⟨rfl, below_drewN HA.out.2 _⟩
            · have SK := seq_of p1.k p2.k
              rw [decide_eq_false hk] at SK
              have e : q = false := HD.out.1 hk
              subst e
              clear hk
              go_wp2
              go_quiet (fail)
              go_wp2
              go_ret
              exact ⟨rfl, below_drewN HA.out.2 _⟩
          · have e : q = true := by
              rw [← HY.out, List.drop_eq_nil_of_le (by rw [L1.out]; omega), List.drop_eq_nil_of_le (by rw [L2.out]; omega)]; rfl
            subst e
            go_wp2
            go_ret
            exact ⟨rfl, HA.out.2⟩
      · have e : q = false := NO.out (fun h => hn h.2.2)
        subst e
        have hnI : ¬ ((n1 : Int) = (n2 : Int)) := by omega
        clear hq NO
        go_enter Try.func29, Try.ntmps29
        go_upto_region 1 with fail
        rw [← HW1.out]
        obtain ⟨x1, x2, x3⟩ := X1.out
        obtain ⟨y1, y2, y3⟩ := X2.out
        go_wp2
        go_ret
        exact ⟨rfl, b1.out⟩
    · have e : q = false := NO.out (fun h => hY h.2.1)
      subst e
      clear hq NO
      go_enter Try.func29, Try.ntmps29
      go_upto_region 1 with fail
      rw [← HW1.out]
      obtain ⟨x1, x2, x3⟩ := X1.out
      obtain ⟨y1, y2, y3⟩ := X2.out
      go_wp2
      go_ret
      exact ⟨rfl, b1.out⟩
  · have e : q = false := NO.out (fun h => hK h.1)
    subst e
    clear hq NO
    go_enter Try.func29, Try.ntmps29
    go_upto_region 1 with fail
    rw [← HW1.out]
    obtain ⟨x1, x2, x3⟩ := X1.out
    obtain ⟨y1, y2, y3⟩ := X2.out
    go_wp2
    go_ret
    exact ⟨rfl, b1.out⟩
end Go.Proofs.Ytmlkcedhjnmfgaa
