/- The statement WireCount: the walk. -/
import Derived.Test.YthkbldgffagopaaWAwake
import Derived.Test.YthkbldgffagopaaNum
namespace Go.Proofs.Ythkbldgffagopaa
open Go.ChangeShapes Go.WideShapes Go.ChangeAt Go.RowKit
set_option linter.unusedVariables false
open Plain
theorem n64_len (n : Int) : (n64 n).length = 8 := putZ_len ..
theorem n64_bytes (n : Int) : IsBytes (n64 n) := putZ_bytes _ _
theorem intZ_n64 (n : Int) (h0 : -9223372036854775808 ≤ n) (h1 : n ≤ 9223372036854775807) : intZ (n64 n) = n := by
  unfold intZ n64
  rw [numZ_putZ 8 _ (by omega) (by omega)]
  unfold wrap64
  omega
theorem count_there (n most : Int) (left : Nat) (h0 : -9223372036854775808 ≤ n) (h1 : n ≤ 9223372036854775807) : rCount most (newWhy (n64 n ++ List.replicate left 0)) = if left ≤ 65528 ∧ 0 ≤ n ∧ n ≤ most ∧ n ≤ (left : Int) then (n, 0, List.replicate left 0) else (0, if left ≤ 65528 then 40 else 3, []) := by
  have hl : (n64 n ++ List.replicate left 0).length = 8 + left := by rw [List.length_append, n64_len, List.length_replicate]
  have ht : (n64 n ++ List.replicate left 0).take 8 = n64 n := by rw [← n64_len n, List.take_left]
  have hd : (n64 n ++ List.replicate left 0).drop 8 = List.replicate left 0 := by rw [← n64_len n, List.drop_left]
  unfold newWhy
  rw [hl]
  by_cases h : left ≤ 65528
  · rw [if_pos (by omega)]
    unfold rCount
    by_cases hc : 0 ≤ n ∧ n ≤ most ∧ n ≤ (left : Int)
    · rw [tk_ok _ _ _ _ _ (by omega) (by rw [ht, hd, intZ_n64 n h0 h1]; simpa using hc), ht, hd, intZ_n64 n h0 h1, if_pos ⟨h, hc⟩]
    · rw [tk_no _ _ _ _ _ (by rw [ht, hd, intZ_n64 n h0 h1]; simpa using hc), if_neg (fun q => hc q.2), if_pos h]
  · rw [if_neg (by omega), if_neg (fun q => h q.1), if_neg h]
    exact tk_bad _ _ _ _ _ _ (by omega)
set_option maxHeartbeats 1000000 in
theorem wireCount_walk (a0 : Int) (a1 : Int) (a2 : Int) (w0 : (Lit.int .i64 a0).wf = true) (w1 : (Lit.int .i64 a1).wf = true) (w2 : (Lit.int .i64 a2).wf = true) (w : World) :
    Calls Try.prog 10 #[.int .i64 a0, .int .i64 a1, .int .i64 a2] w fun e w' => e = .returned (.bool true) ∧ Below w.heap.size w w' := by
  obtain ⟨h0, h1⟩ := wf_i64 w0
  obtain ⟨g0, g1⟩ := wf_i64 w1
  clear w0 w1 w2
  by_cases hneg : a2 < 0
  · go_enter Try.func10, Try.ntmps10
    go_wp2_with (go_at_call 34; refine (wawake_any w).mono ?_; rintro e w1 ⟨rfl, hb⟩)
    go_ret
    exact ⟨rfl, hb⟩
  by_cases hbig : 100 < a2
  · go_enter Try.func10, Try.ntmps10
    go_wp2_with (go_at_call 34; refine (wawake_any w).mono ?_; rintro e w1 ⟨rfl, hb⟩)
    go_ret
    exact ⟨rfl, hb⟩
  obtain ⟨k, rfl⟩ := Int.eq_ofNat_of_zero_le (Int.not_lt.1 hneg)
  have hk : k ≤ 100 := by omega
  have hmk := make_u8 k (by omega)
  rw [madeCells_vals] at hmk
  have HR := Lib.hid (count_there a0 a1 k h0 h1)
  generalize hRk : List.replicate k (0 : Int) = R at *
  have HR0 := Lib.hid hRk
  clear hRk
  go_enter Try.func10, Try.ntmps10
  go_wp2_with (go_at_call 34; refine (wawake_any w).mono ?_; rintro e w1 ⟨rfl, hb⟩)
  have Q1 := Lib.hid hb
  clear hb
  refine (newwriter_any w1).mono ?_
  rintro e w2 ⟨rfl, r2, b2, _⟩
  have Q2 := Lib.hid (Q1.out.trans (b2.mono Q1.out.size))
  have s1 := Q1.out.size
  clear b2 Q1
  go_wp2_with fail
  refine (int_wr r2 a0 h0 h1).mono ?_
  intro e w3 hw
  obtain ⟨rfl, g3, r3, b3⟩ := Puts.under r2 hw (B := w.heap.size) s1
  have Q3 := Lib.hid (Q2.out.trans b3)
  rw [show wPut (some []) (n64 a0) = some (n64 a0) from by rw [wPut_yes _ _ (by rw [n64_len]; decide)]; rfl] at r3
  clear hw r2 b3 Q2
  go_wp2_with fail
  refine (done_ok r3).mono ?_
  rintro e w4 ⟨x4, rfl, l4, b4⟩
  have Q4 := Lib.hid (Q3.out.trans (b4.mono Q3.out.size))
  obtain ⟨A4, c4, rfl, z4, _, _⟩ := l4.bs (n64_bytes a0)
  rw [n64_len] at z4 ⊢
  have Z4 := Lib.hid z4
  have HRB : Hid (IsBytes R) := Lib.hid (by rw [← HR0.out]; exact rep_bytes _ _ (by omega) (by omega))
  have HRL : Hid (R.length = k) := Lib.hid (by rw [← HR0.out]; exact List.length_replicate ..)
  clear r3 l4 b4 z4 Q3
  have C2 := Lib.hid (cat2_any (w := w4.alloc (.cells (vals R).toArray 5)) c4 k 26 (Z4.out.alloc (Nat.le_refl _) _) (bs_new w4 R k HRL.out HRB.out 5 _ rfl) (by simp) (by simp) (by omega) 2 (w4.heap.size + 1) (by simp))
  go_wp2_with fail
  refine C2.out.mono ?_
  intro e w5 hm
  obtain ⟨D5, c5, rfl, ho5, hb5, _, _⟩ := hm.n (n := 8 + k) (by rw [List.length_append, n64_len, HRL.out])
  have q5 : Below w4.heap.size w4 w5 := (((Below.refl _ _).alloc (Nat.le_refl _) _).alloc (by simp) _).trans (hb5.mono (by simp; omega))
  have Q5 := Lib.hid (Q4.out.trans (q5.mono Q4.out.size))
  have Z5 := Lib.hid (Made.bs ho5 ((n64_bytes a0).app HRB.out))
  clear hm ho5 hb5 q5 Q4 C2 Z4
  go_wp2_with fail
  refine (newreader_any c5 Z5.out (Nat.le_refl _) (by omega)).mono ?_
  rintro e w6 ⟨b, rfl, r6, hb6, b6⟩
  have Q6 := Lib.hid (Q5.out.trans (b6.mono Q5.out.size))
  have s5 := Q5.out.size
  clear b6 Q5 Z5
  go_wp2_with fail
  refine (count_rd a1 r6).mono ?_
  rw [show ((newWhy (n64 a0 ++ R)).1, (newWhy (n64 a0 ++ R)).2) = newWhy (n64 a0 ++ R) from rfl, HR.out]
  rintro e w7 ⟨rfl, r7, g7⟩
  have Q7 := Lib.hid (Q6.out.grown g7 Q6.out.size (fun k hk => by injection hk with hk; omega))
  clear r6 g7 Q6
  by_cases hc : 0 ≤ a0 ∧ a0 ≤ a1 ∧ a0 ≤ (k : Int)
  · rw [if_pos ⟨by omega, hc⟩] at r7 ⊢
    have r7 : Rd w7 b _ 0 R := r7
    have HE := Lib.hid (err_any r7)
    have HL := Lib.hid (left_any r7)
    rw [HRL.out] at HL
    obtain ⟨c1, c2, c3⟩ := hc
    clear r7 HR
    go_wp2_with (first | (go_at_call 23; refine HE.out.mono ?_; rintro e w8 ⟨rfl, rfl⟩) | (go_at_call 21; refine HL.out.mono ?_; rintro e w8 ⟨rfl, rfl⟩))
    go_ret
    exact ⟨rfl, Q7.out⟩
  · rw [if_neg (fun q => hc q.2), if_pos (by omega)] at r7 ⊢
    have r7 : Rd w7 b _ 40 [] := r7
    have HE := Lib.hid (err_any r7)
    have HC := Lib.hid hc
    clear r7 HR hc
    by_cases c1 : a0 < 0
    · go_wp2_with (go_at_call 23; refine HE.out.mono ?_; rintro e w8 ⟨rfl, rfl⟩)
      go_ret
      exact ⟨rfl, Q7.out⟩
    by_cases c2 : a1 < a0
    · go_wp2_with (go_at_call 23; refine HE.out.mono ?_; rintro e w8 ⟨rfl, rfl⟩)
      go_ret
      exact ⟨rfl, Q7.out⟩
    have c3 : (k : Int) < a0 := by
      have := HC.out
      omega
    go_wp2_with (go_at_call 23; refine HE.out.mono ?_; rintro e w8 ⟨rfl, rfl⟩)
    go_ret
    exact ⟨rfl, Q7.out⟩
end Go.Proofs.Ythkbldgffagopaa
