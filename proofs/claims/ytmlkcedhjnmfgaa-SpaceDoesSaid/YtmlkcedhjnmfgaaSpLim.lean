/- The statement SpaceLimits: the walk. -/
import Derived.Test.YtmlkcedhjnmfgaaSpW
import Derived.Test.YtmlkcedhjnmfgaaSpR
namespace Go.Proofs.Ytmlkcedhjnmfgaa
open Go.ChangeShapes Go.WideShapes Go.ChangeAt Go.RowKit
set_option linter.unusedVariables false
set_option linter.unusedSimpArgs false
open Plain Sp
theorem size_len {s : SpZ} {K Y : Int} {r : SpZ × Int} (hr : sizeR s K Y = r) : r.1.l.length ≤ s.l.length := by
  subst hr
  unfold sizeR fitR
  split
  · split
    · exact Nat.le_refl _
    · exact Nat.zero_le _
  · exact Nat.zero_le _
theorem sameB_self (s : SpZ) : sameB s s = true := by simp [sameB]
set_option maxRecDepth 100000 in
set_option maxHeartbeats 4000000 in
theorem spLimits_any (K Y : Int) (A : Option Addr) (n c : Nat) (l : List PairZ) (KN YN : Int) (w : World) (h : Prs w w.heap.size A n l) :
    Calls Try.prog 5 #[.agg #[.int .i64 K, .int .i64 Y, .slice A n c], .int .i64 KN, .int .i64 YN] w (fun e w' => e = .returned (.bool true) ∧ Below w.heap.size w w') := by
  obtain ⟨W1, hW1⟩ : ∃ W, W = w.alloc (.cells #[.int .i64 K, .int .i64 Y, .slice A n c] 24) := ⟨_, rfl⟩
  have b1 := Lib.hid (show Below w.heap.size w W1 by rw [hW1]; exact below_one _ _)
  have X1 := Lib.hid (show SBox W1 w.heap.size K Y A n c by rw [hW1]; exact sbox_new _ _ _ _ _ _ _ _ rfl)
  have H1 := Lib.hid ((h.below b1.out (Nat.le_refl _)).more b1.out.size)
  have HW1 := Lib.hid hW1
  have AW := Lib.hid spawake_any
  have L := Lib.hid h.len
  clear hW1 h
  by_cases hg : 100 < n
  · have GM := Lib.hid (fun V => great_any (w := V) (A := A) (c := c) K Y true (decide_eq_true hg))
    clear hg
    go_enter Try.func5, Try.ntmps5
    go_upto_region 1 with fail
    rw [← HW1.out]
    obtain ⟨h1, h2, h3⟩ := X1.out
    go_wp2_with (first
      | (go_at_call 9; refine (GM.out _).mono ?_; rintro e w2 ⟨rfl, hb⟩; have B2 := Lib.hid (b1.out.trans (hb.mono b1.out.size)); clear hb)
      | fail)
    go_ret
    exact ⟨rfl, B2.out⟩
  have GM := Lib.hid (fun V => great_any (w := V) (A := A) (c := c) K Y false (decide_eq_false hg))
  have hn : n ≤ 1000 := by omega
  clear hg
  have TM := Lib.hid (fun (V : World) (hV : Below W1.heap.size W1 V) => to_any (w := V) (c := c) K Y (H1.out.grow hV) hn)
  have HC := Lib.hid (fun (V : World) (hV : Below W1.heap.size W1 V) => X1.out.grow hV)
  obtain ⟨⟨⟨Ka, Ya, la⟩, ea⟩, hra⟩ : ∃ r, newR KN YN = r := ⟨_, rfl⟩
  obtain ⟨⟨⟨Kr, Yr, lr⟩, er⟩, hrr⟩ : ∃ r, sizeR ⟨K, Y, l⟩ KN YN = r := ⟨_, rfl⟩
  have RM := Lib.hid (fun (V : World) (hV : Below W1.heap.size W1 V) => rsize_any (w := V) (c := c) K Y KN YN _ (H1.out.grow hV) hn hrr)
  have HRA := Lib.hid hra
  have hlr : lr.length ≤ 1000 := Nat.le_trans (size_len hrr) (by show l.length ≤ 1000; rw [L.out]; exact hn)
  go_enter Try.func5, Try.ntmps5
  go_upto_region 1 with fail
  rw [← HW1.out]
  obtain ⟨h1, h2, h3⟩ := X1.out
  go_wp2_with fail
  refine (GM.out _).mono ?_
  rintro e w2 ⟨rfl, hb⟩
  have B2 := Lib.hid hb
  clear hb h1 h2 h3
  go_wp2_with fail
  refine (new_any (w := w2) KN YN _ hra).mono ?_
  rintro e w3 ⟨n3, d3, D3, rfl, hn3, hb⟩
  obtain ⟨g3, hg3⟩ : ∃ g, w3.heap.size = g := ⟨_, rfl⟩
  obtain ⟨W3, hW3⟩ : ∃ W, W = w3.alloc (.cells #[.int .i64 Ka, .int .i64 Ya, .slice D3 n3 d3] 28) := ⟨_, rfl⟩
  have B3 := Lib.hid (show Below W1.heap.size W1 W3 by rw [hW3]; exact B2.out.trans ((hb.alloc hb.size _).mono B2.out.size))
  have X3 := Lib.hid (show SBox W3 g3 Ka Ya D3 n3 d3 by rw [hW3]; exact sbox_new _ _ _ _ _ _ _ _ hg3)
  have N3 := Lib.hid (show NewP W3 w2.heap.size D3 n3 d3 la by rw [hW3]; exact hn3.below (below_one _ _))
  have HG3 := Lib.hid hg3
  have HW3 := Lib.hid hW3
  clear hb hW3 hg3 hn3 hra
  go_upto_region 4 with fail
  rw [HG3.out, ← HW3.out]
  obtain ⟨h1, h2, h3⟩ := HC.out _ B3.out
  go_wp2_with fail
  refine (TM.out _ B3.out).mono ?_
  rintro e w4 ⟨D4, d4, rfl, hn4, hb⟩
  obtain ⟨g4, hg4⟩ : ∃ g, w4.heap.size = g := ⟨_, rfl⟩
  obtain ⟨W4, hW4⟩ : ∃ W, W = w4.alloc (.cells #[.int .i64 K, .int .i64 Y, .slice D4 n d4] 28) := ⟨_, rfl⟩
  have B34 := Lib.hid (show Below W3.heap.size W3 W4 by rw [hW4]; exact hb.alloc hb.size _)
  have B4 := Lib.hid (B3.out.trans (B34.out.mono B3.out.size))
  have X4 := Lib.hid (show SBox W4 g4 K Y D4 n d4 by rw [hW4]; exact sbox_new _ _ _ _ _ _ _ _ hg4)
  have N4 := Lib.hid (show NewP W4 W3.heap.size D4 (n + 1) d4 (l ++ [tilde]) by rw [hW4]; exact hn4.below (below_one _ _))
  have S4 := Lib.hid (N4.out.pre L.out hn)
  have HG4 := Lib.hid hg4
  have HW4 := Lib.hid hW4
  clear hb hW4 hg4 hn4 h1 h2 h3
  go_upto_region 5 with fail
  rw [HG4.out, ← HW4.out]
  obtain ⟨h1, h2, h3⟩ := X4.out
  go_wp2_with fail
  refine (size_anyR K Y KN YN _ S4.out hrr).mono ?_
  rintro e w5 ⟨n5, d5, D5, rfl, hn5, hb⟩
  obtain ⟨g5, hg5⟩ : ∃ g, w5.heap.size = g := ⟨_, rfl⟩
  obtain ⟨W5, hW5⟩ : ∃ W, W = w5.alloc (.cells #[.int .i64 Kr, .int .i64 Yr, .slice D5 n5 d5] 28) := ⟨_, rfl⟩
  have B45 := Lib.hid (show Below W4.heap.size W4 W5 by rw [hW5]; exact hb.alloc hb.size _)
  have B5 := Lib.hid (B4.out.trans (B45.out.mono B4.out.size))
  have X5 := Lib.hid (show SBox W5 g5 Kr Yr D5 n5 d5 by rw [hW5]; exact sbox_new _ _ _ _ _ _ _ _ hg5)
  have N5 := Lib.hid (show NewP W5 W4.heap.size D5 n5 d5 lr by rw [hW5]; exact hn5.below (below_one _ _))
  have hl5 : n5 ≤ 1000 := by rw [← hn5.len]; exact hlr
  have HG5 := Lib.hid hg5
  have HW5 := Lib.hid hW5
  clear hb hW5 hg5 hn5 h1 h2 h3 hrr
  go_upto_region 6 with fail
  rw [HG5.out, ← HW5.out]
  obtain ⟨h1, h2, h3⟩ := HC.out _ B5.out
  go_wp2_with fail
  refine (RM.out _ B5.out).mono ?_
  rintro e w6 ⟨n6, d6, D6, rfl, hp6, hb⟩
  obtain ⟨g6, hg6⟩ : ∃ g, w6.heap.size = g := ⟨_, rfl⟩
  obtain ⟨W6, hW6⟩ : ∃ W, W = w6.alloc (.cells #[.int .i64 Kr, .int .i64 Yr, .slice D6 n6 d6] 24) := ⟨_, rfl⟩
  have B56 := Lib.hid (show Below W5.heap.size W5 W6 by rw [hW6]; exact hb.alloc hb.size _)
  have B6 := Lib.hid (B5.out.trans (B56.out.mono B5.out.size))
  have X6 := Lib.hid (show SBox W6 g6 Kr Yr D6 n6 d6 by rw [hW6]; exact sbox_new _ _ _ _ _ _ _ _ hg6)
  have P6 := Lib.hid (show Prs W6 W6.heap.size D6 n6 lr by rw [hW6]; exact hp6.grow (below_one _ _))
  have hl6 : n6 ≤ maxLen := by
    have h6 : n6 ≤ 1000 := by rw [← hp6.len]; exact hlr
    unfold maxLen; omega
  have HG6 := Lib.hid hg6
  have HW6 := Lib.hid hW6
  clear hb hW6 hg6 hp6 h1 h2 h3
  go_upto_region 7 with fail
  rw [HG6.out, ← HW6.out]
  have B46 := Lib.hid (B45.out.trans (B56.out.mono B45.out.size))
  have B36 := Lib.hid (B34.out.trans (B46.out.mono B34.out.size))
  have X36 := Lib.hid (X3.out.grow B36.out)
  have N36 := Lib.hid (N3.out.below B36.out)
  have X46 := Lib.hid (X4.out.grow B46.out)
  have N46 := Lib.hid (N4.out.below B46.out)
  have X56 := Lib.hid (X5.out.grow B56.out)
  have X16 := Lib.hid (HC.out _ B6.out)
  have H16 := Lib.hid (H1.out.grow B6.out)
  have BW6 := Lib.hid (b1.out.trans (B6.out.mono b1.out.size))
  have IM := Lib.hid (lis_any Kr Yr Kr Yr d5 d6 true (N5.out.below B56.out).prs P6.out hl5 hl6 (sameB_self _))
  have SM := Lib.hid (fun (V : World) (hV : Below W6.heap.size W6 V) => stays_any (c := c) K Y (N46.out.below hV) (H16.out.grow hV) hn)
  clear HW1 HW3 HW4 HW5 HW6 HG3 HG4 HG5 HG6 GM TM HC RM X1 X3 X4 X5 N3 N4 N5 S4 B2 B3 B34 B4 B45 B5 B56 B46 B36 b1 H1 P6
  obtain ⟨h1, h2, h3⟩ := X56.out
  obtain ⟨i1, i2, i3⟩ := X6.out
  cases hlq : limB KN YN with
  | false =>
    have LM := Lib.hid (rlim_any KN YN false hlq)
    have hra := HRA.out
    unfold newR at hra
    rw [hlq] at hra
    obtain ⟨e1, rfl⟩ := Prod.mk.inj hra
    obtain ⟨rfl, rfl, rfl⟩ := SpZ.mk.inj e1
    obtain rfl : n3 = 0 := N36.out.len.symm
    have JM := Lib.hid (fun (V : World) (hV : Below W6.heap.size W6 V) => lis_any (w := V) (A2 := none) 0 0 0 0 d3 0 true (N36.out.below hV).prs Prs.nil (by omega) (Nat.zero_le _) (sameB_self _))
    clear hra e1 hlq
    go_wp2_with fail
    refine IM.out.mono ?_
    rintro e w7 ⟨rfl, hb⟩
    have B7 := Lib.hid hb
    obtain ⟨j1, j2, j3⟩ := X46.out.grow hb
    obtain ⟨k1, k2, k3⟩ := X16.out.grow hb
    clear hb
    go_wp2_with fail
    refine (SM.out _ B7.out).mono ?_
    rintro e w8 ⟨rfl, hb⟩
    have B8 := Lib.hid (B7.out.trans (hb.mono B7.out.size))
    clear hb
    go_upto_region 9 with fail
    clear h1 h2 h3 i1 i2 i3 j1 j2 j3 k1 k2 k3
    go_wp2_with fail
    refine (LM.out _).mono ?_
    rintro e w9 ⟨rfl, hq9⟩
    have b9 := q_below B8.out hq9
    have B9 := Lib.hid b9
    obtain ⟨h1, h2, h3⟩ := X36.out.grow b9
    clear hq9 b9
    go_wp2_with fail
    refine (JM.out _ B9.out).mono ?_
    rintro e w10 ⟨rfl, hb⟩
    have B10 := Lib.hid (B9.out.trans (hb.mono B9.out.size))
    clear hb
    go_wp2_with fail
    refine (AW.out _).mono ?_
    rintro e w11 ⟨rfl, hb⟩
    have B11 := Lib.hid (BW6.out.trans ((B10.out.trans (hb.mono B10.out.size)).mono BW6.out.size))
    clear hb
    go_wp2
    go_ret
    exact ⟨rfl, B11.out⟩
  | true =>
    have LM := Lib.hid (rlim_any KN YN true hlq)
    have hra := HRA.out
    unfold newR at hra
    rw [hlq] at hra
    obtain ⟨e1, rfl⟩ := Prod.mk.inj hra
    obtain ⟨rfl, rfl, rfl⟩ := SpZ.mk.inj e1
    obtain rfl : n3 = 0 := N36.out.len.symm
    have JM := Lib.hid (fun (V : World) (hV : Below W6.heap.size W6 V) => lis_any (w := V) (A2 := none) KN YN KN YN d3 0 true (N36.out.below hV).prs Prs.nil (by omega) (Nat.zero_le _) (sameB_self _))
    clear hra e1 hlq
    go_wp2_with fail
    refine IM.out.mono ?_
    rintro e w7 ⟨rfl, hb⟩
    have B7 := Lib.hid hb
    obtain ⟨j1, j2, j3⟩ := X46.out.grow hb
    obtain ⟨k1, k2, k3⟩ := X16.out.grow hb
    clear hb
    go_wp2_with fail
    refine (SM.out _ B7.out).mono ?_
    rintro e w8 ⟨rfl, hb⟩
    have B8 := Lib.hid (B7.out.trans (hb.mono B7.out.size))
    clear hb
    go_upto_region 9 with fail
    clear h1 h2 h3 i1 i2 i3 j1 j2 j3 k1 k2 k3
    go_wp2_with fail
    refine (LM.out _).mono ?_
    rintro e w9 ⟨rfl, hq9⟩
    have b9 := q_below B8.out hq9
    have B9 := Lib.hid b9
    obtain ⟨h1, h2, h3⟩ := X36.out.grow b9
    clear hq9 b9
    go_wp2_with fail
    refine (JM.out _ B9.out).mono ?_
    rintro e w10 ⟨rfl, hb⟩
    have B10 := Lib.hid (B9.out.trans (hb.mono B9.out.size))
    clear hb
    go_wp2_with fail
    refine (AW.out _).mono ?_
    rintro e w11 ⟨rfl, hb⟩
    have B11 := Lib.hid (BW6.out.trans ((B10.out.trans (hb.mono B10.out.size)).mono BW6.out.size))
    clear hb
    go_wp2
    go_ret
    exact ⟨rfl, B11.out⟩
theorem spLimits_in (K Y : Int) (A : Option Addr) (n c : Nat) (l : List PairZ) (KN YN : Int) (w : World) (hK : -9223372036854775808 ≤ K ∧ K ≤ 9223372036854775807) (hY : -9223372036854775808 ≤ Y ∧ Y ≤ 9223372036854775807) (h : Prs w w.heap.size A n l) (hnc : n ≤ c) (hcm : c ≤ maxLen) (h1 : -9223372036854775808 ≤ KN ∧ KN ≤ 9223372036854775807) (h2 : -9223372036854775808 ≤ YN ∧ YN ≤ 9223372036854775807) :
    Calls Try.prog 5 #[.agg #[.int .i64 K, .int .i64 Y, .slice A n c], .int .i64 KN, .int .i64 YN] w (fun e w' => e = .returned (.bool true) ∧ Below w.heap.size w w') := spLimits_any K Y A n c l KN YN w h
end Go.Proofs.Ytmlkcedhjnmfgaa
