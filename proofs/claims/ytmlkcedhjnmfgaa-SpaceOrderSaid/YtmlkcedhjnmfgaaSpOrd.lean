/- The statement SpaceOrder: the walk. -/
import Derived.Test.YtmlkcedhjnmfgaaSpR
namespace Go.Proofs.Ytmlkcedhjnmfgaa
open Go.ChangeShapes Go.WideShapes Go.ChangeAt Go.RowKit
set_option linter.unusedVariables false
set_option linter.unusedSimpArgs false
open Plain Sp
set_option maxRecDepth 100000 in
set_option maxHeartbeats 4000000 in
theorem spOrder_any (K Y : Int) (A : Option Addr) (n c : Nat) (l : List PairZ) (a x b y : ByteArray) (w : World) (h : Prs w w.heap.size A n l) (hnc : n ≤ c) (hcm : c ≤ maxLen) :
    Calls Try.prog 7 #[.agg #[.int .i64 K, .int .i64 Y, .slice A n c], .string a, .string x, .string b, .string y] w (fun e w' => e = .returned (.bool true) ∧ Below w.heap.size w w') := by
  obtain ⟨W1, hW1⟩ : ∃ W, W = w.alloc (.cells #[.int .i64 K, .int .i64 Y, .slice A n c] 24) := ⟨_, rfl⟩
  have b1 := Lib.hid (show Below w.heap.size w W1 by rw [hW1]; exact below_one _ _)
  have X1 := Lib.hid (show SBox W1 w.heap.size K Y A n c by rw [hW1]; exact sbox_new _ _ _ _ _ _ _ _ rfl)
  have H1 := Lib.hid (h.below b1.out (Nat.le_refl _))
  have HW1 := Lib.hid hW1
  have AW := Lib.hid spawake_any
  have L := Lib.hid h.len
  obtain ⟨T1, hT1⟩ : ∃ T, IntKind.i64.wrap ((a.size : Int) + (x.size : Int)) = T := ⟨_, rfl⟩
  obtain ⟨T2, hT2⟩ : ∃ T, IntKind.i64.wrap (T1 + (b.size : Int)) = T := ⟨_, rfl⟩
  obtain ⟨T3, hT3⟩ : ∃ T, IntKind.i64.wrap (T2 + (y.size : Int)) = T := ⟨_, rfl⟩
  clear hW1 h hnc hcm
  by_cases hg : 100 < n
  · have GM := Lib.hid (fun V => great_any (w := V) (A := A) (c := c) K Y true (decide_eq_true hg))
    clear hg
    go_enter Try.func7, Try.ntmps7
    go_upto_region 1 with fail
    rw [← HW1.out]
    obtain ⟨h1, h2, h3⟩ := X1.out
    go_wp2_with (first
      | (go_at_call 9; refine (GM.out _).mono ?_; rintro e w2 ⟨rfl, hb⟩; have B2 := Lib.hid (b1.out.trans (hb.mono b1.out.size)); clear hb)
      | (go_at_call 20; refine (AW.out _).mono ?_; rintro e w3 ⟨rfl, hb⟩; have B3 := Lib.hid (B2.out.trans (hb.mono B2.out.size)); clear hb)
      | fail)
    go_ret
    exact ⟨rfl, B3.out⟩
  have GM := Lib.hid (fun V => great_any (w := V) (A := A) (c := c) K Y false (decide_eq_false hg))
  have hn : n ≤ 1000 := by omega
  clear hg
  by_cases h200 : 200 < T3
  · go_enter Try.func7, Try.ntmps7
    go_upto_region 1 with fail
    rw [← HW1.out]
    obtain ⟨h1, h2, h3⟩ := X1.out
    go_wp2_with (first
      | (go_at_call 9; refine (GM.out _).mono ?_; rintro e w2 ⟨rfl, hb⟩; have B2 := Lib.hid (b1.out.trans (hb.mono b1.out.size)); clear hb)
      | (go_at_call 20; refine (AW.out _).mono ?_; rintro e w3 ⟨rfl, hb⟩; have B3 := Lib.hid (B2.out.trans (hb.mono B2.out.size)); clear hb)
      | fail)
    go_ret
    exact ⟨rfl, B3.out⟩
  by_cases hab : a = b
  · have SQ := seq_of a b
    rw [decide_eq_true hab] at SQ
    clear hab
    go_enter Try.func7, Try.ntmps7
    go_upto_region 1 with fail
    rw [← HW1.out]
    obtain ⟨h1, h2, h3⟩ := X1.out
    go_wp2_with (first
      | (go_at_call 9; refine (GM.out _).mono ?_; rintro e w2 ⟨rfl, hb⟩; have B2 := Lib.hid (b1.out.trans (hb.mono b1.out.size)); clear hb)
      | (go_at_call 20; refine (AW.out _).mono ?_; rintro e w3 ⟨rfl, hb⟩; have B3 := Lib.hid (B2.out.trans (hb.mono B2.out.size)); clear hb)
      | fail)
    go_ret
    exact ⟨rfl, B3.out⟩
  have SQ := seq_of a b
  rw [decide_eq_false hab] at SQ
  have HAB := Lib.hid hab
  clear hab
  have TM := Lib.hid (fun (V : World) (hV : Below W1.heap.size W1 V) => to_any (w := V) (c := c) K Y ((H1.out.below hV (by have := b1.out.size; exact this)).more (Nat.le_trans b1.out.size hV.size)) hn)
  have HC := Lib.hid (fun (V : World) (hV : Below W1.heap.size W1 V) => X1.out.grow hV)
  clear H1
  go_enter Try.func7, Try.ntmps7
  go_upto_region 1 with fail
  rw [← HW1.out]
  obtain ⟨h1, h2, h3⟩ := X1.out
  go_wp2_with fail
  refine (GM.out _).mono ?_
  rintro e w2 ⟨rfl, hb⟩
  have B2 := Lib.hid hb
  clear hb h1 h2 h3
  obtain ⟨h1, h2, h3⟩ := HC.out _ B2.out
  go_wp2_with fail
  refine (TM.out _ B2.out).mono ?_
  rintro e w3 ⟨D3, d3, rfl, hn3, hb⟩
  obtain ⟨g3, hg3⟩ : ∃ g, w3.heap.size = g := ⟨_, rfl⟩
  obtain ⟨W3, hW3⟩ : ∃ W, W = w3.alloc (.cells #[.int .i64 K, .int .i64 Y, .slice D3 n d3] 28) := ⟨_, rfl⟩
  have B3 := Lib.hid (show Below w.heap.size w W3 by rw [hW3]; exact b1.out.trans ((B2.out.trans ((hb.alloc hb.size _).mono B2.out.size)).mono b1.out.size))
  have X3 := Lib.hid (show SBox W3 g3 K Y D3 n d3 by rw [hW3]; exact sbox_new _ _ _ _ _ _ _ _ hg3)
  have S3 := Lib.hid (show Spc W3 D3 n d3 l by rw [hW3]; exact (hn3.below (below_one _ _)).pre L.out hn)
  have HG3 := Lib.hid hg3
  have HW3 := Lib.hid hW3
  clear hb hW3 hg3 hn3 h1 h2 h3 hT1 hT2 hT3
  go_upto_region 4 with fail
  rw [HG3.out, ← HW3.out]
  obtain ⟨h1, h2, h3⟩ := X3.out
  obtain ⟨⟨⟨K4, Y4, l4⟩, e4⟩, hr4⟩ : ∃ r, putR ⟨K, Y, l⟩ a x = r := ⟨_, rfl⟩
  obtain ⟨⟨⟨K5, Y5, l5⟩, e5⟩, hr5⟩ : ∃ r, putR ⟨K, Y, l⟩ b y = r := ⟨_, rfl⟩
  go_wp2_with fail
  refine (put_any K Y a x _ S3.out hr4).mono ?_
  rintro e w4 ⟨n4, d4, D4, rfl, hn4, hb⟩
  have hl4 : n4 ≤ 64 := by rw [← hn4.len]; exact put_len hr4
  obtain ⟨g4, hg4⟩ : ∃ g, w4.heap.size = g := ⟨_, rfl⟩
  obtain ⟨W4, hW4⟩ : ∃ W, W = w4.alloc (.cells #[.int .i64 K4, .int .i64 Y4, .slice D4 n4 d4] 28) := ⟨_, rfl⟩
  have z4 := hb.size
  have B4 := Lib.hid (show Below W3.heap.size W3 W4 by rw [hW4]; exact hb.alloc hb.size _)
  have X4 := Lib.hid (show SBox W4 g4 K4 Y4 D4 n4 d4 by rw [hW4]; exact sbox_new _ _ _ _ _ _ _ _ hg4)
  have V4 := Lib.hid (show SVar W4 g4 by rw [hW4]; exact svar_new _ _ _ _ _ _ hg4)
  have S4 := Lib.hid (show Spc W4 D4 n4 d4 l4 by rw [hW4]; exact (hn4.below (below_one _ _)).spc (by omega))
  have y4 : W3.heap.size ≤ g4 := by rw [← hg4]; exact z4
  have HG4 := Lib.hid hg4
  have HW4 := Lib.hid hW4
  clear hb hW4 hg4 hn4 h1 h2 h3 z4
  go_upto_region 5 with fail
  rw [HG4.out, ← HW4.out]
  obtain ⟨h1, h2, h3⟩ := X3.out.grow B4.out
  go_wp2_with fail
  refine (put_any K Y b y _ (S3.out.below B4.out) hr5).mono ?_
  rintro e w5 ⟨n5, d5, D5, rfl, hn5, hb⟩
  have hl5 : n5 ≤ 64 := by rw [← hn5.len]; exact put_len hr5
  obtain ⟨g5, hg5⟩ : ∃ g, w5.heap.size = g := ⟨_, rfl⟩
  obtain ⟨W5, hW5⟩ : ∃ W, W = w5.alloc (.cells #[.int .i64 K5, .int .i64 Y5, .slice D5 n5 d5] 28) := ⟨_, rfl⟩
  have z5 := hb.size
  have B5 := Lib.hid (show Below W4.heap.size W4 W5 by rw [hW5]; exact hb.alloc hb.size _)
  have X5 := Lib.hid (show SBox W5 g5 K5 Y5 D5 n5 d5 by rw [hW5]; exact sbox_new _ _ _ _ _ _ _ _ hg5)
  have V5 := Lib.hid (show SVar W5 g5 by rw [hW5]; exact svar_new _ _ _ _ _ _ hg5)
  have S5 := Lib.hid (show NewP W5 W4.heap.size D5 n5 d5 l5 by rw [hW5]; exact hn5.below (below_one _ _))
  have y5 : W4.heap.size ≤ g5 := by rw [← hg5]; exact z5
  have HG5 := Lib.hid hg5
  have HW5 := Lib.hid hW5
  have BW5 := Lib.hid (B3.out.trans ((B4.out.trans (B5.out.mono B4.out.size)).mono B3.out.size))
  clear hb hW5 hg5 hn5 h1 h2 h3 z5
  go_upto_region 6 with fail
  rw [HG5.out, ← HW5.out]
  by_cases he4 : e4 = 0
  · by_cases he5 : e5 = 0
    · subst he4 he5
      obtain ⟨⟨⟨K6, Y6, l6⟩, e6⟩, hr6⟩ : ∃ r, putR ⟨K4, Y4, l4⟩ b y = r := ⟨_, rfl⟩
      have hr7 : putR ⟨K5, Y5, l5⟩ a x = (⟨K6, Y6, l6⟩, e6) := by rw [← put_order HAB.out hr4 hr5 rfl rfl]; exact hr6
      have q4 := V4.out.lt
      have q5 := V5.out.lt
      have b5 := B5.out.size
      have b3 := B3.out.size
      have PM := Lib.hid (put_any K4 Y4 b y _ (S4.out.below B5.out) hr6)
      have HS := Lib.hid sp_size
      have X45 := Lib.hid (X4.out.grow B5.out)
      have V45 := Lib.hid (V4.out.grow B5.out)
      obtain ⟨h1, h2, h3⟩ := X45.out
      clear hr4 hr5
      go_upto_region 9 with (first
        | (go_at_call 11; refine PM.out.mono ?_; rintro e w6 ⟨n6, d6, D6, rfl, hn6, hb⟩; have V6 := Lib.hid (V45.out.grow hb); have B6 := Lib.hid hb; have N6 := Lib.hid hn6; clear hb)
        | (refine sp_store_as (op := ⟨none, .store 28 (.tmp 12) (.tmp 66), _, _, _, _⟩) rfl 28 (.tmp 12) (.tmp 66) rfl g4 0 #[.int .i64 K6, .int .i64 Y6, .slice D6 n6 d6] rfl rfl V6.out.th HS.out (sp_one _ _ _ _ _) ?_; intro W7 hW7)
        | fail)
      have b6 := B6.out.size
      have hl6 : n6 ≤ 64 := by rw [← hn6.len]; exact put_len hr6
      have BW7 := Lib.hid (show Below w.heap.size w W7 by rw [hW7.out]; exact sp_setCells (by omega) _ _ _ (BW5.out.trans (B6.out.mono (by omega))))
      have X7 := Lib.hid (show SBox W7 g4 K6 Y6 D6 n6 d6 by rw [hW7.out]; exact sbox_put V6.out _ _ _ _ _)
      have X57 := Lib.hid (show SBox W7 g5 K5 Y5 D5 n5 d5 by rw [hW7.out]; exact sbox_far (X5.out.grow B6.out) (by omega) _ _)
      have V57 := Lib.hid (show SVar W7 g5 by rw [hW7.out]; exact svar_far (V5.out.grow B6.out) _ _ _)
      have N7 := Lib.hid (show NewP W7 W5.heap.size D6 n6 d6 l6 by rw [hW7.out]; exact N6.out.far (by omega) _ _)
      have S7 := Lib.hid (show Spc W7 D5 n5 d5 l5 by rw [hW7.out]; exact ((S5.out.below B6.out).far (by omega) _ _).spc (by omega))
      have z7 : w6.heap.size ≤ W7.heap.size := by rw [hW7.out]; exact (sp_setCells (Nat.zero_le _) _ _ _ (Below.refl 0 w6)).size
      have PM2 := Lib.hid (put_any K5 Y5 a x _ S7.out hr7)
      clear PM hW7 hn6 h1 h2 h3
      obtain ⟨h1, h2, h3⟩ := X57.out
      go_upto_region 10 with (first
        | (go_at_call 11; refine PM2.out.mono ?_; rintro e w8 ⟨n8, d8, D8, rfl, hn8, hb⟩; have V8 := Lib.hid (V57.out.grow hb); have B8 := Lib.hid hb; have N8 := Lib.hid hn8; clear hb)
        | (refine sp_store_as (op := ⟨none, .store 28 (.tmp 14) (.tmp 73), _, _, _, _⟩) rfl 28 (.tmp 14) (.tmp 73) rfl g5 0 #[.int .i64 K6, .int .i64 Y6, .slice D8 n8 d8] rfl rfl V8.out.th HS.out (sp_one _ _ _ _ _) ?_; intro W9 hW9)
        | fail)
      have b8 := B8.out.size
      have hl8 : n8 ≤ 64 := by rw [← hn8.len]; exact put_len hr7
      have BW9 := Lib.hid (show Below w.heap.size w W9 by rw [hW9.out]; exact sp_setCells (by omega) _ _ _ (BW7.out.trans (B8.out.mono (by omega))))
      have X9 := Lib.hid (show SBox W9 g5 K6 Y6 D8 n8 d8 by rw [hW9.out]; exact sbox_put V8.out _ _ _ _ _)
      have X79 := Lib.hid (show SBox W9 g4 K6 Y6 D6 n6 d6 by rw [hW9.out]; exact sbox_far (X7.out.grow B8.out) (by omega) _ _)
      have S9 := Lib.hid (show Spc W9 D8 n8 d8 l6 by rw [hW9.out]; exact (N8.out.far (by omega) _ _).spc (by omega))
      have S79 := Lib.hid (show Spc W9 D6 n6 d6 l6 by rw [hW9.out]; exact ((N7.out.below B8.out).far (by omega) _ _).spc (by omega))
      have SM := Lib.hid (same_any K6 Y6 K6 Y6 true S79.out S9.out (by simp [sameB]))
      clear PM2 hW9 hn8 h1 h2 h3
      obtain ⟨h1, h2, h3⟩ := X9.out
      obtain ⟨i1, i2, i3⟩ := X79.out
      go_wp2_with (first
        | (go_at_call 28; refine SM.out.mono ?_; rintro e w10 ⟨rfl, hb⟩; have B10 := Lib.hid (BW9.out.trans (hb.mono BW9.out.size)); clear hb)
        | (go_at_call 20; refine (AW.out _).mono ?_; rintro e w11 ⟨rfl, hb⟩; have B11 := Lib.hid (B10.out.trans (hb.mono B10.out.size)); clear hb)
        | fail)
      go_ret
      exact ⟨rfl, B11.out⟩
    · subst he4
      go_wp2_with (first
        | (go_at_call 20; refine (AW.out _).mono ?_; rintro e w6 ⟨rfl, hb⟩; have B6 := Lib.hid (BW5.out.trans (hb.mono BW5.out.size)); clear hb)
        | fail)
      go_ret
      exact ⟨rfl, B6.out⟩
  · go_wp2_with (first
      | (go_at_call 20; refine (AW.out _).mono ?_; rintro e w6 ⟨rfl, hb⟩; have B6 := Lib.hid (BW5.out.trans (hb.mono BW5.out.size)); clear hb)
      | fail)
    go_ret
    exact ⟨rfl, B6.out⟩
theorem spOrder_in (K Y : Int) (A : Option Addr) (n c : Nat) (l : List PairZ) (a x b y : ByteArray) (w : World) (hK : -9223372036854775808 ≤ K ∧ K ≤ 9223372036854775807) (hY : -9223372036854775808 ≤ Y ∧ Y ≤ 9223372036854775807) (h : Prs w w.heap.size A n l) (hnc : n ≤ c) (hcm : c ≤ maxLen) (h1 : a.size ≤ maxLen) (h2 : x.size ≤ maxLen) (h3 : b.size ≤ maxLen) (h4 : y.size ≤ maxLen) :
    Calls Try.prog 7 #[.agg #[.int .i64 K, .int .i64 Y, .slice A n c], .string a, .string x, .string b, .string y] w (fun e w' => e = .returned (.bool true) ∧ Below w.heap.size w w') := spOrder_any K Y A n c l a x b y w h hnc hcm
end Go.Proofs.Ytmlkcedhjnmfgaa
