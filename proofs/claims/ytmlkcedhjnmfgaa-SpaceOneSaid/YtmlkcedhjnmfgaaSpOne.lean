/- The statement SpaceOne: the walk. -/
import Derived.Test.YtmlkcedhjnmfgaaSpOne0
namespace Go.Proofs.Ytmlkcedhjnmfgaa
open Go.ChangeShapes Go.WideShapes Go.ChangeAt Go.RowKit
set_option linter.unusedVariables false
set_option linter.unusedSimpArgs false
open Plain Sp
set_option maxRecDepth 100000 in
set_option maxHeartbeats 4000000 in
theorem spOne_any (K Y : Int) (A : Option Addr) (n c : Nat) (l : List PairZ) (m : Int) (k v o : ByteArray) (w : World) (h : Prs w w.heap.size A n l) (hnc : n ≤ c) (hcm : c ≤ maxLen) (hm0 : 0 ≤ m) (hm1 : m < 256) :
    Calls Try.prog 6 #[.agg #[.int .i64 K, .int .i64 Y, .slice A n c], .int .u8 m, .string k, .string v, .string o] w (fun e w' => e = .returned (.bool true) ∧ Below w.heap.size w w') := by
  obtain ⟨W1, hW1⟩ : ∃ W, W = w.alloc (.cells #[.int .i64 K, .int .i64 Y, .slice A n c] 24) := ⟨_, rfl⟩
  have b1 := Lib.hid (show Below w.heap.size w W1 by rw [hW1]; exact below_one _ _)
  have X1 := Lib.hid (show SBox W1 w.heap.size K Y A n c by rw [hW1]; exact sbox_new _ _ _ _ _ _ _ _ rfl)
  have H1 := Lib.hid (h.below b1.out (Nat.le_refl _))
  have HW1 := Lib.hid hW1
  have AW := Lib.hid spawake_any
  have L := Lib.hid h.len
  obtain ⟨T1, hT1⟩ : ∃ T, IntKind.i64.wrap ((k.size : Int) + (v.size : Int)) = T := ⟨_, rfl⟩
  obtain ⟨T2, hT2⟩ : ∃ T, IntKind.i64.wrap (T1 + (o.size : Int)) = T := ⟨_, rfl⟩
  clear hW1 h hnc hcm
  by_cases hg : 100 < n
  · have GM := Lib.hid (fun V => great_any (w := V) (A := A) (c := c) K Y true (decide_eq_true hg))
    clear hg
    go_enter Try.func6, Try.ntmps6
    go_upto_region 1 with fail
    rw [← HW1.out]
    obtain ⟨h1, h2, h3⟩ := X1.out
    go_wp2_with (first
      | (go_at_call 9; refine (GM.out _).mono ?_; rintro e w2 ⟨rfl, hb⟩; have B2 := Lib.hid (b1.out.trans (hb.mono b1.out.size)); clear hb)
      | (go_at_call 20; refine (AW.out _).mono ?_; rintro e w3 ⟨rfl, hb⟩; have B3 := Lib.hid (B2.out.trans (hb.mono B2.out.size)); clear hb)
      | fail)
    go_ret
    exact ⟨rfl, B3.out⟩
  have GM := Lib.hid (fun V => great_any (w := V) (A := A) (c := c) K Y false (decide_eq_false hg))
  have hn : n ≤ 1000 := by omega
  clear hg
  by_cases h200 : 200 < T2
  · go_enter Try.func6, Try.ntmps6
    go_upto_region 1 with fail
    rw [← HW1.out]
    obtain ⟨h1, h2, h3⟩ := X1.out
    go_wp2_with (first
      | (go_at_call 9; refine (GM.out _).mono ?_; rintro e w2 ⟨rfl, hb⟩; have B2 := Lib.hid (b1.out.trans (hb.mono b1.out.size)); clear hb)
      | (go_at_call 20; refine (AW.out _).mono ?_; rintro e w3 ⟨rfl, hb⟩; have B3 := Lib.hid (B2.out.trans (hb.mono B2.out.size)); clear hb)
      | fail)
    go_ret
    exact ⟨rfl, B3.out⟩
  have TM := Lib.hid (fun (V : World) (hV : Below W1.heap.size W1 V) => to_any (w := V) (c := c) K Y ((H1.out.below hV (by have := b1.out.size; exact this)).more (Nat.le_trans b1.out.size hV.size)) hn)
  have HC := Lib.hid (fun (V : World) (hV : Below W1.heap.size W1 V) => X1.out.grow hV)
  clear H1
  go_enter Try.func6, Try.ntmps6
  go_upto_region 1 with fail
  rw [← HW1.out]
  obtain ⟨h1, h2, h3⟩ := X1.out
  go_wp2_with fail
  refine (GM.out _).mono ?_
  rintro e w2 ⟨rfl, hb⟩
  have B2 := Lib.hid hb
  clear hb h1 h2 h3
  obtain ⟨h1, h2, h3⟩ := HC.out _ B2.out
  go_wp2_with fail
  refine (TM.out _ B2.out).mono ?_
  rintro e w3 ⟨D3, d3, rfl, hn3, hb⟩
  obtain ⟨g3, hg3⟩ : ∃ g, w3.heap.size = g := ⟨_, rfl⟩
  obtain ⟨W3, hW3⟩ : ∃ W, W = w3.alloc (.cells #[.int .i64 K, .int .i64 Y, .slice D3 n d3] 28) := ⟨_, rfl⟩
  have B3 := Lib.hid (show Below w.heap.size w W3 by rw [hW3]; exact b1.out.trans ((B2.out.trans ((hb.alloc hb.size _).mono B2.out.size)).mono b1.out.size))
  have X3 := Lib.hid (show SBox W3 g3 K Y D3 n d3 by rw [hW3]; exact sbox_new _ _ _ _ _ _ _ _ hg3)
  have S3 := Lib.hid (show Spc W3 D3 n d3 l by rw [hW3]; exact (hn3.below (below_one _ _)).pre L.out hn)
  have HG3 := Lib.hid hg3
  have HW3 := Lib.hid hW3
  clear hb hW3 hg3 hn3 h1 h2 h3 hT1 hT2
  go_upto_region 4 with fail
  rw [HG3.out, ← HW3.out]
  obtain ⟨h1, h2, h3⟩ := X3.out
  obtain ⟨⟨wv, we⟩, hgr⟩ : ∃ z, getR ⟨K, Y, l⟩ k = z := ⟨_, rfl⟩
  go_wp2_with fail
  refine (get_any K Y k _ _ S3.out hgr).mono ?_
  rintro e w4 ⟨rfl, hb⟩
  obtain ⟨g4, hg4⟩ : ∃ g, w4.heap.size = g := ⟨_, rfl⟩
  obtain ⟨W4, hW4⟩ : ∃ W, W = w4.alloc (.cells #[.int .i64 0, .int .i64 0, .slice none 0 0] 28) := ⟨_, rfl⟩
  have z4 := hb.size
  have B4 := Lib.hid (show Below W3.heap.size W3 W4 by rw [hW4]; exact hb.alloc hb.size _)
  have V4 := Lib.hid (show SVar W4 g4 by rw [hW4]; exact svar_new _ _ _ _ _ _ hg4)
  have u4 : W4.heap.size = g4 + 1 := by rw [hW4, ← hg4]; simp
  have y4 : W3.heap.size ≤ g4 := by rw [← hg4]; exact z4
  have HG4 := Lib.hid hg4
  have HW4 := Lib.hid hW4
  clear hb hW4 hg4 h1 h2 h3 z4
  go_upto_region 6 with fail
  rw [HG4.out, ← HW4.out]
  have HS := Lib.hid sp_size
  clear HW1 HW3 HW4 HG3 HG4 GM TM HC X1 B2
  rcases (show m % 3 = 0 ∨ m % 3 = 1 ∨ m % 3 = 2 by omega) with hq | hq | hq
  · have hq : m % 3 = 0 := hq
    obtain ⟨⟨⟨K5, Y5, l5⟩, e5⟩, hr5⟩ : ∃ r, oneR 0 ⟨K, Y, l⟩ k v = r := ⟨_, rfl⟩
    have PM := Lib.hid (put_any K Y k v (⟨K5, Y5, l5⟩, e5) (S3.out.below B4.out) hr5)
    have hl5 := one_len hr5
    obtain ⟨h1, h2, h3⟩ := X3.out.grow B4.out
    have q4 := V4.out.lt
    have q3 := B3.out.size
    go_upto_region 13 with (first
      | (go_at_call 11; refine PM.out.mono ?_; rintro e w5 ⟨n5, d5, D5, rfl, hn5, hb⟩; have V5 := Lib.hid (V4.out.grow hb); have B5 := Lib.hid hb; have N5 := Lib.hid hn5; clear hb)
      | (refine sp_store_as (op := ⟨none, .store 28 (.tmp 14) (.tmp 59), _, _, _, _⟩) rfl 28 (.tmp 14) (.tmp 59) rfl g4 0 #[.int .i64 K5, .int .i64 Y5, .slice D5 n5 d5] rfl rfl V5.out.th HS.out (sp_one _ _ _ _ _) ?_; intro W6 hW6)
      | fail)
    have b5 := B5.out.size
    have hl5 : n5 ≤ 64 := by rw [← hn5.len]; exact hl5
    have X6 := Lib.hid (show SBox W6 g4 K5 Y5 D5 n5 d5 by rw [hW6.out]; exact sbox_put V5.out _ _ _ _ _)
    have B36 := Lib.hid (show Below W3.heap.size W3 W6 by rw [hW6.out]; exact sp_setCells y4 _ _ _ (B4.out.trans (B5.out.mono B4.out.size)))
    have X36 := Lib.hid (X3.out.grow B36.out)
    have S6 := Lib.hid (show Spc W6 D5 n5 d5 l5 by rw [hW6.out]; exact (N5.out.far (by omega) _ _).spc (by omega))
    have S36 := Lib.hid (S3.out.below B36.out)
    have BW6 := Lib.hid (show Below w.heap.size w W6 by rw [hW6.out]; exact sp_setCells (by omega) _ _ _ (B3.out.trans ((B4.out.trans (B5.out.mono B4.out.size)).mono B3.out.size)))
    have L5 := Lib.hid hn5.len
    clear PM hW6 hn5 h1 h2 h3 B4 V4 V5 N5 B5 X3 S3 B36
    by_cases he5 : e5 = 0
    · subst he5
      obtain ⟨y1, y2, y3, y5⟩ := one_yes hr5 rfl
      have MM := Lib.hid (may_any K5 Y5 d5 true S6.out y1)
      have GM1 := Lib.hid (fun (V : World) (hV : Below W6.heap.size W6 V) => get_any (w := V) K5 Y5 k v 0 (S6.out.below hV) (y2 (by omega)))
      have HY := Lib.hid y5
      clear hr5 y1 y2 y3 y5
      obtain ⟨h1, h2, h3⟩ := X6.out
      go_upto_region 20 with (first
        | (go_at_call 27; refine MM.out.mono ?_; rintro e w7 ⟨rfl, hb⟩; have B7 := Lib.hid hb; obtain ⟨i1, i2, i3⟩ := X6.out.grow hb; clear hb)
        | (go_at_call 17; refine (GM1.out _ B7.out).mono ?_; rintro e w8 ⟨rfl, hb⟩; have B8 := Lib.hid (B7.out.trans (hb.mono B7.out.size)); clear hb)
        | fail)
      clear h1 h2 h3 i1 i2 i3 hq
      obtain ⟨⟨vo, eo⟩, ho1⟩ : ∃ z, getR ⟨K, Y, l⟩ o = z := ⟨_, rfl⟩
      have GM2 := Lib.hid (get_any K Y o vo eo (S36.out.below B8.out) ho1)
      obtain ⟨h1, h2, h3⟩ := X36.out.grow B8.out
      go_upto_region 21 with (first
        | (go_at_call 17; refine GM2.out.mono ?_; rintro e w9 ⟨rfl, hb⟩; have B9 := Lib.hid (B8.out.trans (hb.mono B8.out.size)); clear hb)
        | fail)
      clear h1 h2 h3 GM2
      obtain ⟨h1, h2, h3⟩ := X6.out.grow B9.out
      by_cases hok : o = k
      · have SQ := seq_of o k
        rw [decide_eq_true hok] at SQ
        obtain ⟨⟨vp, ep⟩, ho2⟩ : ∃ z, getR ⟨K5, Y5, l5⟩ o = z := ⟨_, rfl⟩
        have GM3 := Lib.hid (get_any K5 Y5 o vp ep (S6.out.below B9.out) ho2)
        clear hok ho1 ho2
        go_wp2_with (first
          | (go_at_call 17; refine GM3.out.mono ?_; rintro e w10 ⟨rfl, hb⟩; have B10 := Lib.hid (BW6.out.trans ((B9.out.trans (hb.mono B9.out.size)).mono BW6.out.size)); clear hb)
          | (go_at_call 20; refine (AW.out _).mono ?_; rintro e wz ⟨rfl, hb⟩; have BZ := Lib.hid (B10.out.trans (hb.mono B10.out.size)); clear hb)
          | fail)
        go_ret
        exact ⟨rfl, BZ.out⟩
      · have SQ := seq_of o k
        rw [decide_eq_false hok] at SQ
        have GM3 := Lib.hid (get_any K5 Y5 o vo eo (S6.out.below B9.out) ((HY.out o hok).trans ho1))
        clear hok ho1
        go_wp2_with (first
          | (go_at_call 17; refine GM3.out.mono ?_; rintro e w10 ⟨rfl, hb⟩; have B10 := Lib.hid (BW6.out.trans ((B9.out.trans (hb.mono B9.out.size)).mono BW6.out.size)); clear hb)
          | (go_at_call 20; refine (AW.out _).mono ?_; rintro e wz ⟨rfl, hb⟩; have BZ := Lib.hid (B10.out.trans (hb.mono B10.out.size)); clear hb)
          | fail)
        go_ret
        exact ⟨rfl, BZ.out⟩
    · obtain ⟨z1, z2⟩ := one_no hr5 he5
      have z0 : n5 = 0 := by rw [← L5.out, show l5 = [] from congrArg SpZ.l z1]; rfl
      subst z0
      rw [hgr] at z2
      have z2 : 0 = 0 ∨ we = e5 ∨ e5 = 120 ∨ e5 = 2 := z2
      obtain ⟨h1, h2, h3⟩ := X6.out
      clear hr5 z1
      go_wp2_with (first
        | (go_at_call 20; refine (AW.out _).mono ?_; rintro e wz ⟨rfl, hb⟩; have BZ := Lib.hid (BW6.out.trans (hb.mono BW6.out.size)); clear hb)
        | fail)
      go_ret
      exact ⟨rfl, BZ.out⟩
  · have hq : m % 3 = 1 := hq
    obtain ⟨⟨⟨K5, Y5, l5⟩, e5⟩, hr5⟩ : ∃ r, oneR 1 ⟨K, Y, l⟩ k v = r := ⟨_, rfl⟩
    have PM := Lib.hid (swap_any K Y k wv v (⟨K5, Y5, l5⟩, e5) (S3.out.below B4.out) (by rw [← hr5]; unfold oneR; rw [if_neg (by decide), if_pos rfl, hgr]))
    have hl5 := one_len hr5
    obtain ⟨h1, h2, h3⟩ := X3.out.grow B4.out
    have q4 := V4.out.lt
    have q3 := B3.out.size
    go_upto_region 13 with (first
      | (go_at_call 13; refine PM.out.mono ?_; rintro e w5 ⟨n5, d5, D5, rfl, hn5, hb⟩; have V5 := Lib.hid (V4.out.grow hb); have B5 := Lib.hid hb; have N5 := Lib.hid hn5; clear hb)
      | (refine sp_store_as (op := ⟨none, .store 28 (.tmp 14) (.tmp 69), _, _, _, _⟩) rfl 28 (.tmp 14) (.tmp 69) rfl g4 0 #[.int .i64 K5, .int .i64 Y5, .slice D5 n5 d5] rfl rfl V5.out.th HS.out (sp_one _ _ _ _ _) ?_; intro W6 hW6)
      | fail)
    have b5 := B5.out.size
    have hl5 : n5 ≤ 64 := by rw [← hn5.len]; exact hl5
    have X6 := Lib.hid (show SBox W6 g4 K5 Y5 D5 n5 d5 by rw [hW6.out]; exact sbox_put V5.out _ _ _ _ _)
    have B36 := Lib.hid (show Below W3.heap.size W3 W6 by rw [hW6.out]; exact sp_setCells y4 _ _ _ (B4.out.trans (B5.out.mono B4.out.size)))
    have X36 := Lib.hid (X3.out.grow B36.out)
    have S6 := Lib.hid (show Spc W6 D5 n5 d5 l5 by rw [hW6.out]; exact (N5.out.far (by omega) _ _).spc (by omega))
    have S36 := Lib.hid (S3.out.below B36.out)
    have BW6 := Lib.hid (show Below w.heap.size w W6 by rw [hW6.out]; exact sp_setCells (by omega) _ _ _ (B3.out.trans ((B4.out.trans (B5.out.mono B4.out.size)).mono B3.out.size)))
    have L5 := Lib.hid hn5.len
    clear PM hW6 hn5 h1 h2 h3 B4 V4 V5 N5 B5 X3 S3 B36
    by_cases he5 : e5 = 0
    · subst he5
      obtain ⟨y1, y2, y3, y5⟩ := one_yes hr5 rfl
      have MM := Lib.hid (may_any K5 Y5 d5 true S6.out y1)
      have GM1 := Lib.hid (fun (V : World) (hV : Below W6.heap.size W6 V) => get_any (w := V) K5 Y5 k v 0 (S6.out.below hV) (y2 (by omega)))
      have HY := Lib.hid y5
      clear hr5 y1 y2 y3 y5
      obtain ⟨h1, h2, h3⟩ := X6.out
      go_upto_region 20 with (first
        | (go_at_call 27; refine MM.out.mono ?_; rintro e w7 ⟨rfl, hb⟩; have B7 := Lib.hid hb; obtain ⟨i1, i2, i3⟩ := X6.out.grow hb; clear hb)
        | (go_at_call 17; refine (GM1.out _ B7.out).mono ?_; rintro e w8 ⟨rfl, hb⟩; have B8 := Lib.hid (B7.out.trans (hb.mono B7.out.size)); clear hb)
        | fail)
      clear h1 h2 h3 i1 i2 i3 hq
      obtain ⟨⟨vo, eo⟩, ho1⟩ : ∃ z, getR ⟨K, Y, l⟩ o = z := ⟨_, rfl⟩
      have GM2 := Lib.hid (get_any K Y o vo eo (S36.out.below B8.out) ho1)
      obtain ⟨h1, h2, h3⟩ := X36.out.grow B8.out
      go_upto_region 21 with (first
        | (go_at_call 17; refine GM2.out.mono ?_; rintro e w9 ⟨rfl, hb⟩; have B9 := Lib.hid (B8.out.trans (hb.mono B8.out.size)); clear hb)
        | fail)
      clear h1 h2 h3 GM2
      obtain ⟨h1, h2, h3⟩ := X6.out.grow B9.out
      by_cases hok : o = k
      · have SQ := seq_of o k
        rw [decide_eq_true hok] at SQ
        obtain ⟨⟨vp, ep⟩, ho2⟩ : ∃ z, getR ⟨K5, Y5, l5⟩ o = z := ⟨_, rfl⟩
        have GM3 := Lib.hid (get_any K5 Y5 o vp ep (S6.out.below B9.out) ho2)
        clear hok ho1 ho2
        go_wp2_with (first
          | (go_at_call 17; refine GM3.out.mono ?_; rintro e w10 ⟨rfl, hb⟩; have B10 := Lib.hid (BW6.out.trans ((B9.out.trans (hb.mono B9.out.size)).mono BW6.out.size)); clear hb)
          | (go_at_call 20; refine (AW.out _).mono ?_; rintro e wz ⟨rfl, hb⟩; have BZ := Lib.hid (B10.out.trans (hb.mono B10.out.size)); clear hb)
          | fail)
        go_ret
        exact ⟨rfl, BZ.out⟩
      · have SQ := seq_of o k
        rw [decide_eq_false hok] at SQ
        have GM3 := Lib.hid (get_any K5 Y5 o vo eo (S6.out.below B9.out) ((HY.out o hok).trans ho1))
        clear hok ho1
        go_wp2_with (first
          | (go_at_call 17; refine GM3.out.mono ?_; rintro e w10 ⟨rfl, hb⟩; have B10 := Lib.hid (BW6.out.trans ((B9.out.trans (hb.mono B9.out.size)).mono BW6.out.size)); clear hb)
          | (go_at_call 20; refine (AW.out _).mono ?_; rintro e wz ⟨rfl, hb⟩; have BZ := Lib.hid (B10.out.trans (hb.mono B10.out.size)); clear hb)
          | fail)
        go_ret
        exact ⟨rfl, BZ.out⟩
    · obtain ⟨z1, z2⟩ := one_no hr5 he5
      have z0 : n5 = 0 := by rw [← L5.out, show l5 = [] from congrArg SpZ.l z1]; rfl
      subst z0
      rw [hgr] at z2
      have z2 : 1 = 0 ∨ we = e5 ∨ e5 = 120 ∨ e5 = 2 := z2
      obtain ⟨h1, h2, h3⟩ := X6.out
      clear hr5 z1
      by_cases hwe : we = e5
      · subst hwe
        clear z2
        go_wp2_with (first
          | (go_at_call 20; refine (AW.out _).mono ?_; rintro e wz ⟨rfl, hb⟩; have BZ := Lib.hid (BW6.out.trans (hb.mono BW6.out.size)); clear hb)
          | fail)
        go_ret
        exact ⟨rfl, BZ.out⟩
      · have z3 : e5 = 120 ∨ e5 = 2 := by
          rcases z2 with h | h | h
          · omega
          · exact absurd h hwe
          · exact h
        clear z2
        rcases z3 with rfl | rfl
        · go_wp2_with (first
            | (go_at_call 20; refine (AW.out _).mono ?_; rintro e wz ⟨rfl, hb⟩; have BZ := Lib.hid (BW6.out.trans (hb.mono BW6.out.size)); clear hb)
            | fail)
          go_ret
          exact ⟨rfl, BZ.out⟩
        · go_wp2_with (first
            | (go_at_call 20; refine (AW.out _).mono ?_; rintro e wz ⟨rfl, hb⟩; have BZ := Lib.hid (BW6.out.trans (hb.mono BW6.out.size)); clear hb)
            | fail)
          go_ret
          exact ⟨rfl, BZ.out⟩
  · have hq : m % 3 = 2 := hq
    obtain ⟨⟨⟨K5, Y5, l5⟩, e5⟩, hr5⟩ : ∃ r, oneR 2 ⟨K, Y, l⟩ k v = r := ⟨_, rfl⟩
    have PM := Lib.hid (del_any K Y k (⟨K5, Y5, l5⟩, e5) (S3.out.below B4.out) (by rw [← hr5]; unfold oneR; rw [if_neg (by decide), if_neg (by decide)]))
    have hl5 := one_len hr5
    obtain ⟨h1, h2, h3⟩ := X3.out.grow B4.out
    have q4 := V4.out.lt
    have q3 := B3.out.size
    go_upto_region 13 with (first
      | (go_at_call 15; refine PM.out.mono ?_; rintro e w5 ⟨n5, d5, D5, rfl, hn5, hb⟩; have V5 := Lib.hid (V4.out.grow hb); have B5 := Lib.hid hb; have N5 := Lib.hid hn5; clear hb)
      | (refine sp_store_as (op := ⟨none, .store 28 (.tmp 14) (.tmp 50), _, _, _, _⟩) rfl 28 (.tmp 14) (.tmp 50) rfl g4 0 #[.int .i64 K5, .int .i64 Y5, .slice D5 n5 d5] rfl rfl V5.out.th HS.out (sp_one _ _ _ _ _) ?_; intro W6 hW6)
      | fail)
    have b5 := B5.out.size
    have hl5 : n5 ≤ 64 := by rw [← hn5.len]; exact hl5
    have X6 := Lib.hid (show SBox W6 g4 K5 Y5 D5 n5 d5 by rw [hW6.out]; exact sbox_put V5.out _ _ _ _ _)
    have B36 := Lib.hid (show Below W3.heap.size W3 W6 by rw [hW6.out]; exact sp_setCells y4 _ _ _ (B4.out.trans (B5.out.mono B4.out.size)))
    have X36 := Lib.hid (X3.out.grow B36.out)
    have S6 := Lib.hid (show Spc W6 D5 n5 d5 l5 by rw [hW6.out]; exact (N5.out.far (by omega) _ _).spc (by omega))
    have S36 := Lib.hid (S3.out.below B36.out)
    have BW6 := Lib.hid (show Below w.heap.size w W6 by rw [hW6.out]; exact sp_setCells (by omega) _ _ _ (B3.out.trans ((B4.out.trans (B5.out.mono B4.out.size)).mono B3.out.size)))
    have L5 := Lib.hid hn5.len
    clear PM hW6 hn5 h1 h2 h3 B4 V4 V5 N5 B5 X3 S3 B36
    by_cases he5 : e5 = 0
    · subst he5
      obtain ⟨y1, y2, y3, y5⟩ := one_yes hr5 rfl
      have MM := Lib.hid (may_any K5 Y5 d5 true S6.out y1)
      have GM1 := Lib.hid (fun (V : World) (hV : Below W6.heap.size W6 V) => get_any (w := V) K5 Y5 k ⟨#[]⟩ 110 (S6.out.below hV) (y3 (by omega)))
      have HY := Lib.hid y5
      clear hr5 y1 y2 y3 y5
      obtain ⟨h1, h2, h3⟩ := X6.out
      go_upto_region 20 with (first
        | (go_at_call 27; refine MM.out.mono ?_; rintro e w7 ⟨rfl, hb⟩; have B7 := Lib.hid hb; obtain ⟨i1, i2, i3⟩ := X6.out.grow hb; clear hb)
        | (go_at_call 17; refine (GM1.out _ B7.out).mono ?_; rintro e w8 ⟨rfl, hb⟩; have B8 := Lib.hid (B7.out.trans (hb.mono B7.out.size)); clear hb)
        | fail)
      clear h1 h2 h3 i1 i2 i3 hq
      obtain ⟨⟨vo, eo⟩, ho1⟩ : ∃ z, getR ⟨K, Y, l⟩ o = z := ⟨_, rfl⟩
      have GM2 := Lib.hid (get_any K Y o vo eo (S36.out.below B8.out) ho1)
      obtain ⟨h1, h2, h3⟩ := X36.out.grow B8.out
      go_upto_region 21 with (first
        | (go_at_call 17; refine GM2.out.mono ?_; rintro e w9 ⟨rfl, hb⟩; have B9 := Lib.hid (B8.out.trans (hb.mono B8.out.size)); clear hb)
        | fail)
      clear h1 h2 h3 GM2
      obtain ⟨h1, h2, h3⟩ := X6.out.grow B9.out
      by_cases hok : o = k
      · have SQ := seq_of o k
        rw [decide_eq_true hok] at SQ
        obtain ⟨⟨vp, ep⟩, ho2⟩ : ∃ z, getR ⟨K5, Y5, l5⟩ o = z := ⟨_, rfl⟩
        have GM3 := Lib.hid (get_any K5 Y5 o vp ep (S6.out.below B9.out) ho2)
        clear hok ho1 ho2
        go_wp2_with (first
          | (go_at_call 17; refine GM3.out.mono ?_; rintro e w10 ⟨rfl, hb⟩; have B10 := Lib.hid (BW6.out.trans ((B9.out.trans (hb.mono B9.out.size)).mono BW6.out.size)); clear hb)
          | (go_at_call 20; refine (AW.out _).mono ?_; rintro e wz ⟨rfl, hb⟩; have BZ := Lib.hid (B10.out.trans (hb.mono B10.out.size)); clear hb)
          | fail)
        go_ret
        exact ⟨rfl, BZ.out⟩
      · have SQ := seq_of o k
        rw [decide_eq_false hok] at SQ
        have GM3 := Lib.hid (get_any K5 Y5 o vo eo (S6.out.below B9.out) ((HY.out o hok).trans ho1))
        clear hok ho1
        go_wp2_with (first
          | (go_at_call 17; refine GM3.out.mono ?_; rintro e w10 ⟨rfl, hb⟩; have B10 := Lib.hid (BW6.out.trans ((B9.out.trans (hb.mono B9.out.size)).mono BW6.out.size)); clear hb)
          | (go_at_call 20; refine (AW.out _).mono ?_; rintro e wz ⟨rfl, hb⟩; have BZ := Lib.hid (B10.out.trans (hb.mono B10.out.size)); clear hb)
          | fail)
        go_ret
        exact ⟨rfl, BZ.out⟩
    · obtain ⟨z1, z2⟩ := one_no hr5 he5
      have z0 : n5 = 0 := by rw [← L5.out, show l5 = [] from congrArg SpZ.l z1]; rfl
      subst z0
      rw [hgr] at z2
      have z2 : 2 = 0 ∨ we = e5 ∨ e5 = 120 ∨ e5 = 2 := z2
      obtain ⟨h1, h2, h3⟩ := X6.out
      clear hr5 z1
      by_cases hwe : we = e5
      · subst hwe
        clear z2
        go_wp2_with (first
          | (go_at_call 20; refine (AW.out _).mono ?_; rintro e wz ⟨rfl, hb⟩; have BZ := Lib.hid (BW6.out.trans (hb.mono BW6.out.size)); clear hb)
          | fail)
        go_ret
        exact ⟨rfl, BZ.out⟩
      · have z3 : e5 = 120 ∨ e5 = 2 := by
          rcases z2 with h | h | h
          · omega
          · exact absurd h hwe
          · exact h
        clear z2
        rcases z3 with rfl | rfl
        · go_wp2_with (first
            | (go_at_call 20; refine (AW.out _).mono ?_; rintro e wz ⟨rfl, hb⟩; have BZ := Lib.hid (BW6.out.trans (hb.mono BW6.out.size)); clear hb)
            | fail)
          go_ret
          exact ⟨rfl, BZ.out⟩
        · go_wp2_with (first
            | (go_at_call 20; refine (AW.out _).mono ?_; rintro e wz ⟨rfl, hb⟩; have BZ := Lib.hid (BW6.out.trans (hb.mono BW6.out.size)); clear hb)
            | fail)
          go_ret
          exact ⟨rfl, BZ.out⟩
theorem spOne_in (K Y : Int) (A : Option Addr) (n c : Nat) (l : List PairZ) (m : Int) (k v o : ByteArray) (w : World) (hK : -9223372036854775808 ≤ K ∧ K ≤ 9223372036854775807) (hY : -9223372036854775808 ≤ Y ∧ Y ≤ 9223372036854775807) (h : Prs w w.heap.size A n l) (hnc : n ≤ c) (hcm : c ≤ maxLen) (hm0 : 0 ≤ m) (hm1 : m < 256) (h1 : k.size ≤ maxLen) (h2 : v.size ≤ maxLen) (h3 : o.size ≤ maxLen) :
    Calls Try.prog 6 #[.agg #[.int .i64 K, .int .i64 Y, .slice A n c], .int .u8 m, .string k, .string v, .string o] w (fun e w' => e = .returned (.bool true) ∧ Below w.heap.size w w') := spOne_any K Y A n c l m k v o w h hnc hcm hm0 hm1
end Go.Proofs.Ytmlkcedhjnmfgaa
