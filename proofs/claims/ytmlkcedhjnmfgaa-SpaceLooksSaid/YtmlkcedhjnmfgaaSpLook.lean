/- The statement SpaceLooks: the walk. -/
import Derived.Test.YtmlkcedhjnmfgaaSpLim
import Derived.Test.YtmlkcedhjnmfgaaSpRL
namespace Go.Proofs.Ytmlkcedhjnmfgaa
open Go.ChangeShapes Go.WideShapes Go.ChangeAt Go.RowKit
set_option linter.unusedVariables false
set_option linter.unusedSimpArgs false
open Plain Sp
set_option maxRecDepth 100000 in
set_option maxHeartbeats 8000000 in
theorem spLooks_any (KI Y : Int) (A : Option Addr) (n c : Nat) (l : List PairZ) (K2 Y2 : Int) (A2 : Option Addr) (n2 c2 : Nat) (l2 : List PairZ) (f : ByteArray) (k : Int) (w : World) (h : Prs w w.heap.size A n l) (j : Prs w w.heap.size A2 n2 l2) (hk1 : -9223372036854775808 ≤ k) (hk2 : k ≤ 9223372036854775807) :
    Calls Try.prog 4 #[.agg #[.int .i64 KI, .int .i64 Y, .slice A n c], .agg #[.int .i64 K2, .int .i64 Y2, .slice A2 n2 c2], .string f, .int .i64 k] w (fun e w' => e = .returned (.bool true) ∧ Below w.heap.size w w') := by
  obtain ⟨W1, hW1⟩ : ∃ W, W = (w.alloc (.cells #[.int .i64 KI, .int .i64 Y, .slice A n c] 24)).alloc (.cells #[.int .i64 K2, .int .i64 Y2, .slice A2 n2 c2] 24) := ⟨_, rfl⟩
  have b1 := Lib.hid (show Below w.heap.size w W1 by rw [hW1]; exact (below_one _ _).alloc (by simp) _)
  have X1 := Lib.hid (show SBox W1 w.heap.size KI Y A n c by rw [hW1]; exact (sbox_new _ _ _ _ _ _ _ _ rfl).grow (below_one _ _))
  have X2 := Lib.hid (show SBox W1 (w.heap.size + 1) K2 Y2 A2 n2 c2 by rw [hW1]; exact sbox_new _ _ _ _ _ _ _ _ (by simp))
  have H1 := Lib.hid ((h.below b1.out (Nat.le_refl _)).more b1.out.size)
  have J1 := Lib.hid ((j.below b1.out (Nat.le_refl _)).more b1.out.size)
  have HW1 := Lib.hid hW1
  have AW := Lib.hid spawake_any
  have L1 := Lib.hid h.len
  have L2 := Lib.hid j.len
  clear hW1 h j
  have HC := Lib.hid (fun (V : World) (hV : Below W1.heap.size W1 V) => (⟨X1.out.grow hV, X2.out.grow hV⟩ : SBox V w.heap.size KI Y A n c ∧ SBox V (w.heap.size + 1) K2 Y2 A2 n2 c2))
  by_cases hg : 100 < n
  · have GM := Lib.hid (fun V => great_any (w := V) (A := A) (c := c) KI Y true (decide_eq_true hg))
    clear hg
    go_enter Try.func4, Try.ntmps4
    go_upto_region 1 with fail
    rw [← HW1.out]
    obtain ⟨h1, h2, h3⟩ := X1.out
    go_wp2_with fail
    refine (GM.out _).mono ?_
    rintro e w2 ⟨rfl, hb⟩
    have B2 := Lib.hid (b1.out.trans (hb.mono b1.out.size))
    clear hb
    go_wp2
    go_ret
    exact ⟨rfl, B2.out⟩
  have GM := Lib.hid (fun V => great_any (w := V) (A := A) (c := c) KI Y false (decide_eq_false hg))
  have hn : n ≤ 1000 := by omega
  clear hg
  by_cases hg : 100 < n2
  · have GM2 := Lib.hid (fun V => great_any (w := V) (A := A2) (c := c2) K2 Y2 true (decide_eq_true hg))
    clear hg
    go_enter Try.func4, Try.ntmps4
    go_upto_region 1 with fail
    rw [← HW1.out]
    obtain ⟨h1, h2, h3⟩ := X1.out
    go_wp2_with fail
    refine (GM.out _).mono ?_
    rintro e w2 ⟨rfl, hb⟩
    have B2 := Lib.hid hb
    obtain ⟨-, i1, i2, i3⟩ := HC.out _ hb
    clear hb h1 h2 h3
    go_wp2_with fail
    refine (GM2.out _).mono ?_
    rintro e w3 ⟨rfl, hb⟩
    have B3 := Lib.hid (b1.out.trans ((B2.out.trans (hb.mono B2.out.size)).mono b1.out.size))
    clear hb
    go_wp2
    go_ret
    exact ⟨rfl, B3.out⟩
  have GM2 := Lib.hid (fun V => great_any (w := V) (A := A2) (c := c2) K2 Y2 false (decide_eq_false hg))
  have hn2 : n2 ≤ 1000 := by omega
  clear hg
  by_cases h200 : (200 : Int) < (f.size : Int)
  · go_enter Try.func4, Try.ntmps4
    go_upto_region 1 with fail
    rw [← HW1.out]
    obtain ⟨h1, h2, h3⟩ := X1.out
    go_wp2_with fail
    refine (GM.out _).mono ?_
    rintro e w2 ⟨rfl, hb⟩
    have B2 := Lib.hid hb
    obtain ⟨-, i1, i2, i3⟩ := HC.out _ hb
    clear hb h1 h2 h3
    go_wp2_with fail
    refine (GM2.out _).mono ?_
    rintro e w3 ⟨rfl, hb⟩
    have B3 := Lib.hid (b1.out.trans ((B2.out.trans (hb.mono B2.out.size)).mono b1.out.size))
    clear hb
    go_wp2
    go_ret
    exact ⟨rfl, B3.out⟩
  have TM := Lib.hid (fun (V : World) (hV : Below W1.heap.size W1 V) => to_any (w := V) (c := c) KI Y (H1.out.grow hV) hn)
  go_enter Try.func4, Try.ntmps4
  go_upto_region 1 with fail
  rw [← HW1.out]
  obtain ⟨h1, h2, h3⟩ := X1.out
  go_wp2_with fail
  refine (GM.out _).mono ?_
  rintro e w2 ⟨rfl, hb⟩
  have B2 := Lib.hid hb
  obtain ⟨-, i1, i2, i3⟩ := HC.out _ hb
  clear hb h1 h2 h3
  go_wp2_with fail
  refine (GM2.out _).mono ?_
  rintro e w3 ⟨rfl, hb⟩
  have B2b := Lib.hid (B2.out.trans (hb.mono B2.out.size))
  clear hb i1 i2 i3
  obtain ⟨⟨h1, h2, h3⟩, -⟩ := HC.out _ B2b.out
  go_wp2_with fail
  refine (TM.out _ B2b.out).mono ?_
  rintro e w4 ⟨D3, d3, rfl, hn3, hb⟩
  obtain ⟨g3, hg3⟩ : ∃ g, w4.heap.size = g := ⟨_, rfl⟩
  obtain ⟨W3, hW3⟩ : ∃ W, W = w4.alloc (.cells #[.int .i64 KI, .int .i64 Y, .slice D3 n d3] 28) := ⟨_, rfl⟩
  have B3 := Lib.hid (show Below W1.heap.size W1 W3 by rw [hW3]; exact B2b.out.trans ((hb.alloc hb.size _).mono B2b.out.size))
  have X3 := Lib.hid (show SBox W3 g3 KI Y D3 n d3 by rw [hW3]; exact sbox_new _ _ _ _ _ _ _ _ hg3)
  have N3 := Lib.hid (show NewP W3 w3.heap.size D3 (n + 1) d3 (l ++ [tilde]) by rw [hW3]; exact hn3.below (below_one _ _))
  have S3 := Lib.hid (N3.out.pre L1.out hn)
  have H3 := Lib.hid (H1.out.grow B3.out)
  have J3 := Lib.hid (J1.out.grow B3.out)
  have HG3 := Lib.hid hg3
  have HW3 := Lib.hid hW3
  have BW0 := Lib.hid (b1.out.trans (B3.out.mono b1.out.size))
  clear hb hW3 hg3 hn3 h1 h2 h3
  go_upto_region 4 with fail
  rw [HG3.out, ← HW3.out]
  have HS := Lib.hid (fun (V : World) (hV : Below W3.heap.size W3 V) => show V.cell? ⟨g3, 0, none⟩ = some (.int .i64 KI) ∧ V.cell? ⟨g3, 1, none⟩ = some (.int .i64 Y) ∧ V.cell? ⟨g3, 2, none⟩ = some (.slice D3 n d3) ∧ V.cell? ⟨w.heap.size, 0, none⟩ = some (.int .i64 KI) ∧ V.cell? ⟨w.heap.size, 1, none⟩ = some (.int .i64 Y) ∧ V.cell? ⟨w.heap.size, 2, none⟩ = some (.slice A n c) ∧ V.cell? ⟨(w.heap.size + 1), 0, none⟩ = some (.int .i64 K2) ∧ V.cell? ⟨(w.heap.size + 1), 1, none⟩ = some (.int .i64 Y2) ∧ V.cell? ⟨(w.heap.size + 1), 2, none⟩ = some (.slice A2 n2 c2) from by
    obtain ⟨⟨a1, a2, a3⟩, a4, a5, a6⟩ := HC.out V (B3.out.trans (hV.mono B3.out.size))
    obtain ⟨c1, c2, c3⟩ := X3.out.grow hV
    exact ⟨c1, c2, c3, a1, a2, a3, a4, a5, a6⟩)
  obtain ⟨zs, hz⟩ : ∃ zs, listR ⟨KI, Y, l⟩ f k = zs := ⟨_, rfl⟩
  obtain ⟨N, hN⟩ : ∃ N, zs.length = N := ⟨_, rfl⟩
  have hN64 : N ≤ 1000 := by
    rw [← hN, ← hz]
    unfold listR
    split
    · have h1 : ((l.filter fun p => !ltB p.k f).take k.toNat).length ≤ l.length := Nat.le_trans (by rw [List.length_take]; exact Nat.min_le_right _ _) (List.length_filter_le _ _)
      rw [List.length_map]
      exact Nat.le_trans h1 (by show l.length ≤ 1000; rw [L1.out]; exact hn)
    · exact Nat.zero_le _
  obtain ⟨sq, hsq0⟩ : ∃ q, sameB ⟨KI, Y, l⟩ ⟨K2, Y2, l2⟩ = q := ⟨_, rfl⟩
  have hsq := Lib.hid hsq0
  have LM := Lib.hid (fun (V : World) (hV : Below W3.heap.size W3 V) => list_any (w := V) KI Y f k N zs (S3.out.below hV) hk1 hk2 hz hN)
  have RM := Lib.hid (fun (V : World) (hV : Below W3.heap.size W3 V) => rlist_any (w := V) (c := c) KI Y f k N zs (H3.out.grow hV) hn hz hN)
  have T1 := Lib.hid (fun (V : World) (hV : Below W3.heap.size W3 V) => to_any (w := V) (c := c) KI Y (H3.out.grow hV) hn)
  have T2 := Lib.hid (fun (V : World) (hV : Below W3.heap.size W3 V) => to_any (w := V) (c := c2) K2 Y2 (J3.out.grow hV) hn2)
  have BD := Lib.hid (show Below W3.heap.size W3 W3.drew from (Below.refl _ _).drew)
  have hN0 := Lib.hid hN
  clear HW1 HW3 HG3 GM GM2 TM X1 X2 X3 B2 B2b B3 H1 J1 hsq0 hz hN b1 HC
  refine Late.region (fun w' => w'.cell? ⟨g3, 0, none⟩ = some (.int .i64 KI) ∧ w'.cell? ⟨g3, 1, none⟩ = some (.int .i64 Y) ∧ w'.cell? ⟨g3, 2, none⟩ = some (.slice D3 n d3) ∧ w'.cell? ⟨w.heap.size, 0, none⟩ = some (.int .i64 KI) ∧ w'.cell? ⟨w.heap.size, 1, none⟩ = some (.int .i64 Y) ∧ w'.cell? ⟨w.heap.size, 2, none⟩ = some (.slice A n c) ∧ w'.cell? ⟨(w.heap.size + 1), 0, none⟩ = some (.int .i64 K2) ∧ w'.cell? ⟨(w.heap.size + 1), 1, none⟩ = some (.int .i64 Y2) ∧ w'.cell? ⟨(w.heap.size + 1), 2, none⟩ = some (.slice A2 n2 c2)) [] (by kernel_rfl) (HS.out _ BD.out) (fun hHeld => ?_)
  refine Late.take (i := 0) (oi := ⟨some 29, Op.load 28 (Operand.tmp 9), _, _, _, _⟩) (v := ?_) rfl (by kernel_rfl) (by kernel_rfl) (by kernel_rfl) (by kernel_rfl) (fun _ _ _ h => h) (Or.inl ⟨by rfl, fun w hSw => ?_⟩) (by assumption) ?_
  rotate_left
  · (obtain ⟨s1, s2, s3, s4, s5, s6, s7, s8, s9⟩ := hSw; go_simp; try with_reducible rfl)
  try simp only [Act.put, List.setIfInBounds_toArray, List.set_cons_zero, List.set_cons_succ]
  refine Late.take (i := 1) (oi := ⟨some 30, Op.move (Operand.tmp 2), _, _, _, _⟩) (v := ?_) rfl (by kernel_rfl) (by kernel_rfl) (by kernel_rfl) (by kernel_rfl) (fun _ _ _ h => h) (Or.inl ⟨by rfl, fun w hSw => ?_⟩) (by assumption) ?_
  rotate_left
  · (obtain ⟨s1, s2, s3, s4, s5, s6, s7, s8, s9⟩ := hSw; go_simp; try with_reducible rfl)
  try simp only [Act.put, List.setIfInBounds_toArray, List.set_cons_zero, List.set_cons_succ]
  refine Late.take (i := 2) (oi := ⟨some 31, Op.move (Operand.tmp 3), _, _, _, _⟩) (v := ?_) rfl (by kernel_rfl) (by kernel_rfl) (by kernel_rfl) (by kernel_rfl) (fun _ _ _ h => h) (Or.inl ⟨by rfl, fun w hSw => ?_⟩) (by assumption) ?_
  rotate_left
  · (obtain ⟨s1, s2, s3, s4, s5, s6, s7, s8, s9⟩ := hSw; go_simp; try with_reducible rfl)
  try simp only [Act.put, List.setIfInBounds_toArray, List.set_cons_zero, List.set_cons_succ]
  refine Late.take (i := 4) (oi := ⟨some 33, Op.load 24 (Operand.tmp 4), _, _, _, _⟩) (v := ?_) rfl (by kernel_rfl) (by kernel_rfl) (by kernel_rfl) (by kernel_rfl) (fun _ _ _ h => h) (Or.inl ⟨by rfl, fun w hSw => ?_⟩) (by assumption) ?_
  rotate_left
  · (obtain ⟨s1, s2, s3, s4, s5, s6, s7, s8, s9⟩ := hSw; go_simp; try with_reducible rfl)
  try simp only [Act.put, List.setIfInBounds_toArray, List.set_cons_zero, List.set_cons_succ]
  refine Late.take (i := 5) (oi := ⟨some 34, Op.move (Operand.tmp 2), _, _, _, _⟩) (v := ?_) rfl (by kernel_rfl) (by kernel_rfl) (by kernel_rfl) (by kernel_rfl) (fun _ _ _ h => h) (Or.inl ⟨by rfl, fun w hSw => ?_⟩) (by assumption) ?_
  rotate_left
  · (obtain ⟨s1, s2, s3, s4, s5, s6, s7, s8, s9⟩ := hSw; go_simp; try with_reducible rfl)
  try simp only [Act.put, List.setIfInBounds_toArray, List.set_cons_zero, List.set_cons_succ]
  refine Late.take (i := 6) (oi := ⟨some 35, Op.move (Operand.tmp 3), _, _, _, _⟩) (v := ?_) rfl (by kernel_rfl) (by kernel_rfl) (by kernel_rfl) (by kernel_rfl) (fun _ _ _ h => h) (Or.inl ⟨by rfl, fun w hSw => ?_⟩) (by assumption) ?_
  rotate_left
  · (obtain ⟨s1, s2, s3, s4, s5, s6, s7, s8, s9⟩ := hSw; go_simp; try with_reducible rfl)
  try simp only [Act.put, List.setIfInBounds_toArray, List.set_cons_zero, List.set_cons_succ]
  refine Late.one (i := 3) (o := ⟨some 32, Op.call { callee := Callee.value (Operand.func 22), args := #[Operand.tmp 29, Operand.tmp 30, Operand.tmp 31], argTypes := #[28, 9, 3] }, _, _, _, _⟩) (by kernel_rfl) rfl (fun K hK => ?_)
  go_simp
  refine (LM.out _ BD.out).mono ?_
  rintro e v1 ⟨D5, d5, rfl, o5, b5⟩
  have B1 := Lib.hid (BD.out.trans (b5.mono BD.out.size))
  have O5 := Lib.hid (own_base o5 BD.out.size)
  clear o5 b5
  refine hK.out _ _ (HS.out _ B1.out) (fun hHeld2 => ?_)
  clear hK K hHeld
  have hHeld := hHeld2
  clear hHeld2
  try simp only [Act.put, List.setIfInBounds_toArray, List.set_cons_zero, List.set_cons_succ]
  refine Late.one (i := 7) (o := ⟨some 36, Op.call { callee := Callee.value (Operand.func 23), args := #[Operand.tmp 33, Operand.tmp 34, Operand.tmp 35], argTypes := #[24, 9, 3] }, _, _, _, _⟩) (by kernel_rfl) rfl (fun K hK => ?_)
  go_simp
  refine (RM.out _ B1.out).mono ?_
  rintro e v2 ⟨D6, d6, rfl, o6, b6⟩
  have B2 := Lib.hid (B1.out.trans (b6.mono B1.out.size))
  have O6 := Lib.hid (own_base o6 B1.out.size)
  have O52 := Lib.hid (own_below O5.out b6 (Nat.le_refl _))
  clear o6 b6 O5
  refine hK.out _ _ (HS.out _ B2.out) (fun hHeld2 => ?_)
  clear hK K hHeld
  have hHeld := hHeld2
  clear hHeld2
  try simp only [Act.put, List.setIfInBounds_toArray, List.set_cons_zero, List.set_cons_succ]
  refine Late.take (i := 8) (oi := ⟨some 10, Op.assign (Operand.tmp 32), _, _, _, _⟩) (v := ?_) rfl (by kernel_rfl) (by kernel_rfl) (by kernel_rfl) (by kernel_rfl) (fun _ _ _ h => h) (Or.inl ⟨by rfl, fun w hSw => ?_⟩) (by assumption) ?_
  rotate_left
  · (obtain ⟨s1, s2, s3, s4, s5, s6, s7, s8, s9⟩ := hSw; go_simp; try with_reducible rfl)
  try simp only [Act.put, List.setIfInBounds_toArray, List.set_cons_zero, List.set_cons_succ]
  refine Late.take (i := 9) (oi := ⟨some 11, Op.assign (Operand.tmp 36), _, _, _, _⟩) (v := ?_) rfl (by kernel_rfl) (by kernel_rfl) (by kernel_rfl) (by kernel_rfl) (fun _ _ _ h => h) (Or.inl ⟨by rfl, fun w hSw => ?_⟩) (by assumption) ?_
  rotate_left
  · (obtain ⟨s1, s2, s3, s4, s5, s6, s7, s8, s9⟩ := hSw; go_simp; try with_reducible rfl)
  try simp only [Act.put, List.setIfInBounds_toArray, List.set_cons_zero, List.set_cons_succ]
  refine Late.done (by kernel_rfl) ?_ _
  refine NoPanic.normal ?_
  have R5 := Lib.hid (sr_of_own O52.out)
  have R6 := Lib.hid (sr_of_own O6.out)
  have hN0 := hN64
  clear O52 O6 LM RM BD
  go_upto_region 8 with fail
  go_wp2
  go_loopw [12] (fun i wr => ∃ j : Nat, j ≤ N ∧ i = .int .i64 j ∧ Hid (∃ m, wr = v2.drewN m)) (fun i _ => N - (intOf i).toNat)
  case atStart => exact ⟨0, by omega, rfl, Lib.hid ⟨0, rfl⟩⟩
  case round =>
    obtain ⟨j, hj, rfl, HW⟩ := hrel
    have HA := Lib.hid (show Sr wr v2.heap.size D5 N zs ∧ Sr wr v2.heap.size D6 N zs from by
      obtain ⟨m, hm⟩ := HW.out
      rw [hm]; exact ⟨R5.out.drewN m, R6.out.drewN m⟩)
    by_cases hlt : j < N
    · have hltI : (j : Int) < (N : Int) := by omega
      obtain ⟨b5, o5, z5, rfl, hb5, K5, c5⟩ := HA.out.1.at_ hlt
      obtain ⟨b6, o6, z6, rfl, hb6, K6, c6⟩ := HA.out.2.at_ hlt
      obtain rfl : z5 = z6 := Option.some.inj (K5.out.symm.trans K6.out)
      have SK := seq_of z5 z5
      rw [decide_eq_true rfl] at SK
      go_wp2
      go_quiet (fail)
      go_wp2
      go_roundw
      case rel => exact ⟨j + 1, by omega, by go_num, sq_on HW ⟨_, rfl⟩⟩
      case measure => simp [intOf]; omega
    · have e : j = N := by omega
      subst e
      have BW := Lib.hid (q_below B2.out HW.out)
      clear HA HW R5 R6
      cases hm : mayB ⟨KI, Y, l⟩ with
      | true =>
        obtain ⟨_, hri, _, _, _⟩ := may_parts hm
        obtain ⟨y, hy⟩ : ∃ y, cnt l = y := ⟨_, rfl⟩
        have hcl : y ≤ 1152921504606846976 := by
          have h1 : cnt l ≤ 88 * l.length := rise_len hri
          rw [L1.out] at h1
          omega
        have UM := Lib.hid (fun (V : World) (hV : Below W3.heap.size W3 V) => used_any (w := V) KI Y n y (S3.out.below hV) (by rw [hm]; rfl) (by rw [hm, if_pos rfl, hy]))
        have CM := Lib.hid (fun (V : World) (hV : Below W3.heap.size W3 V) => rcount_any (w := V) c y (H3.out.grow hV) (by unfold maxLen; omega) hy hcl)
        have RY := Lib.hid (fun (V : World) (hV : Below W3.heap.size W3 V) => rmay_any (w := V) KI Y c true (H3.out.grow hV) (Nat.le_refl _) hn hm)
        have MM := Lib.hid (fun (V : World) (hV : Below W3.heap.size W3 V) => may_any (w := V) KI Y d3 true (S3.out.below hV) hm)
        clear hri hy hcl hm
        obtain ⟨h1, h2, h3, -⟩ := HS.out _ BW.out
        go_upto_region 16 with (first
          | (go_at_call 24; refine (UM.out _ BW.out).mono ?_; rintro e y1 ⟨rfl, hb⟩; have BU := Lib.hid (BW.out.trans (hb.mono BW.out.size)); have HU := HS.out _ BU.out; obtain ⟨-, -, -, i1, i2, i3, -⟩ := HU; clear hb)
          | (go_at_call 25; refine (RY.out _ BU.out).mono ?_; rintro e y2 ⟨rfl, hb⟩; have BV := Lib.hid (BU.out.trans (hb.mono BU.out.size)); clear hb; have HU2 := HS.out _ BV.out; obtain ⟨-, -, -, k1, k2, k3, -⟩ := HU2)
          | (go_at_call 26; refine (CM.out _ BV.out).mono ?_; rintro e y3 ⟨rfl, hq3⟩; have BZ := Lib.hid (q_below BV.out hq3); clear hq3)
          | fail)
        have BE := Lib.hid (BZ.out.drew)
        clear h1 h2 h3 i1 i2 i3 k1 k2 k3
        refine Late.region (fun w' => w'.cell? ⟨g3, 0, none⟩ = some (.int .i64 KI) ∧ w'.cell? ⟨g3, 1, none⟩ = some (.int .i64 Y) ∧ w'.cell? ⟨g3, 2, none⟩ = some (.slice D3 n d3) ∧ w'.cell? ⟨w.heap.size, 0, none⟩ = some (.int .i64 KI) ∧ w'.cell? ⟨w.heap.size, 1, none⟩ = some (.int .i64 Y) ∧ w'.cell? ⟨w.heap.size, 2, none⟩ = some (.slice A n c) ∧ w'.cell? ⟨(w.heap.size + 1), 0, none⟩ = some (.int .i64 K2) ∧ w'.cell? ⟨(w.heap.size + 1), 1, none⟩ = some (.int .i64 Y2) ∧ w'.cell? ⟨(w.heap.size + 1), 2, none⟩ = some (.slice A2 n2 c2)) [] (by kernel_rfl) (HS.out _ BE.out) (fun hHeld => ?_)
        refine Late.take (i := 0) (oi := ⟨some 91, Op.load 28 (Operand.tmp 9), _, _, _, _⟩) (v := ?_) rfl (by kernel_rfl) (by kernel_rfl) (by kernel_rfl) (by kernel_rfl) (fun _ _ _ h => h) (Or.inl ⟨by rfl, fun w hSw => ?_⟩) (by assumption) ?_
        rotate_left
        · (obtain ⟨s1, s2, s3, s4, s5, s6, s7, s8, s9⟩ := hSw; go_simp; try with_reducible rfl)
        try simp only [Act.put, List.setIfInBounds_toArray, List.set_cons_zero, List.set_cons_succ]
        refine Late.take (i := 2) (oi := ⟨some 93, Op.move (Operand.tmp 15), _, _, _, _⟩) (v := ?_) rfl (by kernel_rfl) (by kernel_rfl) (by kernel_rfl) (by kernel_rfl) (fun _ _ _ h => h) (Or.inl ⟨by rfl, fun w hSw => ?_⟩) (by assumption) ?_
        rotate_left
        · (obtain ⟨s1, s2, s3, s4, s5, s6, s7, s8, s9⟩ := hSw; go_simp; try with_reducible rfl)
        try simp only [Act.put, List.setIfInBounds_toArray, List.set_cons_zero, List.set_cons_succ]
        refine Late.one (i := 1) (o := ⟨some 92, Op.call { callee := Callee.value (Operand.func 27), args := #[Operand.tmp 91], argTypes := #[28] }, _, _, _, _⟩) (by kernel_rfl) rfl (fun K hK => ?_)
        go_simp
        refine (MM.out _ BE.out).mono ?_
        rintro e x1 ⟨rfl, hb⟩
        have C1 := Lib.hid (BE.out.trans (hb.mono BE.out.size))
        clear hb
        refine hK.out _ _ (HS.out _ C1.out) (fun hHeld2 => ?_)
        clear hK K hHeld
        have hHeld := hHeld2
        clear hHeld2
        try simp only [Act.put, List.setIfInBounds_toArray, List.set_cons_zero, List.set_cons_succ]
        refine Late.take (i := 3) (oi := ⟨some 94, Op.binOp BinOp.eql 4 (Operand.tmp 92) (Operand.tmp 93) 4, _, _, _, _⟩) (v := ?_) rfl (by kernel_rfl) (by kernel_rfl) (by kernel_rfl) (by kernel_rfl) (fun _ _ _ h => h) (Or.inl ⟨by rfl, fun w hSw => ?_⟩) (by assumption) ?_
        rotate_left
        · (obtain ⟨s1, s2, s3, s4, s5, s6, s7, s8, s9⟩ := hSw; go_simp; try with_reducible rfl)
        try simp only [Act.put, List.setIfInBounds_toArray, List.set_cons_zero, List.set_cons_succ]
        refine Late.take (i := 4) (oi := ⟨some 95, Op.move (Operand.tmp 94), _, _, _, _⟩) (v := ?_) rfl (by kernel_rfl) (by kernel_rfl) (by kernel_rfl) (by kernel_rfl) (fun _ _ _ h => h) (Or.inl ⟨by rfl, fun w hSw => ?_⟩) (by assumption) ?_
        rotate_left
        · (obtain ⟨s1, s2, s3, s4, s5, s6, s7, s8, s9⟩ := hSw; go_simp; try with_reducible rfl)
        try simp only [Act.put, List.setIfInBounds_toArray, List.set_cons_zero, List.set_cons_succ]
        refine Late.take (i := 5) (oi := ⟨some 96, Op.load 28 (Operand.tmp 9), _, _, _, _⟩) (v := ?_) rfl (by kernel_rfl) (by kernel_rfl) (by kernel_rfl) (by kernel_rfl) (fun _ _ _ h => h) (Or.inl ⟨by rfl, fun w hSw => ?_⟩) (by assumption) ?_
        rotate_left
        · (obtain ⟨s1, s2, s3, s4, s5, s6, s7, s8, s9⟩ := hSw; go_simp; try with_reducible rfl)
        try simp only [Act.put, List.setIfInBounds_toArray, List.set_cons_zero, List.set_cons_succ]
        refine Late.take (i := 6) (oi := ⟨some 97, Op.load 24 (Operand.tmp 5), _, _, _, _⟩) (v := ?_) rfl (by kernel_rfl) (by kernel_rfl) (by kernel_rfl) (by kernel_rfl) (fun _ _ _ h => h) (Or.inl ⟨by rfl, fun w hSw => ?_⟩) (by assumption) ?_
        rotate_left
        · (obtain ⟨s1, s2, s3, s4, s5, s6, s7, s8, s9⟩ := hSw; go_simp; try with_reducible rfl)
        try simp only [Act.put, List.setIfInBounds_toArray, List.set_cons_zero, List.set_cons_succ]
        refine Late.take (i := 9) (oi := ⟨some 100, Op.load 24 (Operand.tmp 4), _, _, _, _⟩) (v := ?_) rfl (by kernel_rfl) (by kernel_rfl) (by kernel_rfl) (by kernel_rfl) (fun _ _ _ h => h) (Or.inl ⟨by rfl, fun w hSw => ?_⟩) (by assumption) ?_
        rotate_left
        · (obtain ⟨s1, s2, s3, s4, s5, s6, s7, s8, s9⟩ := hSw; go_simp; try with_reducible rfl)
        try simp only [Act.put, List.setIfInBounds_toArray, List.set_cons_zero, List.set_cons_succ]
        refine Late.take (i := 10) (oi := ⟨some 101, Op.load 24 (Operand.tmp 5), _, _, _, _⟩) (v := ?_) rfl (by kernel_rfl) (by kernel_rfl) (by kernel_rfl) (by kernel_rfl) (fun _ _ _ h => h) (Or.inl ⟨by rfl, fun w hSw => ?_⟩) (by assumption) ?_
        rotate_left
        · (obtain ⟨s1, s2, s3, s4, s5, s6, s7, s8, s9⟩ := hSw; go_simp; try with_reducible rfl)
        try simp only [Act.put, List.setIfInBounds_toArray, List.set_cons_zero, List.set_cons_succ]
        refine Late.one (i := 7) (o := ⟨some 98, Op.call { callee := Callee.value (Operand.func 10), args := #[Operand.tmp 97], argTypes := #[24] }, _, _, _, _⟩) (by kernel_rfl) rfl (fun K hK => ?_)
        go_simp
        refine (T2.out _ C1.out).mono ?_
        rintro e x2 ⟨E2, f2, rfl, m2, hb⟩
        have C2 := Lib.hid (C1.out.trans (hb.mono C1.out.size))
        have M2 := Lib.hid (m2.pre L2.out hn2)
        clear m2
        clear hb
        refine hK.out _ _ (HS.out _ C2.out) (fun hHeld2 => ?_)
        clear hK K hHeld
        have hHeld := hHeld2
        clear hHeld2
        try simp only [Act.put, List.setIfInBounds_toArray, List.set_cons_zero, List.set_cons_succ]
        refine Late.one (i := 8) (o := ⟨some 99, Op.call { callee := Callee.value (Operand.func 28), args := #[Operand.tmp 96, Operand.tmp 98], argTypes := #[28, 28] }, _, _, _, _⟩) (by kernel_rfl) rfl (fun K hK => ?_)
        go_simp
        refine (same_any KI Y K2 Y2 sq (S3.out.below C2.out) M2.out hsq.out).mono ?_
        rintro e x3 ⟨rfl, hb⟩
        have C3 := Lib.hid (C2.out.trans (hb.mono C2.out.size))
        clear hb
        refine hK.out _ _ (HS.out _ C3.out) (fun hHeld2 => ?_)
        clear hK K hHeld
        have hHeld := hHeld2
        clear hHeld2
        try simp only [Act.put, List.setIfInBounds_toArray, List.set_cons_zero, List.set_cons_succ]
        refine Late.one (i := 11) (o := ⟨some 102, Op.call { callee := Callee.value (Operand.func 29), args := #[Operand.tmp 100, Operand.tmp 101], argTypes := #[24, 24] }, _, _, _, _⟩) (by kernel_rfl) rfl (fun K hK => ?_)
        go_simp
        refine (rsame_any KI Y K2 Y2 c c2 sq (H3.out.grow C3.out) (J3.out.grow C3.out) hn (by unfold maxLen; omega) hsq.out).mono ?_
        rintro e x4 ⟨rfl, hb⟩
        have C4 := Lib.hid (C3.out.trans (hb.mono C3.out.size))
        clear hb
        refine hK.out _ _ (HS.out _ C4.out) (fun hHeld2 => ?_)
        clear hK K hHeld
        have hHeld := hHeld2
        clear hHeld2
        try simp only [Act.put, List.setIfInBounds_toArray, List.set_cons_zero, List.set_cons_succ]
        refine Late.take (i := 12) (oi := ⟨some 103, Op.binOp BinOp.eql 4 (Operand.tmp 99) (Operand.tmp 102) 4, _, _, _, _⟩) (v := ?_) rfl (by kernel_rfl) (by kernel_rfl) (by kernel_rfl) (by kernel_rfl) (fun _ _ _ h => h) (Or.inl ⟨by rfl, fun w hSw => ?_⟩) (by assumption) ?_
        rotate_left
        · (obtain ⟨s1, s2, s3, s4, s5, s6, s7, s8, s9⟩ := hSw; go_simp; try with_reducible rfl)
        try simp only [Act.put, List.setIfInBounds_toArray, List.set_cons_zero, List.set_cons_succ]
        refine Late.take (i := 13) (oi := ⟨some 104, Op.pick (Operand.tmp 95) (Operand.tmp 103) (Operand.const (Value.bool false)), _, _, _, _⟩) (v := ?_) rfl (by kernel_rfl) (by kernel_rfl) (by kernel_rfl) (by kernel_rfl) (fun _ _ _ h => h) (Or.inl ⟨by rfl, fun w hSw => ?_⟩) (by assumption) ?_
        rotate_left
        · (obtain ⟨s1, s2, s3, s4, s5, s6, s7, s8, s9⟩ := hSw; go_simp; try with_reducible rfl)
        try simp only [Act.put, List.setIfInBounds_toArray, List.set_cons_zero, List.set_cons_succ]
        refine Late.take (i := 14) (oi := ⟨some 105, Op.move (Operand.tmp 104), _, _, _, _⟩) (v := ?_) rfl (by kernel_rfl) (by kernel_rfl) (by kernel_rfl) (by kernel_rfl) (fun _ _ _ h => h) (Or.inl ⟨by rfl, fun w hSw => ?_⟩) (by assumption) ?_
        rotate_left
        · (obtain ⟨s1, s2, s3, s4, s5, s6, s7, s8, s9⟩ := hSw; go_simp; try with_reducible rfl)
        try simp only [Act.put, List.setIfInBounds_toArray, List.set_cons_zero, List.set_cons_succ]
        refine Late.take (i := 15) (oi := ⟨some 106, Op.load 28 (Operand.tmp 9), _, _, _, _⟩) (v := ?_) rfl (by kernel_rfl) (by kernel_rfl) (by kernel_rfl) (by kernel_rfl) (fun _ _ _ h => h) (Or.inl ⟨by rfl, fun w hSw => ?_⟩) (by assumption) ?_
        rotate_left
        · (obtain ⟨s1, s2, s3, s4, s5, s6, s7, s8, s9⟩ := hSw; go_simp; try with_reducible rfl)
        try simp only [Act.put, List.setIfInBounds_toArray, List.set_cons_zero, List.set_cons_succ]
        refine Late.take (i := 16) (oi := ⟨some 107, Op.load 24 (Operand.tmp 4), _, _, _, _⟩) (v := ?_) rfl (by kernel_rfl) (by kernel_rfl) (by kernel_rfl) (by kernel_rfl) (fun _ _ _ h => h) (Or.inl ⟨by rfl, fun w hSw => ?_⟩) (by assumption) ?_
        rotate_left
        · (obtain ⟨s1, s2, s3, s4, s5, s6, s7, s8, s9⟩ := hSw; go_simp; try with_reducible rfl)
        try simp only [Act.put, List.setIfInBounds_toArray, List.set_cons_zero, List.set_cons_succ]
        refine Late.one (i := 17) (o := ⟨some 108, Op.call { callee := Callee.value (Operand.func 10), args := #[Operand.tmp 107], argTypes := #[24] }, _, _, _, _⟩) (by kernel_rfl) rfl (fun K hK => ?_)
        go_simp
        refine (T1.out _ C4.out).mono ?_
        rintro e x5 ⟨E5, f5, rfl, m5, hb⟩
        have C5 := Lib.hid (C4.out.trans (hb.mono C4.out.size))
        have M5 := Lib.hid (m5.pre L1.out hn)
        clear m5
        clear hb
        refine hK.out _ _ (HS.out _ C5.out) (fun hHeld2 => ?_)
        clear hK K hHeld
        have hHeld := hHeld2
        clear hHeld2
        try simp only [Act.put, List.setIfInBounds_toArray, List.set_cons_zero, List.set_cons_succ]
        refine Late.one (i := 18) (o := ⟨some 109, Op.call { callee := Callee.value (Operand.func 28), args := #[Operand.tmp 106, Operand.tmp 108], argTypes := #[28, 28] }, _, _, _, _⟩) (by kernel_rfl) rfl (fun K hK => ?_)
        go_simp
        refine (same_any KI Y KI Y true (S3.out.below C5.out) M5.out (sameB_self _)).mono ?_
        rintro e x6 ⟨rfl, hb⟩
        have C6 := Lib.hid (C5.out.trans (hb.mono C5.out.size))
        clear hb
        refine hK.out _ _ (HS.out _ C6.out) (fun hHeld2 => ?_)
        clear hK K hHeld
        have hHeld := hHeld2
        clear hHeld2
        try simp only [Act.put, List.setIfInBounds_toArray, List.set_cons_zero, List.set_cons_succ]
        refine Late.take (i := 19) (oi := ⟨some 110, Op.pick (Operand.tmp 105) (Operand.tmp 109) (Operand.const (Value.bool false)), _, _, _, _⟩) (v := ?_) rfl (by kernel_rfl) (by kernel_rfl) (by kernel_rfl) (by kernel_rfl) (fun _ _ _ h => h) (Or.inl ⟨by rfl, fun w hSw => ?_⟩) (by assumption) ?_
        rotate_left
        · (obtain ⟨s1, s2, s3, s4, s5, s6, s7, s8, s9⟩ := hSw; go_simp; try with_reducible rfl)
        try simp only [Act.put, List.setIfInBounds_toArray, List.set_cons_zero, List.set_cons_succ]
        refine Late.take (i := 20) (oi := ⟨some 111, Op.move (Operand.tmp 110), _, _, _, _⟩) (v := ?_) rfl (by kernel_rfl) (by kernel_rfl) (by kernel_rfl) (by kernel_rfl) (fun _ _ _ h => h) (Or.inl ⟨by rfl, fun w hSw => ?_⟩) (by assumption) ?_
        rotate_left
        · (obtain ⟨s1, s2, s3, s4, s5, s6, s7, s8, s9⟩ := hSw; go_simp; try with_reducible rfl)
        try simp only [Act.put, List.setIfInBounds_toArray, List.set_cons_zero, List.set_cons_succ]
        refine Late.take (i := 21) (oi := ⟨some 112, Op.load 28 (Operand.tmp 9), _, _, _, _⟩) (v := ?_) rfl (by kernel_rfl) (by kernel_rfl) (by kernel_rfl) (by kernel_rfl) (fun _ _ _ h => h) (Or.inl ⟨by rfl, fun w hSw => ?_⟩) (by assumption) ?_
        rotate_left
        · (obtain ⟨s1, s2, s3, s4, s5, s6, s7, s8, s9⟩ := hSw; go_simp; try with_reducible rfl)
        try simp only [Act.put, List.setIfInBounds_toArray, List.set_cons_zero, List.set_cons_succ]
        refine Late.take (i := 22) (oi := ⟨some 113, Op.load 24 (Operand.tmp 4), _, _, _, _⟩) (v := ?_) rfl (by kernel_rfl) (by kernel_rfl) (by kernel_rfl) (by kernel_rfl) (fun _ _ _ h => h) (Or.inl ⟨by rfl, fun w hSw => ?_⟩) (by assumption) ?_
        rotate_left
        · (obtain ⟨s1, s2, s3, s4, s5, s6, s7, s8, s9⟩ := hSw; go_simp; try with_reducible rfl)
        try simp only [Act.put, List.setIfInBounds_toArray, List.set_cons_zero, List.set_cons_succ]
        refine Late.one (i := 23) (o := ⟨some 114, Op.call { callee := Callee.value (Operand.func 19), args := #[Operand.tmp 112, Operand.tmp 113], argTypes := #[28, 24] }, _, _, _, _⟩) (by kernel_rfl) rfl (fun K hK => ?_)
        go_simp
        refine (stays_any (c := c) KI Y (N3.out.below C6.out) (H3.out.grow C6.out) hn).mono ?_
        rintro e x7 ⟨rfl, hb⟩
        have C7 := Lib.hid (C6.out.trans (hb.mono C6.out.size))
        clear hb
        refine hK.out _ _ (HS.out _ C7.out) (fun hHeld2 => ?_)
        clear hK K hHeld
        have hHeld := hHeld2
        clear hHeld2
        try simp only [Act.put, List.setIfInBounds_toArray, List.set_cons_zero, List.set_cons_succ]
        refine Late.take (i := 24) (oi := ⟨some 115, Op.pick (Operand.tmp 111) (Operand.tmp 114) (Operand.const (Value.bool false)), _, _, _, _⟩) (v := ?_) rfl (by kernel_rfl) (by kernel_rfl) (by kernel_rfl) (by kernel_rfl) (fun _ _ _ h => h) (Or.inl ⟨by rfl, fun w hSw => ?_⟩) (by assumption) ?_
        rotate_left
        · (obtain ⟨s1, s2, s3, s4, s5, s6, s7, s8, s9⟩ := hSw; go_simp; try with_reducible rfl)
        try simp only [Act.put, List.setIfInBounds_toArray, List.set_cons_zero, List.set_cons_succ]
        refine Late.take (i := 25) (oi := ⟨some 116, Op.move (Operand.tmp 115), _, _, _, _⟩) (v := ?_) rfl (by kernel_rfl) (by kernel_rfl) (by kernel_rfl) (by kernel_rfl) (fun _ _ _ h => h) (Or.inl ⟨by rfl, fun w hSw => ?_⟩) (by assumption) ?_
        rotate_left
        · (obtain ⟨s1, s2, s3, s4, s5, s6, s7, s8, s9⟩ := hSw; go_simp; try with_reducible rfl)
        try simp only [Act.put, List.setIfInBounds_toArray, List.set_cons_zero, List.set_cons_succ]
        refine Late.one (i := 26) (o := ⟨some 117, Op.call { callee := Callee.value (Operand.func 20), args := #[], argTypes := #[] }, _, _, _, _⟩) (by kernel_rfl) rfl (fun K hK => ?_)
        go_simp
        refine (AW.out _).mono ?_
        rintro e x8 ⟨rfl, hb⟩
        have C8 := Lib.hid (C7.out.trans (hb.mono C7.out.size))
        clear hb
        refine hK.out _ _ (HS.out _ C8.out) (fun hHeld2 => ?_)
        clear hK K hHeld
        have hHeld := hHeld2
        clear hHeld2
        try simp only [Act.put, List.setIfInBounds_toArray, List.set_cons_zero, List.set_cons_succ]
        refine Late.take (i := 27) (oi := ⟨some 118, Op.pick (Operand.tmp 116) (Operand.tmp 117) (Operand.const (Value.bool false)), _, _, _, _⟩) (v := ?_) rfl (by kernel_rfl) (by kernel_rfl) (by kernel_rfl) (by kernel_rfl) (fun _ _ _ h => h) (Or.inl ⟨by rfl, fun w hSw => ?_⟩) (by assumption) ?_
        rotate_left
        · (obtain ⟨s1, s2, s3, s4, s5, s6, s7, s8, s9⟩ := hSw; go_simp; try with_reducible rfl)
        try simp only [Act.put, List.setIfInBounds_toArray, List.set_cons_zero, List.set_cons_succ]
        refine Late.take (i := 28) (oi := ⟨some 8, Op.assign (Operand.tmp 118), _, _, _, _⟩) (v := ?_) rfl (by kernel_rfl) (by kernel_rfl) (by kernel_rfl) (by kernel_rfl) (fun _ _ _ h => h) (Or.inl ⟨by rfl, fun w hSw => ?_⟩) (by assumption) ?_
        rotate_left
        · (obtain ⟨s1, s2, s3, s4, s5, s6, s7, s8, s9⟩ := hSw; go_simp; try with_reducible rfl)
        try simp only [Act.put, List.setIfInBounds_toArray, List.set_cons_zero, List.set_cons_succ]
        refine Late.done (by kernel_rfl) ?_ _
        refine NoPanic.normal ?_
        go_wp2
        go_ret
        exact ⟨rfl, BW0.out.trans (C8.out.mono BW0.out.size)⟩
      | false =>
        have UM := Lib.hid (fun (V : World) (hV : Below W3.heap.size W3 V) => used_any (w := V) KI Y 0 0 (S3.out.below hV) (by rw [hm]; rfl) (by rw [hm]; rfl))
        have RY := Lib.hid (fun (V : World) (hV : Below W3.heap.size W3 V) => rmay_any (w := V) KI Y c false (H3.out.grow hV) (Nat.le_refl _) hn hm)
        have MM := Lib.hid (fun (V : World) (hV : Below W3.heap.size W3 V) => may_any (w := V) KI Y d3 false (S3.out.below hV) hm)
        clear hm
        obtain ⟨h1, h2, h3, -⟩ := HS.out _ BW.out
        go_upto_region 16 with (first
          | (go_at_call 24; refine (UM.out _ BW.out).mono ?_; rintro e y1 ⟨rfl, hb⟩; have BU := Lib.hid (BW.out.trans (hb.mono BW.out.size)); have HU := HS.out _ BU.out; obtain ⟨-, -, -, i1, i2, i3, -⟩ := HU; clear hb)
          | (go_at_call 25; refine (RY.out _ BU.out).mono ?_; rintro e y2 ⟨rfl, hb⟩; have BV := Lib.hid (BU.out.trans (hb.mono BU.out.size)); clear hb; have HU2 := HS.out _ BV.out; obtain ⟨-, -, -, k1, k2, k3, -⟩ := HU2)
          | fail)
        have BE := Lib.hid (BV.out.drew)
        clear h1 h2 h3 i1 i2 i3 k1 k2 k3
        refine Late.region (fun w' => w'.cell? ⟨g3, 0, none⟩ = some (.int .i64 KI) ∧ w'.cell? ⟨g3, 1, none⟩ = some (.int .i64 Y) ∧ w'.cell? ⟨g3, 2, none⟩ = some (.slice D3 n d3) ∧ w'.cell? ⟨w.heap.size, 0, none⟩ = some (.int .i64 KI) ∧ w'.cell? ⟨w.heap.size, 1, none⟩ = some (.int .i64 Y) ∧ w'.cell? ⟨w.heap.size, 2, none⟩ = some (.slice A n c) ∧ w'.cell? ⟨(w.heap.size + 1), 0, none⟩ = some (.int .i64 K2) ∧ w'.cell? ⟨(w.heap.size + 1), 1, none⟩ = some (.int .i64 Y2) ∧ w'.cell? ⟨(w.heap.size + 1), 2, none⟩ = some (.slice A2 n2 c2)) [] (by kernel_rfl) (HS.out _ BE.out) (fun hHeld => ?_)
        refine Late.take (i := 0) (oi := ⟨some 91, Op.load 28 (Operand.tmp 9), _, _, _, _⟩) (v := ?_) rfl (by kernel_rfl) (by kernel_rfl) (by kernel_rfl) (by kernel_rfl) (fun _ _ _ h => h) (Or.inl ⟨by rfl, fun w hSw => ?_⟩) (by assumption) ?_
        rotate_left
        · (obtain ⟨s1, s2, s3, s4, s5, s6, s7, s8, s9⟩ := hSw; go_simp; try with_reducible rfl)
        try simp only [Act.put, List.setIfInBounds_toArray, List.set_cons_zero, List.set_cons_succ]
        refine Late.take (i := 2) (oi := ⟨some 93, Op.move (Operand.tmp 15), _, _, _, _⟩) (v := ?_) rfl (by kernel_rfl) (by kernel_rfl) (by kernel_rfl) (by kernel_rfl) (fun _ _ _ h => h) (Or.inl ⟨by rfl, fun w hSw => ?_⟩) (by assumption) ?_
        rotate_left
        · (obtain ⟨s1, s2, s3, s4, s5, s6, s7, s8, s9⟩ := hSw; go_simp; try with_reducible rfl)
        try simp only [Act.put, List.setIfInBounds_toArray, List.set_cons_zero, List.set_cons_succ]
        refine Late.one (i := 1) (o := ⟨some 92, Op.call { callee := Callee.value (Operand.func 27), args := #[Operand.tmp 91], argTypes := #[28] }, _, _, _, _⟩) (by kernel_rfl) rfl (fun K hK => ?_)
        go_simp
        refine (MM.out _ BE.out).mono ?_
        rintro e x1 ⟨rfl, hb⟩
        have C1 := Lib.hid (BE.out.trans (hb.mono BE.out.size))
        clear hb
        refine hK.out _ _ (HS.out _ C1.out) (fun hHeld2 => ?_)
        clear hK K hHeld
        have hHeld := hHeld2
        clear hHeld2
        try simp only [Act.put, List.setIfInBounds_toArray, List.set_cons_zero, List.set_cons_succ]
        refine Late.take (i := 3) (oi := ⟨some 94, Op.binOp BinOp.eql 4 (Operand.tmp 92) (Operand.tmp 93) 4, _, _, _, _⟩) (v := ?_) rfl (by kernel_rfl) (by kernel_rfl) (by kernel_rfl) (by kernel_rfl) (fun _ _ _ h => h) (Or.inl ⟨by rfl, fun w hSw => ?_⟩) (by assumption) ?_
        rotate_left
        · (obtain ⟨s1, s2, s3, s4, s5, s6, s7, s8, s9⟩ := hSw; go_simp; try with_reducible rfl)
        try simp only [Act.put, List.setIfInBounds_toArray, List.set_cons_zero, List.set_cons_succ]
        refine Late.take (i := 4) (oi := ⟨some 95, Op.move (Operand.tmp 94), _, _, _, _⟩) (v := ?_) rfl (by kernel_rfl) (by kernel_rfl) (by kernel_rfl) (by kernel_rfl) (fun _ _ _ h => h) (Or.inl ⟨by rfl, fun w hSw => ?_⟩) (by assumption) ?_
        rotate_left
        · (obtain ⟨s1, s2, s3, s4, s5, s6, s7, s8, s9⟩ := hSw; go_simp; try with_reducible rfl)
        try simp only [Act.put, List.setIfInBounds_toArray, List.set_cons_zero, List.set_cons_succ]
        refine Late.take (i := 5) (oi := ⟨some 96, Op.load 28 (Operand.tmp 9), _, _, _, _⟩) (v := ?_) rfl (by kernel_rfl) (by kernel_rfl) (by kernel_rfl) (by kernel_rfl) (fun _ _ _ h => h) (Or.inl ⟨by rfl, fun w hSw => ?_⟩) (by assumption) ?_
        rotate_left
        · (obtain ⟨s1, s2, s3, s4, s5, s6, s7, s8, s9⟩ := hSw; go_simp; try with_reducible rfl)
        try simp only [Act.put, List.setIfInBounds_toArray, List.set_cons_zero, List.set_cons_succ]
        refine Late.take (i := 6) (oi := ⟨some 97, Op.load 24 (Operand.tmp 5), _, _, _, _⟩) (v := ?_) rfl (by kernel_rfl) (by kernel_rfl) (by kernel_rfl) (by kernel_rfl) (fun _ _ _ h => h) (Or.inl ⟨by rfl, fun w hSw => ?_⟩) (by assumption) ?_
        rotate_left
        · (obtain ⟨s1, s2, s3, s4, s5, s6, s7, s8, s9⟩ := hSw; go_simp; try with_reducible rfl)
        try simp only [Act.put, List.setIfInBounds_toArray, List.set_cons_zero, List.set_cons_succ]
        refine Late.take (i := 9) (oi := ⟨some 100, Op.load 24 (Operand.tmp 4), _, _, _, _⟩) (v := ?_) rfl (by kernel_rfl) (by kernel_rfl) (by kernel_rfl) (by kernel_rfl) (fun _ _ _ h => h) (Or.inl ⟨by rfl, fun w hSw => ?_⟩) (by assumption) ?_
        rotate_left
        · (obtain ⟨s1, s2, s3, s4, s5, s6, s7, s8, s9⟩ := hSw; go_simp; try with_reducible rfl)
        try simp only [Act.put, List.setIfInBounds_toArray, List.set_cons_zero, List.set_cons_succ]
        refine Late.take (i := 10) (oi := ⟨some 101, Op.load 24 (Operand.tmp 5), _, _, _, _⟩) (v := ?_) rfl (by kernel_rfl) (by kernel_rfl) (by kernel_rfl) (by kernel_rfl) (fun _ _ _ h => h) (Or.inl ⟨by rfl, fun w hSw => ?_⟩) (by assumption) ?_
        rotate_left
        · (obtain ⟨s1, s2, s3, s4, s5, s6, s7, s8, s9⟩ := hSw; go_simp; try with_reducible rfl)
        try simp only [Act.put, List.setIfInBounds_toArray, List.set_cons_zero, List.set_cons_succ]
        refine Late.one (i := 7) (o := ⟨some 98, Op.call { callee := Callee.value (Operand.func 10), args := #[Operand.tmp 97], argTypes := #[24] }, _, _, _, _⟩) (by kernel_rfl) rfl (fun K hK => ?_)
        go_simp
        refine (T2.out _ C1.out).mono ?_
        rintro e x2 ⟨E2, f2, rfl, m2, hb⟩
        have C2 := Lib.hid (C1.out.trans (hb.mono C1.out.size))
        have M2 := Lib.hid (m2.pre L2.out hn2)
        clear m2
        clear hb
        refine hK.out _ _ (HS.out _ C2.out) (fun hHeld2 => ?_)
        clear hK K hHeld
        have hHeld := hHeld2
        clear hHeld2
        try simp only [Act.put, List.setIfInBounds_toArray, List.set_cons_zero, List.set_cons_succ]
        refine Late.one (i := 8) (o := ⟨some 99, Op.call { callee := Callee.value (Operand.func 28), args := #[Operand.tmp 96, Operand.tmp 98], argTypes := #[28, 28] }, _, _, _, _⟩) (by kernel_rfl) rfl (fun K hK => ?_)
        go_simp
        refine (same_any KI Y K2 Y2 sq (S3.out.below C2.out) M2.out hsq.out).mono ?_
        rintro e x3 ⟨rfl, hb⟩
        have C3 := Lib.hid (C2.out.trans (hb.mono C2.out.size))
        clear hb
        refine hK.out _ _ (HS.out _ C3.out) (fun hHeld2 => ?_)
        clear hK K hHeld
        have hHeld := hHeld2
        clear hHeld2
        try simp only [Act.put, List.setIfInBounds_toArray, List.set_cons_zero, List.set_cons_succ]
        refine Late.one (i := 11) (o := ⟨some 102, Op.call { callee := Callee.value (Operand.func 29), args := #[Operand.tmp 100, Operand.tmp 101], argTypes := #[24, 24] }, _, _, _, _⟩) (by kernel_rfl) rfl (fun K hK => ?_)
        go_simp
        refine (rsame_any KI Y K2 Y2 c c2 sq (H3.out.grow C3.out) (J3.out.grow C3.out) hn (by unfold maxLen; omega) hsq.out).mono ?_
        rintro e x4 ⟨rfl, hb⟩
        have C4 := Lib.hid (C3.out.trans (hb.mono C3.out.size))
        clear hb
        refine hK.out _ _ (HS.out _ C4.out) (fun hHeld2 => ?_)
        clear hK K hHeld
        have hHeld := hHeld2
        clear hHeld2
        try simp only [Act.put, List.setIfInBounds_toArray, List.set_cons_zero, List.set_cons_succ]
        refine Late.take (i := 12) (oi := ⟨some 103, Op.binOp BinOp.eql 4 (Operand.tmp 99) (Operand.tmp 102) 4, _, _, _, _⟩) (v := ?_) rfl (by kernel_rfl) (by kernel_rfl) (by kernel_rfl) (by kernel_rfl) (fun _ _ _ h => h) (Or.inl ⟨by rfl, fun w hSw => ?_⟩) (by assumption) ?_
        rotate_left
        · (obtain ⟨s1, s2, s3, s4, s5, s6, s7, s8, s9⟩ := hSw; go_simp; try with_reducible rfl)
        try simp only [Act.put, List.setIfInBounds_toArray, List.set_cons_zero, List.set_cons_succ]
        refine Late.take (i := 13) (oi := ⟨some 104, Op.pick (Operand.tmp 95) (Operand.tmp 103) (Operand.const (Value.bool false)), _, _, _, _⟩) (v := ?_) rfl (by kernel_rfl) (by kernel_rfl) (by kernel_rfl) (by kernel_rfl) (fun _ _ _ h => h) (Or.inl ⟨by rfl, fun w hSw => ?_⟩) (by assumption) ?_
        rotate_left
        · (obtain ⟨s1, s2, s3, s4, s5, s6, s7, s8, s9⟩ := hSw; go_simp; try with_reducible rfl)
        try simp only [Act.put, List.setIfInBounds_toArray, List.set_cons_zero, List.set_cons_succ]
        refine Late.take (i := 14) (oi := ⟨some 105, Op.move (Operand.tmp 104), _, _, _, _⟩) (v := ?_) rfl (by kernel_rfl) (by kernel_rfl) (by kernel_rfl) (by kernel_rfl) (fun _ _ _ h => h) (Or.inl ⟨by rfl, fun w hSw => ?_⟩) (by assumption) ?_
        rotate_left
        · (obtain ⟨s1, s2, s3, s4, s5, s6, s7, s8, s9⟩ := hSw; go_simp; try with_reducible rfl)
        try simp only [Act.put, List.setIfInBounds_toArray, List.set_cons_zero, List.set_cons_succ]
        refine Late.take (i := 15) (oi := ⟨some 106, Op.load 28 (Operand.tmp 9), _, _, _, _⟩) (v := ?_) rfl (by kernel_rfl) (by kernel_rfl) (by kernel_rfl) (by kernel_rfl) (fun _ _ _ h => h) (Or.inl ⟨by rfl, fun w hSw => ?_⟩) (by assumption) ?_
        rotate_left
        · (obtain ⟨s1, s2, s3, s4, s5, s6, s7, s8, s9⟩ := hSw; go_simp; try with_reducible rfl)
        try simp only [Act.put, List.setIfInBounds_toArray, List.set_cons_zero, List.set_cons_succ]
        refine Late.take (i := 16) (oi := ⟨some 107, Op.load 24 (Operand.tmp 4), _, _, _, _⟩) (v := ?_) rfl (by kernel_rfl) (by kernel_rfl) (by kernel_rfl) (by kernel_rfl) (fun _ _ _ h => h) (Or.inl ⟨by rfl, fun w hSw => ?_⟩) (by assumption) ?_
        rotate_left
        · (obtain ⟨s1, s2, s3, s4, s5, s6, s7, s8, s9⟩ := hSw; go_simp; try with_reducible rfl)
        try simp only [Act.put, List.setIfInBounds_toArray, List.set_cons_zero, List.set_cons_succ]
        refine Late.one (i := 17) (o := ⟨some 108, Op.call { callee := Callee.value (Operand.func 10), args := #[Operand.tmp 107], argTypes := #[24] }, _, _, _, _⟩) (by kernel_rfl) rfl (fun K hK => ?_)
        go_simp
        refine (T1.out _ C4.out).mono ?_
        rintro e x5 ⟨E5, f5, rfl, m5, hb⟩
        have C5 := Lib.hid (C4.out.trans (hb.mono C4.out.size))
        have M5 := Lib.hid (m5.pre L1.out hn)
        clear m5
        clear hb
        refine hK.out _ _ (HS.out _ C5.out) (fun hHeld2 => ?_)
        clear hK K hHeld
        have hHeld := hHeld2
        clear hHeld2
        try simp only [Act.put, List.setIfInBounds_toArray, List.set_cons_zero, List.set_cons_succ]
        refine Late.one (i := 18) (o := ⟨some 109, Op.call { callee := Callee.value (Operand.func 28), args := #[Operand.tmp 106, Operand.tmp 108], argTypes := #[28, 28] }, _, _, _, _⟩) (by kernel_rfl) rfl (fun K hK => ?_)
        go_simp
        refine (same_any KI Y KI Y true (S3.out.below C5.out) M5.out (sameB_self _)).mono ?_
        rintro e x6 ⟨rfl, hb⟩
        have C6 := Lib.hid (C5.out.trans (hb.mono C5.out.size))
        clear hb
        refine hK.out _ _ (HS.out _ C6.out) (fun hHeld2 => ?_)
        clear hK K hHeld
        have hHeld := hHeld2
        clear hHeld2
        try simp only [Act.put, List.setIfInBounds_toArray, List.set_cons_zero, List.set_cons_succ]
        refine Late.take (i := 19) (oi := ⟨some 110, Op.pick (Operand.tmp 105) (Operand.tmp 109) (Operand.const (Value.bool false)), _, _, _, _⟩) (v := ?_) rfl (by kernel_rfl) (by kernel_rfl) (by kernel_rfl) (by kernel_rfl) (fun _ _ _ h => h) (Or.inl ⟨by rfl, fun w hSw => ?_⟩) (by assumption) ?_
        rotate_left
        · (obtain ⟨s1, s2, s3, s4, s5, s6, s7, s8, s9⟩ := hSw; go_simp; try with_reducible rfl)
        try simp only [Act.put, List.setIfInBounds_toArray, List.set_cons_zero, List.set_cons_succ]
        refine Late.take (i := 20) (oi := ⟨some 111, Op.move (Operand.tmp 110), _, _, _, _⟩) (v := ?_) rfl (by kernel_rfl) (by kernel_rfl) (by kernel_rfl) (by kernel_rfl) (fun _ _ _ h => h) (Or.inl ⟨by rfl, fun w hSw => ?_⟩) (by assumption) ?_
        rotate_left
        · (obtain ⟨s1, s2, s3, s4, s5, s6, s7, s8, s9⟩ := hSw; go_simp; try with_reducible rfl)
        try simp only [Act.put, List.setIfInBounds_toArray, List.set_cons_zero, List.set_cons_succ]
        refine Late.take (i := 21) (oi := ⟨some 112, Op.load 28 (Operand.tmp 9), _, _, _, _⟩) (v := ?_) rfl (by kernel_rfl) (by kernel_rfl) (by kernel_rfl) (by kernel_rfl) (fun _ _ _ h => h) (Or.inl ⟨by rfl, fun w hSw => ?_⟩) (by assumption) ?_
        rotate_left
        · (obtain ⟨s1, s2, s3, s4, s5, s6, s7, s8, s9⟩ := hSw; go_simp; try with_reducible rfl)
        try simp only [Act.put, List.setIfInBounds_toArray, List.set_cons_zero, List.set_cons_succ]
        refine Late.take (i := 22) (oi := ⟨some 113, Op.load 24 (Operand.tmp 4), _, _, _, _⟩) (v := ?_) rfl (by kernel_rfl) (by kernel_rfl) (by kernel_rfl) (by kernel_rfl) (fun _ _ _ h => h) (Or.inl ⟨by rfl, fun w hSw => ?_⟩) (by assumption) ?_
        rotate_left
        · (obtain ⟨s1, s2, s3, s4, s5, s6, s7, s8, s9⟩ := hSw; go_simp; try with_reducible rfl)
        try simp only [Act.put, List.setIfInBounds_toArray, List.set_cons_zero, List.set_cons_succ]
        refine Late.one (i := 23) (o := ⟨some 114, Op.call { callee := Callee.value (Operand.func 19), args := #[Operand.tmp 112, Operand.tmp 113], argTypes := #[28, 24] }, _, _, _, _⟩) (by kernel_rfl) rfl (fun K hK => ?_)
        go_simp
        refine (stays_any (c := c) KI Y (N3.out.below C6.out) (H3.out.grow C6.out) hn).mono ?_
        rintro e x7 ⟨rfl, hb⟩
        have C7 := Lib.hid (C6.out.trans (hb.mono C6.out.size))
        clear hb
        refine hK.out _ _ (HS.out _ C7.out) (fun hHeld2 => ?_)
        clear hK K hHeld
        have hHeld := hHeld2
        clear hHeld2
        try simp only [Act.put, List.setIfInBounds_toArray, List.set_cons_zero, List.set_cons_succ]
        refine Late.take (i := 24) (oi := ⟨some 115, Op.pick (Operand.tmp 111) (Operand.tmp 114) (Operand.const (Value.bool false)), _, _, _, _⟩) (v := ?_) rfl (by kernel_rfl) (by kernel_rfl) (by kernel_rfl) (by kernel_rfl) (fun _ _ _ h => h) (Or.inl ⟨by rfl, fun w hSw => ?_⟩) (by assumption) ?_
        rotate_left
        · (obtain ⟨s1, s2, s3, s4, s5, s6, s7, s8, s9⟩ := hSw; go_simp; try with_reducible rfl)
        try simp only [Act.put, List.setIfInBounds_toArray, List.set_cons_zero, List.set_cons_succ]
        refine Late.take (i := 25) (oi := ⟨some 116, Op.move (Operand.tmp 115), _, _, _, _⟩) (v := ?_) rfl (by kernel_rfl) (by kernel_rfl) (by kernel_rfl) (by kernel_rfl) (fun _ _ _ h => h) (Or.inl ⟨by rfl, fun w hSw => ?_⟩) (by assumption) ?_
        rotate_left
        · (obtain ⟨s1, s2, s3, s4, s5, s6, s7, s8, s9⟩ := hSw; go_simp; try with_reducible rfl)
        try simp only [Act.put, List.setIfInBounds_toArray, List.set_cons_zero, List.set_cons_succ]
        refine Late.one (i := 26) (o := ⟨some 117, Op.call { callee := Callee.value (Operand.func 20), args := #[], argTypes := #[] }, _, _, _, _⟩) (by kernel_rfl) rfl (fun K hK => ?_)
        go_simp
        refine (AW.out _).mono ?_
        rintro e x8 ⟨rfl, hb⟩
        have C8 := Lib.hid (C7.out.trans (hb.mono C7.out.size))
        clear hb
        refine hK.out _ _ (HS.out _ C8.out) (fun hHeld2 => ?_)
        clear hK K hHeld
        have hHeld := hHeld2
        clear hHeld2
        try simp only [Act.put, List.setIfInBounds_toArray, List.set_cons_zero, List.set_cons_succ]
        refine Late.take (i := 27) (oi := ⟨some 118, Op.pick (Operand.tmp 116) (Operand.tmp 117) (Operand.const (Value.bool false)), _, _, _, _⟩) (v := ?_) rfl (by kernel_rfl) (by kernel_rfl) (by kernel_rfl) (by kernel_rfl) (fun _ _ _ h => h) (Or.inl ⟨by rfl, fun w hSw => ?_⟩) (by assumption) ?_
        rotate_left
        · (obtain ⟨s1, s2, s3, s4, s5, s6, s7, s8, s9⟩ := hSw; go_simp; try with_reducible rfl)
        try simp only [Act.put, List.setIfInBounds_toArray, List.set_cons_zero, List.set_cons_succ]
        refine Late.take (i := 28) (oi := ⟨some 8, Op.assign (Operand.tmp 118), _, _, _, _⟩) (v := ?_) rfl (by kernel_rfl) (by kernel_rfl) (by kernel_rfl) (by kernel_rfl) (fun _ _ _ h => h) (Or.inl ⟨by rfl, fun w hSw => ?_⟩) (by assumption) ?_
        rotate_left
        · (obtain ⟨s1, s2, s3, s4, s5, s6, s7, s8, s9⟩ := hSw; go_simp; try with_reducible rfl)
        try simp only [Act.put, List.setIfInBounds_toArray, List.set_cons_zero, List.set_cons_succ]
        refine Late.done (by kernel_rfl) ?_ _
        refine NoPanic.normal ?_
        go_wp2
        go_ret
        exact ⟨rfl, BW0.out.trans (C8.out.mono BW0.out.size)⟩
theorem spLooks_in (KI Y : Int) (A : Option Addr) (n c : Nat) (l : List PairZ) (K2 Y2 : Int) (A2 : Option Addr) (n2 c2 : Nat) (l2 : List PairZ) (f : ByteArray) (k : Int) (w : World) (hK : -9223372036854775808 ≤ KI ∧ KI ≤ 9223372036854775807) (hY : -9223372036854775808 ≤ Y ∧ Y ≤ 9223372036854775807) (h : Prs w w.heap.size A n l) (hnc : n ≤ c) (hcm : c ≤ maxLen) (hK2 : -9223372036854775808 ≤ K2 ∧ K2 ≤ 9223372036854775807) (hY2 : -9223372036854775808 ≤ Y2 ∧ Y2 ≤ 9223372036854775807) (j : Prs w w.heap.size A2 n2 l2) (hnc2 : n2 ≤ c2) (hcm2 : c2 ≤ maxLen) (hf : f.size ≤ maxLen) (hk : -9223372036854775808 ≤ k ∧ k ≤ 9223372036854775807) :
    Calls Try.prog 4 #[.agg #[.int .i64 KI, .int .i64 Y, .slice A n c], .agg #[.int .i64 K2, .int .i64 Y2, .slice A2 n2 c2], .string f, .int .i64 k] w (fun e w' => e = .returned (.bool true) ∧ Below w.heap.size w w') := spLooks_any KI Y A n c l K2 Y2 A2 n2 c2 l2 f k w h j hk.1 hk.2
end Go.Proofs.Ytmlkcedhjnmfgaa
