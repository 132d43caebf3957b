/- The statement SpaceTells: the walk. -/
import Derived.Test.YtmlkcedhjnmfgaaSpT0
namespace Go.Proofs.Ytmlkcedhjnmfgaa
open Go.ChangeShapes Go.WideShapes Go.ChangeAt Go.RowKit
set_option linter.unusedVariables false
set_option linter.unusedSimpArgs false
open Plain Sp
set_option maxRecDepth 100000 in
set_option maxHeartbeats 4000000 in
theorem spTells_any (K Y : Int) (A : Option Addr) (n c : Nat) (l : List PairZ) (k : Int) (w : World) (h : Prs w w.heap.size A n l) (hnc : n ≤ c) (hcm : c ≤ maxLen) :
    Calls Try.prog 8 #[.agg #[.int .i64 K, .int .i64 Y, .slice A n c], .int .i64 k] w (fun e w' => e = .returned (.bool true) ∧ Below w.heap.size w w') := by
  obtain ⟨W1, hW1⟩ : ∃ W, W = w.alloc (.cells #[.int .i64 K, .int .i64 Y, .slice A n c] 24) := ⟨_, rfl⟩
  have b1 := Lib.hid (show Below w.heap.size w W1 by rw [hW1]; exact below_one _ _)
  have X1 := Lib.hid (show SBox W1 w.heap.size K Y A n c by rw [hW1]; exact sbox_new _ _ _ _ _ _ _ _ rfl)
  have H1 := Lib.hid (h.below b1.out (Nat.le_refl _))
  have HW1 := Lib.hid hW1
  have AW := Lib.hid spawake_any
  have L := Lib.hid h.len
  obtain ⟨q, hq7, hq⟩ : ∃ q : Nat, q < 7 ∧ RowKit.wrap64 ((IntKind.u64.wrap k).tmod 7) = (q : Int) := by
    have e : IntKind.u64.wrap k = k % 18446744073709551616 := IntKind.wrap_u64 k
    have h1 : 0 ≤ k % 18446744073709551616 := Int.emod_nonneg _ (by omega)
    refine ⟨((k % 18446744073709551616) % 7).toNat, by omega, ?_⟩
    rw [e, Int.tmod_eq_emod_of_nonneg h1]
    unfold RowKit.wrap64
    omega
  obtain ⟨M, hM, hM8, e2⟩ : ∃ M : Nat, 1 ≤ M ∧ M < 8 ∧ RowKit.wrap64 (1 + (q : Int)) = (M : Int) := ⟨1 + q, by omega, by omega, by unfold RowKit.wrap64; omega⟩
  obtain ⟨l', x, y, F1, F2, F3, F4, F5, F6, hx64, hy4, hxm, hym⟩ : ∃ (l' : List PairZ) (x y : Nat), Hid (∀ f j, posP l' f = j → listR ⟨K, Y, l⟩ f M = ((l'.drop j).take M).map (·.k)) ∧ Hid (∀ j p, l'[j]? = some p → getR ⟨K, Y, l⟩ p.k = (p.v, 0) ∧ posP l' (p.k ++ ⟨#[0]⟩) = j + 1 ∧ p.k.size ≤ 24 ∧ p.v.size ≤ 64) ∧ Hid (∀ f j p, posP l' f = j → l'[j]? = some p → ltB p.k f = false) ∧
      Hid (l'.length = x) ∧ Hid (cnt l' = y) ∧ Hid (posP l' ⟨#[]⟩ = 0) ∧ x ≤ 64 ∧ y ≤ 4096 ∧ (if mayB ⟨K, Y, l⟩ then n else 0) = x ∧ (if mayB ⟨K, Y, l⟩ then cnt l else 0) = y := by
    cases hm : mayB ⟨K, Y, l⟩ with
    | true =>
      obtain ⟨_, hr, _, hl, hc4⟩ := may_parts hm
      refine ⟨l, n, cnt l, Lib.hid (fun f j e => list_at hm e M), Lib.hid (fun j p e => ?_), Lib.hid (fun f j p e e2 => ?_), L, Lib.hid rfl, Lib.hid (pos_empty l), by rw [← L.out]; exact hl, hc4, by simp, by simp⟩
      · obtain ⟨g1, g2, g3⟩ := rise_all hr p (List.mem_of_getElem? e)
        simp only [keyB, valB, Bool.and_eq_true, decide_eq_true_eq] at g2 g3
        exact ⟨get_at hm e, pos_snoc hr e, g2.2, g3⟩
      · rw [low_at f hr e2, e]; simp
    | false =>
      refine ⟨[], 0, 0, Lib.hid (fun f j e => ?_), Lib.hid (fun j p e => by simp at e), Lib.hid (fun f j p _ e => by simp at e), Lib.hid rfl, Lib.hid rfl, Lib.hid (pos_empty []), by omega, by omega, by simp, by simp⟩
      unfold listR; rw [hm]; simp
  clear hW1 h hnc hcm hq7
  by_cases hg : 100 < n
  · have GM := Lib.hid (fun V => great_any (w := V) (A := A) (c := c) K Y true (decide_eq_true hg))
    clear hg
    go_enter Try.func8, Try.ntmps8
    go_upto_region 1 with fail
    rw [← HW1.out]
    obtain ⟨h1, h2, h3⟩ := X1.out
    go_wp2_with (first
      | (go_at_call 9; refine (GM.out _).mono ?_; rintro e w2 ⟨rfl, hb⟩; have B2 := Lib.hid (b1.out.trans (hb.mono b1.out.size)); clear hb)
      | (go_at_call 20; refine (AW.out _).mono ?_; rintro e w3 ⟨rfl, hb⟩; have B3 := Lib.hid (B2.out.trans (hb.mono B2.out.size)); clear hb)
      | fail)
    go_ret
    exact ⟨rfl, B3.out⟩
  have GM := Lib.hid (fun V => great_any (w := V) (A := A) (c := c) K Y false (decide_eq_false hg))
  have hn : n ≤ 1000 := by omega
  clear hg
  have TM := Lib.hid (fun (V : World) (hV : Below W1.heap.size W1 V) => to_any (w := V) (c := c) K Y ((H1.out.below hV (by have := b1.out.size; exact this)).more (Nat.le_trans b1.out.size hV.size)) hn)
  have HC := Lib.hid (fun (V : World) (hV : Below W1.heap.size W1 V) => X1.out.grow hV)
  clear H1
  go_enter Try.func8, Try.ntmps8
  go_upto_region 1 with fail
  rw [← HW1.out]
  obtain ⟨h1, h2, h3⟩ := X1.out
  go_wp2_with fail
  refine (GM.out _).mono ?_
  rintro e w2 ⟨rfl, hb⟩
  have B2 := Lib.hid hb
  clear hb h1 h2 h3
  obtain ⟨h1, h2, h3⟩ := HC.out _ B2.out
  go_wp2_with fail
  refine (TM.out _ B2.out).mono ?_
  rintro e w3 ⟨D3, d3, rfl, hn3, hb⟩
  obtain ⟨g3, hg3⟩ : ∃ g, w3.heap.size = g := ⟨_, rfl⟩
  obtain ⟨W3, hW3⟩ : ∃ W, W = w3.alloc (.cells #[.int .i64 K, .int .i64 Y, .slice D3 n d3] 28) := ⟨_, rfl⟩
  have B3 := Lib.hid (show Below w.heap.size w W3 by rw [hW3]; exact b1.out.trans ((B2.out.trans ((hb.alloc hb.size _).mono B2.out.size)).mono b1.out.size))
  have X3 := Lib.hid (show SBox W3 g3 K Y D3 n d3 by rw [hW3]; exact sbox_new _ _ _ _ _ _ _ _ hg3)
  have S3 := Lib.hid (show Spc W3 D3 n d3 l by rw [hW3]; exact (hn3.below (below_one _ _)).pre L.out hn)
  have HG3 := Lib.hid hg3
  have HW3 := Lib.hid hW3
  clear hb hW3 hg3 hn3 h1 h2 h3
  go_upto_region 5 with fail
  rw [HG3.out, ← HW3.out]
  obtain ⟨h1, h2, h3⟩ := X3.out
  have UM := Lib.hid (used_any K Y x y S3.out hxm hym)
  have LB := Lib.hid (fun (f : ByteArray) (j : Nat) (hj : posP l' f = j) (V : World) (hV : Below W3.heap.size W3 V) => list_any (w := V) K Y f (M : Int) _ _ (S3.out.below hV) (by omega) (by omega) (F1.out f j hj) rfl)
  have GB := Lib.hid (fun (j : Nat) (p : PairZ) (hp : l'[j]? = some p) (V : World) (hV : Below W3.heap.size W3 V) => get_any (w := V) K Y p.k p.v 0 (S3.out.below hV) (F2.out j p hp).1)
  have HC3 := Lib.hid (fun (V : World) (hV : Below W3.heap.size W3 V) => X3.out.grow hV)
  clear hxm hym HC TM GM
  go_upto_region 6 with (first
    | (go_at_call 24; refine UM.out.mono ?_; rintro e w4 ⟨rfl, hb⟩; have B4 := Lib.hid hb; clear hb)
    | fail)
  clear h1 h2 h3 hq UM
  have MI : Hid (1 ≤ M ∧ M < 8) := Lib.hid ⟨hM, hM8⟩
  have XI := Lib.hid hx64
  go_upto_region 7 with fail
  go_wp2
  go_loopw [8, 9, 10, 11] (fun fv cv sv tv wr => ∃ (fb : ByteArray) (j sm T : Nat), fv = .string fb ∧ cv = .int .i64 j ∧ sv = .int .i64 sm ∧ tv = .int .i64 T ∧ T ≤ j ∧ j ≤ x ∧ Hid (posP l' fb = j) ∧ Hid (sm = cnt (l'.take j)) ∧ Hid (Below W3.heap.size W3 wr)) (fun _ _ _ tv _ => 200 - (intOf tv).toNat)
  case atStart => exact ⟨⟨#[]⟩, 0, 0, 0, rfl, rfl, rfl, rfl, by omega, by omega, F6, Lib.hid (by simp [cnt]), B4⟩
  case round =>
    obtain ⟨fb, j, sm, T, rfl, rfl, rfl, rfl, hTj, hjx, HP, HSm, HW⟩ := hrel
    have hTI : (T : Int) < 200 := by omega
    obtain ⟨zs, hzs⟩ : ∃ zs, ((l'.drop j).take M).map (·.k) = zs := ⟨_, rfl⟩
    obtain ⟨m, hm⟩ : ∃ m, zs.length = m := ⟨_, rfl⟩
    have LM := Lib.hid (LB.out fb j HP.out wr HW.out)
    rw [hzs, hm] at LM
    have HM := Lib.hid (show m = min M (x - j) by rw [← hm, ← hzs, ← F4.out]; simp)
    have HZ := Lib.hid (fun (i : Nat) (p : PairZ) (hi : i < m) (hp : l'[j + i]? = some p) => show zs[i]? = some p.k by
      rw [← hzs, List.getElem?_map, List.getElem?_take, if_pos (by have := HM.out; omega), List.getElem?_drop, hp]; rfl)
    have hmx : j + m ≤ x := by have := HM.out; omega
    have hm8 : m ≤ 8 := by have := HM.out; have := MI.out; omega
    clear hzs hm
    obtain ⟨h1, h2, h3⟩ := HC3.out _ HW.out
    go_upto_region 11 with (first
      | (go_at_call 22; refine LM.out.mono ?_; rintro e w5 ⟨D5, d5, rfl, ho, hb⟩; have B5 := Lib.hid (HW.out.trans (hb.mono HW.out.size)); have R5 := Lib.hid (sr_of_own ho); clear hb ho)
      | fail)
    clear h1 h2 h3 LM
    have C5 := Lib.hid (fun (V : World) (hV : Below w5.heap.size w5 V) => HC3.out V (B5.out.trans (hV.mono B5.out.size)))
    have GV := Lib.hid (fun (jj : Nat) (p : PairZ) (hp : l'[jj]? = some p) (V : World) (hV : Below w5.heap.size w5 V) => GB.out jj p hp V (B5.out.trans (hV.mono B5.out.size)))
    go_wp2
    go_loopw [8, 9, 10, 13] (fun fv cv sv iv wr => ∃ (fb : ByteArray) (i sm : Nat), fv = .string fb ∧ cv = .int .i64 (j + i : Nat) ∧ sv = .int .i64 sm ∧ iv = .int .i64 i ∧ i ≤ m ∧ Hid (posP l' fb = j + i) ∧ Hid (sm = cnt (l'.take (j + i))) ∧ Hid (Below w5.heap.size w5 wr)) (fun _ _ _ iv _ => m - (intOf iv).toNat)
    case atStart => exact ⟨fb, 0, sm, rfl, rfl, rfl, rfl, by omega, HP, HSm, Lib.hid (Below.refl _ _)⟩
    case round =>
      obtain ⟨fb2, i, sm2, rfl, rfl, rfl, rfl, him, HP2, HS2, HW2⟩ := hrel
      by_cases hlt : i < m
      · have hltI : (i : Int) < (m : Int) := by omega
        obtain ⟨J, hJ⟩ : ∃ J, j + i = J := ⟨_, rfl⟩
        have hJx : J < x := by omega
        obtain ⟨p, hp⟩ : ∃ p, l'[J]? = some p := ⟨_, List.getElem?_eq_getElem (by rw [F4.out]; exact hJx)⟩
        obtain ⟨_, f2, f3, f4⟩ := F2.out J p hp
        rw [hJ] at HP2 HS2 ⊢
        have LT : Op.bytesLess p.k.toList fb2.toList = false := F3.out fb2 J p HP2.out hp
        obtain ⟨b, off, z, hA, hbz, hz, c0⟩ := (R5.out.below HW2.out (Nat.le_refl _)).at_ hlt
        have hzk : z = p.k := Option.some.inj (hz.out.symm.trans (HZ.out i p hlt (by rw [hJ]; exact hp)))
        subst hzk hA
        have hsm : sm2 ≤ y := by rw [HS2.out, ← F5.out]; exact cnt_take _ _
        have HS3 := Lib.hid (show sm2 + p.k.size + p.v.size = cnt (l'.take (J + 1)) by rw [cnt_snoc hp, HS2.out]; omega)
        have n1 : IntKind.i64.wrap ((J : Int) + 1) = (J : Int) + 1 := by rw [IntKind.wrap_i64]; omega
        have n2 : IntKind.i64.wrap ((sm2 : Int) + (p.k.size : Int)) = (sm2 : Int) + (p.k.size : Int) := by rw [IntKind.wrap_i64]; omega
        have n3 : IntKind.i64.wrap ((sm2 : Int) + (p.k.size : Int) + (p.v.size : Int)) = (sm2 : Int) + (p.k.size : Int) + (p.v.size : Int) := by rw [IntKind.wrap_i64]; omega
        have n4 : p.k.size + 1 ≤ 9223372036854775807 := by omega
        have F3' := Lib.hid f2
        have GP := Lib.hid (fun (V : World) (hV : Below w5.heap.size w5 V) => GV.out J p hp V hV)
        have HST := Lib.hid (fun (V : World) (hV : Below wr.heap.size wr V) => show V.cell? ⟨g3, 0, none⟩ = some (.int .i64 K) ∧ V.cell? ⟨g3, 1, none⟩ = some (.int .i64 Y) ∧ V.cell? ⟨g3, 2, none⟩ = some (.slice D3 n d3) ∧ V.cell? ⟨b, off + i, none⟩ = some (.string p.k) from by
          have hb := HW2.out.trans (hV.mono HW2.out.size)
          obtain ⟨a1, a2, a3⟩ := C5.out V hb
          exact ⟨a1, a2, a3, (hV.cell (p := ⟨b, off + i, none⟩) (by have := HW2.out.size; show b < _; omega)).trans c0⟩)
        clear hz hp HP2 HS2 f2 f3 f4 hbz c0
        go_upto_region 14 with fail
        obtain ⟨h1, h2, h3, h4⟩ := HST.out _ (Below.refl _ _)
        go_region_held3 (fun V => V.cell? ⟨g3, 0, none⟩ = some (.int .i64 K) ∧ V.cell? ⟨g3, 1, none⟩ = some (.int .i64 Y) ∧ V.cell? ⟨g3, 2, none⟩ = some (.slice D3 n d3) ∧ V.cell? ⟨b, off + i, none⟩ = some (.string p.k))
          (first
            | (exact HST.out _ (Below.refl _ _).drew)
            | (exact HST.out _ B6.out))
          ((first
            | (go_at_call 17; refine (GP.out _ (HW2.out.drew)).mono ?_; rintro e w6 ⟨rfl, hb⟩; have B6 := Lib.hid ((Below.refl wr.heap.size wr).drew.trans hb); clear hb)
            | fail))
        all_goals
          clear h1 h2 h3 h4
          obtain ⟨_, _, _, h4⟩ := HST.out _ B6.out
          have B7 := Lib.hid (HW2.out.trans (B6.out.mono HW2.out.size))
          go_wp2
          go_roundw
          case rel => exact ⟨p.k ++ ⟨#[0]⟩, i + 1, sm2 + p.k.size + p.v.size, rfl, congrArg (Value.int .i64) (by omega), congrArg (Value.int .i64) (by omega), by go_num, by omega, Lib.hid (by rw [F3'.out]; omega), Lib.hid (by rw [HS3.out]; congr 2; omega), B7⟩
          case measure => simp [intOf]; omega
      · have e : i = m := by omega
        subst e
        by_cases hmM : i < M
        · have hmI : (i : Int) < (M : Int) := by omega
          have ej : j + i = x := by have := HM.out; omega
          have es : sm2 = y := by rw [HS2.out, ej, List.take_of_length_le (by rw [F4.out]; exact Nat.le_refl _), F5.out]
          rw [ej]
          subst es
          have BW := Lib.hid (B3.out.trans ((B5.out.trans (HW2.out.mono B5.out.size)).mono B3.out.size))
          clear HS2
          go_wp2_with (first
            | (go_at_call 20; refine (AW.out _).mono ?_; rintro e w9 ⟨rfl, hb⟩; have B9 := Lib.hid (BW.out.trans (hb.mono BW.out.size)); clear hb)
            | fail)
          go_ret
          exact ⟨rfl, B9.out⟩
        · have hmI : ¬ (i : Int) < (M : Int) := by omega
          have m1 : IntKind.i64.wrap ((T : Int) + 1) = (T : Int) + 1 := by rw [IntKind.wrap_i64]; omega
          have BW := Lib.hid (B5.out.trans (HW2.out.mono B5.out.size))
          have him : M ≤ i := by omega
          have hM1 := MI.out.1
          go_wp2
          go_roundw
          case rel => exact ⟨fb2, j + i, sm2, T + 1, rfl, rfl, rfl, by go_num, by omega, by omega, HP2, HS2, BW⟩
          case measure => simp [intOf]; omega
theorem spTells_in (K Y : Int) (A : Option Addr) (n c : Nat) (l : List PairZ) (k : Int) (w : World) (hK : -9223372036854775808 ≤ K ∧ K ≤ 9223372036854775807) (hY : -9223372036854775808 ≤ Y ∧ Y ≤ 9223372036854775807) (h : Prs w w.heap.size A n l) (hnc : n ≤ c) (hcm : c ≤ maxLen) (hk : -9223372036854775808 ≤ k ∧ k ≤ 9223372036854775807) :
    Calls Try.prog 8 #[.agg #[.int .i64 K, .int .i64 Y, .slice A n c], .int .i64 k] w (fun e w' => e = .returned (.bool true) ∧ Below w.heap.size w w') := spTells_any K Y A n c l k w h hnc hcm
end Go.Proofs.Ytmlkcedhjnmfgaa
