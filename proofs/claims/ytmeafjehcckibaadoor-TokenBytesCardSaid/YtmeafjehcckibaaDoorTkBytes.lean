/- The law TokenBytes. -/
import Derived.Test.YtmeafjehcckibaaDoorTkLw
import Derived.Test.YtmeafjehcckibaaDoorTkRp
import Derived.Test.YtmeafjehcckibaaDoorTkRs
import Derived.Test.YtmeafjehcckibaaDoorTkRz
import Derived.Test.YtmeafjehcckibaaDoorTkPs
import Derived.Test.YtmeafjehcckibaaDoorTkPr
import Derived.Test.YtmeafjehcckibaaDoorTkW
import Derived.Test.YtmeafjehcckibaaDoorTkEq
import Derived.Test.YtmeafjehcckibaaDoorB6
import Derived.Test.YtmeafjehcckibaaDoorTied
namespace Go.Proofs.YtmeafjehcckibaaDoor
open Go.ChangeShapes Go.WideShapes Go.ChangeAt Go.RowKit
set_option linter.unusedVariables false
set_option linter.unusedSimpArgs false
open Plain Sha
theorem idx_any (a : Int) (m : Nat) (h0 : 0 < m) (hm : m ≤ 1000) : ∃ k : Nat, k < m ∧ wrap64 ((IntKind.u64.wrap a).tmod (m : Int)) = (k : Int) := by
  have e : IntKind.u64.wrap a = a % 18446744073709551616 := IntKind.wrap_u64 a
  have h1 : 0 ≤ a % 18446744073709551616 := Int.emod_nonneg _ (by omega)
  have h2 := Int.emod_lt_of_pos (a % 18446744073709551616) (show (0 : Int) < m by omega)
  have h3 := Int.emod_nonneg (a % 18446744073709551616) (show (m : Int) ≠ 0 by omega)
  refine ⟨((a % 18446744073709551616) % (m : Int)).toNat, by omega, ?_⟩
  rw [e, Int.tmod_eq_emod_of_nonneg h1]
  unfold wrap64
  omega
theorem own8_at {w : World} {base n c : Nat} {A : Option Addr} {zs : List Int} (h : w.ownsRow base 5 1 (.slice A n c) n (vals zs)) {k : Nat} (hk : k < n) :
    ∃ g u, A = some ⟨g, 0, none⟩ ∧ base ≤ g ∧ g < w.heap.size ∧ Hid (zs.getD k 0 = u) ∧ w.cell? ⟨g, k, none⟩ = some (.int .u8 u) ∧ w.frozen? ⟨g, k, none⟩ = false ∧
      Hid (∀ z : Int, (w.setCell ⟨g, k, none⟩ (.int .u8 z)).ownsRow base 5 1 (.slice A n c) n (vals (zs.set k z))) := by
  have hl : zs.length = n := by have := h.1; rw [vals_len] at this; omega
  obtain ⟨g, cap, hv, hg, hlt⟩ := h.form (by omega)
  injection hv with e1 e2 e3
  subst e1
  refine ⟨g, _, rfl, hg, hlt, rfl, ?_, h.frozenAt k, fun z => ?_⟩
  · rw [h.cellAt k (by omega)]
    simp [vals, List.getElem?_map, List.getD_eq_getElem?_getD, List.getElem?_eq_getElem (show k < zs.length by omega)]
  · have := (h.stored k (.int .u8 z)).1
    simpa [vals, List.map_set] using this
theorem isBytes_set {zs : List Int} (h : IsBytes zs) {k : Nat} {z : Int} (hk : k < zs.length) (h0 : 0 ≤ z) (h1 : z < 256) : IsBytes (zs.set k z) := by
  intro j hj
  rw [List.length_set] at hj
  rw [getD_set _ _ _ _ hk]
  split
  · exact ⟨h0, h1⟩
  · exact h j hj
theorem Held.rsame {W V : World} {b b' : Nat} {t t' : TokZ} {l l' : List GrantZ} {p p' : PTok} (q : Bool) (h : Held W b t l p) (h' : Held W b' t' l' p') (hq : sameP p p' = q) (hV : Below W.heap.size W V) :
    Calls Tryd.prog 10 #[.agg (tv t).toArray, .agg (tv t').toArray] V (fun e w' => e = .returned (.bool q) ∧ Below V.heap.size V w') := by
  have := refsameT_any (h.tok.below hV) (h'.tok.below hV) hV.size hV.size
  rw [h.is, h'.is, hq] at this
  exact this
theorem Held.psame {W V : World} {b b' : Nat} {t t' : TokZ} {l l' : List GrantZ} {p p' : PTok} (q : Bool) (h : Held W b t l p) (h' : Held W b' t' l' p') (hq : sameP p p' = q) (hV : Below W.heap.size W V) :
    Calls Tryd.prog 11 #[.agg (tv t).toArray, .agg (tv t').toArray] V (fun e w' => e = .returned (.bool q) ∧ Below V.heap.size V w') := by
  subst hq
  rw [← h.is, ← h'.is]
  exact sameT_any (h.tok.below hV) (h'.tok.below hV) hV.size hV.size
theorem printP_small (p : PTok) (hT : p.T.length = 32) : (printP p).length ≤ 150 := by
  rw [printP_len p hT]
  split
  · next h =>
    have : p.l.length ≤ 4 := by
      simp only [mayT, lineB, Bool.and_eq_true, decide_eq_true_eq] at h
      omega
    omega
  · omega
set_option maxRecDepth 100000 in
set_option maxHeartbeats 8000000 in
theorem tbytes_any (t : TokZ) (l : List GrantZ) (A1 : Option Addr) (n c1 : Nat) (zs : List Int) (own : Bool) (x y : Int) (w : World) (h : Tok w w.heap.size t l) (hk : Bs w w.heap.size A1 n zs) (hn : n ≤ maxLen) (hx : -9223372036854775808 ≤ x ∧ x ≤ 9223372036854775807) (hy0 : 0 ≤ y) (hy1 : y < 256) (hF : LaidF w) (hK : LaidK w) :
    Calls Tryd.prog 3 #[.agg (tv t).toArray, .slice A1 n c1, .bool own, .int .i64 x, .int .u8 y] w (fun e w' => e = .returned (.bool true) ∧ Below w.heap.size w w') := by
  obtain ⟨W1, hW1⟩ : ∃ W, W = w.alloc (.cells (tv t).toArray 26) := ⟨_, rfl⟩
  have b1 : Below w.heap.size w W1 := by rw [hW1]; exact (Below.refl _ _).alloc (Nat.le_refl _) _
  have HX1 : Hid (Box W1 w.heap.size t) := Lib.hid (by rw [hW1]; exact box_new w t h.len _ _ rfl)
  have HB1 := Lib.hid b1
  have HT0 := Lib.hid h
  have HZ0 := Lib.hid hk
  have HF := Lib.hid hF
  have HK := Lib.hid hK
  have HW1 := Lib.hid hW1
  have HMX : t.m ≤ maxLen := Nat.le_trans h.mc h.cm
  unfold maxLen at HMX hn
  clear h hk hF hK b1 hx hW1
  have cc := HX1.out.c1
  by_cases h10 : 10 < t.m
  · have mI : 10 < (t.m : Int) := by omega
    go_enter Tryd.func3, Tryd.ntmps3
    go_upto_region 1 with fail
    rw [← HW1.out]
    go_wp2
    go_ret
    exact ⟨rfl, HB1.out⟩
  have mI : ¬ (10 < (t.m : Int)) := by omega
  by_cases h300 : 300 < n
  · have nI : 300 < (n : Int) := by omega
    go_enter Tryd.func3, Tryd.ntmps3
    go_upto_region 1 with fail
    rw [← HW1.out]
    go_wp2
    go_ret
    exact ⟨rfl, HB1.out⟩
  have nI : ¬ (300 < (n : Int)) := by omega
  have hm4 : t.m ≤ 4096 := by omega
  obtain ⟨P, hP⟩ : ∃ P, printP (pt t l) = P := ⟨_, rfl⟩
  obtain ⟨m, hm⟩ : ∃ m, P.length = m := ⟨_, rfl⟩
  have hm150 : m ≤ 150 := by rw [← hm, ← hP]; exact printP_small _ HT0.out.len
  have PB : Hid (IsBytes P) := Lib.hid (by rw [← hP]; exact printP_bytes _ HT0.out.bytes)
  have PL := Lib.hid hm
  have RP := Lib.hid (refprint_any (HT0.out.below HB1.out) HB1.out.size)
  rw [hP] at RP
  have HPP := Lib.hid hP
  have EP : Hid (eqB P P = true) := Lib.hid (by simp [eqB])
  clear hP hm
  go_enter Tryd.func3, Tryd.ntmps3
  go_upto_region 1 with fail
  rw [← HW1.out]
  go_upto_region 3 with fail
  have G1 := HX1
  go_upto_region 4 with (first
    | (have g := G1; clear g; refine wpList_load_mid (op := ⟨some 27, .load 26 (.tmp 5), _, _, _, _⟩) rfl 26 (.tmp 5) rfl (w.heap.size) 0 rfl (tv t) _ HX1.out.range Tryd.underlying26 rfl (tok_size HX1.out.len) ?_; clear G1)
    | (go_at_call 4; refine RP.out.mono ?_; intro e w2 hm2; obtain ⟨D2, d2, rfl, ho2, hb2, hd2, hc2⟩ := hm2.n PL.out; have O2 := Lib.hid ho2; have B2 := Lib.hid hb2; clear hm2 ho2 hb2))
  have HB2 := Lib.hid (HB1.out.trans (B2.out.mono HB1.out.size))
  have X2 := Lib.hid (HX1.out.grow B2.out)
  have Z2 := Lib.hid (bs_of_own O2.out PB.out)
  have CP := Lib.hid (copied_any (HT0.out.below HB2.out) HB2.out.size hm4)
  have G2 := X2
  clear cc RP
  go_upto_region 5 with (first
    | (have g := G2; clear g; refine wpList_load_mid (op := ⟨some 29, .load 26 (.tmp 5), _, _, _, _⟩) rfl 26 (.tmp 5) rfl (w.heap.size) 0 rfl (tv t) _ X2.out.range Tryd.underlying26 rfl (tok_size X2.out.len) ?_; clear G2)
    | (go_at_call 6; refine CP.out.mono ?_; rintro e w3 ⟨u, rfl, k3, p3, m3, b3⟩; have B3 := Lib.hid b3; have PR := Lib.hid (print_made P k3 (Nat.le_refl _) (by rw [p3]; exact HPP.out)); clear k3 p3 m3 b3)
    | (go_at_call 5; refine PR.out.mono ?_; intro e w4 hm4'; obtain ⟨D4, d4, rfl, ho4, hb4, _, _⟩ := hm4'.n PL.out; have Z4 := Lib.hid (bs_of_own ho4 PB.out); have B4 := Lib.hid hb4; clear hm4' ho4 hb4))
  have B24 := Lib.hid (B3.out.trans (B4.out.mono B3.out.size))
  have SM := Lib.hid (lsame_any (w := w4) d4 d2 true Z4.out (Z2.out.below B24.out) EP.out)
  have HB4 := Lib.hid (HB2.out.trans (B24.out.mono HB2.out.size))
  have X4 := Lib.hid (X2.out.grow B24.out)
  have Z24 := Lib.hid (Z2.out.below B24.out)
  have hs24 := B24.out.size
  go_upto_region 7 with (go_at_call 7; refine SM.out.mono ?_; rintro e w5 ⟨rfl, rfl⟩)
  have HB5 := HB4
  have X5 := X4
  have ZA5 := Lib.hid (HZ0.out.below HB4.out)
  clear SM CP X2 HX1 B3 B4 Z4 HB1 HB2 PR B2 EP B24 X4 HB4
  cases own
  · obtain ⟨w6, h6⟩ : ∃ w6, w6 = w5 := ⟨_, rfl⟩
    subst h6
    have ZB : Hid (Bs w6 w6.heap.size A1 n zs) := Lib.hid (ZA5.out.more HB5.out.size)
    have XW := X5
    have HBW := HB5
    clear X5 HB5 ZA5 Z24 O2
    have OQ := Lib.hid (own_nil8 w6 w6.heap.size (Nat.le_refl _))
    have BQ : Hid (Below w6.heap.size w6 (w6.alloc (.cells #[] 5))) := Lib.hid ((Below.refl _ _).alloc (Nat.le_refl _) _)
    have HLQ := Lib.hid ((ZB.out.below BQ.out).lies)
    go_upto_region 11 with (at_builtin; refine wpList_app _ rfl (.tmp 58) (.tmp 59) 27 rfl w6.heap.size 5 1 1 Tryd.underlying27 u8_info (by omega) _ 0 (vals []) rfl OQ.out A1 n c1 (vals zs) rfl HLQ.out.1 HLQ.out.2 (vals_one _) (by unfold maxLen; omega) (by omega) BQ.out.size ?_; intro v7 w7 ho7 hg7; have BX := Lib.hid (BQ.out.grown hg7 BQ.out.size (fun k hk => (OQ.out.lt k hk).1)); rw [Nat.zero_add] at ho7; have O7 := Lib.hid ho7; clear ho7 hg7)
    have o7 : w7.ownsRow w6.heap.size 5 1 v7 n (vals zs) := O7.out
    obtain ⟨D7, d7, rfl, hnd7, hdm7⟩ := own_shape o7
    have I7 : Hid (Bs w7 w7.heap.size D7 n zs) := Lib.hid (bs_of_own o7 ZB.out.isBytes)
    obtain ⟨p', hp⟩ : ∃ y, (parseP zs).1 = y := ⟨_, rfl⟩
    obtain ⟨k', hk⟩ : ∃ y, (parseP zs).2 = y := ⟨_, rfl⟩
    have HPK : Hid (parseP zs = (p', k')) := Lib.hid (Prod.ext hp hk)
    have hkk : (k' == k') = true := beq_self_eq_true k'
    obtain ⟨q, hq⟩ : ∃ q, sameP (pt t l) p' = q := ⟨_, rfl⟩
    have HQQ := Lib.hid hq
    have hqq : (q == q) = true := beq_self_eq_true q
    have HSP : Hid (sameP p' p' = true) := Lib.hid (by simp [sameP, eqL, eqB])
    have EZ : Hid (eqB zs zs = true) := Lib.hid (by simp [eqB])
    have PS := Lib.hid (parse_any d7 I7.out (Nat.le_refl _) (by omega) hnd7)
    rw [HPK.out] at PS
    have ZB7 := Lib.hid ((ZB.out.below BX.out).more BX.out.size)
    have HB7 := Lib.hid (HBW.out.trans (BX.out.mono HBW.out.size))
    have X7 := Lib.hid (XW.out.grow BX.out)
    clear o7 O7 OQ BQ HLQ hp hk hq BX XW HBW ZB
    go_upto_region 12 with (first
      | (go_at_call 8; refine PS.out.mono ?_; rintro e w8 ⟨t2, l2, rfl, k2, p2, b2, n2⟩; have T2 := Lib.hid (box_thereN w8 k2.len 26 _ rfl); have F2 := T2)
      | (have g := F2; clear g; refine wpList_store_as (op := ⟨none, .store 26 (.tmp 14) (.tmp 64), _, _, _, _⟩) rfl 26 (.tmp 14) (.tmp 64) rfl (w8.heap.size) 0 (tv t2).toArray rfl rfl T2.out (tok_sizeA k2.len) (tok_one _) ?_; intro w9 hw9; clear F2))
    obtain ⟨t9, b9⟩ := held_new k2 p2 rfl hw9
    obtain ⟨vt, hvt⟩ : ∃ g, w8.heap.size = g := ⟨_, rfl⟩
    rw [hvt] at t9
    simp only [hvt]
    have B79 := Lib.hid (b2.trans (b9.mono b2.size))
    have H9 := Lib.hid t9
    have HB9 := Lib.hid (HB7.out.trans (B79.out.mono HB7.out.size))
    have X9 := Lib.hid (X7.out.grow B79.out)
    have ZB9 := Lib.hid ((ZB7.out.below B79.out).more B79.out.size)
    have I9 := Lib.hid ((I7.out.below B79.out).more B79.out.size)
    have RF := Lib.hid (refparse_any c1 ZB9.out (Nat.le_refl _) (by omega))
    rw [ref_parse ZB9.out.isBytes, HPK.out] at RF
    clear hw9 t9 b9 hvt k2 p2 b2 n2 T2 PS ZB7 I7 X7 B79 HB7
    go_upto_region 13 with (first
      | (go_at_call 9; refine RF.out.mono ?_; rintro e w10 ⟨u4, l4, rfl, k4, p4, b4, n4⟩; have T4 := Lib.hid (box_thereN w10 k4.len 26 _ rfl); have F4 := T4)
      | (have g := F4; clear g; refine wpList_store_as (op := ⟨none, .store 26 (.tmp 16) (.tmp 69), _, _, _, _⟩) rfl 26 (.tmp 16) (.tmp 69) rfl (w10.heap.size) 0 (tv u4).toArray rfl rfl T4.out (tok_sizeA k4.len) (tok_one _) ?_; intro w11 hw11; clear F4))
    obtain ⟨t11, b11⟩ := held_new k4 p4 rfl hw11
    obtain ⟨vu, hvu⟩ : ∃ g, w10.heap.size = g := ⟨_, rfl⟩
    rw [hvu] at t11
    simp only [hvu]
    have B9b := Lib.hid (b4.trans (b11.mono b4.size))
    have HC := Lib.hid t11
    have HA := Lib.hid (H9.out.grow B9b.out)
    have HB11 := Lib.hid (HB9.out.trans (B9b.out.mono HB9.out.size))
    have X11 := Lib.hid (X9.out.grow B9b.out)
    have ZB11 := Lib.hid ((ZB9.out.below B9b.out).more B9b.out.size)
    have I11 := Lib.hid ((I9.out.below B9b.out).more B9b.out.size)
    have HT : Hid (Held w11 w.heap.size t l (pt t l)) := Lib.hid ⟨X11.out, (HT0.out.below HB11.out).more HB11.out.size, rfl⟩
    have XA := Lib.hid HA.out.box
    have XC := Lib.hid HC.out.box
    have F11 := Lib.hid (HF.out.below HB11.out HF.out.lt)
    have K11 := Lib.hid (HK.out.below HB11.out HK.out.lt)
    clear hw11 t11 b11 hvu k4 p4 b4 n4 T4 RF ZB9 I9 X9 B9b HB9 H9
    refine Late.region (fun w' => Below w11.heap.size w11 w') [] (by kernel_rfl) (Below.refl _ _).drew (fun hHeld => ?_)
    refine Late.take (i := 0) (oi := ⟨some 71, Op.move (Operand.tmp 15), _, _, _, _⟩) (v := ?_) rfl (by kernel_rfl) (by kernel_rfl) (by kernel_rfl) (by kernel_rfl) (fun _ _ _ h => h) (Or.inl ⟨by rfl, fun w hSw => ?_⟩) (by assumption) ?_
    rotate_left
    · (have s1 := hSw; go_simp; try with_reducible rfl)
    try simp only [Act.put, List.setIfInBounds_toArray, List.set_cons_zero, List.set_cons_succ]
    refine Late.take (i := 1) (oi := ⟨some 72, Op.move (Operand.tmp 17), _, _, _, _⟩) (v := ?_) rfl (by kernel_rfl) (by kernel_rfl) (by kernel_rfl) (by kernel_rfl) (fun _ _ _ h => h) (Or.inl ⟨by rfl, fun w hSw => ?_⟩) (by assumption) ?_
    rotate_left
    · (have s1 := hSw; go_simp; try with_reducible rfl)
    try simp only [Act.put, List.setIfInBounds_toArray, List.set_cons_zero, List.set_cons_succ]
    refine Late.take (i := 2) (oi := ⟨some 73, Op.binOp BinOp.eql 3 (Operand.tmp 71) (Operand.tmp 72) 3, _, _, _, _⟩) (v := ?_) rfl (by kernel_rfl) (by kernel_rfl) (by kernel_rfl) (by kernel_rfl) (fun _ _ _ h => h) (Or.inl ⟨by rfl, fun w hSw => ?_⟩) (by assumption) ?_
    rotate_left
    · (have s1 := hSw; go_simp; try with_reducible rfl)
    try simp only [Act.put, List.setIfInBounds_toArray, List.set_cons_zero, List.set_cons_succ]
    refine Late.take (i := 3) (oi := ⟨some 74, Op.move (Operand.tmp 73), _, _, _, _⟩) (v := ?_) rfl (by kernel_rfl) (by kernel_rfl) (by kernel_rfl) (by kernel_rfl) (fun _ _ _ h => h) (Or.inl ⟨by rfl, fun w hSw => ?_⟩) (by assumption) ?_
    rotate_left
    · (have s1 := hSw; go_simp; try with_reducible rfl)
    try simp only [Act.put, List.setIfInBounds_toArray, List.set_cons_zero, List.set_cons_succ]
    refine Late.take (i := 4) (oi := ⟨some 75, Op.load 26 (Operand.tmp 14), _, _, _, _⟩) (v := _) rfl (by kernel_rfl) (by kernel_rfl) (by kernel_rfl) (by kernel_rfl) (fun _ _ _ h => h) (yieldsIf_load_mid (by rfl) _ _ rfl _ _ rfl (tv t2) _ (fun _ h => (XA.out.grow h).range) Tryd.underlying26 rfl (tok_size XA.out.len)) (by assumption) ?_
    try simp only [Act.put, List.setIfInBounds_toArray, List.set_cons_zero, List.set_cons_succ]
    refine Late.take (i := 5) (oi := ⟨some 76, Op.load 26 (Operand.tmp 16), _, _, _, _⟩) (v := _) rfl (by kernel_rfl) (by kernel_rfl) (by kernel_rfl) (by kernel_rfl) (fun _ _ _ h => h) (yieldsIf_load_mid (by rfl) _ _ rfl _ _ rfl (tv u4) _ (fun _ h => (XC.out.grow h).range) Tryd.underlying26 rfl (tok_size XC.out.len)) (by assumption) ?_
    try simp only [Act.put, List.setIfInBounds_toArray, List.set_cons_zero, List.set_cons_succ]
    refine Late.one (i := 6) (o := ⟨some 77, Op.call { callee := Callee.value (Operand.func 10), args := #[Operand.tmp 75, Operand.tmp 76], argTypes := #[26, 26] }, _, _, _, _⟩) (by kernel_rfl) rfl (fun K hK => ?_)
    go_simp
    refine (HA.out.rsame true HC.out HSP.out hHeld).mono ?_
    rintro e wa ⟨rfl, bwa⟩
    refine hK.out _ _ (hHeld.trans (bwa.mono hHeld.size)) (fun hHeld2 => ?_)
    clear hK K hHeld
    have hHeld := hHeld2
    clear hHeld2
    try simp only [Act.put, List.setIfInBounds_toArray, List.set_cons_zero, List.set_cons_succ]
    refine Late.take (i := 7) (oi := ⟨some 78, Op.pick (Operand.tmp 74) (Operand.tmp 77) (Operand.const (Value.bool false)), _, _, _, _⟩) (v := ?_) rfl (by kernel_rfl) (by kernel_rfl) (by kernel_rfl) (by kernel_rfl) (fun _ _ _ h => h) (Or.inl ⟨by rfl, fun w hSw => ?_⟩) (by assumption) ?_
    rotate_left
    · (have s1 := hSw; go_simp; try with_reducible rfl)
    try simp only [Act.put, List.setIfInBounds_toArray, List.set_cons_zero, List.set_cons_succ]
    refine Late.take (i := 8) (oi := ⟨some 79, Op.move (Operand.tmp 78), _, _, _, _⟩) (v := ?_) rfl (by kernel_rfl) (by kernel_rfl) (by kernel_rfl) (by kernel_rfl) (fun _ _ _ h => h) (Or.inl ⟨by rfl, fun w hSw => ?_⟩) (by assumption) ?_
    rotate_left
    · (have s1 := hSw; go_simp; try with_reducible rfl)
    try simp only [Act.put, List.setIfInBounds_toArray, List.set_cons_zero, List.set_cons_succ]
    refine Late.take (i := 9) (oi := ⟨some 80, Op.move (Operand.tmp 13), _, _, _, _⟩) (v := ?_) rfl (by kernel_rfl) (by kernel_rfl) (by kernel_rfl) (by kernel_rfl) (fun _ _ _ h => h) (Or.inl ⟨by rfl, fun w hSw => ?_⟩) (by assumption) ?_
    rotate_left
    · (have s1 := hSw; go_simp; try with_reducible rfl)
    try simp only [Act.put, List.setIfInBounds_toArray, List.set_cons_zero, List.set_cons_succ]
    refine Late.take (i := 10) (oi := ⟨some 81, Op.move (Operand.tmp 1), _, _, _, _⟩) (v := ?_) rfl (by kernel_rfl) (by kernel_rfl) (by kernel_rfl) (by kernel_rfl) (fun _ _ _ h => h) (Or.inl ⟨by rfl, fun w hSw => ?_⟩) (by assumption) ?_
    rotate_left
    · (have s1 := hSw; go_simp; try with_reducible rfl)
    try simp only [Act.put, List.setIfInBounds_toArray, List.set_cons_zero, List.set_cons_succ]
    refine Late.one (i := 11) (o := ⟨some 82, Op.call { callee := Callee.value (Operand.func 7), args := #[Operand.tmp 80, Operand.tmp 81], argTypes := #[27, 27] }, _, _, _, _⟩) (by kernel_rfl) rfl (fun K hK => ?_)
    go_simp
    refine (lsame_any d7 c1 true (I11.out.below hHeld) (ZB11.out.below hHeld) EZ.out).mono ?_
    rintro e wb ⟨rfl, rfl⟩
    refine hK.out _ _ (hHeld) (fun hHeld2 => ?_)
    clear hK K hHeld
    have hHeld := hHeld2
    clear hHeld2
    try simp only [Act.put, List.setIfInBounds_toArray, List.set_cons_zero, List.set_cons_succ]
    refine Late.take (i := 12) (oi := ⟨some 83, Op.pick (Operand.tmp 79) (Operand.tmp 82) (Operand.const (Value.bool false)), _, _, _, _⟩) (v := ?_) rfl (by kernel_rfl) (by kernel_rfl) (by kernel_rfl) (by kernel_rfl) (fun _ _ _ h => h) (Or.inl ⟨by rfl, fun w hSw => ?_⟩) (by assumption) ?_
    rotate_left
    · (have s1 := hSw; go_simp; try with_reducible rfl)
    try simp only [Act.put, List.setIfInBounds_toArray, List.set_cons_zero, List.set_cons_succ]
    refine Late.take (i := 13) (oi := ⟨some 84, Op.move (Operand.tmp 83), _, _, _, _⟩) (v := ?_) rfl (by kernel_rfl) (by kernel_rfl) (by kernel_rfl) (by kernel_rfl) (fun _ _ _ h => h) (Or.inl ⟨by rfl, fun w hSw => ?_⟩) (by assumption) ?_
    rotate_left
    · (have s1 := hSw; go_simp; try with_reducible rfl)
    try simp only [Act.put, List.setIfInBounds_toArray, List.set_cons_zero, List.set_cons_succ]
    refine Late.take (i := 14) (oi := ⟨some 85, Op.load 26 (Operand.tmp 5), _, _, _, _⟩) (v := _) rfl (by kernel_rfl) (by kernel_rfl) (by kernel_rfl) (by kernel_rfl) (fun _ _ _ h => h) (yieldsIf_load_mid (by rfl) _ _ rfl _ _ rfl (tv t) _ (fun _ h => (X11.out.grow h).range) Tryd.underlying26 rfl (tok_size X11.out.len)) (by assumption) ?_
    try simp only [Act.put, List.setIfInBounds_toArray, List.set_cons_zero, List.set_cons_succ]
    refine Late.take (i := 15) (oi := ⟨some 86, Op.load 26 (Operand.tmp 14), _, _, _, _⟩) (v := _) rfl (by kernel_rfl) (by kernel_rfl) (by kernel_rfl) (by kernel_rfl) (fun _ _ _ h => h) (yieldsIf_load_mid (by rfl) _ _ rfl _ _ rfl (tv t2) _ (fun _ h => (XA.out.grow h).range) Tryd.underlying26 rfl (tok_size XA.out.len)) (by assumption) ?_
    try simp only [Act.put, List.setIfInBounds_toArray, List.set_cons_zero, List.set_cons_succ]
    refine Late.take (i := 17) (oi := ⟨some 88, Op.load 26 (Operand.tmp 5), _, _, _, _⟩) (v := _) rfl (by kernel_rfl) (by kernel_rfl) (by kernel_rfl) (by kernel_rfl) (fun _ _ _ h => h) (yieldsIf_load_mid (by rfl) _ _ rfl _ _ rfl (tv t) _ (fun _ h => (X11.out.grow h).range) Tryd.underlying26 rfl (tok_size X11.out.len)) (by assumption) ?_
    try simp only [Act.put, List.setIfInBounds_toArray, List.set_cons_zero, List.set_cons_succ]
    refine Late.take (i := 18) (oi := ⟨some 89, Op.load 26 (Operand.tmp 16), _, _, _, _⟩) (v := _) rfl (by kernel_rfl) (by kernel_rfl) (by kernel_rfl) (by kernel_rfl) (fun _ _ _ h => h) (yieldsIf_load_mid (by rfl) _ _ rfl _ _ rfl (tv u4) _ (fun _ h => (XC.out.grow h).range) Tryd.underlying26 rfl (tok_size XC.out.len)) (by assumption) ?_
    try simp only [Act.put, List.setIfInBounds_toArray, List.set_cons_zero, List.set_cons_succ]
    refine Late.one (i := 16) (o := ⟨some 87, Op.call { callee := Callee.value (Operand.func 11), args := #[Operand.tmp 85, Operand.tmp 86], argTypes := #[26, 26] }, _, _, _, _⟩) (by kernel_rfl) rfl (fun K hK => ?_)
    go_simp
    refine (HT.out.psame q HA.out HQQ.out hHeld).mono ?_
    rintro e wc ⟨rfl, bwc⟩
    refine hK.out _ _ (hHeld.trans (bwc.mono hHeld.size)) (fun hHeld2 => ?_)
    clear hK K hHeld
    have hHeld := hHeld2
    clear hHeld2
    try simp only [Act.put, List.setIfInBounds_toArray, List.set_cons_zero, List.set_cons_succ]
    refine Late.one (i := 19) (o := ⟨some 90, Op.call { callee := Callee.value (Operand.func 10), args := #[Operand.tmp 88, Operand.tmp 89], argTypes := #[26, 26] }, _, _, _, _⟩) (by kernel_rfl) rfl (fun K hK => ?_)
    go_simp
    refine (HT.out.rsame q HC.out HQQ.out hHeld).mono ?_
    rintro e wd ⟨rfl, bwd⟩
    refine hK.out _ _ (hHeld.trans (bwd.mono hHeld.size)) (fun hHeld2 => ?_)
    clear hK K hHeld
    have hHeld := hHeld2
    clear hHeld2
    try simp only [Act.put, List.setIfInBounds_toArray, List.set_cons_zero, List.set_cons_succ]
    refine Late.take (i := 20) (oi := ⟨some 91, Op.binOp BinOp.eql 4 (Operand.tmp 87) (Operand.tmp 90) 4, _, _, _, _⟩) (v := ?_) rfl (by kernel_rfl) (by kernel_rfl) (by kernel_rfl) (by kernel_rfl) (fun _ _ _ h => h) (Or.inl ⟨by rfl, fun w hSw => ?_⟩) (by assumption) ?_
    rotate_left
    · (have s1 := hSw; go_simp; try with_reducible rfl)
    try simp only [Act.put, List.setIfInBounds_toArray, List.set_cons_zero, List.set_cons_succ]
    refine Late.take (i := 21) (oi := ⟨some 92, Op.pick (Operand.tmp 84) (Operand.tmp 91) (Operand.const (Value.bool false)), _, _, _, _⟩) (v := ?_) rfl (by kernel_rfl) (by kernel_rfl) (by kernel_rfl) (by kernel_rfl) (fun _ _ _ h => h) (Or.inl ⟨by rfl, fun w hSw => ?_⟩) (by assumption) ?_
    rotate_left
    · (have s1 := hSw; go_simp; try with_reducible rfl)
    try simp only [Act.put, List.setIfInBounds_toArray, List.set_cons_zero, List.set_cons_succ]
    refine Late.take (i := 22) (oi := ⟨some 93, Op.move (Operand.tmp 92), _, _, _, _⟩) (v := ?_) rfl (by kernel_rfl) (by kernel_rfl) (by kernel_rfl) (by kernel_rfl) (fun _ _ _ h => h) (Or.inl ⟨by rfl, fun w hSw => ?_⟩) (by assumption) ?_
    rotate_left
    · (have s1 := hSw; go_simp; try with_reducible rfl)
    try simp only [Act.put, List.setIfInBounds_toArray, List.set_cons_zero, List.set_cons_succ]
    refine Late.one (i := 23) (o := ⟨some 94, Op.call { callee := Callee.value (Operand.func 12), args := #[], argTypes := #[] }, _, _, _, _⟩) (by kernel_rfl) rfl (fun K hK => ?_)
    go_simp
    refine (tawake_any _ (F11.out.below hHeld F11.out.lt) (K11.out.below hHeld K11.out.lt)).mono ?_
    rintro e wf ⟨rfl, bwf⟩
    refine hK.out _ _ (hHeld.trans (bwf.mono hHeld.size)) (fun hHeld2 => ?_)
    clear hK K hHeld
    have hHeld := hHeld2
    clear hHeld2
    try simp only [Act.put, List.setIfInBounds_toArray, List.set_cons_zero, List.set_cons_succ]
    refine Late.take (i := 24) (oi := ⟨some 95, Op.pick (Operand.tmp 93) (Operand.tmp 94) (Operand.const (Value.bool false)), _, _, _, _⟩) (v := ?_) rfl (by kernel_rfl) (by kernel_rfl) (by kernel_rfl) (by kernel_rfl) (fun _ _ _ h => h) (Or.inl ⟨by rfl, fun w hSw => ?_⟩) (by assumption) ?_
    rotate_left
    · (have s1 := hSw; go_simp; try with_reducible rfl)
    try simp only [Act.put, List.setIfInBounds_toArray, List.set_cons_zero, List.set_cons_succ]
    refine Late.take (i := 25) (oi := ⟨some 10, Op.assign (Operand.tmp 95), _, _, _, _⟩) (v := ?_) rfl (by kernel_rfl) (by kernel_rfl) (by kernel_rfl) (by kernel_rfl) (fun _ _ _ h => h) (Or.inl ⟨by rfl, fun w hSw => ?_⟩) (by assumption) ?_
    rotate_left
    · (have s1 := hSw; go_simp; try with_reducible rfl)
    try simp only [Act.put, List.setIfInBounds_toArray, List.set_cons_zero, List.set_cons_succ]
    refine Late.done (by kernel_rfl) ?_ _
    refine NoPanic.normal ?_
    have B12 := Lib.hid hHeld
    clear hHeld
    go_wp2
    go_ret
    exact ⟨rfl, HB11.out.trans (B12.out.mono HB11.out.size)⟩
  · by_cases hm0 : m = 0
    · have ml : ((0 : Int) < (m : Int)) = False := by simp; omega
      subst hm0
      obtain ⟨w6, h6⟩ : ∃ w6, w6 = w5 := ⟨_, rfl⟩
      subst h6
      have ZB : Hid (Bs w6 w6.heap.size A1 n zs) := Lib.hid (ZA5.out.more HB5.out.size)
      have XW := X5
      have HBW := HB5
      clear X5 HB5 ZA5 Z24 O2
      have OQ := Lib.hid (own_nil8 w6 w6.heap.size (Nat.le_refl _))
      have BQ : Hid (Below w6.heap.size w6 (w6.alloc (.cells #[] 5))) := Lib.hid ((Below.refl _ _).alloc (Nat.le_refl _) _)
      have HLQ := Lib.hid ((ZB.out.below BQ.out).lies)
      go_upto_region 11 with (at_builtin; refine wpList_app _ rfl (.tmp 58) (.tmp 59) 27 rfl w6.heap.size 5 1 1 Tryd.underlying27 u8_info (by omega) _ 0 (vals []) rfl OQ.out A1 n c1 (vals zs) rfl HLQ.out.1 HLQ.out.2 (vals_one _) (by unfold maxLen; omega) (by omega) BQ.out.size ?_; intro v7 w7 ho7 hg7; have BX := Lib.hid (BQ.out.grown hg7 BQ.out.size (fun k hk => (OQ.out.lt k hk).1)); rw [Nat.zero_add] at ho7; have O7 := Lib.hid ho7; clear ho7 hg7)
      have o7 : w7.ownsRow w6.heap.size 5 1 v7 n (vals zs) := O7.out
      obtain ⟨D7, d7, rfl, hnd7, hdm7⟩ := own_shape o7
      have I7 : Hid (Bs w7 w7.heap.size D7 n zs) := Lib.hid (bs_of_own o7 ZB.out.isBytes)
      obtain ⟨p', hp⟩ : ∃ y, (parseP zs).1 = y := ⟨_, rfl⟩
      obtain ⟨k', hk⟩ : ∃ y, (parseP zs).2 = y := ⟨_, rfl⟩
      have HPK : Hid (parseP zs = (p', k')) := Lib.hid (Prod.ext hp hk)
      have hkk : (k' == k') = true := beq_self_eq_true k'
      obtain ⟨q, hq⟩ : ∃ q, sameP (pt t l) p' = q := ⟨_, rfl⟩
      have HQQ := Lib.hid hq
      have hqq : (q == q) = true := beq_self_eq_true q
      have HSP : Hid (sameP p' p' = true) := Lib.hid (by simp [sameP, eqL, eqB])
      have EZ : Hid (eqB zs zs = true) := Lib.hid (by simp [eqB])
      have PS := Lib.hid (parse_any d7 I7.out (Nat.le_refl _) (by omega) hnd7)
      rw [HPK.out] at PS
      have ZB7 := Lib.hid ((ZB.out.below BX.out).more BX.out.size)
      have HB7 := Lib.hid (HBW.out.trans (BX.out.mono HBW.out.size))
      have X7 := Lib.hid (XW.out.grow BX.out)
      clear o7 O7 OQ BQ HLQ hp hk hq BX XW HBW ZB
      go_upto_region 12 with (first
        | (go_at_call 8; refine PS.out.mono ?_; rintro e w8 ⟨t2, l2, rfl, k2, p2, b2, n2⟩; have T2 := Lib.hid (box_thereN w8 k2.len 26 _ rfl); have F2 := T2)
        | (have g := F2; clear g; refine wpList_store_as (op := ⟨none, .store 26 (.tmp 14) (.tmp 64), _, _, _, _⟩) rfl 26 (.tmp 14) (.tmp 64) rfl (w8.heap.size) 0 (tv t2).toArray rfl rfl T2.out (tok_sizeA k2.len) (tok_one _) ?_; intro w9 hw9; clear F2))
      obtain ⟨t9, b9⟩ := held_new k2 p2 rfl hw9
      obtain ⟨vt, hvt⟩ : ∃ g, w8.heap.size = g := ⟨_, rfl⟩
      rw [hvt] at t9
      simp only [hvt]
      have B79 := Lib.hid (b2.trans (b9.mono b2.size))
      have H9 := Lib.hid t9
      have HB9 := Lib.hid (HB7.out.trans (B79.out.mono HB7.out.size))
      have X9 := Lib.hid (X7.out.grow B79.out)
      have ZB9 := Lib.hid ((ZB7.out.below B79.out).more B79.out.size)
      have I9 := Lib.hid ((I7.out.below B79.out).more B79.out.size)
      have RF := Lib.hid (refparse_any c1 ZB9.out (Nat.le_refl _) (by omega))
      rw [ref_parse ZB9.out.isBytes, HPK.out] at RF
      clear hw9 t9 b9 hvt k2 p2 b2 n2 T2 PS ZB7 I7 X7 B79 HB7
      go_upto_region 13 with (first
        | (go_at_call 9; refine RF.out.mono ?_; rintro e w10 ⟨u4, l4, rfl, k4, p4, b4, n4⟩; have T4 := Lib.hid (box_thereN w10 k4.len 26 _ rfl); have F4 := T4)
        | (have g := F4; clear g; refine wpList_store_as (op := ⟨none, .store 26 (.tmp 16) (.tmp 69), _, _, _, _⟩) rfl 26 (.tmp 16) (.tmp 69) rfl (w10.heap.size) 0 (tv u4).toArray rfl rfl T4.out (tok_sizeA k4.len) (tok_one _) ?_; intro w11 hw11; clear F4))
      obtain ⟨t11, b11⟩ := held_new k4 p4 rfl hw11
      obtain ⟨vu, hvu⟩ : ∃ g, w10.heap.size = g := ⟨_, rfl⟩
      rw [hvu] at t11
      simp only [hvu]
      have B9b := Lib.hid (b4.trans (b11.mono b4.size))
      have HC := Lib.hid t11
      have HA := Lib.hid (H9.out.grow B9b.out)
      have HB11 := Lib.hid (HB9.out.trans (B9b.out.mono HB9.out.size))
      have X11 := Lib.hid (X9.out.grow B9b.out)
      have ZB11 := Lib.hid ((ZB9.out.below B9b.out).more B9b.out.size)
      have I11 := Lib.hid ((I9.out.below B9b.out).more B9b.out.size)
      have HT : Hid (Held w11 w.heap.size t l (pt t l)) := Lib.hid ⟨X11.out, (HT0.out.below HB11.out).more HB11.out.size, rfl⟩
      have XA := Lib.hid HA.out.box
      have XC := Lib.hid HC.out.box
      have F11 := Lib.hid (HF.out.below HB11.out HF.out.lt)
      have K11 := Lib.hid (HK.out.below HB11.out HK.out.lt)
      clear hw11 t11 b11 hvu k4 p4 b4 n4 T4 RF ZB9 I9 X9 B9b HB9 H9
      refine Late.region (fun w' => Below w11.heap.size w11 w') [] (by kernel_rfl) (Below.refl _ _).drew (fun hHeld => ?_)
      refine Late.take (i := 0) (oi := ⟨some 71, Op.move (Operand.tmp 15), _, _, _, _⟩) (v := ?_) rfl (by kernel_rfl) (by kernel_rfl) (by kernel_rfl) (by kernel_rfl) (fun _ _ _ h => h) (Or.inl ⟨by rfl, fun w hSw => ?_⟩) (by assumption) ?_
      rotate_left
      · (have s1 := hSw; go_simp; try with_reducible rfl)
      try simp only [Act.put, List.setIfInBounds_toArray, List.set_cons_zero, List.set_cons_succ]
      refine Late.take (i := 1) (oi := ⟨some 72, Op.move (Operand.tmp 17), _, _, _, _⟩) (v := ?_) rfl (by kernel_rfl) (by kernel_rfl) (by kernel_rfl) (by kernel_rfl) (fun _ _ _ h => h) (Or.inl ⟨by rfl, fun w hSw => ?_⟩) (by assumption) ?_
      rotate_left
      · (have s1 := hSw; go_simp; try with_reducible rfl)
      try simp only [Act.put, List.setIfInBounds_toArray, List.set_cons_zero, List.set_cons_succ]
      refine Late.take (i := 2) (oi := ⟨some 73, Op.binOp BinOp.eql 3 (Operand.tmp 71) (Operand.tmp 72) 3, _, _, _, _⟩) (v := ?_) rfl (by kernel_rfl) (by kernel_rfl) (by kernel_rfl) (by kernel_rfl) (fun _ _ _ h => h) (Or.inl ⟨by rfl, fun w hSw => ?_⟩) (by assumption) ?_
      rotate_left
      · (have s1 := hSw; go_simp; try with_reducible rfl)
      try simp only [Act.put, List.setIfInBounds_toArray, List.set_cons_zero, List.set_cons_succ]
      refine Late.take (i := 3) (oi := ⟨some 74, Op.move (Operand.tmp 73), _, _, _, _⟩) (v := ?_) rfl (by kernel_rfl) (by kernel_rfl) (by kernel_rfl) (by kernel_rfl) (fun _ _ _ h => h) (Or.inl ⟨by rfl, fun w hSw => ?_⟩) (by assumption) ?_
      rotate_left
      · (have s1 := hSw; go_simp; try with_reducible rfl)
      try simp only [Act.put, List.setIfInBounds_toArray, List.set_cons_zero, List.set_cons_succ]
      refine Late.take (i := 4) (oi := ⟨some 75, Op.load 26 (Operand.tmp 14), _, _, _, _⟩) (v := _) rfl (by kernel_rfl) (by kernel_rfl) (by kernel_rfl) (by kernel_rfl) (fun _ _ _ h => h) (yieldsIf_load_mid (by rfl) _ _ rfl _ _ rfl (tv t2) _ (fun _ h => (XA.out.grow h).range) Tryd.underlying26 rfl (tok_size XA.out.len)) (by assumption) ?_
      try simp only [Act.put, List.setIfInBounds_toArray, List.set_cons_zero, List.set_cons_succ]
      refine Late.take (i := 5) (oi := ⟨some 76, Op.load 26 (Operand.tmp 16), _, _, _, _⟩) (v := _) rfl (by kernel_rfl) (by kernel_rfl) (by kernel_rfl) (by kernel_rfl) (fun _ _ _ h => h) (yieldsIf_load_mid (by rfl) _ _ rfl _ _ rfl (tv u4) _ (fun _ h => (XC.out.grow h).range) Tryd.underlying26 rfl (tok_size XC.out.len)) (by assumption) ?_
      try simp only [Act.put, List.setIfInBounds_toArray, List.set_cons_zero, List.set_cons_succ]
      refine Late.one (i := 6) (o := ⟨some 77, Op.call { callee := Callee.value (Operand.func 10), args := #[Operand.tmp 75, Operand.tmp 76], argTypes := #[26, 26] }, _, _, _, _⟩) (by kernel_rfl) rfl (fun K hK => ?_)
      go_simp
      refine (HA.out.rsame true HC.out HSP.out hHeld).mono ?_
      rintro e wa ⟨rfl, bwa⟩
      refine hK.out _ _ (hHeld.trans (bwa.mono hHeld.size)) (fun hHeld2 => ?_)
      clear hK K hHeld
      have hHeld := hHeld2
      clear hHeld2
      try simp only [Act.put, List.setIfInBounds_toArray, List.set_cons_zero, List.set_cons_succ]
      refine Late.take (i := 7) (oi := ⟨some 78, Op.pick (Operand.tmp 74) (Operand.tmp 77) (Operand.const (Value.bool false)), _, _, _, _⟩) (v := ?_) rfl (by kernel_rfl) (by kernel_rfl) (by kernel_rfl) (by kernel_rfl) (fun _ _ _ h => h) (Or.inl ⟨by rfl, fun w hSw => ?_⟩) (by assumption) ?_
      rotate_left
      · (have s1 := hSw; go_simp; try with_reducible rfl)
      try simp only [Act.put, List.setIfInBounds_toArray, List.set_cons_zero, List.set_cons_succ]
      refine Late.take (i := 8) (oi := ⟨some 79, Op.move (Operand.tmp 78), _, _, _, _⟩) (v := ?_) rfl (by kernel_rfl) (by kernel_rfl) (by kernel_rfl) (by kernel_rfl) (fun _ _ _ h => h) (Or.inl ⟨by rfl, fun w hSw => ?_⟩) (by assumption) ?_
      rotate_left
      · (have s1 := hSw; go_simp; try with_reducible rfl)
      try simp only [Act.put, List.setIfInBounds_toArray, List.set_cons_zero, List.set_cons_succ]
      refine Late.take (i := 9) (oi := ⟨some 80, Op.move (Operand.tmp 13), _, _, _, _⟩) (v := ?_) rfl (by kernel_rfl) (by kernel_rfl) (by kernel_rfl) (by kernel_rfl) (fun _ _ _ h => h) (Or.inl ⟨by rfl, fun w hSw => ?_⟩) (by assumption) ?_
      rotate_left
      · (have s1 := hSw; go_simp; try with_reducible rfl)
      try simp only [Act.put, List.setIfInBounds_toArray, List.set_cons_zero, List.set_cons_succ]
      refine Late.take (i := 10) (oi := ⟨some 81, Op.move (Operand.tmp 1), _, _, _, _⟩) (v := ?_) rfl (by kernel_rfl) (by kernel_rfl) (by kernel_rfl) (by kernel_rfl) (fun _ _ _ h => h) (Or.inl ⟨by rfl, fun w hSw => ?_⟩) (by assumption) ?_
      rotate_left
      · (have s1 := hSw; go_simp; try with_reducible rfl)
      try simp only [Act.put, List.setIfInBounds_toArray, List.set_cons_zero, List.set_cons_succ]
      refine Late.one (i := 11) (o := ⟨some 82, Op.call { callee := Callee.value (Operand.func 7), args := #[Operand.tmp 80, Operand.tmp 81], argTypes := #[27, 27] }, _, _, _, _⟩) (by kernel_rfl) rfl (fun K hK => ?_)
      go_simp
      refine (lsame_any d7 c1 true (I11.out.below hHeld) (ZB11.out.below hHeld) EZ.out).mono ?_
      rintro e wb ⟨rfl, rfl⟩
      refine hK.out _ _ (hHeld) (fun hHeld2 => ?_)
      clear hK K hHeld
      have hHeld := hHeld2
      clear hHeld2
      try simp only [Act.put, List.setIfInBounds_toArray, List.set_cons_zero, List.set_cons_succ]
      refine Late.take (i := 12) (oi := ⟨some 83, Op.pick (Operand.tmp 79) (Operand.tmp 82) (Operand.const (Value.bool false)), _, _, _, _⟩) (v := ?_) rfl (by kernel_rfl) (by kernel_rfl) (by kernel_rfl) (by kernel_rfl) (fun _ _ _ h => h) (Or.inl ⟨by rfl, fun w hSw => ?_⟩) (by assumption) ?_
      rotate_left
      · (have s1 := hSw; go_simp; try with_reducible rfl)
      try simp only [Act.put, List.setIfInBounds_toArray, List.set_cons_zero, List.set_cons_succ]
      refine Late.take (i := 13) (oi := ⟨some 84, Op.move (Operand.tmp 83), _, _, _, _⟩) (v := ?_) rfl (by kernel_rfl) (by kernel_rfl) (by kernel_rfl) (by kernel_rfl) (fun _ _ _ h => h) (Or.inl ⟨by rfl, fun w hSw => ?_⟩) (by assumption) ?_
      rotate_left
      · (have s1 := hSw; go_simp; try with_reducible rfl)
      try simp only [Act.put, List.setIfInBounds_toArray, List.set_cons_zero, List.set_cons_succ]
      refine Late.take (i := 14) (oi := ⟨some 85, Op.load 26 (Operand.tmp 5), _, _, _, _⟩) (v := _) rfl (by kernel_rfl) (by kernel_rfl) (by kernel_rfl) (by kernel_rfl) (fun _ _ _ h => h) (yieldsIf_load_mid (by rfl) _ _ rfl _ _ rfl (tv t) _ (fun _ h => (X11.out.grow h).range) Tryd.underlying26 rfl (tok_size X11.out.len)) (by assumption) ?_
      try simp only [Act.put, List.setIfInBounds_toArray, List.set_cons_zero, List.set_cons_succ]
      refine Late.take (i := 15) (oi := ⟨some 86, Op.load 26 (Operand.tmp 14), _, _, _, _⟩) (v := _) rfl (by kernel_rfl) (by kernel_rfl) (by kernel_rfl) (by kernel_rfl) (fun _ _ _ h => h) (yieldsIf_load_mid (by rfl) _ _ rfl _ _ rfl (tv t2) _ (fun _ h => (XA.out.grow h).range) Tryd.underlying26 rfl (tok_size XA.out.len)) (by assumption) ?_
      try simp only [Act.put, List.setIfInBounds_toArray, List.set_cons_zero, List.set_cons_succ]
      refine Late.take (i := 17) (oi := ⟨some 88, Op.load 26 (Operand.tmp 5), _, _, _, _⟩) (v := _) rfl (by kernel_rfl) (by kernel_rfl) (by kernel_rfl) (by kernel_rfl) (fun _ _ _ h => h) (yieldsIf_load_mid (by rfl) _ _ rfl _ _ rfl (tv t) _ (fun _ h => (X11.out.grow h).range) Tryd.underlying26 rfl (tok_size X11.out.len)) (by assumption) ?_
      try simp only [Act.put, List.setIfInBounds_toArray, List.set_cons_zero, List.set_cons_succ]
      refine Late.take (i := 18) (oi := ⟨some 89, Op.load 26 (Operand.tmp 16), _, _, _, _⟩) (v := _) rfl (by kernel_rfl) (by kernel_rfl) (by kernel_rfl) (by kernel_rfl) (fun _ _ _ h => h) (yieldsIf_load_mid (by rfl) _ _ rfl _ _ rfl (tv u4) _ (fun _ h => (XC.out.grow h).range) Tryd.underlying26 rfl (tok_size XC.out.len)) (by assumption) ?_
      try simp only [Act.put, List.setIfInBounds_toArray, List.set_cons_zero, List.set_cons_succ]
      refine Late.one (i := 16) (o := ⟨some 87, Op.call { callee := Callee.value (Operand.func 11), args := #[Operand.tmp 85, Operand.tmp 86], argTypes := #[26, 26] }, _, _, _, _⟩) (by kernel_rfl) rfl (fun K hK => ?_)
      go_simp
      refine (HT.out.psame q HA.out HQQ.out hHeld).mono ?_
      rintro e wc ⟨rfl, bwc⟩
      refine hK.out _ _ (hHeld.trans (bwc.mono hHeld.size)) (fun hHeld2 => ?_)
      clear hK K hHeld
      have hHeld := hHeld2
      clear hHeld2
      try simp only [Act.put, List.setIfInBounds_toArray, List.set_cons_zero, List.set_cons_succ]
      refine Late.one (i := 19) (o := ⟨some 90, Op.call { callee := Callee.value (Operand.func 10), args := #[Operand.tmp 88, Operand.tmp 89], argTypes := #[26, 26] }, _, _, _, _⟩) (by kernel_rfl) rfl (fun K hK => ?_)
      go_simp
      refine (HT.out.rsame q HC.out HQQ.out hHeld).mono ?_
      rintro e wd ⟨rfl, bwd⟩
      refine hK.out _ _ (hHeld.trans (bwd.mono hHeld.size)) (fun hHeld2 => ?_)
      clear hK K hHeld
      have hHeld := hHeld2
      clear hHeld2
      try simp only [Act.put, List.setIfInBounds_toArray, List.set_cons_zero, List.set_cons_succ]
      refine Late.take (i := 20) (oi := ⟨some 91, Op.binOp BinOp.eql 4 (Operand.tmp 87) (Operand.tmp 90) 4, _, _, _, _⟩) (v := ?_) rfl (by kernel_rfl) (by kernel_rfl) (by kernel_rfl) (by kernel_rfl) (fun _ _ _ h => h) (Or.inl ⟨by rfl, fun w hSw => ?_⟩) (by assumption) ?_
      rotate_left
      · (have s1 := hSw; go_simp; try with_reducible rfl)
      try simp only [Act.put, List.setIfInBounds_toArray, List.set_cons_zero, List.set_cons_succ]
      refine Late.take (i := 21) (oi := ⟨some 92, Op.pick (Operand.tmp 84) (Operand.tmp 91) (Operand.const (Value.bool false)), _, _, _, _⟩) (v := ?_) rfl (by kernel_rfl) (by kernel_rfl) (by kernel_rfl) (by kernel_rfl) (fun _ _ _ h => h) (Or.inl ⟨by rfl, fun w hSw => ?_⟩) (by assumption) ?_
      rotate_left
      · (have s1 := hSw; go_simp; try with_reducible rfl)
      try simp only [Act.put, List.setIfInBounds_toArray, List.set_cons_zero, List.set_cons_succ]
      refine Late.take (i := 22) (oi := ⟨some 93, Op.move (Operand.tmp 92), _, _, _, _⟩) (v := ?_) rfl (by kernel_rfl) (by kernel_rfl) (by kernel_rfl) (by kernel_rfl) (fun _ _ _ h => h) (Or.inl ⟨by rfl, fun w hSw => ?_⟩) (by assumption) ?_
      rotate_left
      · (have s1 := hSw; go_simp; try with_reducible rfl)
      try simp only [Act.put, List.setIfInBounds_toArray, List.set_cons_zero, List.set_cons_succ]
      refine Late.one (i := 23) (o := ⟨some 94, Op.call { callee := Callee.value (Operand.func 12), args := #[], argTypes := #[] }, _, _, _, _⟩) (by kernel_rfl) rfl (fun K hK => ?_)
      go_simp
      refine (tawake_any _ (F11.out.below hHeld F11.out.lt) (K11.out.below hHeld K11.out.lt)).mono ?_
      rintro e wf ⟨rfl, bwf⟩
      refine hK.out _ _ (hHeld.trans (bwf.mono hHeld.size)) (fun hHeld2 => ?_)
      clear hK K hHeld
      have hHeld := hHeld2
      clear hHeld2
      try simp only [Act.put, List.setIfInBounds_toArray, List.set_cons_zero, List.set_cons_succ]
      refine Late.take (i := 24) (oi := ⟨some 95, Op.pick (Operand.tmp 93) (Operand.tmp 94) (Operand.const (Value.bool false)), _, _, _, _⟩) (v := ?_) rfl (by kernel_rfl) (by kernel_rfl) (by kernel_rfl) (by kernel_rfl) (fun _ _ _ h => h) (Or.inl ⟨by rfl, fun w hSw => ?_⟩) (by assumption) ?_
      rotate_left
      · (have s1 := hSw; go_simp; try with_reducible rfl)
      try simp only [Act.put, List.setIfInBounds_toArray, List.set_cons_zero, List.set_cons_succ]
      refine Late.take (i := 25) (oi := ⟨some 10, Op.assign (Operand.tmp 95), _, _, _, _⟩) (v := ?_) rfl (by kernel_rfl) (by kernel_rfl) (by kernel_rfl) (by kernel_rfl) (fun _ _ _ h => h) (Or.inl ⟨by rfl, fun w hSw => ?_⟩) (by assumption) ?_
      rotate_left
      · (have s1 := hSw; go_simp; try with_reducible rfl)
      try simp only [Act.put, List.setIfInBounds_toArray, List.set_cons_zero, List.set_cons_succ]
      refine Late.done (by kernel_rfl) ?_ _
      refine NoPanic.normal ?_
      have B12 := Lib.hid hHeld
      clear hHeld
      go_wp2
      go_ret
      exact ⟨rfl, HB11.out.trans (B12.out.mono HB11.out.size)⟩
    · have ml : (0 : Int) < (m : Int) := by omega
      obtain ⟨k, hkm, ek⟩ := idx_any x m (by omega) (by omega)
      have O5 := Lib.hid (own_nil8 w5 w5.heap.size (Nat.le_refl _))
      have BA : Hid (Below w5.heap.size w5 (w5.alloc (.cells #[] 5))) := Lib.hid ((Below.refl _ _).alloc (Nat.le_refl _) _)
      have HL := Lib.hid ((Z24.out.below (BA.out.mono hs24)).lies)
      go_upto_region 9 with (at_builtin; refine wpList_app _ rfl (.tmp 42) (.tmp 43) 27 rfl w5.heap.size 5 1 1 Tryd.underlying27 u8_info (by omega) _ 0 (vals []) rfl O5.out D2 m d2 (vals P) rfl HL.out.1 HL.out.2 (vals_one _) (by unfold maxLen; omega) (by omega) BA.out.size ?_; intro v6 w6 ho6 hg6; have BB := Lib.hid (BA.out.grown hg6 BA.out.size (fun k hk => (O5.out.lt k hk).1)); rw [Nat.zero_add] at ho6; have O6 := Lib.hid ho6; clear ho6 hg6)
      have o6 : w6.ownsRow w5.heap.size 5 1 v6 m (vals P) := O6.out
      obtain ⟨D6, d6, rfl, _, _⟩ := own_shape o6
      obtain ⟨g, u6, rfl, hg5, hg6, HU, hc, hf, HST⟩ := own8_at o6 hkm
      clear o6 O6
      have hkI : (k : Int) < (m : Int) := by omega
      have mne : ¬ ((m : Int) = 0) := by omega
      have hu : IntKind.u64.wrap (m : Int) = (m : Int) := by rw [IntKind.wrap_u64]; omega
      go_upto_region 10 with fail
      obtain ⟨w9', h9'⟩ : ∃ W, W = w6.setCell ⟨g, k, none⟩ (.int .u8 (bits .xor .u8 u6 y)) := ⟨_, rfl⟩
      simp only [← h9']
      have hu6 : 0 ≤ u6 ∧ u6 < 256 := by rw [← HU.out]; exact PB.out k (by rw [PL.out]; exact hkm)
      have hxr := xor_u8_range u6 y hu6.1 hu6.2 hy0 hy1
      have on : w9'.ownsRow w5.heap.size 5 1 (.slice (some ⟨g, 0, none⟩) m d6) m (vals (P.set k (bits .xor .u8 u6 y))) := by rw [h9']; exact HST.out _
      obtain ⟨Z, hZ⟩ : ∃ Z, P.set k (bits .xor .u8 u6 y) = Z := ⟨_, rfl⟩
      have zb : IsBytes Z := by rw [← hZ]; exact isBytes_set PB.out (by rw [PL.out]; exact hkm) hxr.1 hxr.2
      rw [hZ] at on
      have ZB : Hid (Bs w9' w9'.heap.size (some ⟨g, 0, none⟩) m Z) := Lib.hid (bs_of_own on zb)
      have B59 : Below w5.heap.size w5 w9' := by rw [h9']; exact BB.out.setCell hg5 _
      have XW := Lib.hid (X5.out.grow B59)
      have HBW := Lib.hid (HB5.out.trans (B59.mono HB5.out.size))
      clear on zb hZ hxr hu6 B59 h9' X5 HB5 ZA5 Z24 O2 BB HST hc hf HU O5 BA HL hu ek
      have OQ := Lib.hid (own_nil8 w9' w9'.heap.size (Nat.le_refl _))
      have BQ : Hid (Below w9'.heap.size w9' (w9'.alloc (.cells #[] 5))) := Lib.hid ((Below.refl _ _).alloc (Nat.le_refl _) _)
      have HLQ := Lib.hid ((ZB.out.below BQ.out).lies)
      go_upto_region 11 with (at_builtin; refine wpList_app _ rfl (.tmp 58) (.tmp 59) 27 rfl w9'.heap.size 5 1 1 Tryd.underlying27 u8_info (by omega) _ 0 (vals []) rfl OQ.out (some ⟨g, 0, none⟩) m d6 (vals Z) rfl HLQ.out.1 HLQ.out.2 (vals_one _) (by unfold maxLen; omega) (by omega) BQ.out.size ?_; intro v7 w7 ho7 hg7; have BX := Lib.hid (BQ.out.grown hg7 BQ.out.size (fun k hk => (OQ.out.lt k hk).1)); rw [Nat.zero_add] at ho7; have O7 := Lib.hid ho7; clear ho7 hg7)
      have o7 : w7.ownsRow w9'.heap.size 5 1 v7 m (vals Z) := O7.out
      obtain ⟨D7, d7, rfl, hnd7, hdm7⟩ := own_shape o7
      have I7 : Hid (Bs w7 w7.heap.size D7 m Z) := Lib.hid (bs_of_own o7 ZB.out.isBytes)
      obtain ⟨p', hp⟩ : ∃ y, (parseP Z).1 = y := ⟨_, rfl⟩
      obtain ⟨k', hk⟩ : ∃ y, (parseP Z).2 = y := ⟨_, rfl⟩
      have HPK : Hid (parseP Z = (p', k')) := Lib.hid (Prod.ext hp hk)
      have hkk : (k' == k') = true := beq_self_eq_true k'
      obtain ⟨q, hq⟩ : ∃ q, sameP (pt t l) p' = q := ⟨_, rfl⟩
      have HQQ := Lib.hid hq
      have hqq : (q == q) = true := beq_self_eq_true q
      have HSP : Hid (sameP p' p' = true) := Lib.hid (by simp [sameP, eqL, eqB])
      have EZ : Hid (eqB Z Z = true) := Lib.hid (by simp [eqB])
      have PS := Lib.hid (parse_any d7 I7.out (Nat.le_refl _) (by omega) hnd7)
      rw [HPK.out] at PS
      have ZB7 := Lib.hid ((ZB.out.below BX.out).more BX.out.size)
      have HB7 := Lib.hid (HBW.out.trans (BX.out.mono HBW.out.size))
      have X7 := Lib.hid (XW.out.grow BX.out)
      clear o7 O7 OQ BQ HLQ hp hk hq BX XW HBW ZB
      go_upto_region 12 with (first
        | (go_at_call 8; refine PS.out.mono ?_; rintro e w8 ⟨t2, l2, rfl, k2, p2, b2, n2⟩; have T2 := Lib.hid (box_thereN w8 k2.len 26 _ rfl); have F2 := T2)
        | (have g := F2; clear g; refine wpList_store_as (op := ⟨none, .store 26 (.tmp 14) (.tmp 64), _, _, _, _⟩) rfl 26 (.tmp 14) (.tmp 64) rfl (w8.heap.size) 0 (tv t2).toArray rfl rfl T2.out (tok_sizeA k2.len) (tok_one _) ?_; intro w9 hw9; clear F2))
      obtain ⟨t9, b9⟩ := held_new k2 p2 rfl hw9
      obtain ⟨vt, hvt⟩ : ∃ g, w8.heap.size = g := ⟨_, rfl⟩
      rw [hvt] at t9
      simp only [hvt]
      have B79 := Lib.hid (b2.trans (b9.mono b2.size))
      have H9 := Lib.hid t9
      have HB9 := Lib.hid (HB7.out.trans (B79.out.mono HB7.out.size))
      have X9 := Lib.hid (X7.out.grow B79.out)
      have ZB9 := Lib.hid ((ZB7.out.below B79.out).more B79.out.size)
      have I9 := Lib.hid ((I7.out.below B79.out).more B79.out.size)
      have RF := Lib.hid (refparse_any d6 ZB9.out (Nat.le_refl _) (by omega))
      rw [ref_parse ZB9.out.isBytes, HPK.out] at RF
      clear hw9 t9 b9 hvt k2 p2 b2 n2 T2 PS ZB7 I7 X7 B79 HB7
      go_upto_region 13 with (first
        | (go_at_call 9; refine RF.out.mono ?_; rintro e w10 ⟨u4, l4, rfl, k4, p4, b4, n4⟩; have T4 := Lib.hid (box_thereN w10 k4.len 26 _ rfl); have F4 := T4)
        | (have g := F4; clear g; refine wpList_store_as (op := ⟨none, .store 26 (.tmp 16) (.tmp 69), _, _, _, _⟩) rfl 26 (.tmp 16) (.tmp 69) rfl (w10.heap.size) 0 (tv u4).toArray rfl rfl T4.out (tok_sizeA k4.len) (tok_one _) ?_; intro w11 hw11; clear F4))
      obtain ⟨t11, b11⟩ := held_new k4 p4 rfl hw11
      obtain ⟨vu, hvu⟩ : ∃ g, w10.heap.size = g := ⟨_, rfl⟩
      rw [hvu] at t11
      simp only [hvu]
      have B9b := Lib.hid (b4.trans (b11.mono b4.size))
      have HC := Lib.hid t11
      have HA := Lib.hid (H9.out.grow B9b.out)
      have HB11 := Lib.hid (HB9.out.trans (B9b.out.mono HB9.out.size))
      have X11 := Lib.hid (X9.out.grow B9b.out)
      have ZB11 := Lib.hid ((ZB9.out.below B9b.out).more B9b.out.size)
      have I11 := Lib.hid ((I9.out.below B9b.out).more B9b.out.size)
      have HT : Hid (Held w11 w.heap.size t l (pt t l)) := Lib.hid ⟨X11.out, (HT0.out.below HB11.out).more HB11.out.size, rfl⟩
      have XA := Lib.hid HA.out.box
      have XC := Lib.hid HC.out.box
      have F11 := Lib.hid (HF.out.below HB11.out HF.out.lt)
      have K11 := Lib.hid (HK.out.below HB11.out HK.out.lt)
      clear hw11 t11 b11 hvu k4 p4 b4 n4 T4 RF ZB9 I9 X9 B9b HB9 H9
      refine Late.region (fun w' => Below w11.heap.size w11 w') [] (by kernel_rfl) (Below.refl _ _).drew (fun hHeld => ?_)
      refine Late.take (i := 0) (oi := ⟨some 71, Op.move (Operand.tmp 15), _, _, _, _⟩) (v := ?_) rfl (by kernel_rfl) (by kernel_rfl) (by kernel_rfl) (by kernel_rfl) (fun _ _ _ h => h) (Or.inl ⟨by rfl, fun w hSw => ?_⟩) (by assumption) ?_
      rotate_left
      · (have s1 := hSw; go_simp; try with_reducible rfl)
      try simp only [Act.put, List.setIfInBounds_toArray, List.set_cons_zero, List.set_cons_succ]
      refine Late.take (i := 1) (oi := ⟨some 72, Op.move (Operand.tmp 17), _, _, _, _⟩) (v := ?_) rfl (by kernel_rfl) (by kernel_rfl) (by kernel_rfl) (by kernel_rfl) (fun _ _ _ h => h) (Or.inl ⟨by rfl, fun w hSw => ?_⟩) (by assumption) ?_
      rotate_left
      · (have s1 := hSw; go_simp; try with_reducible rfl)
      try simp only [Act.put, List.setIfInBounds_toArray, List.set_cons_zero, List.set_cons_succ]
      refine Late.take (i := 2) (oi := ⟨some 73, Op.binOp BinOp.eql 3 (Operand.tmp 71) (Operand.tmp 72) 3, _, _, _, _⟩) (v := ?_) rfl (by kernel_rfl) (by kernel_rfl) (by kernel_rfl) (by kernel_rfl) (fun _ _ _ h => h) (Or.inl ⟨by rfl, fun w hSw => ?_⟩) (by assumption) ?_
      rotate_left
      · (have s1 := hSw; go_simp; try with_reducible rfl)
      try simp only [Act.put, List.setIfInBounds_toArray, List.set_cons_zero, List.set_cons_succ]
      refine Late.take (i := 3) (oi := ⟨some 74, Op.move (Operand.tmp 73), _, _, _, _⟩) (v := ?_) rfl (by kernel_rfl) (by kernel_rfl) (by kernel_rfl) (by kernel_rfl) (fun _ _ _ h => h) (Or.inl ⟨by rfl, fun w hSw => ?_⟩) (by assumption) ?_
      rotate_left
      · (have s1 := hSw; go_simp; try with_reducible rfl)
      try simp only [Act.put, List.setIfInBounds_toArray, List.set_cons_zero, List.set_cons_succ]
      refine Late.take (i := 4) (oi := ⟨some 75, Op.load 26 (Operand.tmp 14), _, _, _, _⟩) (v := _) rfl (by kernel_rfl) (by kernel_rfl) (by kernel_rfl) (by kernel_rfl) (fun _ _ _ h => h) (yieldsIf_load_mid (by rfl) _ _ rfl _ _ rfl (tv t2) _ (fun _ h => (XA.out.grow h).range) Tryd.underlying26 rfl (tok_size XA.out.len)) (by assumption) ?_
      try simp only [Act.put, List.setIfInBounds_toArray, List.set_cons_zero, List.set_cons_succ]
      refine Late.take (i := 5) (oi := ⟨some 76, Op.load 26 (Operand.tmp 16), _, _, _, _⟩) (v := _) rfl (by kernel_rfl) (by kernel_rfl) (by kernel_rfl) (by kernel_rfl) (fun _ _ _ h => h) (yieldsIf_load_mid (by rfl) _ _ rfl _ _ rfl (tv u4) _ (fun _ h => (XC.out.grow h).range) Tryd.underlying26 rfl (tok_size XC.out.len)) (by assumption) ?_
      try simp only [Act.put, List.setIfInBounds_toArray, List.set_cons_zero, List.set_cons_succ]
      refine Late.one (i := 6) (o := ⟨some 77, Op.call { callee := Callee.value (Operand.func 10), args := #[Operand.tmp 75, Operand.tmp 76], argTypes := #[26, 26] }, _, _, _, _⟩) (by kernel_rfl) rfl (fun K hK => ?_)
      go_simp
      refine (HA.out.rsame true HC.out HSP.out hHeld).mono ?_
      rintro e wa ⟨rfl, bwa⟩
      refine hK.out _ _ (hHeld.trans (bwa.mono hHeld.size)) (fun hHeld2 => ?_)
      clear hK K hHeld
      have hHeld := hHeld2
      clear hHeld2
      try simp only [Act.put, List.setIfInBounds_toArray, List.set_cons_zero, List.set_cons_succ]
      refine Late.take (i := 7) (oi := ⟨some 78, Op.pick (Operand.tmp 74) (Operand.tmp 77) (Operand.const (Value.bool false)), _, _, _, _⟩) (v := ?_) rfl (by kernel_rfl) (by kernel_rfl) (by kernel_rfl) (by kernel_rfl) (fun _ _ _ h => h) (Or.inl ⟨by rfl, fun w hSw => ?_⟩) (by assumption) ?_
      rotate_left
      · (have s1 := hSw; go_simp; try with_reducible rfl)
      try simp only [Act.put, List.setIfInBounds_toArray, List.set_cons_zero, List.set_cons_succ]
      refine Late.take (i := 8) (oi := ⟨some 79, Op.move (Operand.tmp 78), _, _, _, _⟩) (v := ?_) rfl (by kernel_rfl) (by kernel_rfl) (by kernel_rfl) (by kernel_rfl) (fun _ _ _ h => h) (Or.inl ⟨by rfl, fun w hSw => ?_⟩) (by assumption) ?_
      rotate_left
      · (have s1 := hSw; go_simp; try with_reducible rfl)
      try simp only [Act.put, List.setIfInBounds_toArray, List.set_cons_zero, List.set_cons_succ]
      refine Late.take (i := 9) (oi := ⟨some 80, Op.move (Operand.tmp 13), _, _, _, _⟩) (v := ?_) rfl (by kernel_rfl) (by kernel_rfl) (by kernel_rfl) (by kernel_rfl) (fun _ _ _ h => h) (Or.inl ⟨by rfl, fun w hSw => ?_⟩) (by assumption) ?_
      rotate_left
      · (have s1 := hSw; go_simp; try with_reducible rfl)
      try simp only [Act.put, List.setIfInBounds_toArray, List.set_cons_zero, List.set_cons_succ]
      refine Late.take (i := 10) (oi := ⟨some 81, Op.move (Operand.tmp 1), _, _, _, _⟩) (v := ?_) rfl (by kernel_rfl) (by kernel_rfl) (by kernel_rfl) (by kernel_rfl) (fun _ _ _ h => h) (Or.inl ⟨by rfl, fun w hSw => ?_⟩) (by assumption) ?_
      rotate_left
      · (have s1 := hSw; go_simp; try with_reducible rfl)
      try simp only [Act.put, List.setIfInBounds_toArray, List.set_cons_zero, List.set_cons_succ]
      refine Late.one (i := 11) (o := ⟨some 82, Op.call { callee := Callee.value (Operand.func 7), args := #[Operand.tmp 80, Operand.tmp 81], argTypes := #[27, 27] }, _, _, _, _⟩) (by kernel_rfl) rfl (fun K hK => ?_)
      go_simp
      refine (lsame_any d7 d6 true (I11.out.below hHeld) (ZB11.out.below hHeld) EZ.out).mono ?_
      rintro e wb ⟨rfl, rfl⟩
      refine hK.out _ _ (hHeld) (fun hHeld2 => ?_)
      clear hK K hHeld
      have hHeld := hHeld2
      clear hHeld2
      try simp only [Act.put, List.setIfInBounds_toArray, List.set_cons_zero, List.set_cons_succ]
      refine Late.take (i := 12) (oi := ⟨some 83, Op.pick (Operand.tmp 79) (Operand.tmp 82) (Operand.const (Value.bool false)), _, _, _, _⟩) (v := ?_) rfl (by kernel_rfl) (by kernel_rfl) (by kernel_rfl) (by kernel_rfl) (fun _ _ _ h => h) (Or.inl ⟨by rfl, fun w hSw => ?_⟩) (by assumption) ?_
      rotate_left
      · (have s1 := hSw; go_simp; try with_reducible rfl)
      try simp only [Act.put, List.setIfInBounds_toArray, List.set_cons_zero, List.set_cons_succ]
      refine Late.take (i := 13) (oi := ⟨some 84, Op.move (Operand.tmp 83), _, _, _, _⟩) (v := ?_) rfl (by kernel_rfl) (by kernel_rfl) (by kernel_rfl) (by kernel_rfl) (fun _ _ _ h => h) (Or.inl ⟨by rfl, fun w hSw => ?_⟩) (by assumption) ?_
      rotate_left
      · (have s1 := hSw; go_simp; try with_reducible rfl)
      try simp only [Act.put, List.setIfInBounds_toArray, List.set_cons_zero, List.set_cons_succ]
      refine Late.take (i := 14) (oi := ⟨some 85, Op.load 26 (Operand.tmp 5), _, _, _, _⟩) (v := _) rfl (by kernel_rfl) (by kernel_rfl) (by kernel_rfl) (by kernel_rfl) (fun _ _ _ h => h) (yieldsIf_load_mid (by rfl) _ _ rfl _ _ rfl (tv t) _ (fun _ h => (X11.out.grow h).range) Tryd.underlying26 rfl (tok_size X11.out.len)) (by assumption) ?_
      try simp only [Act.put, List.setIfInBounds_toArray, List.set_cons_zero, List.set_cons_succ]
      refine Late.take (i := 15) (oi := ⟨some 86, Op.load 26 (Operand.tmp 14), _, _, _, _⟩) (v := _) rfl (by kernel_rfl) (by kernel_rfl) (by kernel_rfl) (by kernel_rfl) (fun _ _ _ h => h) (yieldsIf_load_mid (by rfl) _ _ rfl _ _ rfl (tv t2) _ (fun _ h => (XA.out.grow h).range) Tryd.underlying26 rfl (tok_size XA.out.len)) (by assumption) ?_
      try simp only [Act.put, List.setIfInBounds_toArray, List.set_cons_zero, List.set_cons_succ]
      refine Late.take (i := 17) (oi := ⟨some 88, Op.load 26 (Operand.tmp 5), _, _, _, _⟩) (v := _) rfl (by kernel_rfl) (by kernel_rfl) (by kernel_rfl) (by kernel_rfl) (fun _ _ _ h => h) (yieldsIf_load_mid (by rfl) _ _ rfl _ _ rfl (tv t) _ (fun _ h => (X11.out.grow h).range) Tryd.underlying26 rfl (tok_size X11.out.len)) (by assumption) ?_
      try simp only [Act.put, List.setIfInBounds_toArray, List.set_cons_zero, List.set_cons_succ]
      refine Late.take (i := 18) (oi := ⟨some 89, Op.load 26 (Operand.tmp 16), _, _, _, _⟩) (v := _) rfl (by kernel_rfl) (by kernel_rfl) (by kernel_rfl) (by kernel_rfl) (fun _ _ _ h => h) (yieldsIf_load_mid (by rfl) _ _ rfl _ _ rfl (tv u4) _ (fun _ h => (XC.out.grow h).range) Tryd.underlying26 rfl (tok_size XC.out.len)) (by assumption) ?_
      try simp only [Act.put, List.setIfInBounds_toArray, List.set_cons_zero, List.set_cons_succ]
      refine Late.one (i := 16) (o := ⟨some 87, Op.call { callee := Callee.value (Operand.func 11), args := #[Operand.tmp 85, Operand.tmp 86], argTypes := #[26, 26] }, _, _, _, _⟩) (by kernel_rfl) rfl (fun K hK => ?_)
      go_simp
      refine (HT.out.psame q HA.out HQQ.out hHeld).mono ?_
      rintro e wc ⟨rfl, bwc⟩
      refine hK.out _ _ (hHeld.trans (bwc.mono hHeld.size)) (fun hHeld2 => ?_)
      clear hK K hHeld
      have hHeld := hHeld2
      clear hHeld2
      try simp only [Act.put, List.setIfInBounds_toArray, List.set_cons_zero, List.set_cons_succ]
      refine Late.one (i := 19) (o := ⟨some 90, Op.call { callee := Callee.value (Operand.func 10), args := #[Operand.tmp 88, Operand.tmp 89], argTypes := #[26, 26] }, _, _, _, _⟩) (by kernel_rfl) rfl (fun K hK => ?_)
      go_simp
      refine (HT.out.rsame q HC.out HQQ.out hHeld).mono ?_
      rintro e wd ⟨rfl, bwd⟩
      refine hK.out _ _ (hHeld.trans (bwd.mono hHeld.size)) (fun hHeld2 => ?_)
      clear hK K hHeld
      have hHeld := hHeld2
      clear hHeld2
      try simp only [Act.put, List.setIfInBounds_toArray, List.set_cons_zero, List.set_cons_succ]
      refine Late.take (i := 20) (oi := ⟨some 91, Op.binOp BinOp.eql 4 (Operand.tmp 87) (Operand.tmp 90) 4, _, _, _, _⟩) (v := ?_) rfl (by kernel_rfl) (by kernel_rfl) (by kernel_rfl) (by kernel_rfl) (fun _ _ _ h => h) (Or.inl ⟨by rfl, fun w hSw => ?_⟩) (by assumption) ?_
      rotate_left
      · (have s1 := hSw; go_simp; try with_reducible rfl)
      try simp only [Act.put, List.setIfInBounds_toArray, List.set_cons_zero, List.set_cons_succ]
      refine Late.take (i := 21) (oi := ⟨some 92, Op.pick (Operand.tmp 84) (Operand.tmp 91) (Operand.const (Value.bool false)), _, _, _, _⟩) (v := ?_) rfl (by kernel_rfl) (by kernel_rfl) (by kernel_rfl) (by kernel_rfl) (fun _ _ _ h => h) (Or.inl ⟨by rfl, fun w hSw => ?_⟩) (by assumption) ?_
      rotate_left
      · (have s1 := hSw; go_simp; try with_reducible rfl)
      try simp only [Act.put, List.setIfInBounds_toArray, List.set_cons_zero, List.set_cons_succ]
      refine Late.take (i := 22) (oi := ⟨some 93, Op.move (Operand.tmp 92), _, _, _, _⟩) (v := ?_) rfl (by kernel_rfl) (by kernel_rfl) (by kernel_rfl) (by kernel_rfl) (fun _ _ _ h => h) (Or.inl ⟨by rfl, fun w hSw => ?_⟩) (by assumption) ?_
      rotate_left
      · (have s1 := hSw; go_simp; try with_reducible rfl)
      try simp only [Act.put, List.setIfInBounds_toArray, List.set_cons_zero, List.set_cons_succ]
      refine Late.one (i := 23) (o := ⟨some 94, Op.call { callee := Callee.value (Operand.func 12), args := #[], argTypes := #[] }, _, _, _, _⟩) (by kernel_rfl) rfl (fun K hK => ?_)
      go_simp
      refine (tawake_any _ (F11.out.below hHeld F11.out.lt) (K11.out.below hHeld K11.out.lt)).mono ?_
      rintro e wf ⟨rfl, bwf⟩
      refine hK.out _ _ (hHeld.trans (bwf.mono hHeld.size)) (fun hHeld2 => ?_)
      clear hK K hHeld
      have hHeld := hHeld2
      clear hHeld2
      try simp only [Act.put, List.setIfInBounds_toArray, List.set_cons_zero, List.set_cons_succ]
      refine Late.take (i := 24) (oi := ⟨some 95, Op.pick (Operand.tmp 93) (Operand.tmp 94) (Operand.const (Value.bool false)), _, _, _, _⟩) (v := ?_) rfl (by kernel_rfl) (by kernel_rfl) (by kernel_rfl) (by kernel_rfl) (fun _ _ _ h => h) (Or.inl ⟨by rfl, fun w hSw => ?_⟩) (by assumption) ?_
      rotate_left
      · (have s1 := hSw; go_simp; try with_reducible rfl)
      try simp only [Act.put, List.setIfInBounds_toArray, List.set_cons_zero, List.set_cons_succ]
      refine Late.take (i := 25) (oi := ⟨some 10, Op.assign (Operand.tmp 95), _, _, _, _⟩) (v := ?_) rfl (by kernel_rfl) (by kernel_rfl) (by kernel_rfl) (by kernel_rfl) (fun _ _ _ h => h) (Or.inl ⟨by rfl, fun w hSw => ?_⟩) (by assumption) ?_
      rotate_left
      · (have s1 := hSw; go_simp; try with_reducible rfl)
      try simp only [Act.put, List.setIfInBounds_toArray, List.set_cons_zero, List.set_cons_succ]
      refine Late.done (by kernel_rfl) ?_ _
      refine NoPanic.normal ?_
      have B12 := Lib.hid hHeld
      clear hHeld
      go_wp2
      go_ret
      exact ⟨rfl, HB11.out.trans (B12.out.mono HB11.out.size)⟩
end Go.Proofs.YtmeafjehcckibaaDoor
