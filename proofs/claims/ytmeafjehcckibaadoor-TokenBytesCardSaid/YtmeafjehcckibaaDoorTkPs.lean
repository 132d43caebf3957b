/- token.Parse. -/
import Derived.Test.YtmeafjehcckibaaDoorTkRd
namespace Go.Proofs.YtmeafjehcckibaaDoor
open Go.ChangeShapes Go.WideShapes Go.ChangeAt Go.RowKit
set_option linter.unusedVariables false
set_option linter.unusedSimpArgs false
open Plain Sha
/-- The token whose bytes these are. -/
def parseP (zs : List Int) : PTok × Int := if mayT (readP zs).tn (readP zs).l && eqB (printP (readP zs)) zs then (readP zs, 0) else (pt0, 90)
theorem lineN_at : ∀ (l : List GrantZ) (i : Nat) (g : GrantZ) (j : Nat), l[i]? = some g → j < 3 → (lineN l)[3 * i + j]? = (gN g)[j]?
  | [], i, g, j, h, _ => by simp at h
  | a :: l, 0, g, j, h, hj => by
    obtain rfl : a = g := by simpa using h
    show (gN a ++ lineN l)[3 * 0 + j]? = _
    rw [List.getElem?_append_left (by show 3 * 0 + j < 3; omega), Nat.mul_zero, Nat.zero_add]
  | a :: l, i + 1, g, j, h, hj => by
    show (gN a ++ lineN l)[3 * (i + 1) + j]? = _
    rw [List.getElem?_append_right (by show 3 ≤ 3 * (i + 1) + j; omega), show 3 * (i + 1) + j - (gN a).length = 3 * i + j by show 3 * (i + 1) + j - 3 = _; omega]
    exact lineN_at l i g j (by simpa using h) hj
theorem mayB_in {g : GrantZ} (h : mayB g = true) : g.r ≤ 15 ∧ 0 ≤ g.x ∧ g.x ≤ 1099511627776 ∧ 1 ≤ g.s ∧ g.s ≤ 1099511627776 := by
  simp [mayB] at h; omega
theorem may_all {tn : Int} {l : List GrantZ} (h : mayT tn l = true) : (0 ≤ tn ∧ tn ≤ 8) ∧ ∀ g, g ∈ l → mayB g = true := by
  simp only [mayT, lineB, Bool.and_eq_true, decide_eq_true_eq, List.all_eq_true] at h
  exact ⟨h.1, h.2.2⟩
/-- Numbers of a token's bytes. -/
theorem head_num {p : PTok} {i j : Nat} {g : GrantZ} {x : Int} (hg : p.l[i]? = some g) (hj : j < 3) (hx : (gN g)[j]? = some x) (hr : InR x) : numA (headZ p.tn p.l.length p.l ++ p.T) (16 + 24 * (i : Int) + 8 * (j : Int)) = x := by
  unfold headZ
  refine numA_nums (j := 2 + (3 * i + j)) p.T ?_ hr _ (by omega)
  rw [List.getElem?_append_right (by show 2 ≤ 2 + (3 * i + j); omega), show 2 + (3 * i + j) - ([p.tn, (p.l.length : Int)] : List Int).length = 3 * i + j by show 2 + (3 * i + j) - 2 = _; omega, lineN_at _ _ _ _ hg hj]
  exact hx
theorem read_print {p : PTok} (hm : mayT p.tn p.l = true) (hT : p.T.length = 32) (hr : ∀ g, g ∈ p.l → 0 ≤ g.r) : readP (printP p) = p := by
  have hl := may_len' hm
  have ha := may_all hm
  have e : printP p = headZ p.tn p.l.length p.l ++ p.T := by unfold printP; rw [hm]; rfl
  have htn : InR p.tn := by unfold InR; omega
  have n0 : numA (printP p) 0 = p.tn := by
    rw [e]; unfold headZ
    exact numA_nums (xs := [p.tn, (p.l.length : Int)] ++ lineN p.l) (j := 0) p.T rfl htn _ rfl
  have n1 : numA (printP p) 8 = (p.l.length : Int) := by
    rw [e]; unfold headZ
    exact numA_nums (xs := [p.tn, (p.l.length : Int)] ++ lineN p.l) (j := 1) (x := (p.l.length : Int)) p.T rfl (by unfold InR; omega) _ rfl
  have hc : cntA (printP p) = p.l.length := by unfold cntA; rw [n1]; omega
  have hline : ∀ k, k ≤ p.l.length → lineA (printP p) k = p.l.take k := by
    intro k
    induction k with
    | zero => intro _; simp [lineA]
    | succ k ih =>
      intro hk
      obtain ⟨g, hg⟩ : ∃ g, p.l[k]? = some g := ⟨_, List.getElem?_eq_getElem (by omega)⟩
      have hgm := mayB_in (ha.2 g (List.mem_of_getElem? hg))
      have hg0 := hr g (List.mem_of_getElem? hg)
      have g1 := head_num (p := p) (j := 0) hg (by omega) rfl (by unfold InR; omega)
      have g2 := head_num (p := p) (j := 1) hg (by omega) rfl (by unfold InR; omega)
      have g3 := head_num (p := p) (j := 2) hg (by omega) rfl (by unfold InR; omega)
      rw [← e] at g1 g2 g3
      have eg : grA (printP p) k = g := by
        unfold grA
        have a1 : numA (printP p) (16 + 24 * (k : Int)) = g.r := by rw [← g1]; congr 1
        have a2 : numA (printP p) (16 + 24 * (k : Int) + 8) = g.x := by rw [← g2]; congr 1
        have a3 : numA (printP p) (16 + 24 * (k : Int) + 16) = g.s := by rw [← g3]; congr 1
        rw [a1, a2, a3]
        have := IntKind.wrap_u8 g.r
        rw [show IntKind.u8.wrap g.r = g.r by rw [this]; omega]
      show lineA (printP p) k ++ [grA (printP p) k] = _
      rw [ih (by omega), eg, take_snocG _ _ _ hg]
  have hT2 : tagA (printP p) (16 + 24 * p.l.length) = p.T := by
    unfold tagA
    have : (printP p).drop (16 + 24 * p.l.length) = p.T := by
      rw [e, ← headZ_len p.tn p.l.length p.l, List.drop_left]
    rw [this, List.take_of_length_le (by omega), hT]
    simp
  unfold readP
  rw [hc, n0, hline _ (Nat.le_refl _), List.take_length, hT2]
/-- What was printed is read. -/
theorem parse_print {p : PTok} (hm : mayT p.tn p.l = true) (hT : p.T.length = 32) (hr : ∀ g, g ∈ p.l → 0 ≤ g.r) : parseP (printP p) = (p, 0) := by
  unfold parseP
  rw [read_print hm hT hr, hm, eqB_self]; rfl
theorem readP_len (zs : List Int) : (readP zs).T.length = 32 := tagA_len _ _
set_option maxRecDepth 100000 in
set_option maxHeartbeats 4000000 in
theorem parse_any {w : World} {B n : Nat} {A : Option Addr} (c : Nat) {zs : List Int} (h : Bs w B A n zs) (hB : B ≤ w.heap.size) (hn : n ≤ 100000) (hnc : n ≤ c) : Calls Tryd.prog 8 #[.slice A n c] w (Gives w (parseP zs)) := by
  have hnm : n ≤ maxLen := by unfold maxLen; omega
  obtain ⟨W1, hW1⟩ : ∃ W, W = w.alloc (.cells (tv tok0).toArray 26) := ⟨_, rfl⟩
  have b1 : Below w.heap.size w W1 := by rw [hW1]; exact (Below.refl _ _).alloc (Nat.le_refl _) _
  have s1 : w.heap.size < W1.heap.size := by rw [hW1]; simp
  have R1 : Hid (Box W1 w.heap.size tok0) := Lib.hid (by rw [hW1]; exact box_new w tok0 rep32 _ _ rfl)
  have RD := Lib.hid (read_any c (h.belowM b1 hB) (Nat.le_trans hB b1.size) hn hnc)
  have HZ := Lib.hid h
  have HB1 := Lib.hid b1
  have HW1 := Lib.hid hW1
  have HNM := Lib.hid hnm
  clear h hW1 b1 hnm
  go_enter Tryd.func8, Tryd.ntmps8
  go_upto_region 1 with fail
  simp only [zTok]
  rw [← HW1.out]
  go_upto_region 2 with (first
    | (go_at_call 19; refine RD.out.mono ?_; rintro e w2 ⟨t, l, rfl, k2, p2, b2, n2⟩; have T2 := Lib.hid (box_thereN w2 k2.len 26 _ rfl); have F2 := T2)
    | (have g := F2; clear g; refine wpList_store_as (op := ⟨none, .store 26 (.tmp 4) (.tmp 6), _, _, _, _⟩) rfl 26 (.tmp 4) (.tmp 6) rfl (w2.heap.size) 0 (tv t).toArray rfl rfl T2.out (tok_sizeA k2.len) (tok_one _) ?_; intro w3 hw3; clear F2))
  obtain ⟨x3, b3, s3⟩ := box_stored k2.len rfl hw3
  have K3 : Hid (Tok w3 w3.heap.size t l) := Lib.hid ((k2.below b3).more b3.size)
  have B13 : Below W1.heap.size W1 w3 := b2.trans (b3.mono b2.size)
  have R3 := Lib.hid (R1.out.below B13 s1)
  have B3 := Lib.hid (HB1.out.trans (B13.mono HB1.out.size))
  have N3 : Hid (∀ b off, t.A = some ⟨b, off, none⟩ → w.heap.size < b) := Lib.hid (fun b off hq => by have := n2 b off hq; omega)
  have S2 : Hid (w.heap.size < w2.heap.size) := Lib.hid (Nat.lt_of_lt_of_le s1 b2.size)
  obtain ⟨vb, hvb⟩ : ∃ g, w2.heap.size = g := ⟨_, rfl⟩
  rw [hvb] at x3 s3 S2
  simp only [hvb]
  have X3 := Lib.hid x3
  have HP2 := Lib.hid p2
  obtain ⟨q1, hq1⟩ : ∃ q, mayT t.tn l = q := ⟨_, rfl⟩
  obtain ⟨Z, hZ⟩ : ∃ Z, printP (pt t l) = Z := ⟨_, rfl⟩
  obtain ⟨q2, hq2⟩ : ∃ q, eqB Z zs = q := ⟨_, rfl⟩
  have HR : Hid (parseP zs = if q1 && q2 then (pt t l, 0) else (pt0, 90)) := Lib.hid (by
    unfold parseP
    rw [← p2]
    show (if mayT t.tn l && eqB (printP (pt t l)) zs then _ else _) = _
    rw [hq1, hZ, hq2])
  have TM := Lib.hid (tmay_val q1 K3.out (Nat.le_refl _) hq1)
  have HZ2 := Lib.hid hZ
  have HQ2 := Lib.hid hq2
  have ZL : Hid (Z.length ≤ 1000) := Lib.hid (by
    rw [← hZ, printP_len _ k2.len]
    show (if mayT t.tn l then 48 + 24 * l.length else 0) ≤ 1000
    split
    · next hm => have := may_len' hm; omega
    · omega)
  have ZB : Hid (IsBytes Z) := Lib.hid (by rw [← hZ]; exact printP_bytes _ k2.bytes)
  clear hw3 x3 b3 k2 n2 T2 hvb hq1 hq2 hZ b2 p2 B13 R1 RD
  have HX3 : Hid (∀ W, Below w3.heap.size w3 W → Box W vb t) := Lib.hid (fun W hW => X3.out.grow hW)
  have HR3 : Hid (∀ W, Below w3.heap.size w3 W → Box W w.heap.size tok0) := Lib.hid (fun W hW => R3.out.grow hW)
  have L7 := X3
  cases q1
  · have HE : Hid (parseP zs = (pt0, 90)) := Lib.hid (by rw [HR.out]; rfl)
    go_wp2_with (first
    | (have g := L7; clear g; refine wpList_load_mid (op := ⟨some 7, .load 26 (.tmp 4), _, _, _, _⟩) rfl 26 (.tmp 4) rfl (vb) 0 rfl (tv t) _ X3.out.range Tryd.underlying26 rfl (tok_size X3.out.len) ?_; clear L7)
    | (go_at_call 16; refine TM.out.mono ?_; rintro e w4 ⟨rfl, hb4⟩; have B4 := Lib.hid hb4; have TH := Lib.hid ((HR3.out _ hb4).thereA (u := tok0) rep32); have E15 := TH; have S15 := TH; clear hb4)
    | (have g := E15; clear g; refine wpList_exec (op := ⟨some 17, .build 26 #[], _, _, _, _⟩) rfl (.agg (tv tok0).toArray) (by kernel_rfl) ?_; clear E15)
    | (have g := S15; clear g; refine wpList_store_as (op := ⟨none, .store 26 (.tmp 2) (.tmp 17), _, _, _, _⟩) rfl 26 (.tmp 2) (.tmp 17) rfl (w.heap.size) 0 (tv tok0).toArray rfl rfl TH.out (tok_sizeA (t := tok0) rep32) (tok_one _) ?_; intro w6 hw6; clear S15))
    have R6 := (HR3.out _ B4.out).storeH (u := tok0) rep32 hw6
    have q6 := below_storeH (B3.out.trans (B4.out.mono B3.out.size)) (Nat.le_refl _) hw6
    exact bodyPost_ret (v := .tuple #[.agg (tv tok0).toArray, .int .i64 90]) (results_mid_tmp (p := 2) (u := 3) (ty := 26) rfl _ _ w.heap.size 0 (tv tok0) _ rfl R6.range Tryd.underlying26 rfl (tok_size (t := tok0) rep32)) rfl (by rw [HE.out]; exact gives_none q6)
  cases q2
  · have HE : Hid (parseP zs = (pt0, 90)) := Lib.hid (by rw [HR.out]; rfl)
    go_wp2_with (first
    | (have g := L7; clear g; refine wpList_load_mid (op := ⟨some 7, .load 26 (.tmp 4), _, _, _, _⟩) rfl 26 (.tmp 4) rfl (vb) 0 rfl (tv t) _ X3.out.range Tryd.underlying26 rfl (tok_size X3.out.len) ?_; clear L7)
    | (go_at_call 16; refine TM.out.mono ?_; rintro e w4 ⟨rfl, hb4⟩; have B4 := Lib.hid hb4; have X4 := Lib.hid (HX3.out _ hb4); have L11 := X4; clear hb4)
    | (have g := L11; clear g; refine wpList_load_guard (op := ⟨some 11, .load 26 (.tmp 4), _, _, _, some (3, false)⟩) (by rfl) 26 (.tmp 4) rfl (vb) 0 rfl (tv t) _ X4.out.range Tryd.underlying26 rfl (tok_size X4.out.len) ?_; clear L11)
    | (go_at_call 5; refine (print_made Z (K3.out.below B4.out) B4.out.size HZ2.out).mono ?_; intro e w5 hm5; obtain ⟨D5, d5, rfl, ho5, hb5, _, _⟩ := hm5.n rfl; have B5 := Lib.hid (B4.out.trans (hb5.mono B4.out.size)); have Z5 := Lib.hid (Made.bs ho5 ZB.out); clear hm5 ho5 hb5)
    | (go_at_call 20; refine (same_any d5 c Z5.out (HZ.out.belowM (B3.out.trans (B5.out.mono B3.out.size)) hB) (by have := ZL.out; unfold maxLen; omega) HNM.out).mono ?_; rw [HQ2.out]; rintro e w6 ⟨rfl, m6, rfl⟩; have B6 := Lib.hid (below_drewN B5.out m6); have TH := Lib.hid ((HR3.out _ B6.out).thereA (u := tok0) rep32); have E15 := TH; have S15 := TH)
    | (have g := E15; clear g; refine wpList_exec (op := ⟨some 17, .build 26 #[], _, _, _, _⟩) rfl (.agg (tv tok0).toArray) (by kernel_rfl) ?_; clear E15)
    | (have g := S15; clear g; refine wpList_store_as (op := ⟨none, .store 26 (.tmp 2) (.tmp 17), _, _, _, _⟩) rfl 26 (.tmp 2) (.tmp 17) rfl (w.heap.size) 0 (tv tok0).toArray rfl rfl TH.out (tok_sizeA (t := tok0) rep32) (tok_one _) ?_; intro w7 hw7; clear S15))
    have R6 := (HR3.out _ B6.out).storeH (u := tok0) rep32 hw7
    have q6 := below_storeH (B3.out.trans (B6.out.mono B3.out.size)) (Nat.le_refl _) hw7
    exact bodyPost_ret (v := .tuple #[.agg (tv tok0).toArray, .int .i64 90]) (results_mid_tmp (p := 2) (u := 3) (ty := 26) rfl _ _ w.heap.size 0 (tv tok0) _ rfl R6.range Tryd.underlying26 rfl (tok_size (t := tok0) rep32)) rfl (by rw [HE.out]; exact gives_none q6)
  · have HE : Hid (parseP zs = (pt t l, 0)) := Lib.hid (by rw [HR.out]; rfl)
    go_wp2_with (first
    | (have g := L7; clear g; refine wpList_load_mid (op := ⟨some 7, .load 26 (.tmp 4), _, _, _, _⟩) rfl 26 (.tmp 4) rfl (vb) 0 rfl (tv t) _ X3.out.range Tryd.underlying26 rfl (tok_size X3.out.len) ?_; clear L7)
    | (go_at_call 16; refine TM.out.mono ?_; rintro e w4 ⟨rfl, hb4⟩; have B4 := Lib.hid hb4; have X4 := Lib.hid (HX3.out _ hb4); have L11 := X4; clear hb4)
    | (have g := L11; clear g; refine wpList_load_guard (op := ⟨some 11, .load 26 (.tmp 4), _, _, _, some (3, false)⟩) (by rfl) 26 (.tmp 4) rfl (vb) 0 rfl (tv t) _ X4.out.range Tryd.underlying26 rfl (tok_size X4.out.len) ?_; clear L11)
    | (go_at_call 5; refine (print_made Z (K3.out.below B4.out) B4.out.size HZ2.out).mono ?_; intro e w5 hm5; obtain ⟨D5, d5, rfl, ho5, hb5, _, _⟩ := hm5.n rfl; have B5 := Lib.hid (B4.out.trans (hb5.mono B4.out.size)); have Z5 := Lib.hid (Made.bs ho5 ZB.out); clear hm5 ho5 hb5)
    | (go_at_call 20; refine (same_any d5 c Z5.out (HZ.out.belowM (B3.out.trans (B5.out.mono B3.out.size)) hB) (by have := ZL.out; unfold maxLen; omega) HNM.out).mono ?_; rw [HQ2.out]; rintro e w6 ⟨rfl, m6, rfl⟩; have B6 := Lib.hid (below_drewN B5.out m6); have X6 := Lib.hid (HX3.out _ B6.out); have TH := Lib.hid ((HR3.out _ B6.out).thereA X6.out.len); have L18 := X6; have S18 := TH)
    | (have g := L18; clear g; refine wpList_load_mid (op := ⟨some 18, .load 26 (.tmp 4), _, _, _, _⟩) rfl 26 (.tmp 4) rfl (vb) 0 rfl (tv t) _ X6.out.range Tryd.underlying26 rfl (tok_size X6.out.len) ?_; clear L18)
    | (have g := S18; clear g; refine wpList_store_as (op := ⟨none, .store 26 (.tmp 2) (.tmp 18), _, _, _, _⟩) rfl 26 (.tmp 2) (.tmp 18) rfl (w.heap.size) 0 (tv t).toArray rfl rfl TH.out (tok_sizeA X6.out.len) (tok_one _) ?_; intro w7 hw7; clear S18))
    have R6 := (HR3.out _ B6.out).storeH X6.out.len hw7
    have q6 := below_storeH (B3.out.trans (B6.out.mono B3.out.size)) (Nat.le_refl _) hw7
    have z6 := size_storeH hw7
    have k6 := K3.out.below B6.out
    have K7 : Tok w7 w7.heap.size t l := ⟨k6.len, k6.bytes, k6.tn, (k6.line.otherH (fun b off hq => by have := N3.out b off hq; omega) hw7).more (Nat.le_trans B6.out.size z6), k6.mc, k6.cm⟩
    exact bodyPost_ret (v := .tuple #[.agg (tv t).toArray, .int .i64 0]) (results_mid_tmp (p := 2) (u := 3) (ty := 26) rfl _ _ w.heap.size 0 (tv t) _ rfl R6.range Tryd.underlying26 rfl (tok_size X6.out.len)) rfl (by rw [HE.out]; exact ⟨t, l, rfl, K7, rfl, q6, fun b off hq => by have := N3.out b off hq; omega⟩)
end Go.Proofs.YtmeafjehcckibaaDoor
