/- The statement AuditGrows: the walk. -/
import Derived.Test.YtkaojhcmdichfaaDoorAuV
import Derived.Test.YtkaojhcmdichfaaDoorAuF
namespace Go.Proofs.YtkaojhcmdichfaaDoor
open Go.ChangeShapes Go.WideShapes Go.ChangeAt Go.RowKit
set_option linter.unusedVariables false
set_option linter.unusedSimpArgs false
open Plain Sha Au
/-- What stands at a place of a chain. -/
theorem chain_link (l : List AZ) (k : Nat) (x : AZ) (h : l[k]? = some x) : ∃ Y, (chainZ l)[k]? = some Y ∧ Y.n = (k : Int) + 1 ∧ Y.st = x.st ∧ Y.op = x.op ∧ Y.tn = x.tn ∧ Y.a = x.a ∧ Y.b = x.b ∧ Y.c = x.c ∧ headZ ((chainZ l).take k) = Y.H ∧ Y.S = hashZ Y ∧ checkZ ((chainZ l).take k) = 0 := by
  have hk : k < l.length := (List.getElem?_eq_some_iff.1 h).1
  refine ⟨_, chain_at l k x h, ?_, rfl, rfl, rfl, rfl, rfl, rfl, ?_, rfl, ?_⟩
  · show ((chainZ (l.take k)).length : Int) + 1 = _
    rw [chain_len, List.length_take, Nat.min_eq_left (by omega)]
  · rw [chain_front l k (by omega)]; rfl
  · rw [chain_front l k (by omega)]; exact chain_check _
set_option maxRecDepth 100000 in
set_option maxHeartbeats 8000000 in
theorem augrows_any (A : Option Addr) (n c : Nat) (l : List AZ) (w : World) (h : Ats w w.heap.size A n l) (hnc : n ≤ c) (hcm : c ≤ maxLen) (hF : LaidF w) (hK : LaidK w) :
    Calls Tryd.prog 5 #[.slice A n c] w (fun e w' => e = .returned (.bool true) ∧ Below w.heap.size w w') := by
  have hnm : n ≤ maxLen := Nat.le_trans hnc hcm
  have hn9 : n ≤ 9223372036854775807 := by unfold maxLen at hnm; exact hnm
  have HN := Lib.hid h.len
  have HOK := Lib.hid h.ok
  have H := Lib.hid h
  have HF := Lib.hid hF
  have HK := Lib.hid hK
  clear h hF hK
  go_enter Tryd.func5, Tryd.ntmps5
  by_cases hbig : 20 < n
  · have hb : (20 : Int) < n := by omega
    go_wp2_with (go_at_call 12; refine (auawake_any w HF.out HK.out).mono ?_; rintro e w1 ⟨rfl, hb1⟩)
    go_ret
    exact ⟨rfl, hb1⟩
  have hb : ¬ (20 : Int) < n := by omega
  have HCH := Lib.hid (chain_any c H.out (Nat.le_refl _) (by omega) HF.out HK.out)
  have HCL := Lib.hid (chain_len l)
  have G1 := HN
  go_upto_region 4 with (first
    | (have g := G1; clear g; go_at_call 16; refine HCH.out.mono ?_; rintro e v1 ⟨D, d, rfl, ho, hb1, hnd, hdm⟩; have B1 := Lib.hid hb1; have HO := Lib.hid ho; clear G1 hb1 ho))
  have hd9 : d ≤ 9223372036854775807 := by unfold maxLen at hdm; exact hdm
  have HCOK : Hid (∀ g, g ∈ chainZ l → LOk g) := Lib.hid (chain_ok l (by have := HN.out; omega) HOK.out)
  have HL1 := Lib.hid (lks_of_own HO.out HCOK.out)
  have HLL : Hid (∀ W, Below v1.heap.size v1 W → Lks W v1.heap.size D n (chainZ l)) := Lib.hid (fun W hW => HL1.out.below hW (Nat.le_refl _))
  have HA : Hid (∀ W, Below v1.heap.size v1 W → Ats W w.heap.size A n l) := Lib.hid (fun W hW => (H.out.below B1.out (Nat.le_refl _)).below hW B1.out.size)
  have HF1 := Lib.hid (HF.out.below B1.out HF.out.lt)
  have HK1 := Lib.hid (HK.out.below B1.out HK.out.lt)
  have HCC := Lib.hid (chain_check l)
  have P0 : Hid (Below v1.heap.size v1 v1) := Lib.hid (Below.refl _ _)
  have G1 := HN
  clear HO HL1 HCH H HF HK hbig
  go_wp2_with (first
      | (have g := G1; clear g; go_at_call 14; refine (check_val 0 (HLL.out v1 P0.out) HCC.out (Nat.le_refl _) (by omega) hnd hdm HF1.out HK1.out).mono ?_; rintro e v2 ⟨rfl, hb⟩; have P2 := Lib.hid (P0.out.trans (hb.mono P0.out.size)); clear hb G1))
  go_loopw [4] (fun i wr => ∃ k : Nat, k ≤ n ∧ i = .int .i64 k ∧ Hid (Below v1.heap.size v1 wr)) (fun i _ => n - (intOf i).toNat)
  case atStart => exact ⟨0, by omega, rfl, P2⟩
  case round =>
    obtain ⟨k, hk, rfl, HBW⟩ := hrel
    by_cases hlt : k < n
    · obtain ⟨b, off, x, hAA, hbb, HXX, _, c0, c1, c2, c3, c4, c5⟩ := (HA.out wr HBW.out).at_ hlt
      obtain ⟨Y, hY, y0, y1, y2, y3, y4, y5, y6, hHd, hS, hCk⟩ := chain_link l k x HXX.out
      have HYO := Lib.hid (HCOK.out Y (List.mem_of_getElem? hY))
      have HYL := Lib.hid hY
      have HZH := Lib.hid hHd
      have HZ0 := Lib.hid hCk
      have HYS := Lib.hid hS
      subst hAA
      have hbw : b < wr.heap.size := Nat.lt_of_lt_of_le hbb (Nat.le_trans B1.out.size HBW.out.size)
      have HC0 : Hid (∀ W, Below wr.heap.size wr W → W.cell? ⟨b, off + k * 6, none⟩ = some (.int .i64 x.st) ∧ W.cell? ⟨b, off + k * 6 + 1, none⟩ = some (.int .u8 x.op) ∧ W.cell? ⟨b, off + k * 6 + 2, none⟩ = some (.int .i64 x.tn) ∧ W.cell? ⟨b, off + k * 6 + 3, none⟩ = some (.int .i64 x.a) ∧ W.cell? ⟨b, off + k * 6 + 4, none⟩ = some (.int .i64 x.b) ∧ W.cell? ⟨b, off + k * 6 + 5, none⟩ = some (.int .i64 x.c)) := Lib.hid (fun W hW =>
        ⟨(hW.cell (p := ⟨b, off + k * 6, none⟩) hbw).trans c0, (hW.cell (p := ⟨b, off + k * 6 + 1, none⟩) hbw).trans c1, (hW.cell (p := ⟨b, off + k * 6 + 2, none⟩) hbw).trans c2, (hW.cell (p := ⟨b, off + k * 6 + 3, none⟩) hbw).trans c3, (hW.cell (p := ⟨b, off + k * 6 + 4, none⟩) hbw).trans c4, (hW.cell (p := ⟨b, off + k * 6 + 5, none⟩) hbw).trans c5⟩)
      have hlI : (k : Int) < n := by omega
      have gk1 : IntKind.i64.wrap ((k : Int) + 1) = (k : Int) + 1 := by rw [IntKind.wrap_i64]; omega
      have zk := zLk
      have zs := zLc_size
      have zn := zLc_ne
      have HYC : Hid (∀ (W : World) (bb : Nat), W.rangeAt bb 0 (lc Y) → W.cell? ⟨bb, 0, none⟩ = some (.int .i64 ((k : Int) + 1)) ∧ W.cell? ⟨bb, 1, none⟩ = some (.int .i64 x.st) ∧ W.cell? ⟨bb, 2, none⟩ = some (.int .u8 x.op) ∧ W.cell? ⟨bb, 3, none⟩ = some (.int .i64 x.tn) ∧ W.cell? ⟨bb, 4, none⟩ = some (.int .i64 x.a) ∧ W.cell? ⟨bb, 5, none⟩ = some (.int .i64 x.b) ∧ W.cell? ⟨bb, 6, none⟩ = some (.int .i64 x.c)) := Lib.hid (fun W bb hr => by
        have := range_nums hr
        rw [y0, y1, y2, y3, y4, y5, y6] at this
        simpa using this)
      have G1 := HN
      have G2 := HN
      clear c0 c1 c2 c3 c4 c5 hY y0 y1 y2 y3 y4 y5 y6 hHd hS hCk hbb
      go_upto_region 10 with (first
      | (have g := G1; clear g; go_at_call 13; refine (at_yes (k := k) d (HLL.out wr HBW.out) HBW.out.size hnm Y HYL.out).mono ?_; rintro e v4 ⟨rfl, hb4⟩; have P4 := Lib.hid hb4; have TH4 := Lib.hid (lthere_new v4 Y 26 _ rfl); clear hb4 G1)
      | (have g := G2; clear g; refine wpList_store_as (op := ⟨none, .store 26 (.tmp 5) (.tmp 34), _, _, _, _⟩) rfl 26 (.tmp 5) (.tmp 34) rfl (v4.heap.size) 0 (lc Y).toArray rfl rfl (TH4.out) (lk_sizeA Y) (lk_one Y) ?_; intro v5 hv5; clear G2))
      obtain ⟨y5, b5, _⟩ := lbox_stored rfl hv5
      have P5 := Lib.hid (P4.out.trans (b5.mono P4.out.size))
      have HX5 : Hid (∀ W, Below v5.heap.size v5 W → LBox W v4.heap.size Y) := Lib.hid (fun W hW => y5.grow hW)
      have HXC : Hid (∀ W, Below v5.heap.size v5 W → W.cell? ⟨v4.heap.size, 0, none⟩ = some (.int .i64 ((k : Int) + 1)) ∧ W.cell? ⟨v4.heap.size, 1, none⟩ = some (.int .i64 x.st) ∧ W.cell? ⟨v4.heap.size, 2, none⟩ = some (.int .u8 x.op) ∧ W.cell? ⟨v4.heap.size, 3, none⟩ = some (.int .i64 x.tn) ∧ W.cell? ⟨v4.heap.size, 4, none⟩ = some (.int .i64 x.a) ∧ W.cell? ⟨v4.heap.size, 5, none⟩ = some (.int .i64 x.b) ∧ W.cell? ⟨v4.heap.size, 6, none⟩ = some (.int .i64 x.c)) := Lib.hid (fun W hW => HYC.out W _ (HX5.out W hW).range)
      have HC : Hid (∀ W, Below v5.heap.size v5 W → W.cell? ⟨b, off + k * 6, none⟩ = some (.int .i64 x.st) ∧ W.cell? ⟨b, off + k * 6 + 1, none⟩ = some (.int .u8 x.op) ∧ W.cell? ⟨b, off + k * 6 + 2, none⟩ = some (.int .i64 x.tn) ∧ W.cell? ⟨b, off + k * 6 + 3, none⟩ = some (.int .i64 x.a) ∧ W.cell? ⟨b, off + k * 6 + 4, none⟩ = some (.int .i64 x.b) ∧ W.cell? ⟨b, off + k * 6 + 5, none⟩ = some (.int .i64 x.c)) := Lib.hid (fun W hW => HC0.out W (P5.out.trans (hW.mono P5.out.size)))
      have Q5 := Lib.hid (HBW.out.trans (P5.out.mono HBW.out.size))
      have hk0 : (0 : Int) ≤ (k : Int) := by omega
      clear hv5 y5 b5 zk zs zn HC0 HYC
      refine Late.region (fun w' => Below v5.heap.size v5 w') [] (by kernel_rfl) (Below.refl _ _).drew (fun hHeld => ?_)
      refine Late.take (i := 0) (oi := ⟨some 36, Op.move (Operand.tmp 6), _, _, _, _⟩) (v := ?_) rfl (by kernel_rfl) (by kernel_rfl) (by kernel_rfl) (by kernel_rfl) (fun _ _ _ h => h) (Or.inl ⟨by rfl, fun w hSw => ?_⟩) (by assumption) ?_
      rotate_left
      · (have s1 := hSw; go_simp; try with_reducible rfl)
      try simp only [Act.put, List.setIfInBounds_toArray, List.set_cons_zero, List.set_cons_succ]
      refine Late.take (i := 1) (oi := ⟨some 37, Op.binOp BinOp.neq 33 (Operand.tmp 36) (Operand.const (Value.int IntKind.i64 0)) 33, _, _, _, _⟩) (v := .bool false) rfl (by kernel_rfl) (by kernel_rfl) (by kernel_rfl) (by kernel_rfl) (fun _ _ _ h => h) (Or.inl ⟨by rfl, fun w hSw => ?_⟩) (by assumption) ?_
      · (go_simp; (try simp))
      try simp only [Act.put, List.setIfInBounds_toArray, List.set_cons_zero, List.set_cons_succ]
      refine Late.take (i := 2) (oi := ⟨some 38, Op.move (Operand.tmp 37), _, _, _, _⟩) (v := ?_) rfl (by kernel_rfl) (by kernel_rfl) (by kernel_rfl) (by kernel_rfl) (fun _ _ _ h => h) (Or.inl ⟨by rfl, fun w hSw => ?_⟩) (by assumption) ?_
      rotate_left
      · (have s1 := hSw; go_simp; try with_reducible rfl)
      try simp only [Act.put, List.setIfInBounds_toArray, List.set_cons_zero, List.set_cons_succ]
      refine Late.take (i := 3) (oi := ⟨some 39, Op.fieldAddr 26 (Operand.tmp 5) 0, _, _, _, _⟩) (v := ?_) rfl (by kernel_rfl) (by kernel_rfl) (by kernel_rfl) (by kernel_rfl) (fun _ _ _ h => h) (Or.inl ⟨by rfl, fun w hSw => ?_⟩) (by assumption) ?_
      rotate_left
      · (have s1 := hSw; go_simp; try with_reducible rfl)
      try simp only [Act.put, List.setIfInBounds_toArray, List.set_cons_zero, List.set_cons_succ]
      refine Late.take (i := 4) (oi := ⟨some 40, Op.load 3 (Operand.tmp 39), _, _, _, _⟩) (v := ?_) rfl (by kernel_rfl) (by kernel_rfl) (by kernel_rfl) (by kernel_rfl) (fun _ _ _ h => h) (Or.inl ⟨by rfl, fun w hSw => ?_⟩) (by assumption) ?_
      rotate_left
      · (have s1 := hSw; obtain ⟨p0, p1, p2, p3, p4, p5, p6⟩ := HXC.out _ hSw; obtain ⟨q0, q1, q2, q3, q4, q5⟩ := HC.out _ hSw; go_simp; try with_reducible rfl)
      try simp only [Act.put, List.setIfInBounds_toArray, List.set_cons_zero, List.set_cons_succ]
      refine Late.take (i := 5) (oi := ⟨some 41, Op.move (Operand.tmp 4), _, _, _, _⟩) (v := ?_) rfl (by kernel_rfl) (by kernel_rfl) (by kernel_rfl) (by kernel_rfl) (fun _ _ _ h => h) (Or.inl ⟨by rfl, fun w hSw => ?_⟩) (by assumption) ?_
      rotate_left
      · (have s1 := hSw; go_simp; try with_reducible rfl)
      try simp only [Act.put, List.setIfInBounds_toArray, List.set_cons_zero, List.set_cons_succ]
      refine Late.take (i := 6) (oi := ⟨some 42, Op.binOp BinOp.add 3 (Operand.tmp 41) (Operand.const (Value.int IntKind.i64 1)) 3, _, _, _, _⟩) (v := ?_) rfl (by kernel_rfl) (by kernel_rfl) (by kernel_rfl) (by kernel_rfl) (fun _ _ _ h => h) (Or.inl ⟨by rfl, fun w hSw => ?_⟩) (by assumption) ?_
      rotate_left
      · (have s1 := hSw; go_simp; try with_reducible rfl)
      try simp only [Act.put, List.setIfInBounds_toArray, List.set_cons_zero, List.set_cons_succ]
      refine Late.take (i := 7) (oi := ⟨some 43, Op.binOp BinOp.neq 3 (Operand.tmp 40) (Operand.tmp 42) 3, _, _, _, _⟩) (v := .bool false) rfl (by kernel_rfl) (by kernel_rfl) (by kernel_rfl) (by kernel_rfl) (fun _ _ _ h => h) (Or.inl ⟨by rfl, fun w hSw => ?_⟩) (by assumption) ?_
      · (go_simp; (try simp))
      try simp only [Act.put, List.setIfInBounds_toArray, List.set_cons_zero, List.set_cons_succ]
      refine Late.take (i := 8) (oi := ⟨some 44, Op.pick (Operand.tmp 38) (Operand.const (Value.bool true)) (Operand.tmp 43), _, _, _, _⟩) (v := ?_) rfl (by kernel_rfl) (by kernel_rfl) (by kernel_rfl) (by kernel_rfl) (fun _ _ _ h => h) (Or.inl ⟨by rfl, fun w hSw => ?_⟩) (by assumption) ?_
      rotate_left
      · (have s1 := hSw; go_simp; try with_reducible rfl)
      try simp only [Act.put, List.setIfInBounds_toArray, List.set_cons_zero, List.set_cons_succ]
      refine Late.take (i := 9) (oi := ⟨some 45, Op.move (Operand.tmp 44), _, _, _, _⟩) (v := ?_) rfl (by kernel_rfl) (by kernel_rfl) (by kernel_rfl) (by kernel_rfl) (fun _ _ _ h => h) (Or.inl ⟨by rfl, fun w hSw => ?_⟩) (by assumption) ?_
      rotate_left
      · (have s1 := hSw; go_simp; try with_reducible rfl)
      try simp only [Act.put, List.setIfInBounds_toArray, List.set_cons_zero, List.set_cons_succ]
      refine Late.take (i := 10) (oi := ⟨some 46, Op.fieldAddr 26 (Operand.tmp 5) 1, _, _, _, _⟩) (v := ?_) rfl (by kernel_rfl) (by kernel_rfl) (by kernel_rfl) (by kernel_rfl) (fun _ _ _ h => h) (Or.inl ⟨by rfl, fun w hSw => ?_⟩) (by assumption) ?_
      rotate_left
      · (have s1 := hSw; go_simp; try with_reducible rfl)
      try simp only [Act.put, List.setIfInBounds_toArray, List.set_cons_zero, List.set_cons_succ]
      refine Late.take (i := 11) (oi := ⟨some 47, Op.load 3 (Operand.tmp 46), _, _, _, _⟩) (v := ?_) rfl (by kernel_rfl) (by kernel_rfl) (by kernel_rfl) (by kernel_rfl) (fun _ _ _ h => h) (Or.inl ⟨by rfl, fun w hSw => ?_⟩) (by assumption) ?_
      rotate_left
      · (have s1 := hSw; obtain ⟨p0, p1, p2, p3, p4, p5, p6⟩ := HXC.out _ hSw; obtain ⟨q0, q1, q2, q3, q4, q5⟩ := HC.out _ hSw; go_simp; try with_reducible rfl)
      try simp only [Act.put, List.setIfInBounds_toArray, List.set_cons_zero, List.set_cons_succ]
      refine Late.take (i := 12) (oi := ⟨some 48, Op.move (Operand.tmp 0), _, _, _, _⟩) (v := ?_) rfl (by kernel_rfl) (by kernel_rfl) (by kernel_rfl) (by kernel_rfl) (fun _ _ _ h => h) (Or.inl ⟨by rfl, fun w hSw => ?_⟩) (by assumption) ?_
      rotate_left
      · (have s1 := hSw; go_simp; try with_reducible rfl)
      try simp only [Act.put, List.setIfInBounds_toArray, List.set_cons_zero, List.set_cons_succ]
      refine Late.take (i := 13) (oi := ⟨some 49, Op.move (Operand.tmp 4), _, _, _, _⟩) (v := ?_) rfl (by kernel_rfl) (by kernel_rfl) (by kernel_rfl) (by kernel_rfl) (fun _ _ _ h => h) (Or.inl ⟨by rfl, fun w hSw => ?_⟩) (by assumption) ?_
      rotate_left
      · (have s1 := hSw; go_simp; try with_reducible rfl)
      try simp only [Act.put, List.setIfInBounds_toArray, List.set_cons_zero, List.set_cons_succ]
      refine Late.take (i := 14) (oi := ⟨some 50, Op.indexAddr 38 (Operand.tmp 48) (Operand.tmp 49), _, _, _, _⟩) (v := ?_) rfl (by kernel_rfl) (by kernel_rfl) (by kernel_rfl) (by kernel_rfl) (fun _ _ _ h => h) (Or.inl ⟨by rfl, fun w hSw => ?_⟩) (by assumption) ?_
      rotate_left
      · (have s1 := hSw; go_simp; try with_reducible rfl)
      try simp only [Act.put, List.setIfInBounds_toArray, List.set_cons_zero, List.set_cons_succ]
      refine Late.take (i := 15) (oi := ⟨some 51, Op.fieldAddr 41 (Operand.tmp 50) 0, _, _, _, _⟩) (v := ?_) rfl (by kernel_rfl) (by kernel_rfl) (by kernel_rfl) (by kernel_rfl) (fun _ _ _ h => h) (Or.inl ⟨by rfl, fun w hSw => ?_⟩) (by assumption) ?_
      rotate_left
      · (have s1 := hSw; go_simp; try with_reducible rfl)
      try simp only [Act.put, List.setIfInBounds_toArray, List.set_cons_zero, List.set_cons_succ]
      refine Late.take (i := 16) (oi := ⟨some 52, Op.load 3 (Operand.tmp 51), _, _, _, _⟩) (v := ?_) rfl (by kernel_rfl) (by kernel_rfl) (by kernel_rfl) (by kernel_rfl) (fun _ _ _ h => h) (Or.inl ⟨by rfl, fun w hSw => ?_⟩) (by assumption) ?_
      rotate_left
      · (have s1 := hSw; obtain ⟨p0, p1, p2, p3, p4, p5, p6⟩ := HXC.out _ hSw; obtain ⟨q0, q1, q2, q3, q4, q5⟩ := HC.out _ hSw; go_simp; try with_reducible rfl)
      try simp only [Act.put, List.setIfInBounds_toArray, List.set_cons_zero, List.set_cons_succ]
      refine Late.take (i := 17) (oi := ⟨some 53, Op.binOp BinOp.neq 3 (Operand.tmp 47) (Operand.tmp 52) 3, _, _, _, _⟩) (v := .bool false) rfl (by kernel_rfl) (by kernel_rfl) (by kernel_rfl) (by kernel_rfl) (fun _ _ _ h => h) (Or.inl ⟨by rfl, fun w hSw => ?_⟩) (by assumption) ?_
      · (go_simp; (try simp))
      try simp only [Act.put, List.setIfInBounds_toArray, List.set_cons_zero, List.set_cons_succ]
      refine Late.take (i := 18) (oi := ⟨some 54, Op.pick (Operand.tmp 45) (Operand.const (Value.bool true)) (Operand.tmp 53), _, _, _, _⟩) (v := ?_) rfl (by kernel_rfl) (by kernel_rfl) (by kernel_rfl) (by kernel_rfl) (fun _ _ _ h => h) (Or.inl ⟨by rfl, fun w hSw => ?_⟩) (by assumption) ?_
      rotate_left
      · (have s1 := hSw; go_simp; try with_reducible rfl)
      try simp only [Act.put, List.setIfInBounds_toArray, List.set_cons_zero, List.set_cons_succ]
      refine Late.take (i := 19) (oi := ⟨some 55, Op.move (Operand.tmp 54), _, _, _, _⟩) (v := ?_) rfl (by kernel_rfl) (by kernel_rfl) (by kernel_rfl) (by kernel_rfl) (fun _ _ _ h => h) (Or.inl ⟨by rfl, fun w hSw => ?_⟩) (by assumption) ?_
      rotate_left
      · (have s1 := hSw; go_simp; try with_reducible rfl)
      try simp only [Act.put, List.setIfInBounds_toArray, List.set_cons_zero, List.set_cons_succ]
      refine Late.take (i := 20) (oi := ⟨some 56, Op.fieldAddr 26 (Operand.tmp 5) 2, _, _, _, _⟩) (v := ?_) rfl (by kernel_rfl) (by kernel_rfl) (by kernel_rfl) (by kernel_rfl) (fun _ _ _ h => h) (Or.inl ⟨by rfl, fun w hSw => ?_⟩) (by assumption) ?_
      rotate_left
      · (have s1 := hSw; go_simp; try with_reducible rfl)
      try simp only [Act.put, List.setIfInBounds_toArray, List.set_cons_zero, List.set_cons_succ]
      refine Late.take (i := 21) (oi := ⟨some 57, Op.load 5 (Operand.tmp 56), _, _, _, _⟩) (v := ?_) rfl (by kernel_rfl) (by kernel_rfl) (by kernel_rfl) (by kernel_rfl) (fun _ _ _ h => h) (Or.inl ⟨by rfl, fun w hSw => ?_⟩) (by assumption) ?_
      rotate_left
      · (have s1 := hSw; obtain ⟨p0, p1, p2, p3, p4, p5, p6⟩ := HXC.out _ hSw; obtain ⟨q0, q1, q2, q3, q4, q5⟩ := HC.out _ hSw; go_simp; try with_reducible rfl)
      try simp only [Act.put, List.setIfInBounds_toArray, List.set_cons_zero, List.set_cons_succ]
      refine Late.take (i := 22) (oi := ⟨some 58, Op.move (Operand.tmp 0), _, _, _, _⟩) (v := ?_) rfl (by kernel_rfl) (by kernel_rfl) (by kernel_rfl) (by kernel_rfl) (fun _ _ _ h => h) (Or.inl ⟨by rfl, fun w hSw => ?_⟩) (by assumption) ?_
      rotate_left
      · (have s1 := hSw; go_simp; try with_reducible rfl)
      try simp only [Act.put, List.setIfInBounds_toArray, List.set_cons_zero, List.set_cons_succ]
      refine Late.take (i := 23) (oi := ⟨some 59, Op.move (Operand.tmp 4), _, _, _, _⟩) (v := ?_) rfl (by kernel_rfl) (by kernel_rfl) (by kernel_rfl) (by kernel_rfl) (fun _ _ _ h => h) (Or.inl ⟨by rfl, fun w hSw => ?_⟩) (by assumption) ?_
      rotate_left
      · (have s1 := hSw; go_simp; try with_reducible rfl)
      try simp only [Act.put, List.setIfInBounds_toArray, List.set_cons_zero, List.set_cons_succ]
      refine Late.take (i := 24) (oi := ⟨some 60, Op.indexAddr 38 (Operand.tmp 58) (Operand.tmp 59), _, _, _, _⟩) (v := ?_) rfl (by kernel_rfl) (by kernel_rfl) (by kernel_rfl) (by kernel_rfl) (fun _ _ _ h => h) (Or.inl ⟨by rfl, fun w hSw => ?_⟩) (by assumption) ?_
      rotate_left
      · (have s1 := hSw; go_simp; try with_reducible rfl)
      try simp only [Act.put, List.setIfInBounds_toArray, List.set_cons_zero, List.set_cons_succ]
      refine Late.take (i := 25) (oi := ⟨some 61, Op.fieldAddr 41 (Operand.tmp 60) 1, _, _, _, _⟩) (v := ?_) rfl (by kernel_rfl) (by kernel_rfl) (by kernel_rfl) (by kernel_rfl) (fun _ _ _ h => h) (Or.inl ⟨by rfl, fun w hSw => ?_⟩) (by assumption) ?_
      rotate_left
      · (have s1 := hSw; go_simp; try with_reducible rfl)
      try simp only [Act.put, List.setIfInBounds_toArray, List.set_cons_zero, List.set_cons_succ]
      refine Late.take (i := 26) (oi := ⟨some 62, Op.load 5 (Operand.tmp 61), _, _, _, _⟩) (v := ?_) rfl (by kernel_rfl) (by kernel_rfl) (by kernel_rfl) (by kernel_rfl) (fun _ _ _ h => h) (Or.inl ⟨by rfl, fun w hSw => ?_⟩) (by assumption) ?_
      rotate_left
      · (have s1 := hSw; obtain ⟨p0, p1, p2, p3, p4, p5, p6⟩ := HXC.out _ hSw; obtain ⟨q0, q1, q2, q3, q4, q5⟩ := HC.out _ hSw; go_simp; try with_reducible rfl)
      try simp only [Act.put, List.setIfInBounds_toArray, List.set_cons_zero, List.set_cons_succ]
      refine Late.take (i := 27) (oi := ⟨some 63, Op.binOp BinOp.neq 5 (Operand.tmp 57) (Operand.tmp 62) 5, _, _, _, _⟩) (v := .bool false) rfl (by kernel_rfl) (by kernel_rfl) (by kernel_rfl) (by kernel_rfl) (fun _ _ _ h => h) (Or.inl ⟨by rfl, fun w hSw => ?_⟩) (by assumption) ?_
      · (go_simp; (try simp))
      try simp only [Act.put, List.setIfInBounds_toArray, List.set_cons_zero, List.set_cons_succ]
      refine Late.take (i := 28) (oi := ⟨some 64, Op.pick (Operand.tmp 55) (Operand.const (Value.bool true)) (Operand.tmp 63), _, _, _, _⟩) (v := ?_) rfl (by kernel_rfl) (by kernel_rfl) (by kernel_rfl) (by kernel_rfl) (fun _ _ _ h => h) (Or.inl ⟨by rfl, fun w hSw => ?_⟩) (by assumption) ?_
      rotate_left
      · (have s1 := hSw; go_simp; try with_reducible rfl)
      try simp only [Act.put, List.setIfInBounds_toArray, List.set_cons_zero, List.set_cons_succ]
      refine Late.take (i := 29) (oi := ⟨some 65, Op.move (Operand.tmp 64), _, _, _, _⟩) (v := ?_) rfl (by kernel_rfl) (by kernel_rfl) (by kernel_rfl) (by kernel_rfl) (fun _ _ _ h => h) (Or.inl ⟨by rfl, fun w hSw => ?_⟩) (by assumption) ?_
      rotate_left
      · (have s1 := hSw; go_simp; try with_reducible rfl)
      try simp only [Act.put, List.setIfInBounds_toArray, List.set_cons_zero, List.set_cons_succ]
      refine Late.take (i := 30) (oi := ⟨some 66, Op.fieldAddr 26 (Operand.tmp 5) 3, _, _, _, _⟩) (v := ?_) rfl (by kernel_rfl) (by kernel_rfl) (by kernel_rfl) (by kernel_rfl) (fun _ _ _ h => h) (Or.inl ⟨by rfl, fun w hSw => ?_⟩) (by assumption) ?_
      rotate_left
      · (have s1 := hSw; go_simp; try with_reducible rfl)
      try simp only [Act.put, List.setIfInBounds_toArray, List.set_cons_zero, List.set_cons_succ]
      refine Late.take (i := 31) (oi := ⟨some 67, Op.load 3 (Operand.tmp 66), _, _, _, _⟩) (v := ?_) rfl (by kernel_rfl) (by kernel_rfl) (by kernel_rfl) (by kernel_rfl) (fun _ _ _ h => h) (Or.inl ⟨by rfl, fun w hSw => ?_⟩) (by assumption) ?_
      rotate_left
      · (have s1 := hSw; obtain ⟨p0, p1, p2, p3, p4, p5, p6⟩ := HXC.out _ hSw; obtain ⟨q0, q1, q2, q3, q4, q5⟩ := HC.out _ hSw; go_simp; try with_reducible rfl)
      try simp only [Act.put, List.setIfInBounds_toArray, List.set_cons_zero, List.set_cons_succ]
      refine Late.take (i := 32) (oi := ⟨some 68, Op.move (Operand.tmp 0), _, _, _, _⟩) (v := ?_) rfl (by kernel_rfl) (by kernel_rfl) (by kernel_rfl) (by kernel_rfl) (fun _ _ _ h => h) (Or.inl ⟨by rfl, fun w hSw => ?_⟩) (by assumption) ?_
      rotate_left
      · (have s1 := hSw; go_simp; try with_reducible rfl)
      try simp only [Act.put, List.setIfInBounds_toArray, List.set_cons_zero, List.set_cons_succ]
      refine Late.take (i := 33) (oi := ⟨some 69, Op.move (Operand.tmp 4), _, _, _, _⟩) (v := ?_) rfl (by kernel_rfl) (by kernel_rfl) (by kernel_rfl) (by kernel_rfl) (fun _ _ _ h => h) (Or.inl ⟨by rfl, fun w hSw => ?_⟩) (by assumption) ?_
      rotate_left
      · (have s1 := hSw; go_simp; try with_reducible rfl)
      try simp only [Act.put, List.setIfInBounds_toArray, List.set_cons_zero, List.set_cons_succ]
      refine Late.take (i := 34) (oi := ⟨some 70, Op.indexAddr 38 (Operand.tmp 68) (Operand.tmp 69), _, _, _, _⟩) (v := ?_) rfl (by kernel_rfl) (by kernel_rfl) (by kernel_rfl) (by kernel_rfl) (fun _ _ _ h => h) (Or.inl ⟨by rfl, fun w hSw => ?_⟩) (by assumption) ?_
      rotate_left
      · (have s1 := hSw; go_simp; try with_reducible rfl)
      try simp only [Act.put, List.setIfInBounds_toArray, List.set_cons_zero, List.set_cons_succ]
      refine Late.take (i := 35) (oi := ⟨some 71, Op.fieldAddr 41 (Operand.tmp 70) 2, _, _, _, _⟩) (v := ?_) rfl (by kernel_rfl) (by kernel_rfl) (by kernel_rfl) (by kernel_rfl) (fun _ _ _ h => h) (Or.inl ⟨by rfl, fun w hSw => ?_⟩) (by assumption) ?_
      rotate_left
      · (have s1 := hSw; go_simp; try with_reducible rfl)
      try simp only [Act.put, List.setIfInBounds_toArray, List.set_cons_zero, List.set_cons_succ]
      refine Late.take (i := 36) (oi := ⟨some 72, Op.load 3 (Operand.tmp 71), _, _, _, _⟩) (v := ?_) rfl (by kernel_rfl) (by kernel_rfl) (by kernel_rfl) (by kernel_rfl) (fun _ _ _ h => h) (Or.inl ⟨by rfl, fun w hSw => ?_⟩) (by assumption) ?_
      rotate_left
      · (have s1 := hSw; obtain ⟨p0, p1, p2, p3, p4, p5, p6⟩ := HXC.out _ hSw; obtain ⟨q0, q1, q2, q3, q4, q5⟩ := HC.out _ hSw; go_simp; try with_reducible rfl)
      try simp only [Act.put, List.setIfInBounds_toArray, List.set_cons_zero, List.set_cons_succ]
      refine Late.take (i := 37) (oi := ⟨some 73, Op.binOp BinOp.neq 3 (Operand.tmp 67) (Operand.tmp 72) 3, _, _, _, _⟩) (v := .bool false) rfl (by kernel_rfl) (by kernel_rfl) (by kernel_rfl) (by kernel_rfl) (fun _ _ _ h => h) (Or.inl ⟨by rfl, fun w hSw => ?_⟩) (by assumption) ?_
      · (go_simp; (try simp))
      try simp only [Act.put, List.setIfInBounds_toArray, List.set_cons_zero, List.set_cons_succ]
      refine Late.take (i := 38) (oi := ⟨some 74, Op.pick (Operand.tmp 65) (Operand.const (Value.bool true)) (Operand.tmp 73), _, _, _, _⟩) (v := ?_) rfl (by kernel_rfl) (by kernel_rfl) (by kernel_rfl) (by kernel_rfl) (fun _ _ _ h => h) (Or.inl ⟨by rfl, fun w hSw => ?_⟩) (by assumption) ?_
      rotate_left
      · (have s1 := hSw; go_simp; try with_reducible rfl)
      try simp only [Act.put, List.setIfInBounds_toArray, List.set_cons_zero, List.set_cons_succ]
      refine Late.take (i := 39) (oi := ⟨some 75, Op.move (Operand.tmp 74), _, _, _, _⟩) (v := ?_) rfl (by kernel_rfl) (by kernel_rfl) (by kernel_rfl) (by kernel_rfl) (fun _ _ _ h => h) (Or.inl ⟨by rfl, fun w hSw => ?_⟩) (by assumption) ?_
      rotate_left
      · (have s1 := hSw; go_simp; try with_reducible rfl)
      try simp only [Act.put, List.setIfInBounds_toArray, List.set_cons_zero, List.set_cons_succ]
      refine Late.take (i := 40) (oi := ⟨some 76, Op.fieldAddr 26 (Operand.tmp 5) 4, _, _, _, _⟩) (v := ?_) rfl (by kernel_rfl) (by kernel_rfl) (by kernel_rfl) (by kernel_rfl) (fun _ _ _ h => h) (Or.inl ⟨by rfl, fun w hSw => ?_⟩) (by assumption) ?_
      rotate_left
      · (have s1 := hSw; go_simp; try with_reducible rfl)
      try simp only [Act.put, List.setIfInBounds_toArray, List.set_cons_zero, List.set_cons_succ]
      refine Late.take (i := 41) (oi := ⟨some 77, Op.load 3 (Operand.tmp 76), _, _, _, _⟩) (v := ?_) rfl (by kernel_rfl) (by kernel_rfl) (by kernel_rfl) (by kernel_rfl) (fun _ _ _ h => h) (Or.inl ⟨by rfl, fun w hSw => ?_⟩) (by assumption) ?_
      rotate_left
      · (have s1 := hSw; obtain ⟨p0, p1, p2, p3, p4, p5, p6⟩ := HXC.out _ hSw; obtain ⟨q0, q1, q2, q3, q4, q5⟩ := HC.out _ hSw; go_simp; try with_reducible rfl)
      try simp only [Act.put, List.setIfInBounds_toArray, List.set_cons_zero, List.set_cons_succ]
      refine Late.take (i := 42) (oi := ⟨some 78, Op.move (Operand.tmp 0), _, _, _, _⟩) (v := ?_) rfl (by kernel_rfl) (by kernel_rfl) (by kernel_rfl) (by kernel_rfl) (fun _ _ _ h => h) (Or.inl ⟨by rfl, fun w hSw => ?_⟩) (by assumption) ?_
      rotate_left
      · (have s1 := hSw; go_simp; try with_reducible rfl)
      try simp only [Act.put, List.setIfInBounds_toArray, List.set_cons_zero, List.set_cons_succ]
      refine Late.take (i := 43) (oi := ⟨some 79, Op.move (Operand.tmp 4), _, _, _, _⟩) (v := ?_) rfl (by kernel_rfl) (by kernel_rfl) (by kernel_rfl) (by kernel_rfl) (fun _ _ _ h => h) (Or.inl ⟨by rfl, fun w hSw => ?_⟩) (by assumption) ?_
      rotate_left
      · (have s1 := hSw; go_simp; try with_reducible rfl)
      try simp only [Act.put, List.setIfInBounds_toArray, List.set_cons_zero, List.set_cons_succ]
      refine Late.take (i := 44) (oi := ⟨some 80, Op.indexAddr 38 (Operand.tmp 78) (Operand.tmp 79), _, _, _, _⟩) (v := ?_) rfl (by kernel_rfl) (by kernel_rfl) (by kernel_rfl) (by kernel_rfl) (fun _ _ _ h => h) (Or.inl ⟨by rfl, fun w hSw => ?_⟩) (by assumption) ?_
      rotate_left
      · (have s1 := hSw; go_simp; try with_reducible rfl)
      try simp only [Act.put, List.setIfInBounds_toArray, List.set_cons_zero, List.set_cons_succ]
      refine Late.take (i := 45) (oi := ⟨some 81, Op.fieldAddr 41 (Operand.tmp 80) 3, _, _, _, _⟩) (v := ?_) rfl (by kernel_rfl) (by kernel_rfl) (by kernel_rfl) (by kernel_rfl) (fun _ _ _ h => h) (Or.inl ⟨by rfl, fun w hSw => ?_⟩) (by assumption) ?_
      rotate_left
      · (have s1 := hSw; go_simp; try with_reducible rfl)
      try simp only [Act.put, List.setIfInBounds_toArray, List.set_cons_zero, List.set_cons_succ]
      refine Late.take (i := 46) (oi := ⟨some 82, Op.load 3 (Operand.tmp 81), _, _, _, _⟩) (v := ?_) rfl (by kernel_rfl) (by kernel_rfl) (by kernel_rfl) (by kernel_rfl) (fun _ _ _ h => h) (Or.inl ⟨by rfl, fun w hSw => ?_⟩) (by assumption) ?_
      rotate_left
      · (have s1 := hSw; obtain ⟨p0, p1, p2, p3, p4, p5, p6⟩ := HXC.out _ hSw; obtain ⟨q0, q1, q2, q3, q4, q5⟩ := HC.out _ hSw; go_simp; try with_reducible rfl)
      try simp only [Act.put, List.setIfInBounds_toArray, List.set_cons_zero, List.set_cons_succ]
      refine Late.take (i := 47) (oi := ⟨some 83, Op.binOp BinOp.neq 3 (Operand.tmp 77) (Operand.tmp 82) 3, _, _, _, _⟩) (v := .bool false) rfl (by kernel_rfl) (by kernel_rfl) (by kernel_rfl) (by kernel_rfl) (fun _ _ _ h => h) (Or.inl ⟨by rfl, fun w hSw => ?_⟩) (by assumption) ?_
      · (go_simp; (try simp))
      try simp only [Act.put, List.setIfInBounds_toArray, List.set_cons_zero, List.set_cons_succ]
      refine Late.take (i := 48) (oi := ⟨some 84, Op.pick (Operand.tmp 75) (Operand.const (Value.bool true)) (Operand.tmp 83), _, _, _, _⟩) (v := ?_) rfl (by kernel_rfl) (by kernel_rfl) (by kernel_rfl) (by kernel_rfl) (fun _ _ _ h => h) (Or.inl ⟨by rfl, fun w hSw => ?_⟩) (by assumption) ?_
      rotate_left
      · (have s1 := hSw; go_simp; try with_reducible rfl)
      try simp only [Act.put, List.setIfInBounds_toArray, List.set_cons_zero, List.set_cons_succ]
      refine Late.take (i := 49) (oi := ⟨some 85, Op.move (Operand.tmp 84), _, _, _, _⟩) (v := ?_) rfl (by kernel_rfl) (by kernel_rfl) (by kernel_rfl) (by kernel_rfl) (fun _ _ _ h => h) (Or.inl ⟨by rfl, fun w hSw => ?_⟩) (by assumption) ?_
      rotate_left
      · (have s1 := hSw; go_simp; try with_reducible rfl)
      try simp only [Act.put, List.setIfInBounds_toArray, List.set_cons_zero, List.set_cons_succ]
      refine Late.take (i := 50) (oi := ⟨some 86, Op.fieldAddr 26 (Operand.tmp 5) 5, _, _, _, _⟩) (v := ?_) rfl (by kernel_rfl) (by kernel_rfl) (by kernel_rfl) (by kernel_rfl) (fun _ _ _ h => h) (Or.inl ⟨by rfl, fun w hSw => ?_⟩) (by assumption) ?_
      rotate_left
      · (have s1 := hSw; go_simp; try with_reducible rfl)
      try simp only [Act.put, List.setIfInBounds_toArray, List.set_cons_zero, List.set_cons_succ]
      refine Late.take (i := 51) (oi := ⟨some 87, Op.load 3 (Operand.tmp 86), _, _, _, _⟩) (v := ?_) rfl (by kernel_rfl) (by kernel_rfl) (by kernel_rfl) (by kernel_rfl) (fun _ _ _ h => h) (Or.inl ⟨by rfl, fun w hSw => ?_⟩) (by assumption) ?_
      rotate_left
      · (have s1 := hSw; obtain ⟨p0, p1, p2, p3, p4, p5, p6⟩ := HXC.out _ hSw; obtain ⟨q0, q1, q2, q3, q4, q5⟩ := HC.out _ hSw; go_simp; try with_reducible rfl)
      try simp only [Act.put, List.setIfInBounds_toArray, List.set_cons_zero, List.set_cons_succ]
      refine Late.take (i := 52) (oi := ⟨some 88, Op.move (Operand.tmp 0), _, _, _, _⟩) (v := ?_) rfl (by kernel_rfl) (by kernel_rfl) (by kernel_rfl) (by kernel_rfl) (fun _ _ _ h => h) (Or.inl ⟨by rfl, fun w hSw => ?_⟩) (by assumption) ?_
      rotate_left
      · (have s1 := hSw; go_simp; try with_reducible rfl)
      try simp only [Act.put, List.setIfInBounds_toArray, List.set_cons_zero, List.set_cons_succ]
      refine Late.take (i := 53) (oi := ⟨some 89, Op.move (Operand.tmp 4), _, _, _, _⟩) (v := ?_) rfl (by kernel_rfl) (by kernel_rfl) (by kernel_rfl) (by kernel_rfl) (fun _ _ _ h => h) (Or.inl ⟨by rfl, fun w hSw => ?_⟩) (by assumption) ?_
      rotate_left
      · (have s1 := hSw; go_simp; try with_reducible rfl)
      try simp only [Act.put, List.setIfInBounds_toArray, List.set_cons_zero, List.set_cons_succ]
      refine Late.take (i := 54) (oi := ⟨some 90, Op.indexAddr 38 (Operand.tmp 88) (Operand.tmp 89), _, _, _, _⟩) (v := ?_) rfl (by kernel_rfl) (by kernel_rfl) (by kernel_rfl) (by kernel_rfl) (fun _ _ _ h => h) (Or.inl ⟨by rfl, fun w hSw => ?_⟩) (by assumption) ?_
      rotate_left
      · (have s1 := hSw; go_simp; try with_reducible rfl)
      try simp only [Act.put, List.setIfInBounds_toArray, List.set_cons_zero, List.set_cons_succ]
      refine Late.take (i := 55) (oi := ⟨some 91, Op.fieldAddr 41 (Operand.tmp 90) 4, _, _, _, _⟩) (v := ?_) rfl (by kernel_rfl) (by kernel_rfl) (by kernel_rfl) (by kernel_rfl) (fun _ _ _ h => h) (Or.inl ⟨by rfl, fun w hSw => ?_⟩) (by assumption) ?_
      rotate_left
      · (have s1 := hSw; go_simp; try with_reducible rfl)
      try simp only [Act.put, List.setIfInBounds_toArray, List.set_cons_zero, List.set_cons_succ]
      refine Late.take (i := 56) (oi := ⟨some 92, Op.load 3 (Operand.tmp 91), _, _, _, _⟩) (v := ?_) rfl (by kernel_rfl) (by kernel_rfl) (by kernel_rfl) (by kernel_rfl) (fun _ _ _ h => h) (Or.inl ⟨by rfl, fun w hSw => ?_⟩) (by assumption) ?_
      rotate_left
      · (have s1 := hSw; obtain ⟨p0, p1, p2, p3, p4, p5, p6⟩ := HXC.out _ hSw; obtain ⟨q0, q1, q2, q3, q4, q5⟩ := HC.out _ hSw; go_simp; try with_reducible rfl)
      try simp only [Act.put, List.setIfInBounds_toArray, List.set_cons_zero, List.set_cons_succ]
      refine Late.take (i := 57) (oi := ⟨some 93, Op.binOp BinOp.neq 3 (Operand.tmp 87) (Operand.tmp 92) 3, _, _, _, _⟩) (v := .bool false) rfl (by kernel_rfl) (by kernel_rfl) (by kernel_rfl) (by kernel_rfl) (fun _ _ _ h => h) (Or.inl ⟨by rfl, fun w hSw => ?_⟩) (by assumption) ?_
      · (go_simp; (try simp))
      try simp only [Act.put, List.setIfInBounds_toArray, List.set_cons_zero, List.set_cons_succ]
      refine Late.take (i := 58) (oi := ⟨some 94, Op.pick (Operand.tmp 85) (Operand.const (Value.bool true)) (Operand.tmp 93), _, _, _, _⟩) (v := ?_) rfl (by kernel_rfl) (by kernel_rfl) (by kernel_rfl) (by kernel_rfl) (fun _ _ _ h => h) (Or.inl ⟨by rfl, fun w hSw => ?_⟩) (by assumption) ?_
      rotate_left
      · (have s1 := hSw; go_simp; try with_reducible rfl)
      try simp only [Act.put, List.setIfInBounds_toArray, List.set_cons_zero, List.set_cons_succ]
      refine Late.take (i := 59) (oi := ⟨some 95, Op.move (Operand.tmp 94), _, _, _, _⟩) (v := ?_) rfl (by kernel_rfl) (by kernel_rfl) (by kernel_rfl) (by kernel_rfl) (fun _ _ _ h => h) (Or.inl ⟨by rfl, fun w hSw => ?_⟩) (by assumption) ?_
      rotate_left
      · (have s1 := hSw; go_simp; try with_reducible rfl)
      try simp only [Act.put, List.setIfInBounds_toArray, List.set_cons_zero, List.set_cons_succ]
      refine Late.take (i := 60) (oi := ⟨some 96, Op.fieldAddr 26 (Operand.tmp 5) 6, _, _, _, _⟩) (v := ?_) rfl (by kernel_rfl) (by kernel_rfl) (by kernel_rfl) (by kernel_rfl) (fun _ _ _ h => h) (Or.inl ⟨by rfl, fun w hSw => ?_⟩) (by assumption) ?_
      rotate_left
      · (have s1 := hSw; go_simp; try with_reducible rfl)
      try simp only [Act.put, List.setIfInBounds_toArray, List.set_cons_zero, List.set_cons_succ]
      refine Late.take (i := 61) (oi := ⟨some 97, Op.load 3 (Operand.tmp 96), _, _, _, _⟩) (v := ?_) rfl (by kernel_rfl) (by kernel_rfl) (by kernel_rfl) (by kernel_rfl) (fun _ _ _ h => h) (Or.inl ⟨by rfl, fun w hSw => ?_⟩) (by assumption) ?_
      rotate_left
      · (have s1 := hSw; obtain ⟨p0, p1, p2, p3, p4, p5, p6⟩ := HXC.out _ hSw; obtain ⟨q0, q1, q2, q3, q4, q5⟩ := HC.out _ hSw; go_simp; try with_reducible rfl)
      try simp only [Act.put, List.setIfInBounds_toArray, List.set_cons_zero, List.set_cons_succ]
      refine Late.take (i := 62) (oi := ⟨some 98, Op.move (Operand.tmp 0), _, _, _, _⟩) (v := ?_) rfl (by kernel_rfl) (by kernel_rfl) (by kernel_rfl) (by kernel_rfl) (fun _ _ _ h => h) (Or.inl ⟨by rfl, fun w hSw => ?_⟩) (by assumption) ?_
      rotate_left
      · (have s1 := hSw; go_simp; try with_reducible rfl)
      try simp only [Act.put, List.setIfInBounds_toArray, List.set_cons_zero, List.set_cons_succ]
      refine Late.take (i := 63) (oi := ⟨some 99, Op.move (Operand.tmp 4), _, _, _, _⟩) (v := ?_) rfl (by kernel_rfl) (by kernel_rfl) (by kernel_rfl) (by kernel_rfl) (fun _ _ _ h => h) (Or.inl ⟨by rfl, fun w hSw => ?_⟩) (by assumption) ?_
      rotate_left
      · (have s1 := hSw; go_simp; try with_reducible rfl)
      try simp only [Act.put, List.setIfInBounds_toArray, List.set_cons_zero, List.set_cons_succ]
      refine Late.take (i := 64) (oi := ⟨some 100, Op.indexAddr 38 (Operand.tmp 98) (Operand.tmp 99), _, _, _, _⟩) (v := ?_) rfl (by kernel_rfl) (by kernel_rfl) (by kernel_rfl) (by kernel_rfl) (fun _ _ _ h => h) (Or.inl ⟨by rfl, fun w hSw => ?_⟩) (by assumption) ?_
      rotate_left
      · (have s1 := hSw; go_simp; try with_reducible rfl)
      try simp only [Act.put, List.setIfInBounds_toArray, List.set_cons_zero, List.set_cons_succ]
      refine Late.take (i := 65) (oi := ⟨some 101, Op.fieldAddr 41 (Operand.tmp 100) 5, _, _, _, _⟩) (v := ?_) rfl (by kernel_rfl) (by kernel_rfl) (by kernel_rfl) (by kernel_rfl) (fun _ _ _ h => h) (Or.inl ⟨by rfl, fun w hSw => ?_⟩) (by assumption) ?_
      rotate_left
      · (have s1 := hSw; go_simp; try with_reducible rfl)
      try simp only [Act.put, List.setIfInBounds_toArray, List.set_cons_zero, List.set_cons_succ]
      refine Late.take (i := 66) (oi := ⟨some 102, Op.load 3 (Operand.tmp 101), _, _, _, _⟩) (v := ?_) rfl (by kernel_rfl) (by kernel_rfl) (by kernel_rfl) (by kernel_rfl) (fun _ _ _ h => h) (Or.inl ⟨by rfl, fun w hSw => ?_⟩) (by assumption) ?_
      rotate_left
      · (have s1 := hSw; obtain ⟨p0, p1, p2, p3, p4, p5, p6⟩ := HXC.out _ hSw; obtain ⟨q0, q1, q2, q3, q4, q5⟩ := HC.out _ hSw; go_simp; try with_reducible rfl)
      try simp only [Act.put, List.setIfInBounds_toArray, List.set_cons_zero, List.set_cons_succ]
      refine Late.take (i := 67) (oi := ⟨some 103, Op.binOp BinOp.neq 3 (Operand.tmp 97) (Operand.tmp 102) 3, _, _, _, _⟩) (v := .bool false) rfl (by kernel_rfl) (by kernel_rfl) (by kernel_rfl) (by kernel_rfl) (fun _ _ _ h => h) (Or.inl ⟨by rfl, fun w hSw => ?_⟩) (by assumption) ?_
      · (go_simp; (try simp))
      try simp only [Act.put, List.setIfInBounds_toArray, List.set_cons_zero, List.set_cons_succ]
      refine Late.take (i := 68) (oi := ⟨some 104, Op.pick (Operand.tmp 95) (Operand.const (Value.bool true)) (Operand.tmp 103), _, _, _, _⟩) (v := ?_) rfl (by kernel_rfl) (by kernel_rfl) (by kernel_rfl) (by kernel_rfl) (fun _ _ _ h => h) (Or.inl ⟨by rfl, fun w hSw => ?_⟩) (by assumption) ?_
      rotate_left
      · (have s1 := hSw; go_simp; try with_reducible rfl)
      try simp only [Act.put, List.setIfInBounds_toArray, List.set_cons_zero, List.set_cons_succ]
      refine Late.done (by kernel_rfl) ?_ _
      refine NoPanic.normal ?_
      have HHH := Lib.hid hHeld
      clear hHeld
      go_upto_region 12 with fail
      have C0 := Lib.hid HHH.out.drew
      have HFR : Hid (∀ W, Below v5.heap.size v5 W → Lks W v5.heap.size D k ((chainZ l).take k)) := Lib.hid (fun W hW => ((HLL.out W (Q5.out.trans (hW.mono Q5.out.size))).front k (by omega)).more Q5.out.size)
      have HF5 := Lib.hid (HF1.out.below Q5.out HF1.out.lt)
      have HK5 := Lib.hid (HK1.out.below Q5.out HK1.out.lt)
      have k12 : (!eqB Y.H Y.H) = false := by rw [eqB_self]; rfl
      have k19 : (!eqB Y.S (hashZ Y)) = false := by rw [← HYS.out, eqB_self]; rfl
      have hkd : (k : Int) ≤ (d : Int) := by omega
      clear HXC HC
      refine Late.region (fun w' => Below v5.heap.size v5 w') [] (by kernel_rfl) C0.out (fun hHeld => ?_)
      refine Late.take (i := 0) (oi := ⟨some 105, Op.move (Operand.tmp 3), _, _, _, _⟩) (v := ?_) rfl (by kernel_rfl) (by kernel_rfl) (by kernel_rfl) (by kernel_rfl) (fun _ _ _ h => h) (Or.inl ⟨by rfl, fun w hSw => ?_⟩) (by assumption) ?_
      rotate_left
      · (have s1 := hSw; go_simp; try with_reducible rfl)
      try simp only [Act.put, List.setIfInBounds_toArray, List.set_cons_zero, List.set_cons_succ]
      refine Late.take (i := 1) (oi := ⟨some 106, Op.move (Operand.tmp 4), _, _, _, _⟩) (v := ?_) rfl (by kernel_rfl) (by kernel_rfl) (by kernel_rfl) (by kernel_rfl) (fun _ _ _ h => h) (Or.inl ⟨by rfl, fun w hSw => ?_⟩) (by assumption) ?_
      rotate_left
      · (have s1 := hSw; go_simp; try with_reducible rfl)
      try simp only [Act.put, List.setIfInBounds_toArray, List.set_cons_zero, List.set_cons_succ]
      refine Late.take (i := 2) (oi := ⟨some 107, Op.slice 22 (Operand.tmp 105) none (some (Operand.tmp 106)) none, _, _, _, _⟩) (v := ?_) rfl (by kernel_rfl) (by kernel_rfl) (by kernel_rfl) (by kernel_rfl) (fun _ _ _ h => h) (Or.inl ⟨by rfl, fun w hSw => ?_⟩) (by assumption) ?_
      rotate_left
      · (have s1 := hSw; go_simp; try with_reducible rfl)
      try simp only [Act.put, List.setIfInBounds_toArray, List.set_cons_zero, List.set_cons_succ]
      refine Late.one (i := 3) (o := ⟨some 108, Op.call { callee := Callee.value (Operand.func 14), args := #[Operand.tmp 107], argTypes := #[22] }, _, _, _, _⟩) (by kernel_rfl) rfl (fun K hK => ?_)
      go_simp
      refine (check_val 0 (HFR.out _ C0.out) HZ0.out C0.out.size (by omega) (by omega) hdm (HF5.out.below C0.out HF5.out.lt) (HK5.out.below C0.out HK5.out.lt)).mono ?_
      rintro e u1 ⟨rfl, hb⟩
      have C1 := Lib.hid (C0.out.trans (hb.mono C0.out.size))
      clear hb
      refine hK.out _ _ (C1.out) (fun hHeld2 => ?_)
      clear hK K hHeld
      have hHeld := hHeld2
      clear hHeld2
      try simp only [Act.put, List.setIfInBounds_toArray, List.set_cons_zero, List.set_cons_succ]
      refine Late.take (i := 4) (oi := ⟨some 109, Op.binOp BinOp.neq 3 (Operand.tmp 108) (Operand.const (Value.int IntKind.i64 0)) 3, _, _, _, _⟩) (v := .bool false) rfl (by kernel_rfl) (by kernel_rfl) (by kernel_rfl) (by kernel_rfl) (fun _ _ _ h => h) (Or.inl ⟨by rfl, fun w hSw => ?_⟩) (by assumption) ?_
      · (go_simp)
      try simp only [Act.put, List.setIfInBounds_toArray, List.set_cons_zero, List.set_cons_succ]
      refine Late.take (i := 5) (oi := ⟨some 110, Op.move (Operand.tmp 109), _, _, _, _⟩) (v := ?_) rfl (by kernel_rfl) (by kernel_rfl) (by kernel_rfl) (by kernel_rfl) (fun _ _ _ h => h) (Or.inl ⟨by rfl, fun w hSw => ?_⟩) (by assumption) ?_
      rotate_left
      · (have s1 := hSw; go_simp; try with_reducible rfl)
      try simp only [Act.put, List.setIfInBounds_toArray, List.set_cons_zero, List.set_cons_succ]
      refine Late.take (i := 6) (oi := ⟨some 111, Op.move (Operand.tmp 3), _, _, _, _⟩) (v := ?_) rfl (by kernel_rfl) (by kernel_rfl) (by kernel_rfl) (by kernel_rfl) (fun _ _ _ h => h) (Or.inl ⟨by rfl, fun w hSw => ?_⟩) (by assumption) ?_
      rotate_left
      · (have s1 := hSw; go_simp; try with_reducible rfl)
      try simp only [Act.put, List.setIfInBounds_toArray, List.set_cons_zero, List.set_cons_succ]
      refine Late.take (i := 7) (oi := ⟨some 112, Op.move (Operand.tmp 4), _, _, _, _⟩) (v := ?_) rfl (by kernel_rfl) (by kernel_rfl) (by kernel_rfl) (by kernel_rfl) (fun _ _ _ h => h) (Or.inl ⟨by rfl, fun w hSw => ?_⟩) (by assumption) ?_
      rotate_left
      · (have s1 := hSw; go_simp; try with_reducible rfl)
      try simp only [Act.put, List.setIfInBounds_toArray, List.set_cons_zero, List.set_cons_succ]
      refine Late.take (i := 8) (oi := ⟨some 113, Op.slice 22 (Operand.tmp 111) none (some (Operand.tmp 112)) none, _, _, _, _⟩) (v := ?_) rfl (by kernel_rfl) (by kernel_rfl) (by kernel_rfl) (by kernel_rfl) (fun _ _ _ h => h) (Or.inl ⟨by rfl, fun w hSw => ?_⟩) (by assumption) ?_
      rotate_left
      · (have s1 := hSw; go_simp; try with_reducible rfl)
      try simp only [Act.put, List.setIfInBounds_toArray, List.set_cons_zero, List.set_cons_succ]
      refine Late.take (i := 10) (oi := ⟨some 115, Op.fieldAddr 26 (Operand.tmp 5) 7, _, _, _, _⟩) (v := ?_) rfl (by kernel_rfl) (by kernel_rfl) (by kernel_rfl) (by kernel_rfl) (fun _ _ _ h => h) (Or.inl ⟨by rfl, fun w hSw => ?_⟩) (by assumption) ?_
      rotate_left
      · (have s1 := hSw; go_simp; try with_reducible rfl)
      try simp only [Act.put, List.setIfInBounds_toArray, List.set_cons_zero, List.set_cons_succ]
      refine Late.take (i := 11) (oi := ⟨some 116, Op.load 24 (Operand.tmp 115), _, _, _, _⟩) (v := _) rfl (by kernel_rfl) (by kernel_rfl) (by kernel_rfl) (by kernel_rfl) (fun _ _ _ h => h) (yieldsIf_load_mid (by rfl) _ _ rfl _ _ rfl (vals Y.H) _ (fun W hW => (HX5.out W hW).H) Tryd.underlying24 rfl (tag_size Y.H Y.hH)) (by assumption) ?_
      try simp only [Act.put, List.setIfInBounds_toArray, List.set_cons_zero, List.set_cons_succ]
      refine Late.one (i := 9) (o := ⟨some 114, Op.call { callee := Callee.value (Operand.func 11), args := #[Operand.tmp 113], argTypes := #[22] }, _, _, _, _⟩) (by kernel_rfl) rfl (fun K hK => ?_)
      go_simp
      refine (head_val d Y.H (HFR.out _ C1.out) HZH.out C1.out.size (by unfold maxLen; omega)).mono ?_
      rintro e u2 ⟨rfl, hb⟩
      have C2 := Lib.hid (C1.out.trans (hb.mono C1.out.size))
      clear hb
      refine hK.out _ _ (C2.out) (fun hHeld2 => ?_)
      clear hK K hHeld
      have hHeld := hHeld2
      clear hHeld2
      try simp only [Act.put, List.setIfInBounds_toArray, List.set_cons_zero, List.set_cons_succ]
      refine Late.take (i := 12) (oi := ⟨some 117, Op.binOp BinOp.neq 24 (Operand.tmp 114) (Operand.tmp 116) 24, _, _, _, _⟩) (v := .bool false) rfl (by kernel_rfl) (by kernel_rfl) (by kernel_rfl) (by kernel_rfl) (fun _ _ _ h => h) (Or.inl ⟨by rfl, fun w hSw => ?_⟩) (by assumption) ?_
      · (have hn := run_tagNe Y.H Y.H Y.hH Y.hH w; rw [show (!eqB Y.H Y.H) = false by assumption] at hn; simp [execOp, Act.eval, hn, run_eqGuard_agg (hm := Tryd.eqGuardType24)])
      try simp only [Act.put, List.setIfInBounds_toArray, List.set_cons_zero, List.set_cons_succ]
      refine Late.take (i := 13) (oi := ⟨some 118, Op.pick (Operand.tmp 110) (Operand.const (Value.bool true)) (Operand.tmp 117), _, _, _, _⟩) (v := ?_) rfl (by kernel_rfl) (by kernel_rfl) (by kernel_rfl) (by kernel_rfl) (fun _ _ _ h => h) (Or.inl ⟨by rfl, fun w hSw => ?_⟩) (by assumption) ?_
      rotate_left
      · (have s1 := hSw; go_simp; try with_reducible rfl)
      try simp only [Act.put, List.setIfInBounds_toArray, List.set_cons_zero, List.set_cons_succ]
      refine Late.take (i := 14) (oi := ⟨some 119, Op.move (Operand.tmp 118), _, _, _, _⟩) (v := ?_) rfl (by kernel_rfl) (by kernel_rfl) (by kernel_rfl) (by kernel_rfl) (fun _ _ _ h => h) (Or.inl ⟨by rfl, fun w hSw => ?_⟩) (by assumption) ?_
      rotate_left
      · (have s1 := hSw; go_simp; try with_reducible rfl)
      try simp only [Act.put, List.setIfInBounds_toArray, List.set_cons_zero, List.set_cons_succ]
      refine Late.take (i := 15) (oi := ⟨some 120, Op.fieldAddr 26 (Operand.tmp 5) 8, _, _, _, _⟩) (v := ?_) rfl (by kernel_rfl) (by kernel_rfl) (by kernel_rfl) (by kernel_rfl) (fun _ _ _ h => h) (Or.inl ⟨by rfl, fun w hSw => ?_⟩) (by assumption) ?_
      rotate_left
      · (have s1 := hSw; go_simp; try with_reducible rfl)
      try simp only [Act.put, List.setIfInBounds_toArray, List.set_cons_zero, List.set_cons_succ]
      refine Late.take (i := 16) (oi := ⟨some 121, Op.load 24 (Operand.tmp 120), _, _, _, _⟩) (v := _) rfl (by kernel_rfl) (by kernel_rfl) (by kernel_rfl) (by kernel_rfl) (fun _ _ _ h => h) (yieldsIf_load_mid (by rfl) _ _ rfl _ _ rfl (vals Y.S) _ (fun W hW => (HX5.out W hW).S) Tryd.underlying24 rfl (tag_size Y.S Y.hS)) (by assumption) ?_
      try simp only [Act.put, List.setIfInBounds_toArray, List.set_cons_zero, List.set_cons_succ]
      refine Late.take (i := 17) (oi := ⟨some 122, Op.load 26 (Operand.tmp 5), _, _, _, _⟩) (v := _) rfl (by kernel_rfl) (by kernel_rfl) (by kernel_rfl) (by kernel_rfl) (fun _ _ _ h => h) (yieldsIf_load_mid (by rfl) _ _ rfl _ _ rfl (lc Y) _ (fun W hW => (HX5.out W hW).range) Tryd.underlying26 rfl (lk_size Y)) (by assumption) ?_
      try simp only [Act.put, List.setIfInBounds_toArray, List.set_cons_zero, List.set_cons_succ]
      refine Late.one (i := 18) (o := ⟨some 123, Op.call { callee := Callee.value (Operand.func 9), args := #[Operand.tmp 122], argTypes := #[26] }, _, _, _, _⟩) (by kernel_rfl) rfl (fun K hK => ?_)
      go_simp
      refine (ahash_any HYO.out (HF5.out.below C2.out HF5.out.lt) (HK5.out.below C2.out HK5.out.lt)).mono ?_
      rintro e u3 ⟨rfl, hb⟩
      have C3 := Lib.hid (C2.out.trans (hb.mono C2.out.size))
      clear hb
      refine hK.out _ _ (C3.out) (fun hHeld2 => ?_)
      clear hK K hHeld
      have hHeld := hHeld2
      clear hHeld2
      try simp only [Act.put, List.setIfInBounds_toArray, List.set_cons_zero, List.set_cons_succ]
      refine Late.take (i := 19) (oi := ⟨some 124, Op.binOp BinOp.neq 24 (Operand.tmp 121) (Operand.tmp 123) 24, _, _, _, _⟩) (v := .bool false) rfl (by kernel_rfl) (by kernel_rfl) (by kernel_rfl) (by kernel_rfl) (fun _ _ _ h => h) (Or.inl ⟨by rfl, fun w hSw => ?_⟩) (by assumption) ?_
      · (have hn := run_tagNe Y.S (hashZ Y) Y.hS (hashZ_len Y) w; rw [show (!eqB Y.S (hashZ Y)) = false by assumption] at hn; simp [execOp, Act.eval, hn, run_eqGuard_agg (hm := Tryd.eqGuardType24)])
      try simp only [Act.put, List.setIfInBounds_toArray, List.set_cons_zero, List.set_cons_succ]
      refine Late.take (i := 20) (oi := ⟨some 125, Op.pick (Operand.tmp 119) (Operand.const (Value.bool true)) (Operand.tmp 124), _, _, _, _⟩) (v := ?_) rfl (by kernel_rfl) (by kernel_rfl) (by kernel_rfl) (by kernel_rfl) (fun _ _ _ h => h) (Or.inl ⟨by rfl, fun w hSw => ?_⟩) (by assumption) ?_
      rotate_left
      · (have s1 := hSw; go_simp; try with_reducible rfl)
      try simp only [Act.put, List.setIfInBounds_toArray, List.set_cons_zero, List.set_cons_succ]
      refine Late.done (by kernel_rfl) ?_ _
      refine NoPanic.normal ?_
      have HR := Lib.hid (Q5.out.trans (C3.out.mono Q5.out.size))
      clear hHeld C0 C1 C2 C3 k12 k19
      go_wp2
      go_roundw
      case rel => exact ⟨k + 1, by omega, by go_num, HR⟩
      case measure => simp [intOf]; omega
    · have hge : ¬ (k : Int) < (n : Int) := by omega
      go_wp2_with (go_at_call 12; refine (auawake_any wr (HF1.out.below HBW.out HF1.out.lt) (HK1.out.below HBW.out HK1.out.lt)).mono ?_; rintro e w1 ⟨rfl, hb1⟩)
      go_ret
      exact ⟨rfl, B1.out.trans ((HBW.out.trans (hb1.mono HBW.out.size)).mono B1.out.size)⟩
end Go.Proofs.YtkaojhcmdichfaaDoor
