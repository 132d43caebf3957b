/- The law TokenVerifies. -/
import Derived.Test.YtpamgeenknkjcaaDoorTkLw
import Derived.Test.YtpamgeenknkjcaaDoorTkV
import Derived.Test.YtpamgeenknkjcaaDoorTkW
import Derived.Test.YtpamgeenknkjcaaDoorTkEq
import Derived.Test.YtpamgeenknkjcaaDoorB6
import Derived.Test.YtpamgeenknkjcaaDoorTied
namespace Go.Proofs.YtpamgeenknkjcaaDoor
open Go.ChangeShapes Go.WideShapes Go.ChangeAt Go.RowKit
set_option linter.unusedVariables false
set_option linter.unusedSimpArgs false
open Plain Sha
theorem sameP_refl (p : PTok) : sameP p p = true := by simp [sameP, eqL, eqB]
theorem foldX_ge (l : List GrantZ) (h : l.all mayB = true) : ∀ a : Int, 0 ≤ a → 0 ≤ l.foldl (fun a g => min a g.x) a := by
  induction l with
  | nil => intro a h0; exact h0
  | cons g l ih =>
    intro a h0
    rw [List.all_cons, Bool.and_eq_true] at h
    have hg : 0 ≤ g.x := by have := h.1; unfold mayB at this; simp only [Bool.and_eq_true, decide_eq_true_eq] at this; omega
    rw [List.foldl_cons]
    exact ih h.2 _ (by omega)
theorem has_zero {r : Int} (h0 : 0 ≤ r) (h1 : r < 256) : hasB r 0 = true := by
  unfold hasB
  rw [bits_and h0 h1 (Int.le_refl 0) (by omega)]
  simp [andZ]
theorem verify_zero (ks : List Int) (p : PTok) : verifyP ks p (-1) 0 = checkP ks p := by
  unfold verifyP
  by_cases h : checkP ks p = 0
  · rw [if_pos h, h]
    have hm := check_may h
    have hl : p.l.all mayB = true := by simp only [mayT, lineB, Bool.and_eq_true] at hm; exact hm.2.2
    have hx : 0 ≤ lvX p.l := foldX_ge _ hl _ (by omega)
    rw [if_neg (by omega)]
    have hb := lvR_bound p.l
    rw [has_zero hb.1 (by omega)]
    rfl
  · rw [if_neg h]
set_option maxRecDepth 100000 in
set_option maxHeartbeats 8000000 in
theorem verifies_any (A1 : Option Addr) (n c1 : Nat) (ks : List Int) (t : TokZ) (l : List GrantZ) (right : Bool) (now need : Int) (w : World) (hk : Bs w w.heap.size A1 n ks) (hn : n ≤ maxLen) (h : Tok w w.heap.size t l) (hnow : -9223372036854775808 ≤ now ∧ now ≤ 9223372036854775807) (h0 : 0 ≤ need) (h1 : need < 256) (hF : LaidF w) (hK : LaidK w) :
    Calls Tryd.prog 5 #[.slice A1 n c1, .agg (tv t).toArray, .bool right, .int .i64 now, .int .u8 need] w (fun e w' => e = .returned (.bool true) ∧ Below w.heap.size w w') := by
  obtain ⟨W1, hW1⟩ : ∃ W, W = w.alloc (.cells (tv t).toArray 28) := ⟨_, rfl⟩
  have b1 : Below w.heap.size w W1 := by rw [hW1]; exact (Below.refl _ _).alloc (Nat.le_refl _) _
  have s1 : W1.heap.size = w.heap.size + 1 := by rw [hW1]; simp
  have HX1 : Hid (Box W1 w.heap.size t) := Lib.hid (by rw [hW1]; exact box_new w t h.len _ _ rfl)
  have HB1 := Lib.hid b1
  have HT1 : Hid (Tok W1 w.heap.size t l) := Lib.hid (h.below b1)
  have HKEY := Lib.hid (hk.below b1)
  have HF0 := Lib.hid hF
  have HK0 := Lib.hid hK
  have HF1 := Lib.hid (hF.below b1 hF.lt)
  have HK1 := Lib.hid (hK.below b1 hK.lt)
  have HW1 := Lib.hid hW1
  have HC1 := Lib.hid (HX1.out.c1)
  have HMX : t.m ≤ maxLen := Nat.le_trans h.mc h.cm
  have HNX := hn
  unfold maxLen at HMX HNX
  have S1 := Lib.hid s1
  clear hk h hW1 b1 hF hK hnow hn s1
  by_cases h200 : 200 < n
  · have nI : 200 < (n : Int) := by omega
    go_enter Tryd.func5, Tryd.ntmps5
    go_upto_region 1 with fail
    rw [← HW1.out]
    go_wp2
    go_ret
    exact ⟨rfl, HB1.out⟩
  have nI : ¬ (200 < (n : Int)) := by omega
  by_cases h10 : 10 < t.m
  · have mI : 10 < (t.m : Int) := by omega
    have cc := HC1.out
    go_enter Tryd.func5, Tryd.ntmps5
    go_upto_region 1 with fail
    rw [← HW1.out]
    go_wp2
    go_ret
    exact ⟨rfl, HB1.out⟩
  have mI : ¬ (10 < (t.m : Int)) := by omega
  have hm4 : t.m ≤ 4096 := by omega
  have hn4 : n ≤ 10000 := by omega
  have cc := HC1.out
  have HSZ := Lib.hid (HB1.out.size)
  cases right
  · go_enter Tryd.func5, Tryd.ntmps5
    go_upto_region 1 with fail
    rw [← HW1.out]
    go_upto_region 5 with fail
    obtain ⟨w5, h5⟩ : ∃ w5, W1 = w5 := ⟨_, rfl⟩
    have X5 : Hid (Box w5 w.heap.size t) := Lib.hid (by rw [← h5]; exact HX1.out)
    have K5 : Hid (Tok w5 w.heap.size t l) := Lib.hid (by rw [← h5]; exact HT1.out)
    have B5 : Hid (Below w.heap.size w w5) := Lib.hid (by rw [← h5]; exact HB1.out)
    have HB15 : Hid (Below w.heap.size W1 w5) := Lib.hid (by rw [← h5]; exact Below.refl _ _)
    simp only [h5]
    have hu4 := hm4
    clear h5
    have s5 : w.heap.size ≤ w5.heap.size := B5.out.size
    have HS5 := Lib.hid s5
    have HKEY5 := Lib.hid (HKEY.out.below HB15.out)
    have HF5 := Lib.hid (HF1.out.below HB15.out (HF0.out.lt))
    have HK5 := Lib.hid (HK1.out.below HB15.out (HK0.out.lt))
    obtain ⟨kc, hkc⟩ : ∃ k, checkP ks (pt t l) = k := ⟨_, rfl⟩
    obtain ⟨kv, hkv⟩ : ∃ k, verifyP ks (pt t l) now need = k := ⟨_, rfl⟩
    have HKC := Lib.hid hkc
    have HKV := Lib.hid hkv
    have RV0 := Lib.hid (refverify_any c1 (-1) 0 kc HKEY5.out K5.out HS5.out HS5.out hn4 (Int.le_refl 0) (by omega) (by rw [verify_zero]; exact hkc))
    have hne1 : (kc != kc) = false := bne_self_eq_false kc
    have hne2 : (kv != kv) = false := bne_self_eq_false kv
    clear hkc hkv
    have G3 := X5
    go_upto_region 6 with (first
      | (have g := G3; clear g; refine wpList_load_mid (op := ⟨some 28, .load 28 (.tmp 6), _, _, _, _⟩) rfl 28 (.tmp 6) rfl (w.heap.size) 0 rfl (tv t) _ X5.out.range Tryd.underlying28 rfl (tok_size X5.out.len) ?_; clear G3)
      | (go_at_call 22; refine RV0.out.mono ?_; rintro e w6 ⟨rfl, hb6⟩; have B6 := Lib.hid hb6; clear hb6))
    have X6 := Lib.hid (X5.out.grow B6.out)
    have s6 := B6.out.size
    have HS6 := Lib.hid (Nat.le_trans HS5.out s6)
    have K6 := Lib.hid (K5.out.belowM B6.out HS5.out)
    have CP := Lib.hid (copied_any K6.out HS6.out hu4)
    have G4 := X6
    go_upto_region 7 with (first
      | (have g := G4; clear g; refine wpList_load_mid (op := ⟨some 30, .load 28 (.tmp 6), _, _, _, _⟩) rfl 28 (.tmp 6) rfl (w.heap.size) 0 rfl (tv t) _ X6.out.range Tryd.underlying28 rfl (tok_size X6.out.len) ?_; clear G4)
      | (go_at_call 13; refine CP.out.mono ?_; rintro e w7 ⟨v, rfl, k7, p7, m7, b7⟩; have T7 := Lib.hid (box_thereN w7 k7.len 28 _ rfl); have F7 := T7)
      | (have g := F7; clear g; refine wpList_store_as (op := ⟨none, .store 28 (.tmp 12) (.tmp 31), _, _, _, _⟩) rfl 28 (.tmp 12) (.tmp 31) rfl (w7.heap.size) 0 (tv v).toArray rfl rfl T7.out (tok_sizeA k7.len) (tok_one _) ?_; intro w8 hw8; clear F7))
    obtain ⟨t8, b8⟩ := held_new k7 p7 rfl hw8
    obtain ⟨vb, hvb⟩ : ∃ g, w7.heap.size = g := ⟨_, rfl⟩
    rw [hvb] at t8
    simp only [hvb]
    have B68 := b7.trans (b8.mono b7.size)
    have X8 := Lib.hid (X6.out.grow B68)
    have HV8 := Lib.hid t8
    have BV8 := Lib.hid t8.box
    have b58 := B6.out.trans (B68.mono s6)
    have HS8 := Lib.hid (Nat.le_trans HS5.out b58.size)
    have K8 := Lib.hid (K5.out.below (b58.mono HS5.out))
    have KEY8 := Lib.hid (HKEY5.out.below (b58.mono HS5.out))
    have LF8 := Lib.hid (HF5.out.below b58 (Nat.lt_of_lt_of_le (HF0.out.lt) HS5.out))
    have LK8 := Lib.hid (HK5.out.below b58 (Nat.lt_of_lt_of_le (HK0.out.lt) HS5.out))
    have B8 := Lib.hid (B5.out.trans (b58.mono HS5.out))
    clear hw8 t8 b8 hvb k7 p7 b7 T7 CP B68 b58 RV0 X6 K6 B6 s6
    refine Late.region (fun w' => Below w8.heap.size w8 w') [] (by kernel_rfl) (Below.refl _ _).drew (fun hHeld => ?_)
    refine Late.take (i := 0) (oi := ⟨some 32, Op.move (Operand.tmp 0), _, _, _, _⟩) (v := ?_) rfl (by kernel_rfl) (by kernel_rfl) (by kernel_rfl) (by kernel_rfl) (fun _ _ _ h => h) (Or.inl ⟨by rfl, fun w hSw => ?_⟩) (by assumption) ?_
    rotate_left
    · (have s1 := hSw; go_simp; try with_reducible rfl)
    try simp only [Act.put, List.setIfInBounds_toArray, List.set_cons_zero, List.set_cons_succ]
    refine Late.take (i := 1) (oi := ⟨some 33, Op.load 28 (Operand.tmp 12), _, _, _, _⟩) (v := _) rfl (by kernel_rfl) (by kernel_rfl) (by kernel_rfl) (by kernel_rfl) (fun _ _ _ h => h) (yieldsIf_load_mid (by rfl) _ _ rfl _ _ rfl (tv v) _ (fun _ h => (BV8.out.grow h).range) Tryd.underlying28 rfl (tok_size BV8.out.len)) (by assumption) ?_
    try simp only [Act.put, List.setIfInBounds_toArray, List.set_cons_zero, List.set_cons_succ]
    refine Late.take (i := 3) (oi := ⟨some 35, Op.move (Operand.tmp 11), _, _, _, _⟩) (v := ?_) rfl (by kernel_rfl) (by kernel_rfl) (by kernel_rfl) (by kernel_rfl) (fun _ _ _ h => h) (Or.inl ⟨by rfl, fun w hSw => ?_⟩) (by assumption) ?_
    rotate_left
    · (have s1 := hSw; go_simp; try with_reducible rfl)
    try simp only [Act.put, List.setIfInBounds_toArray, List.set_cons_zero, List.set_cons_succ]
    refine Late.one (i := 2) (o := ⟨some 34, Op.call { callee := Callee.value (Operand.func 23), args := #[Operand.tmp 32, Operand.tmp 33], argTypes := #[22, 28] }, _, _, _, _⟩) (by kernel_rfl) rfl (fun K hK => ?_)
    go_simp
    refine (HV8.out.ccall c1 kc (KEY8.out.more HS8.out) hn4 LF8.out LK8.out HKC.out hHeld).mono ?_
    rintro e w9 ⟨rfl, b9⟩
    refine hK.out _ _ (hHeld.trans (b9.mono hHeld.size)) (fun hHeld2 => ?_)
    clear hK K hHeld
    have hHeld := hHeld2
    clear hHeld2
    try simp only [Act.put, List.setIfInBounds_toArray, List.set_cons_zero, List.set_cons_succ]
    refine Late.take (i := 4) (oi := ⟨some 36, Op.binOp BinOp.neq 3 (Operand.tmp 34) (Operand.tmp 35) 3, _, _, _, _⟩) (v := ?_) rfl (by kernel_rfl) (by kernel_rfl) (by kernel_rfl) (by kernel_rfl) (fun _ _ _ h => h) (Or.inl ⟨by rfl, fun w hSw => ?_⟩) (by assumption) ?_
    rotate_left
    · (have s1 := hSw; go_simp; try with_reducible rfl)
    try simp only [Act.put, List.setIfInBounds_toArray, List.set_cons_zero, List.set_cons_succ]
    refine Late.take (i := 5) (oi := ⟨some 37, Op.move (Operand.tmp 36), _, _, _, _⟩) (v := ?_) rfl (by kernel_rfl) (by kernel_rfl) (by kernel_rfl) (by kernel_rfl) (fun _ _ _ h => h) (Or.inl ⟨by rfl, fun w hSw => ?_⟩) (by assumption) ?_
    rotate_left
    · (have s1 := hSw; go_simp; try with_reducible rfl)
    try simp only [Act.put, List.setIfInBounds_toArray, List.set_cons_zero, List.set_cons_succ]
    refine Late.take (i := 6) (oi := ⟨some 38, Op.move (Operand.tmp 0), _, _, _, _⟩) (v := ?_) rfl (by kernel_rfl) (by kernel_rfl) (by kernel_rfl) (by kernel_rfl) (fun _ _ _ h => h) (Or.inl ⟨by rfl, fun w hSw => ?_⟩) (by assumption) ?_
    rotate_left
    · (have s1 := hSw; go_simp; try with_reducible rfl)
    try simp only [Act.put, List.setIfInBounds_toArray, List.set_cons_zero, List.set_cons_succ]
    refine Late.take (i := 7) (oi := ⟨some 39, Op.load 28 (Operand.tmp 12), _, _, _, _⟩) (v := _) rfl (by kernel_rfl) (by kernel_rfl) (by kernel_rfl) (by kernel_rfl) (fun _ _ _ h => h) (yieldsIf_load_mid (by rfl) _ _ rfl _ _ rfl (tv v) _ (fun _ h => (BV8.out.grow h).range) Tryd.underlying28 rfl (tok_size BV8.out.len)) (by assumption) ?_
    try simp only [Act.put, List.setIfInBounds_toArray, List.set_cons_zero, List.set_cons_succ]
    refine Late.take (i := 8) (oi := ⟨some 40, Op.move (Operand.tmp 3), _, _, _, _⟩) (v := ?_) rfl (by kernel_rfl) (by kernel_rfl) (by kernel_rfl) (by kernel_rfl) (fun _ _ _ h => h) (Or.inl ⟨by rfl, fun w hSw => ?_⟩) (by assumption) ?_
    rotate_left
    · (have s1 := hSw; go_simp; try with_reducible rfl)
    try simp only [Act.put, List.setIfInBounds_toArray, List.set_cons_zero, List.set_cons_succ]
    refine Late.take (i := 9) (oi := ⟨some 41, Op.move (Operand.tmp 4), _, _, _, _⟩) (v := ?_) rfl (by kernel_rfl) (by kernel_rfl) (by kernel_rfl) (by kernel_rfl) (fun _ _ _ h => h) (Or.inl ⟨by rfl, fun w hSw => ?_⟩) (by assumption) ?_
    rotate_left
    · (have s1 := hSw; go_simp; try with_reducible rfl)
    try simp only [Act.put, List.setIfInBounds_toArray, List.set_cons_zero, List.set_cons_succ]
    refine Late.take (i := 11) (oi := ⟨some 43, Op.move (Operand.tmp 0), _, _, _, _⟩) (v := ?_) rfl (by kernel_rfl) (by kernel_rfl) (by kernel_rfl) (by kernel_rfl) (fun _ _ _ h => h) (Or.inl ⟨by rfl, fun w hSw => ?_⟩) (by assumption) ?_
    rotate_left
    · (have s1 := hSw; go_simp; try with_reducible rfl)
    try simp only [Act.put, List.setIfInBounds_toArray, List.set_cons_zero, List.set_cons_succ]
    refine Late.take (i := 12) (oi := ⟨some 44, Op.load 28 (Operand.tmp 6), _, _, _, _⟩) (v := _) rfl (by kernel_rfl) (by kernel_rfl) (by kernel_rfl) (by kernel_rfl) (fun _ _ _ h => h) (yieldsIf_load_mid (by rfl) _ _ rfl _ _ rfl (tv t) _ (fun _ h => (X8.out.grow h).range) Tryd.underlying28 rfl (tok_size X8.out.len)) (by assumption) ?_
    try simp only [Act.put, List.setIfInBounds_toArray, List.set_cons_zero, List.set_cons_succ]
    refine Late.take (i := 13) (oi := ⟨some 45, Op.move (Operand.tmp 3), _, _, _, _⟩) (v := ?_) rfl (by kernel_rfl) (by kernel_rfl) (by kernel_rfl) (by kernel_rfl) (fun _ _ _ h => h) (Or.inl ⟨by rfl, fun w hSw => ?_⟩) (by assumption) ?_
    rotate_left
    · (have s1 := hSw; go_simp; try with_reducible rfl)
    try simp only [Act.put, List.setIfInBounds_toArray, List.set_cons_zero, List.set_cons_succ]
    refine Late.take (i := 14) (oi := ⟨some 46, Op.move (Operand.tmp 4), _, _, _, _⟩) (v := ?_) rfl (by kernel_rfl) (by kernel_rfl) (by kernel_rfl) (by kernel_rfl) (fun _ _ _ h => h) (Or.inl ⟨by rfl, fun w hSw => ?_⟩) (by assumption) ?_
    rotate_left
    · (have s1 := hSw; go_simp; try with_reducible rfl)
    try simp only [Act.put, List.setIfInBounds_toArray, List.set_cons_zero, List.set_cons_succ]
    refine Late.one (i := 10) (o := ⟨some 42, Op.call { callee := Callee.value (Operand.func 24), args := #[Operand.tmp 38, Operand.tmp 39, Operand.tmp 40, Operand.tmp 41], argTypes := #[22, 28, 3, 5] }, _, _, _, _⟩) (by kernel_rfl) rfl (fun K hK => ?_)
    go_simp
    refine (HV8.out.vcall c1 now need kv (KEY8.out.more HS8.out) hn4 LF8.out LK8.out HKV.out hHeld).mono ?_
    rintro e w10 ⟨rfl, b10⟩
    refine hK.out _ _ (hHeld.trans (b10.mono hHeld.size)) (fun hHeld2 => ?_)
    clear hK K hHeld
    have hHeld := hHeld2
    clear hHeld2
    try simp only [Act.put, List.setIfInBounds_toArray, List.set_cons_zero, List.set_cons_succ]
    refine Late.one (i := 15) (o := ⟨some 47, Op.call { callee := Callee.value (Operand.func 22), args := #[Operand.tmp 43, Operand.tmp 44, Operand.tmp 45, Operand.tmp 46], argTypes := #[22, 28, 3, 5] }, _, _, _, _⟩) (by kernel_rfl) rfl (fun K hK => ?_)
    go_simp
    refine (refverify_any c1 now need kv (KEY8.out.belowM hHeld HS8.out) (K8.out.belowM hHeld HS8.out) (Nat.le_trans HS8.out hHeld.size) (Nat.le_trans HS8.out hHeld.size) hn4 h0 h1 HKV.out).mono ?_
    rintro e w11 ⟨rfl, b11⟩
    refine hK.out _ _ (hHeld.trans (b11.mono hHeld.size)) (fun hHeld2 => ?_)
    clear hK K hHeld
    have hHeld := hHeld2
    clear hHeld2
    try simp only [Act.put, List.setIfInBounds_toArray, List.set_cons_zero, List.set_cons_succ]
    refine Late.take (i := 16) (oi := ⟨some 48, Op.binOp BinOp.neq 3 (Operand.tmp 42) (Operand.tmp 47) 3, _, _, _, _⟩) (v := ?_) rfl (by kernel_rfl) (by kernel_rfl) (by kernel_rfl) (by kernel_rfl) (fun _ _ _ h => h) (Or.inl ⟨by rfl, fun w hSw => ?_⟩) (by assumption) ?_
    rotate_left
    · (have s1 := hSw; go_simp; try with_reducible rfl)
    try simp only [Act.put, List.setIfInBounds_toArray, List.set_cons_zero, List.set_cons_succ]
    refine Late.take (i := 17) (oi := ⟨some 49, Op.pick (Operand.tmp 37) (Operand.const (Value.bool true)) (Operand.tmp 48), _, _, _, _⟩) (v := ?_) rfl (by kernel_rfl) (by kernel_rfl) (by kernel_rfl) (by kernel_rfl) (fun _ _ _ h => h) (Or.inl ⟨by rfl, fun w hSw => ?_⟩) (by assumption) ?_
    rotate_left
    · (have s1 := hSw; go_simp; try with_reducible rfl)
    try simp only [Act.put, List.setIfInBounds_toArray, List.set_cons_zero, List.set_cons_succ]
    refine Late.done (by kernel_rfl) ?_ _
    refine NoPanic.normal ?_
    have B9 := Lib.hid hHeld
    clear hHeld
    have X9 := Lib.hid (X8.out.grow B9.out)
    have V9 := Lib.hid (HV8.out.grow B9.out)
    have G5 := X9
    have G6 := X9
    have SM := Lib.hid (refsameT_any V9.out.tok (K8.out.below (B9.out.mono HS8.out)) (Nat.le_refl _) (Nat.le_trans HS8.out B9.out.size))
    rw [V9.out.is, sameP_refl] at SM
    have BB := Lib.hid (V9.out.box)
    go_wp2_with (first
      | (have g := G5; clear g; refine wpList_load_mid (op := ⟨some 50, .load 28 (.tmp 12), _, _, _, _⟩) rfl 28 (.tmp 12) rfl (vb) 0 rfl (tv v) _ BB.out.range Tryd.underlying28 rfl (tok_size BB.out.len) ?_; clear G5)
      | (have g := G6; clear g; refine wpList_load_mid (op := ⟨some 51, .load 28 (.tmp 6), _, _, _, _⟩) rfl 28 (.tmp 6) rfl (w.heap.size) 0 rfl (tv t) _ X9.out.range Tryd.underlying28 rfl (tok_size X9.out.len) ?_; clear G6)
      | (go_at_call 11; refine SM.out.mono ?_; rintro e w10 ⟨rfl, hb10⟩; have B10 := Lib.hid (B9.out.trans (hb10.mono B9.out.size)); clear hb10)
      | (go_at_call 8; refine (tawake_any w10 (LF8.out.below B10.out LF8.out.lt) (LK8.out.below B10.out LK8.out.lt)).mono ?_; rintro e w11 ⟨rfl, hb11⟩; have B11 := Lib.hid (B10.out.trans (hb11.mono B10.out.size)); clear hb11))
    go_ret
    exact ⟨rfl, B8.out.trans (B11.out.mono HS8.out)⟩
  · have TG := Lib.hid (reftag_any c1 HKEY.out HT1.out HSZ.out HSZ.out hm4 hn4)
    obtain ⟨TT, hTT⟩ : ∃ T, tokTag ks t.tn l = T := ⟨_, rfl⟩
    rw [hTT] at TG
    have LT : Hid (TT.length = 32) := Lib.hid (by rw [← hTT]; exact tokTag_len _ _ _)
    have LB : Hid (IsBytes TT) := Lib.hid (by rw [← hTT]; exact tokTag_bytes _ _ _)
    have G1 := LT
    have G2 := LT
    clear hTT
    go_enter Tryd.func5, Tryd.ntmps5
    go_upto_region 1 with fail
    rw [← HW1.out]
    go_upto_region 5 with (first
      | (have g := G1; clear g; refine wpList_load_mid (op := ⟨some 24, .load 28 (.tmp 6), _, _, _, _⟩) rfl 28 (.tmp 6) rfl (w.heap.size) 0 rfl (tv t) _ HX1.out.range Tryd.underlying28 rfl (tok_size HX1.out.len) ?_; clear G1)
      | (go_at_call 21; refine TG.out.mono ?_; rintro e w4 ⟨rfl, hb4⟩; have B4 := Lib.hid hb4; have X4 := Lib.hid (HX1.out.grow hb4); clear hb4)
      | (have g := G2; clear g; refine wpList_store_as (op := ⟨none, .store 26 (.tmp 26) (.tmp 25), _, _, _, _⟩) rfl 26 (.tmp 26) (.tmp 25) rfl w.heap.size 2 (vals TT).toArray rfl rfl (by have := X4.out.tagThere; rwa [show (vals TT).toArray.size = 32 by rw [List.size_toArray, vals_len, LT.out]]) (tag_size TT LT.out) (all_oneCell_toArray (vals_one TT)) ?_; intro w5 hw5; clear G2))
    have x5 : Box w5 w.heap.size { t with T := TT } := by rw [hw5.out]; exact X4.out.setTag LT.out
    have b45 := below_storeH (B := w.heap.size) (Below.refl _ w4) (Nat.le_refl _) hw5
    have b15 : Below w.heap.size W1 w5 := (B4.out.mono HSZ.out).trans b45
    have HB15 := Lib.hid b15
    have B5 : Hid (Below w.heap.size w w5) := Lib.hid (HB1.out.trans b15)
    have k5 : Tok w5 w.heap.size { t with T := TT } l := by
      have hl := HT1.out.below b15
      exact ⟨LT.out, LB.out, hl.tn, hl.line, hl.mc, hl.cm⟩
    clear hw5 b45 b15 X4 B4 TG
    obtain ⟨u, hu⟩ : ∃ u : TokZ, { t with T := TT } = u := ⟨_, rfl⟩
    rw [hu] at x5 k5
    have X5 := Lib.hid x5
    have K5 := Lib.hid k5
    have hu4 : u.m ≤ 4096 := by rw [← hu]; exact hm4
    clear hu x5 k5 LT LB
    have s5 : w.heap.size ≤ w5.heap.size := B5.out.size
    have HS5 := Lib.hid s5
    have HKEY5 := Lib.hid (HKEY.out.below HB15.out)
    have HF5 := Lib.hid (HF1.out.below HB15.out (HF0.out.lt))
    have HK5 := Lib.hid (HK1.out.below HB15.out (HK0.out.lt))
    obtain ⟨kc, hkc⟩ : ∃ k, checkP ks (pt u l) = k := ⟨_, rfl⟩
    obtain ⟨kv, hkv⟩ : ∃ k, verifyP ks (pt u l) now need = k := ⟨_, rfl⟩
    have HKC := Lib.hid hkc
    have HKV := Lib.hid hkv
    have RV0 := Lib.hid (refverify_any c1 (-1) 0 kc HKEY5.out K5.out HS5.out HS5.out hn4 (Int.le_refl 0) (by omega) (by rw [verify_zero]; exact hkc))
    have hne1 : (kc != kc) = false := bne_self_eq_false kc
    have hne2 : (kv != kv) = false := bne_self_eq_false kv
    clear hkc hkv
    have G3 := X5
    go_upto_region 6 with (first
      | (have g := G3; clear g; refine wpList_load_mid (op := ⟨some 28, .load 28 (.tmp 6), _, _, _, _⟩) rfl 28 (.tmp 6) rfl (w.heap.size) 0 rfl (tv u) _ X5.out.range Tryd.underlying28 rfl (tok_size X5.out.len) ?_; clear G3)
      | (go_at_call 22; refine RV0.out.mono ?_; rintro e w6 ⟨rfl, hb6⟩; have B6 := Lib.hid hb6; clear hb6))
    have X6 := Lib.hid (X5.out.grow B6.out)
    have s6 := B6.out.size
    have HS6 := Lib.hid (Nat.le_trans HS5.out s6)
    have K6 := Lib.hid (K5.out.belowM B6.out HS5.out)
    have CP := Lib.hid (copied_any K6.out HS6.out hu4)
    have G4 := X6
    go_upto_region 7 with (first
      | (have g := G4; clear g; refine wpList_load_mid (op := ⟨some 30, .load 28 (.tmp 6), _, _, _, _⟩) rfl 28 (.tmp 6) rfl (w.heap.size) 0 rfl (tv u) _ X6.out.range Tryd.underlying28 rfl (tok_size X6.out.len) ?_; clear G4)
      | (go_at_call 13; refine CP.out.mono ?_; rintro e w7 ⟨v, rfl, k7, p7, m7, b7⟩; have T7 := Lib.hid (box_thereN w7 k7.len 28 _ rfl); have F7 := T7)
      | (have g := F7; clear g; refine wpList_store_as (op := ⟨none, .store 28 (.tmp 12) (.tmp 31), _, _, _, _⟩) rfl 28 (.tmp 12) (.tmp 31) rfl (w7.heap.size) 0 (tv v).toArray rfl rfl T7.out (tok_sizeA k7.len) (tok_one _) ?_; intro w8 hw8; clear F7))
    obtain ⟨t8, b8⟩ := held_new k7 p7 rfl hw8
    obtain ⟨vb, hvb⟩ : ∃ g, w7.heap.size = g := ⟨_, rfl⟩
    rw [hvb] at t8
    simp only [hvb]
    have B68 := b7.trans (b8.mono b7.size)
    have X8 := Lib.hid (X6.out.grow B68)
    have HV8 := Lib.hid t8
    have BV8 := Lib.hid t8.box
    have b58 := B6.out.trans (B68.mono s6)
    have HS8 := Lib.hid (Nat.le_trans HS5.out b58.size)
    have K8 := Lib.hid (K5.out.below (b58.mono HS5.out))
    have KEY8 := Lib.hid (HKEY5.out.below (b58.mono HS5.out))
    have LF8 := Lib.hid (HF5.out.below b58 (Nat.lt_of_lt_of_le (HF0.out.lt) HS5.out))
    have LK8 := Lib.hid (HK5.out.below b58 (Nat.lt_of_lt_of_le (HK0.out.lt) HS5.out))
    have B8 := Lib.hid (B5.out.trans (b58.mono HS5.out))
    clear hw8 t8 b8 hvb k7 p7 b7 T7 CP B68 b58 RV0 X6 K6 B6 s6
    refine Late.region (fun w' => Below w8.heap.size w8 w') [] (by kernel_rfl) (Below.refl _ _).drew (fun hHeld => ?_)
    refine Late.take (i := 0) (oi := ⟨some 32, Op.move (Operand.tmp 0), _, _, _, _⟩) (v := ?_) rfl (by kernel_rfl) (by kernel_rfl) (by kernel_rfl) (by kernel_rfl) (fun _ _ _ h => h) (Or.inl ⟨by rfl, fun w hSw => ?_⟩) (by assumption) ?_
    rotate_left
    · (have s1 := hSw; go_simp; try with_reducible rfl)
    try simp only [Act.put, List.setIfInBounds_toArray, List.set_cons_zero, List.set_cons_succ]
    refine Late.take (i := 1) (oi := ⟨some 33, Op.load 28 (Operand.tmp 12), _, _, _, _⟩) (v := _) rfl (by kernel_rfl) (by kernel_rfl) (by kernel_rfl) (by kernel_rfl) (fun _ _ _ h => h) (yieldsIf_load_mid (by rfl) _ _ rfl _ _ rfl (tv v) _ (fun _ h => (BV8.out.grow h).range) Tryd.underlying28 rfl (tok_size BV8.out.len)) (by assumption) ?_
    try simp only [Act.put, List.setIfInBounds_toArray, List.set_cons_zero, List.set_cons_succ]
    refine Late.take (i := 3) (oi := ⟨some 35, Op.move (Operand.tmp 11), _, _, _, _⟩) (v := ?_) rfl (by kernel_rfl) (by kernel_rfl) (by kernel_rfl) (by kernel_rfl) (fun _ _ _ h => h) (Or.inl ⟨by rfl, fun w hSw => ?_⟩) (by assumption) ?_
    rotate_left
    · (have s1 := hSw; go_simp; try with_reducible rfl)
    try simp only [Act.put, List.setIfInBounds_toArray, List.set_cons_zero, List.set_cons_succ]
    refine Late.one (i := 2) (o := ⟨some 34, Op.call { callee := Callee.value (Operand.func 23), args := #[Operand.tmp 32, Operand.tmp 33], argTypes := #[22, 28] }, _, _, _, _⟩) (by kernel_rfl) rfl (fun K hK => ?_)
    go_simp
    refine (HV8.out.ccall c1 kc (KEY8.out.more HS8.out) hn4 LF8.out LK8.out HKC.out hHeld).mono ?_
    rintro e w9 ⟨rfl, b9⟩
    refine hK.out _ _ (hHeld.trans (b9.mono hHeld.size)) (fun hHeld2 => ?_)
    clear hK K hHeld
    have hHeld := hHeld2
    clear hHeld2
    try simp only [Act.put, List.setIfInBounds_toArray, List.set_cons_zero, List.set_cons_succ]
    refine Late.take (i := 4) (oi := ⟨some 36, Op.binOp BinOp.neq 3 (Operand.tmp 34) (Operand.tmp 35) 3, _, _, _, _⟩) (v := ?_) rfl (by kernel_rfl) (by kernel_rfl) (by kernel_rfl) (by kernel_rfl) (fun _ _ _ h => h) (Or.inl ⟨by rfl, fun w hSw => ?_⟩) (by assumption) ?_
    rotate_left
    · (have s1 := hSw; go_simp; try with_reducible rfl)
    try simp only [Act.put, List.setIfInBounds_toArray, List.set_cons_zero, List.set_cons_succ]
    refine Late.take (i := 5) (oi := ⟨some 37, Op.move (Operand.tmp 36), _, _, _, _⟩) (v := ?_) rfl (by kernel_rfl) (by kernel_rfl) (by kernel_rfl) (by kernel_rfl) (fun _ _ _ h => h) (Or.inl ⟨by rfl, fun w hSw => ?_⟩) (by assumption) ?_
    rotate_left
    · (have s1 := hSw; go_simp; try with_reducible rfl)
    try simp only [Act.put, List.setIfInBounds_toArray, List.set_cons_zero, List.set_cons_succ]
    refine Late.take (i := 6) (oi := ⟨some 38, Op.move (Operand.tmp 0), _, _, _, _⟩) (v := ?_) rfl (by kernel_rfl) (by kernel_rfl) (by kernel_rfl) (by kernel_rfl) (fun _ _ _ h => h) (Or.inl ⟨by rfl, fun w hSw => ?_⟩) (by assumption) ?_
    rotate_left
    · (have s1 := hSw; go_simp; try with_reducible rfl)
    try simp only [Act.put, List.setIfInBounds_toArray, List.set_cons_zero, List.set_cons_succ]
    refine Late.take (i := 7) (oi := ⟨some 39, Op.load 28 (Operand.tmp 12), _, _, _, _⟩) (v := _) rfl (by kernel_rfl) (by kernel_rfl) (by kernel_rfl) (by kernel_rfl) (fun _ _ _ h => h) (yieldsIf_load_mid (by rfl) _ _ rfl _ _ rfl (tv v) _ (fun _ h => (BV8.out.grow h).range) Tryd.underlying28 rfl (tok_size BV8.out.len)) (by assumption) ?_
    try simp only [Act.put, List.setIfInBounds_toArray, List.set_cons_zero, List.set_cons_succ]
    refine Late.take (i := 8) (oi := ⟨some 40, Op.move (Operand.tmp 3), _, _, _, _⟩) (v := ?_) rfl (by kernel_rfl) (by kernel_rfl) (by kernel_rfl) (by kernel_rfl) (fun _ _ _ h => h) (Or.inl ⟨by rfl, fun w hSw => ?_⟩) (by assumption) ?_
    rotate_left
    · (have s1 := hSw; go_simp; try with_reducible rfl)
    try simp only [Act.put, List.setIfInBounds_toArray, List.set_cons_zero, List.set_cons_succ]
    refine Late.take (i := 9) (oi := ⟨some 41, Op.move (Operand.tmp 4), _, _, _, _⟩) (v := ?_) rfl (by kernel_rfl) (by kernel_rfl) (by kernel_rfl) (by kernel_rfl) (fun _ _ _ h => h) (Or.inl ⟨by rfl, fun w hSw => ?_⟩) (by assumption) ?_
    rotate_left
    · (have s1 := hSw; go_simp; try with_reducible rfl)
    try simp only [Act.put, List.setIfInBounds_toArray, List.set_cons_zero, List.set_cons_succ]
    refine Late.take (i := 11) (oi := ⟨some 43, Op.move (Operand.tmp 0), _, _, _, _⟩) (v := ?_) rfl (by kernel_rfl) (by kernel_rfl) (by kernel_rfl) (by kernel_rfl) (fun _ _ _ h => h) (Or.inl ⟨by rfl, fun w hSw => ?_⟩) (by assumption) ?_
    rotate_left
    · (have s1 := hSw; go_simp; try with_reducible rfl)
    try simp only [Act.put, List.setIfInBounds_toArray, List.set_cons_zero, List.set_cons_succ]
    refine Late.take (i := 12) (oi := ⟨some 44, Op.load 28 (Operand.tmp 6), _, _, _, _⟩) (v := _) rfl (by kernel_rfl) (by kernel_rfl) (by kernel_rfl) (by kernel_rfl) (fun _ _ _ h => h) (yieldsIf_load_mid (by rfl) _ _ rfl _ _ rfl (tv u) _ (fun _ h => (X8.out.grow h).range) Tryd.underlying28 rfl (tok_size X8.out.len)) (by assumption) ?_
    try simp only [Act.put, List.setIfInBounds_toArray, List.set_cons_zero, List.set_cons_succ]
    refine Late.take (i := 13) (oi := ⟨some 45, Op.move (Operand.tmp 3), _, _, _, _⟩) (v := ?_) rfl (by kernel_rfl) (by kernel_rfl) (by kernel_rfl) (by kernel_rfl) (fun _ _ _ h => h) (Or.inl ⟨by rfl, fun w hSw => ?_⟩) (by assumption) ?_
    rotate_left
    · (have s1 := hSw; go_simp; try with_reducible rfl)
    try simp only [Act.put, List.setIfInBounds_toArray, List.set_cons_zero, List.set_cons_succ]
    refine Late.take (i := 14) (oi := ⟨some 46, Op.move (Operand.tmp 4), _, _, _, _⟩) (v := ?_) rfl (by kernel_rfl) (by kernel_rfl) (by kernel_rfl) (by kernel_rfl) (fun _ _ _ h => h) (Or.inl ⟨by rfl, fun w hSw => ?_⟩) (by assumption) ?_
    rotate_left
    · (have s1 := hSw; go_simp; try with_reducible rfl)
    try simp only [Act.put, List.setIfInBounds_toArray, List.set_cons_zero, List.set_cons_succ]
    refine Late.one (i := 10) (o := ⟨some 42, Op.call { callee := Callee.value (Operand.func 24), args := #[Operand.tmp 38, Operand.tmp 39, Operand.tmp 40, Operand.tmp 41], argTypes := #[22, 28, 3, 5] }, _, _, _, _⟩) (by kernel_rfl) rfl (fun K hK => ?_)
    go_simp
    refine (HV8.out.vcall c1 now need kv (KEY8.out.more HS8.out) hn4 LF8.out LK8.out HKV.out hHeld).mono ?_
    rintro e w10 ⟨rfl, b10⟩
    refine hK.out _ _ (hHeld.trans (b10.mono hHeld.size)) (fun hHeld2 => ?_)
    clear hK K hHeld
    have hHeld := hHeld2
    clear hHeld2
    try simp only [Act.put, List.setIfInBounds_toArray, List.set_cons_zero, List.set_cons_succ]
    refine Late.one (i := 15) (o := ⟨some 47, Op.call { callee := Callee.value (Operand.func 22), args := #[Operand.tmp 43, Operand.tmp 44, Operand.tmp 45, Operand.tmp 46], argTypes := #[22, 28, 3, 5] }, _, _, _, _⟩) (by kernel_rfl) rfl (fun K hK => ?_)
    go_simp
    refine (refverify_any c1 now need kv (KEY8.out.belowM hHeld HS8.out) (K8.out.belowM hHeld HS8.out) (Nat.le_trans HS8.out hHeld.size) (Nat.le_trans HS8.out hHeld.size) hn4 h0 h1 HKV.out).mono ?_
    rintro e w11 ⟨rfl, b11⟩
    refine hK.out _ _ (hHeld.trans (b11.mono hHeld.size)) (fun hHeld2 => ?_)
    clear hK K hHeld
    have hHeld := hHeld2
    clear hHeld2
    try simp only [Act.put, List.setIfInBounds_toArray, List.set_cons_zero, List.set_cons_succ]
    refine Late.take (i := 16) (oi := ⟨some 48, Op.binOp BinOp.neq 3 (Operand.tmp 42) (Operand.tmp 47) 3, _, _, _, _⟩) (v := ?_) rfl (by kernel_rfl) (by kernel_rfl) (by kernel_rfl) (by kernel_rfl) (fun _ _ _ h => h) (Or.inl ⟨by rfl, fun w hSw => ?_⟩) (by assumption) ?_
    rotate_left
    · (have s1 := hSw; go_simp; try with_reducible rfl)
    try simp only [Act.put, List.setIfInBounds_toArray, List.set_cons_zero, List.set_cons_succ]
    refine Late.take (i := 17) (oi := ⟨some 49, Op.pick (Operand.tmp 37) (Operand.const (Value.bool true)) (Operand.tmp 48), _, _, _, _⟩) (v := ?_) rfl (by kernel_rfl) (by kernel_rfl) (by kernel_rfl) (by kernel_rfl) (fun _ _ _ h => h) (Or.inl ⟨by rfl, fun w hSw => ?_⟩) (by assumption) ?_
    rotate_left
    · (have s1 := hSw; go_simp; try with_reducible rfl)
    try simp only [Act.put, List.setIfInBounds_toArray, List.set_cons_zero, List.set_cons_succ]
    refine Late.done (by kernel_rfl) ?_ _
    refine NoPanic.normal ?_
    have B9 := Lib.hid hHeld
    clear hHeld
    have X9 := Lib.hid (X8.out.grow B9.out)
    have V9 := Lib.hid (HV8.out.grow B9.out)
    have G5 := X9
    have G6 := X9
    have SM := Lib.hid (refsameT_any V9.out.tok (K8.out.below (B9.out.mono HS8.out)) (Nat.le_refl _) (Nat.le_trans HS8.out B9.out.size))
    rw [V9.out.is, sameP_refl] at SM
    have BB := Lib.hid (V9.out.box)
    go_wp2_with (first
      | (have g := G5; clear g; refine wpList_load_mid (op := ⟨some 50, .load 28 (.tmp 12), _, _, _, _⟩) rfl 28 (.tmp 12) rfl (vb) 0 rfl (tv v) _ BB.out.range Tryd.underlying28 rfl (tok_size BB.out.len) ?_; clear G5)
      | (have g := G6; clear g; refine wpList_load_mid (op := ⟨some 51, .load 28 (.tmp 6), _, _, _, _⟩) rfl 28 (.tmp 6) rfl (w.heap.size) 0 rfl (tv u) _ X9.out.range Tryd.underlying28 rfl (tok_size X9.out.len) ?_; clear G6)
      | (go_at_call 11; refine SM.out.mono ?_; rintro e w10 ⟨rfl, hb10⟩; have B10 := Lib.hid (B9.out.trans (hb10.mono B9.out.size)); clear hb10)
      | (go_at_call 8; refine (tawake_any w10 (LF8.out.below B10.out LF8.out.lt) (LK8.out.below B10.out LK8.out.lt)).mono ?_; rintro e w11 ⟨rfl, hb11⟩; have B11 := Lib.hid (B10.out.trans (hb11.mono B10.out.size)); clear hb11))
    go_ret
    exact ⟨rfl, B8.out.trans (B11.out.mono HS8.out)⟩
end Go.Proofs.YtpamgeenknkjcaaDoor
