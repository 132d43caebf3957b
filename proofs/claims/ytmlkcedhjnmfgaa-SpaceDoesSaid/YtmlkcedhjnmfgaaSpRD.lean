/- The document's own Del. -/
import Derived.Test.YtmlkcedhjnmfgaaSpRS
namespace Go.Proofs.Ytmlkcedhjnmfgaa
open Go.ChangeShapes Go.WideShapes Go.ChangeAt Go.RowKit
set_option linter.unusedVariables false
set_option linter.unusedSimpArgs false
open Plain Sp
set_option maxRecDepth 100000 in
set_option maxHeartbeats 4000000 in
theorem rdel_any {w : World} {n c : Nat} {A : Option Addr} {l : List PairZ} (KI Y : Int) (k : ByteArray) (r : SpZ × Int) (h : Prs w w.heap.size A n l) (hn : n ≤ 1000) (hr : delR ⟨KI, Y, l⟩ k = r) :
    Calls Try.prog 16 #[.agg #[.int .i64 KI, .int .i64 Y, .slice A n c], .string k] w (GivesN w r) := by
  obtain ⟨W1, hW1⟩ : ∃ W, W = (w.alloc (.cells #[.int .i64 KI, .int .i64 Y, .slice A n c] 24)).alloc (.cells #[.int .i64 0, .int .i64 0, .slice none 0 0] 24) := ⟨_, rfl⟩
  have b1 := Lib.hid (show Below w.heap.size w W1 by rw [hW1]; exact (below_one _ _).alloc (by simp) _)
  have X1 := Lib.hid (show SBox W1 w.heap.size KI Y A n c by rw [hW1]; exact (sbox_new _ _ _ _ _ _ _ _ rfl).grow (below_one _ _))
  have V1 := Lib.hid (show SVar W1 (w.heap.size + 1) by rw [hW1]; exact svar_new _ _ _ _ _ _ (by simp))
  have z1 : W1.heap.size = w.heap.size + 2 := by rw [hW1]; simp
  have H1 := Lib.hid ((h.below b1.out (Nat.le_refl _)).more b1.out.size)
  have HW1 := Lib.hid hW1
  have HS := Lib.hid rsp_size
  clear hW1 h
  have HC := Lib.hid (fun (V : World) (hV : Below W1.heap.size W1 V) => X1.out.grow hV)
  obtain ⟨⟨v0, e0⟩, hg⟩ : ∃ z, getR ⟨KI, Y, l⟩ k = z := ⟨_, rfl⟩
  have GM := Lib.hid (rget_any (c := c) KI Y k v0 e0 H1.out hn hg)
  by_cases he : e0 = 0
  · subst he
    have hr2 : (⟨KI, Y, delP l k⟩, (0 : Int)) = r := by rw [← hr]; unfold delR; rw [hg]; simp
    obtain ⟨L, hL⟩ : ∃ L, delP l k = L := ⟨_, rfl⟩
    obtain ⟨N, hN⟩ : ∃ N, L.length = N := ⟨_, rfl⟩
    rw [hL] at hr2
    have E1 := Lib.hid hr2.symm
    have WM := Lib.hid (fun (V : World) (hV : Below W1.heap.size W1 V) => without_any (w := V) c k N L (H1.out.grow hV) (Nat.le_refl _) hn hL hN)
    clear hr hr2 hL hN hg H1
    go_enter Try.func16, Try.ntmps16
    go_upto_region 1 with fail
    rw [← HW1.out]
    obtain ⟨h1, h2, h3⟩ := X1.out
    go_upto_region 4 with (first
      | (go_at_call 18; refine GM.out.mono ?_; rintro e w5 ⟨rfl, b5⟩; have B5 := Lib.hid b5; clear b5)
      | fail)
    have BD := Lib.hid (B5.out.drew)
    clear h1 h2 h3
    refine Late.region (fun w' => w'.cell? ⟨w.heap.size, 0, none⟩ = some (.int .i64 KI) ∧ w'.cell? ⟨w.heap.size, 1, none⟩ = some (.int .i64 Y) ∧ w'.cell? ⟨w.heap.size, 2, none⟩ = some (.slice A n c)) [9, 10] (by kernel_rfl) (HC.out _ BD.out) (fun hHeld => ?_)
    refine Late.take (i := 0) (oi := ⟨some 18, Op.fieldAddr 24 (Operand.tmp 2) 0, _, _, _, _⟩) (v := ?_) rfl (by kernel_rfl) (by kernel_rfl) (by kernel_rfl) (by kernel_rfl) (fun _ _ _ h => h) (Or.inl ⟨by rfl, fun w hSw => ?_⟩) (by assumption) ?_
    rotate_left
    · (obtain ⟨s1, s2, s3⟩ := hSw; go_simp; try with_reducible rfl)
    try simp only [Act.put, List.setIfInBounds_toArray, List.set_cons_zero, List.set_cons_succ]
    refine Late.take (i := 1) (oi := ⟨some 19, Op.load 3 (Operand.tmp 18), _, _, _, _⟩) (v := ?_) rfl (by kernel_rfl) (by kernel_rfl) (by kernel_rfl) (by kernel_rfl) (fun _ _ _ h => h) (Or.inl ⟨by rfl, fun w hSw => ?_⟩) (by assumption) ?_
    rotate_left
    · (obtain ⟨s1, s2, s3⟩ := hSw; go_simp; try with_reducible rfl)
    try simp only [Act.put, List.setIfInBounds_toArray, List.set_cons_zero, List.set_cons_succ]
    refine Late.take (i := 2) (oi := ⟨some 20, Op.fieldAddr 24 (Operand.tmp 2) 1, _, _, _, _⟩) (v := ?_) rfl (by kernel_rfl) (by kernel_rfl) (by kernel_rfl) (by kernel_rfl) (fun _ _ _ h => h) (Or.inl ⟨by rfl, fun w hSw => ?_⟩) (by assumption) ?_
    rotate_left
    · (obtain ⟨s1, s2, s3⟩ := hSw; go_simp; try with_reducible rfl)
    try simp only [Act.put, List.setIfInBounds_toArray, List.set_cons_zero, List.set_cons_succ]
    refine Late.take (i := 3) (oi := ⟨some 21, Op.load 3 (Operand.tmp 20), _, _, _, _⟩) (v := ?_) rfl (by kernel_rfl) (by kernel_rfl) (by kernel_rfl) (by kernel_rfl) (fun _ _ _ h => h) (Or.inl ⟨by rfl, fun w hSw => ?_⟩) (by assumption) ?_
    rotate_left
    · (obtain ⟨s1, s2, s3⟩ := hSw; go_simp; try with_reducible rfl)
    try simp only [Act.put, List.setIfInBounds_toArray, List.set_cons_zero, List.set_cons_succ]
    refine Late.take (i := 4) (oi := ⟨some 22, Op.fieldAddr 24 (Operand.tmp 2) 2, _, _, _, _⟩) (v := ?_) rfl (by kernel_rfl) (by kernel_rfl) (by kernel_rfl) (by kernel_rfl) (fun _ _ _ h => h) (Or.inl ⟨by rfl, fun w hSw => ?_⟩) (by assumption) ?_
    rotate_left
    · (obtain ⟨s1, s2, s3⟩ := hSw; go_simp; try with_reducible rfl)
    try simp only [Act.put, List.setIfInBounds_toArray, List.set_cons_zero, List.set_cons_succ]
    refine Late.take (i := 5) (oi := ⟨some 23, Op.load 22 (Operand.tmp 22), _, _, _, _⟩) (v := ?_) rfl (by kernel_rfl) (by kernel_rfl) (by kernel_rfl) (by kernel_rfl) (fun _ _ _ h => h) (Or.inl ⟨by rfl, fun w hSw => ?_⟩) (by assumption) ?_
    rotate_left
    · (obtain ⟨s1, s2, s3⟩ := hSw; go_simp; try with_reducible rfl)
    try simp only [Act.put, List.setIfInBounds_toArray, List.set_cons_zero, List.set_cons_succ]
    refine Late.take (i := 6) (oi := ⟨some 24, Op.move (Operand.tmp 1), _, _, _, _⟩) (v := ?_) rfl (by kernel_rfl) (by kernel_rfl) (by kernel_rfl) (by kernel_rfl) (fun _ _ _ h => h) (Or.inl ⟨by rfl, fun w hSw => ?_⟩) (by assumption) ?_
    rotate_left
    · (obtain ⟨s1, s2, s3⟩ := hSw; go_simp; try with_reducible rfl)
    try simp only [Act.put, List.setIfInBounds_toArray, List.set_cons_zero, List.set_cons_succ]
    refine Late.one (i := 7) (o := ⟨some 25, Op.call { callee := Callee.value (Operand.func 41), args := #[Operand.tmp 23, Operand.tmp 24], argTypes := #[22, 9] }, _, _, _, _⟩) (by kernel_rfl) rfl (fun K hK => ?_)
    go_simp
    refine (WM.out _ BD.out).mono ?_
    rintro e w7 ⟨D, d, rfl, p7, f7, b7⟩
    have B7' := BD.out.trans (b7.mono BD.out.size)
    have B7 := Lib.hid B7'
    have P7 := Lib.hid p7
    have F7 := Lib.hid (f7.mono BD.out.size)
    have V7 := Lib.hid (V1.out.grow B7')
    clear p7 f7 b7 B7'
    refine hK.out _ _ (HC.out _ B7.out) (fun hHeld2 => ?_)
    clear hK K hHeld
    have hHeld := hHeld2
    clear hHeld2
    try simp only [Act.put, List.setIfInBounds_toArray, List.set_cons_zero, List.set_cons_succ]
    refine Late.one (i := 8) (o := ⟨some 26, Op.build 24 #[(0, Operand.tmp 19), (1, Operand.tmp 21), (2, Operand.tmp 25)], _, _, _, _⟩) (by kernel_rfl) rfl (fun K hK => ?_)
    go_simp
    refine hK.out _ _ (hHeld) (fun hHeld2 => ?_)
    clear hK K hHeld
    have hHeld := hHeld2
    clear hHeld2
    try simp only [Act.put, List.setIfInBounds_toArray, List.set_cons_zero, List.set_cons_succ]
    refine Late.end_ (i := 9) (o := ⟨none, Op.store 24 (Operand.tmp 4) (Operand.tmp 26), _, _, _, _⟩) (by kernel_rfl) rfl rfl (fun K hK => ?_)
    rw [if_pos (by rfl)]
    refine wp_store_mid 24 (.tmp 4) (.tmp 26) rfl (w.heap.size + 1) 0 #[.int .i64 KI, .int .i64 Y, .slice D N d] rfl rfl V7.out.th HS.out (sp_one _ _ _ _ _) ?_
    refine hK.out _ _ ?_
    clear hK K
    try simp only [Act.put, List.setIfInBounds_toArray, List.set_cons_zero, List.set_cons_succ]
    refine Late.end_ (i := 10) (o := ⟨some 5, Op.assign (Operand.const (Value.int IntKind.i64 0)), _, _, _, _⟩) (by kernel_rfl) rfl rfl (fun K hK => ?_)
    go_simp
    refine hK.out _ _ ?_
    clear hK K
    try simp only [Act.put, List.setIfInBounds_toArray, List.set_cons_zero, List.set_cons_succ]
    refine Late.done (by kernel_rfl) ?_ _
    refine NoPanic.normal ?_
    have hw9 : Hid (w7.setCells (w.heap.size + 1) 0 #[.int .i64 KI, .int .i64 Y, .slice D N d].toList = w7.setCells (w.heap.size + 1) 0 #[.int .i64 KI, .int .i64 Y, .slice D N d].toList) := Lib.hid rfl
    obtain ⟨R9, B9⟩ := sp_stored V7.out hw9 (by omega) (b1.out.trans (B7.out.mono b1.out.size))
    have P9 : Prs (w7.setCells (w.heap.size + 1) 0 #[.int .i64 KI, .int .i64 Y, .slice D N d].toList) (w7.setCells (w.heap.size + 1) 0 #[.int .i64 KI, .int .i64 Y, .slice D N d].toList).heap.size D N L := (P7.out.farX F7.out (by omega) _ _).more (sp_size_le _ _ _ _)
    go_wp2
    exact bodyPost_ret (ret_spaceR (p := 4) (u := 5) rfl _ _ (w.heap.size + 1) rfl R9 rfl) rfl (by rw [E1.out]; exact ⟨N, d, D, rfl, P9, F7.out.mono b1.out.size, B9⟩)
  · have E1 : Hid (r = (sp0, e0)) := Lib.hid (by rw [← hr]; unfold delR; rw [hg]; simp [he])
    clear hr hg H1
    go_enter Try.func16, Try.ntmps16
    go_upto_region 1 with fail
    rw [← HW1.out]
    obtain ⟨h1, h2, h3⟩ := X1.out
    go_wp2_with (first
      | (go_at_call 18; refine GM.out.mono ?_; rintro e w5 ⟨rfl, b5⟩; have V5 := Lib.hid (V1.out.grow b5); have B5 := Lib.hid b5; clear b5)
      | (refine sp_store_as (op := ⟨none, .store 24 (.tmp 4) (.tmp 16), _, _, _, _⟩) rfl 24 (.tmp 4) (.tmp 16) rfl (w.heap.size + 1) 0 #[.int .i64 0, .int .i64 0, .slice none 0 0] rfl rfl V5.out.th HS.out (sp_one _ _ _ _ _) ?_; intro w6 hw6)
      | fail)
    obtain ⟨R6, B6⟩ := sp_stored V5.out hw6 (by omega) (b1.out.trans (B5.out.mono b1.out.size))
    exact bodyPost_ret (ret_spaceR (p := 4) (u := 5) rfl _ _ (w.heap.size + 1) rfl R6 rfl) rfl (givesN_err E1.out B6)
end Go.Proofs.Ytmlkcedhjnmfgaa
