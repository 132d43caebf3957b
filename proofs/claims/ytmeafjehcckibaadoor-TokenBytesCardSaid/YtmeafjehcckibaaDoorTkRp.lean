/- The document's own Print. -/
import Derived.Test.YtmeafjehcckibaaDoorTkRn
import Derived.Test.YtmeafjehcckibaaDoorTkTr
import Derived.Test.YtmeafjehcckibaaDoorTkPr
import Derived.Test.YtmeafjehcckibaaDoorB6
namespace Go.Proofs.YtmeafjehcckibaaDoor
open Go.ChangeShapes Go.WideShapes Go.ChangeAt Go.RowKit
set_option linter.unusedVariables false
set_option linter.unusedSimpArgs false
open Plain Sha
set_option maxRecDepth 100000 in
set_option maxHeartbeats 4000000 in
theorem refprint_any {w : World} {B : Nat} {t : TokZ} {l : List GrantZ} (h : Tok w B t l) (hB : B ≤ w.heap.size) : Calls Tryd.prog 4 #[.agg (tv t).toArray] w (Made w (printP (pt t l))) := by
  obtain ⟨W1, hW1⟩ : ∃ W, W = w.alloc (.cells (tv t).toArray 26) := ⟨_, rfl⟩
  have b1 : Below w.heap.size w W1 := by rw [hW1]; exact (Below.refl _ _).alloc (Nat.le_refl _) _
  have HX1 : Hid (Box W1 w.heap.size t) := Lib.hid (by rw [hW1]; exact box_new w t h.len _ _ rfl)
  have HB1 := Lib.hid b1
  have HT1 := Lib.hid (h.belowM b1 hB)
  have HW1 := Lib.hid hW1
  have HL : Hid (t.T.length = 32) := Lib.hid h.len
  have hbT := Lib.hid h.bytes
  have hs1 := b1.size
  have hB1 := Nat.le_trans hB hs1
  obtain ⟨q, hq⟩ : ∃ q, mayT t.tn l = q := ⟨_, rfl⟩
  have HQ := Lib.hid hq
  have TM := Lib.hid (rtmay_val q HT1.out hB1 hq)
  clear h hW1 b1 hq
  have G1 := HL
  cases q
  · have HP : Hid (printP (pt t l) = []) := Lib.hid (by unfold printP pt; rw [HQ.out]; rfl)
    go_enter Tryd.func4, Tryd.ntmps4
    go_upto_region 1 with fail
    rw [← HW1.out]
    go_wp2_with (first
    | (have g := G1; clear g; refine wpList_load_mid (op := ⟨some 5, .load 26 (.tmp 1), _, _, _, _⟩) rfl 26 (.tmp 1) rfl (w.heap.size) 0 rfl (tv t) _ HX1.out.range Tryd.underlying26 rfl (tok_size HX1.out.len) ?_; clear G1)
    | (go_at_call 13; refine TM.out.mono ?_; rintro e w4 ⟨rfl, hb4⟩))
    go_ret
    rw [HP.out]
    exact made_of (n := 0) rfl (World.ownsRow_nil _ _ _ _) (HB1.out.trans (hb4.mono hs1))
  have hl4 : 0 < l.length ∧ l.length ≤ 4 := may_len' HQ.out
  have HLM := Lib.hid HT1.out.line.len
  have hm4 : t.m ≤ 4 := by have := HLM.out; omega
  have HP : Hid (printP (pt t l) = headZ t.tn t.m l ++ t.T) := Lib.hid (by unfold printP pt; rw [HQ.out]; simp [HLM.out])
  clear hl4
  go_enter Tryd.func4, Tryd.ntmps4
  go_upto_region 1 with fail
  rw [← HW1.out]
  go_upto_region 3 with (first
    | (have g := G1; clear g; refine wpList_load_mid (op := ⟨some 5, .load 26 (.tmp 1), _, _, _, _⟩) rfl 26 (.tmp 1) rfl (w.heap.size) 0 rfl (tv t) _ HX1.out.range Tryd.underlying26 rfl (tok_size HX1.out.len) ?_; clear G1)
    | (go_at_call 13; refine TM.out.mono ?_; rintro e w2 ⟨rfl, hb2⟩; have B2 := Lib.hid hb2; clear hb2))
  have HX2 := Lib.hid (HX1.out.grow B2.out)
  have C0 : Hid (∀ W, Below w2.heap.size w2 W → W.cell? ⟨w.heap.size, 0, none⟩ = some (.int .i64 t.tn)) := Lib.hid (fun W hW => (HX2.out.grow hW).c0)
  have C1 : Hid (∀ W, Below w2.heap.size w2 W → W.cell? ⟨w.heap.size, 1, none⟩ = some (.slice t.A t.m t.c)) := Lib.hid (fun W hW => (HX2.out.grow hW).c1)
  have HT2 := Lib.hid (HT1.out.line.belowM B2.out hB1)
  have hB2 := Nat.le_trans hB1 B2.out.size
  have ZT : Hid (∀ W, Below w2.heap.size w2 W → Bs W W.heap.size (some ⟨w.heap.size, 2, none⟩) 32 t.T) := Lib.hid (fun W hW => (HX2.out.grow hW).bs hbT.out (HX2.out.grow hW).lt)
  refine Late.region (fun w' => Below w2.heap.size w2 w') [8] (by kernel_rfl) (Below.refl _ _).drew (fun hHeld => ?_)
  refine Late.take (i := 0) (oi := ⟨some 8, Op.fieldAddr 26 (Operand.tmp 1) 0, _, _, _, _⟩) (v := ?_) rfl (by kernel_rfl) (by kernel_rfl) (by kernel_rfl) (by kernel_rfl) (fun _ _ _ h => h) (Or.inl ⟨by rfl, fun w hSw => ?_⟩) (by assumption) ?_
  rotate_left
  · (have s1 := hSw; go_simp; try with_reducible rfl)
  try simp only [Act.put, List.setIfInBounds_toArray, List.set_cons_zero, List.set_cons_succ]
  refine Late.take (i := 1) (oi := ⟨some 9, Op.load 3 (Operand.tmp 8), _, _, _, _⟩) (v := ?_) rfl (by kernel_rfl) (by kernel_rfl) (by kernel_rfl) (by kernel_rfl) (fun _ _ _ h => h) (Or.inl ⟨by rfl, fun w hSw => ?_⟩) (by assumption) ?_
  rotate_left
  · (have s1 := hSw; have c := C0.out _ hSw; go_simp; try with_reducible rfl)
  try simp only [Act.put, List.setIfInBounds_toArray, List.set_cons_zero, List.set_cons_succ]
  refine Late.take (i := 3) (oi := ⟨some 11, Op.fieldAddr 26 (Operand.tmp 1) 1, _, _, _, _⟩) (v := ?_) rfl (by kernel_rfl) (by kernel_rfl) (by kernel_rfl) (by kernel_rfl) (fun _ _ _ h => h) (Or.inl ⟨by rfl, fun w hSw => ?_⟩) (by assumption) ?_
  rotate_left
  · (have s1 := hSw; go_simp; try with_reducible rfl)
  try simp only [Act.put, List.setIfInBounds_toArray, List.set_cons_zero, List.set_cons_succ]
  refine Late.take (i := 4) (oi := ⟨some 12, Op.load 22 (Operand.tmp 11), _, _, _, _⟩) (v := ?_) rfl (by kernel_rfl) (by kernel_rfl) (by kernel_rfl) (by kernel_rfl) (fun _ _ _ h => h) (Or.inl ⟨by rfl, fun w hSw => ?_⟩) (by assumption) ?_
  rotate_left
  · (have s1 := hSw; have c := C1.out _ hSw; go_simp; try with_reducible rfl)
  try simp only [Act.put, List.setIfInBounds_toArray, List.set_cons_zero, List.set_cons_succ]
  refine Late.take (i := 5) (oi := ⟨some 13, Op.call { callee := Callee.builtin Builtin.len, args := #[Operand.tmp 12], argTypes := #[22] }, _, _, _, _⟩) (v := ?_) rfl (by kernel_rfl) (by kernel_rfl) (by kernel_rfl) (by kernel_rfl) (fun _ _ _ h => h) (Or.inl ⟨by rfl, fun w hSw => ?_⟩) (by assumption) ?_
  rotate_left
  · (have s1 := hSw; go_simp; try with_reducible rfl)
  try simp only [Act.put, List.setIfInBounds_toArray, List.set_cons_zero, List.set_cons_succ]
  refine Late.one (i := 2) (o := ⟨some 10, Op.call { callee := Callee.value (Operand.func 14), args := #[Operand.tmp 9], argTypes := #[3] }, _, _, _, _⟩) (by kernel_rfl) rfl (fun K hK => ?_)
  go_simp
  refine (refnumber_any t.tn _).mono ?_
  intro e w3 hm3
  obtain ⟨D3, c3, rfl, ho3, b3, _, _⟩ := hm3.n (numB_len t.tn)
  have O3 := own_base ho3 hHeld.size
  refine hK.out _ _ (hHeld.trans (b3.mono hHeld.size)) (fun hHeld2 => ?_)
  clear hK K hHeld
  have hHeld := hHeld2
  clear hHeld2
  try simp only [Act.put, List.setIfInBounds_toArray, List.set_cons_zero, List.set_cons_succ]
  refine Late.one (i := 6) (o := ⟨some 14, Op.call { callee := Callee.value (Operand.func 14), args := #[Operand.tmp 13], argTypes := #[3] }, _, _, _, _⟩) (by kernel_rfl) rfl (fun K hK => ?_)
  go_simp
  refine (refnumber_any (t.m : Int) _).mono ?_
  intro e w4 hm4
  obtain ⟨D4, c4, rfl, ho4, b4, _, _⟩ := hm4.n (numB_len (t.m : Int))
  have O34 := own_below O3 b4 (Nat.le_refl _)
  have Z4 := Made.bs ho4 (numB_bytes _)
  refine hK.out _ _ (hHeld.trans (b4.mono hHeld.size)) (fun hHeld2 => ?_)
  clear hK K hHeld
  have hHeld := hHeld2
  clear hHeld2
  try simp only [Act.put, List.setIfInBounds_toArray, List.set_cons_zero, List.set_cons_succ]
  refine Late.one (i := 7) (o := ⟨some 15, Op.call { callee := Callee.builtin Builtin.append, args := #[Operand.tmp 10, Operand.tmp 14], argTypes := #[27, 27] }, _, _, _, _⟩) (by kernel_rfl) rfl (fun K hK => ?_)
  refine step_app w4 rfl (.tmp 10) (.tmp 14) 27 rfl w2.heap.size 5 1 1 Tryd.underlying27 u8_info (by omega) (.slice D3 8 c3) 8 (vals (numB t.tn)) (by rfl) O34 D4 8 c4 (vals (numB (t.m : Int))) (by rfl) Z4.lies.1 Z4.lies.2 (vals_one _) (by unfold maxLen; omega) (by omega) hHeld.size ?_
  intro v5 w5 ho5 hg5 _
  have b5 := hHeld.grown hg5 hHeld.size (fun q hq => (O34.lt q hq).1)
  obtain ⟨D5, c5, rfl, _, _⟩ := own_shape ho5
  refine hK.out _ _ (b5) (fun hHeld2 => ?_)
  clear hK K hHeld
  have hHeld := hHeld2
  clear hHeld2
  try simp only [Act.put, List.setIfInBounds_toArray, List.set_cons_zero, List.set_cons_succ]
  refine Late.end_ (i := 8) (o := ⟨some 3, Op.assign (Operand.tmp 15), _, _, _, _⟩) (by kernel_rfl) rfl rfl (fun K hK => ?_)
  go_simp
  refine hK.out _ _ ?_
  clear hK K
  try simp only [Act.put, List.setIfInBounds_toArray, List.set_cons_zero, List.set_cons_succ]
  refine Late.done (by kernel_rfl) ?_ _
  refine NoPanic.normal ?_
  have B5 := Lib.hid hHeld
  have O5 : Hid (w5.ownsRow w2.heap.size 5 1 (.slice D5 (16 + 24 * 0) c5) (16 + 24 * 0) (vals (headZ t.tn t.m (l.take 0)))) := Lib.hid (by
    rw [show headZ t.tn t.m (l.take 0) = numB t.tn ++ numB (t.m : Int) by simp [headZ, numsB, lineN], vals_app]
    exact ho5)
  clear hHeld ho5 hg5 O3 O34 ho3 ho4 hm3 hm4 Z4 b3 b4 b5
  go_upto_region 5 with fail
  go_loopw [3, 4] (fun b i wr => ∃ k : Nat, k ≤ t.m ∧ i = .int .i64 k ∧ ∃ D c, b = .slice D (16 + 24 * k) c ∧ Hid (wr.ownsRow w2.heap.size 5 1 (.slice D (16 + 24 * k) c) (16 + 24 * k) (vals (headZ t.tn t.m (l.take k)))) ∧ Hid (Below w2.heap.size w2 wr)) (fun _ i _ => t.m - (intOf i).toNat)
  case atStart => exact ⟨0, by omega, rfl, D5, c5, rfl, O5, B5⟩
  case round =>
    obtain ⟨k, hk, rfl, D, c, rfl, HO, HB⟩ := hrel
    clear O5 B5
    have cf := C1.out _ HB.out
    by_cases hlt : k < t.m
    · have hltI : (k : Int) < (t.m : Int) := by omega
      obtain ⟨gb, go, g, hA, hgb, HG, hgo, d0, d1, d2⟩ := (HT2.out.belowM HB.out hB2).at_ hlt
      rw [hA] at cf
      have HGO := Lib.hid hgo
      have HN : Hid (16 + 24 * (k + 1) = 16 + 24 * k + 24) := Lib.hid (by omega)
      obtain ⟨n, hn⟩ : ∃ n, 16 + 24 * k = n := ⟨_, rfl⟩
      have hn2 : n ≤ 112 := by omega
      rw [hn] at HO HN
      rw [hn]
      clear hgo hA hn
      go_wp2_with (first
        | (go_at_call 15; refine (refgrant_any g HGO.out _).mono ?_; intro e w6 hm6; obtain ⟨D6, c6, rfl, ho6, hb6, _, _⟩ := hm6.n (gN_num g); have O6 := Lib.hid (own_below HO.out hb6 (Nat.le_refl _)); have B6 := Lib.hid (HB.out.trans (hb6.mono HB.out.size)); have Z6 := Lib.hid (Made.bs ho6 (numsB_bytes _)); clear hm6 ho6 hb6 cf d0 d1 d2)
        | (at_builtin; refine wpList_app _ rfl (.tmp 23) (.tmp 29) 27 rfl w2.heap.size 5 1 1 Tryd.underlying27 u8_info (by omega) (.slice D n c) n (vals (headZ t.tn t.m (l.take k))) rfl O6.out D6 24 c6 (vals (numsB (gN g))) rfl Z6.out.lies.1 Z6.out.lies.2 (vals_one _) (by unfold maxLen; omega) (by omega) B6.out.size ?_; intro v7 w7 ho7 hg7; have B7 := Lib.hid (B6.out.grown hg7 B6.out.size (fun q hq => (O6.out.lt q hq).1)); have O7 := Lib.hid ho7; clear ho7 hg7))
      obtain ⟨D7, c7, rfl, _, _⟩ := own_shape O7.out
      have O8 : Hid (w7.ownsRow w2.heap.size 5 1 (.slice D7 (16 + 24 * (k + 1)) c7) (16 + 24 * (k + 1)) (vals (headZ t.tn t.m (l.take (k + 1))))) := Lib.hid (by
        rw [HN.out, take_snocG l k g HG.out, headZ_snoc, vals_app]
        exact O7.out)
      go_roundw
      case rel => exact ⟨k + 1, by omega, by go_num, D7, c7, by rw [HN.out], O8, B7⟩
      case measure => simp [intOf]; omega
    · have hkm : k = t.m := by omega
      have HE : Hid (l.take k = l) := Lib.hid (List.take_of_length_le (by rw [HLM.out, hkm]; exact Nat.le_refl _))
      have hge : ¬ (k : Int) < (t.m : Int) := by omega
      rw [HE.out] at HO
      have HZL : Hid ((headZ t.tn t.m l ++ t.T).length = 16 + 24 * k + 32) := Lib.hid (by rw [List.length_append, headZ_len, HL.out, HLM.out, hkm])
      obtain ⟨n, hn⟩ : ∃ n, 16 + 24 * k = n := ⟨_, rfl⟩
      have hn2 : n ≤ 112 := by omega
      rw [hn] at HO HZL
      rw [hn]
      have ZB := Lib.hid (ZT.out _ HB.out)
      clear hkm hn
      go_wp2_with (at_builtin; refine wpList_app _ rfl (.tmp 31) (.tmp 33) 27 rfl w2.heap.size 5 1 1 Tryd.underlying27 u8_info (by omega) (.slice D n c) n (vals (headZ t.tn t.m l)) rfl HO.out (some ⟨w.heap.size, 2, none⟩) 32 32 (vals t.T) rfl ZB.out.lies.1 ZB.out.lies.2 (vals_one _) (by unfold maxLen; omega) (by omega) HB.out.size ?_; intro v7 w7 ho7 hg7; have B7 := Lib.hid (HB.out.grown hg7 HB.out.size (fun q hq => (HO.out.lt q hq).1)); have O7 := Lib.hid ho7; clear ho7 hg7)
      go_ret
      rw [HP.out]
      refine made_of (n := n + 32) HZL.out ?_ (HB1.out.trans ((B2.out.trans (B7.out.mono B2.out.size)).mono hs1))
      rw [vals_app]
      exact own_base O7.out (Nat.le_trans hs1 B2.out.size)
end Go.Proofs.YtmeafjehcckibaaDoor
