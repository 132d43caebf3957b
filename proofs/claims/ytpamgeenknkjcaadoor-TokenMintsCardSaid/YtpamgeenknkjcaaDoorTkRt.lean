/- The document's own tag of a token. -/
import Derived.Test.YtpamgeenknkjcaaDoorTkRn
import Derived.Test.YtpamgeenknkjcaaDoorB7
import Derived.Test.YtpamgeenknkjcaaDoorB6
import Derived.Test.YtpamgeenknkjcaaDoorB3
namespace Go.Proofs.YtpamgeenknkjcaaDoor
open Go.ChangeShapes Go.WideShapes Go.ChangeAt Go.RowKit
set_option linter.unusedVariables false
set_option linter.unusedSimpArgs false
open Plain Sha
/-- An empty row of bytes of the call's own. -/
def sfOwn0 (base : Nat) : SF := ⟨fun v w => ∃ b, v = .slice (some ⟨b, 0, none⟩) 0 0 ∧ w.ownsRow base 5 1 v 0 (vals []), fun v w w' ⟨b, e, h⟩ hb => ⟨b, e, own_below h hb (Nat.le_refl _)⟩⟩
theorem sfOwn0_new (w : World) (base : Nat) (hb : base ≤ w.heap.size) : (sfOwn0 base).F (.slice (some ⟨w.heap.size, 0, none⟩) 0 0) (w.alloc (.cells #[] 5)) := ⟨_, rfl, own_nil8 w base hb⟩
/-- Bytes that stand. -/
def sfBs (n : Nat) (zs : List Int) : SF := ⟨fun v w => ∃ D c, v = .slice D n c ∧ Bs w w.heap.size D n zs, fun v w w' ⟨D, c, e, h⟩ hb => ⟨D, c, e, (h.below hb).more hb.size⟩⟩
theorem sfBs_of {n : Nat} {zs : List Int} {D : Option Addr} {c : Nat} {w : World} (h : Bs w w.heap.size D n zs) : (sfBs n zs).F (.slice D n c) w := ⟨D, c, rfl, h⟩
theorem fold_snoc (T : List Int) (l : List GrantZ) (k : Nat) (g : GrantZ) (h : l[k]? = some g) : (l.take (k + 1)).foldl nextZ T = nextZ ((l.take k).foldl nextZ T) g := by
  rw [take_snocG l k g h, List.foldl_append]; rfl
/-- A token's tag by its first grants. -/
def tkTo (ks : List Int) (tn : Int) (l : List GrantZ) (k : Nat) : List Int := tokTag ks tn (l.take k)
theorem tkTo_step (ks : List Int) (tn : Int) (l : List GrantZ) (k : Nat) (g : GrantZ) (h0 : 0 < k) (hg : l[k]? = some g) : tkTo ks tn l (k + 1) = nextZ (tkTo ks tn l k) g := by
  have hk : k < l.length := (List.getElem?_eq_some_iff.1 hg).1
  unfold tkTo
  rw [take_snocG l k g hg]
  cases hl : l.take k with
  | nil => rw [List.take_eq_nil_iff] at hl; rcases hl with rfl | rfl
           · omega
           · simp at hk
  | cons a r =>
    show (r ++ [g]).foldl nextZ _ = nextZ (r.foldl nextZ _) g
    rw [List.foldl_append]; rfl
theorem tkTo_one (ks : List Int) (tn : Int) (l : List GrantZ) (g : GrantZ) (hg : l[0]? = some g) : tkTo ks tn l 1 = hmacZ ks (numB tn ++ numsB (gN g)) := by
  unfold tkTo
  rw [take_snocG l 0 g hg]; rfl
theorem tkTo_len (ks : List Int) (tn : Int) (l : List GrantZ) (k : Nat) : (tkTo ks tn l k).length = 32 := tokTag_len _ _ _
theorem tkTo_bytes (ks : List Int) (tn : Int) (l : List GrantZ) (k : Nat) : IsBytes (tkTo ks tn l k) := tokTag_bytes _ _ _
set_option maxRecDepth 100000 in
set_option maxHeartbeats 8000000 in
theorem reftag_any {w : World} {B1 B2 n1 : Nat} {A1 : Option Addr} (c1 : Nat) {ks : List Int} {t : TokZ} {l : List GrantZ} (hk : Bs w B1 A1 n1 ks) (h : Tok w B2 t l) (hB1 : B1 ≤ w.heap.size) (hB2 : B2 ≤ w.heap.size) (hm : t.m ≤ 4096) (hn1 : n1 ≤ 10000) :
    Calls Tryd.prog 21 #[.slice A1 n1 c1, .agg (tv t).toArray] w (TagOut w (tokTag ks t.tn l)) := by
  obtain ⟨W0, hW0⟩ : ∃ W, W = (w.alloc (.cells (tv t).toArray 28)).alloc (.cells (vals (List.replicate 32 0)).toArray 26) := ⟨_, rfl⟩
  have b0 : Below w.heap.size w W0 := by rw [hW0]; exact ((Below.refl _ _).alloc (Nat.le_refl _) _).alloc (by simp) _
  have s0 : W0.heap.size = w.heap.size + 2 := by rw [hW0]; simp
  have x0 : Box W0 w.heap.size t := by rw [hW0]; exact (box_new w _ h.len _ _ rfl).grow ((Below.refl _ _).alloc (Nat.le_refl _) _)
  have v0 : W0.there (w.heap.size + 1) 0 32 := by
    have := (Row8.new (w.alloc (.cells (tv t).toArray 28)) (List.replicate 32 0) 26).there
    rw [show (w.alloc (.cells (tv t).toArray 28)).heap.size = w.heap.size + 1 by simp] at this
    rw [hW0]; simpa using this
  obtain ⟨W1, hW1⟩ : ∃ W, W = W0.alloc (.cells (vals (List.replicate 32 0)).toArray 26) := ⟨_, rfl⟩
  have b1 : Below W0.heap.size W0 W1 := by rw [hW1]; exact (Below.refl _ _).alloc (Nat.le_refl _) _
  have s1 : W1.heap.size = w.heap.size + 3 := by rw [hW1]; simp; omega
  have r1 : Row8 W1 (w.heap.size + 2) 0 (List.replicate 32 0) := by
    rw [hW1, ← s0]
    exact Row8.new W0 _ _
  have HX : Hid (∀ W, Below (w.heap.size + 2) W1 W → Box W w.heap.size t) := Lib.hid (fun W hW => (x0.grow b1).below hW (by omega))
  have HV : Hid (∀ W, Below (w.heap.size + 2) W1 W → W.there (w.heap.size + 1) 0 32) := Lib.hid (fun W hW => there_same (there_same v0 (b1.block _ (by omega))) (hW.block _ (by omega)))
  have HB1 : Hid (Below w.heap.size w W1) := Lib.hid (b0.trans (b1.mono b0.size))
  have HT := Lib.hid h
  have HKEY := Lib.hid hk
  have HTN := Lib.hid h.tn
  have HL : Hid (t.T.length = 32) := Lib.hid h.len
  have HR1 := Lib.hid r1
  have HW0 := Lib.hid hW0
  have HW1 := Lib.hid hW1
  have HLM := Lib.hid h.line.len
  obtain ⟨tn, htn⟩ : ∃ x, t.tn = x := ⟨_, rfl⟩
  obtain ⟨m, hmm⟩ : ∃ x, t.m = x := ⟨_, rfl⟩
  have HTT := Lib.hid htn
  have HMM := Lib.hid hmm
  rw [hmm] at hm
  rw [htn]
  clear hk h hW0 hW1 b0 b1 x0 v0 r1 htn hmm
  go_enter Tryd.func21, Tryd.ntmps21
  go_upto_region 1 with fail
  simp only [z32]
  rw [← HW0.out]
  have s0' := Lib.hid s0
  clear s0
  go_upto_region 2 with fail
  simp only [z32]
  rw [← HW1.out]
  rw [show W0.heap.size = w.heap.size + 2 from s0'.out]
  go_upto_region 3 with fail
  go_loopw [6] (fun i wr => ∃ k : Nat, k ≤ m ∧ i = .int .i64 k ∧ Hid (Row8 wr (w.heap.size + 2) 0 (tkTo ks tn l k)) ∧ Hid (Below (w.heap.size + 2) W1 wr) ∧ Hid (w.heap.size + 3 ≤ wr.heap.size)) (fun i _ => m - (intOf i).toNat)
  case atStart => exact ⟨0, by omega, rfl, HR1, Lib.hid (Below.refl _ _), Lib.hid (by omega)⟩
  case round =>
    obtain ⟨k, hk, rfl, HRk, HQk, HSk⟩ := hrel
    have hBw : Hid (Below w.heap.size w wr) := Lib.hid (HB1.out.trans (HQk.out.mono (by omega)))
    have cf := (HX.out _ HQk.out).c1
    rw [HMM.out] at cf
    by_cases hlt : k < m
    · have hltI : (k : Int) < (m : Int) := by omega
      have hgs := HT.out.line.belowM hBw.out hB2
      rw [HMM.out] at hgs
      obtain ⟨gb, go, g, hA, hgb, HG, hgo, d0, d1, d2⟩ := hgs.at_ hlt
      rw [hA] at cf
      have HGO := Lib.hid hgo
      have hgw : gb < wr.heap.size := Nat.lt_of_lt_of_le (Nat.lt_of_lt_of_le hgb hB2) hBw.out.size
      have hxl := (HX.out _ HQk.out).lt
      have C0 : Hid (∀ W, Below wr.heap.size wr W → W.cell? ⟨w.heap.size, 0, none⟩ = some (.int .i64 tn)) := Lib.hid (fun W hW => by rw [← HTT.out]; exact ((HX.out _ HQk.out).grow hW).c0)
      have C1 : Hid (∀ W, Below wr.heap.size wr W → W.cell? ⟨w.heap.size, 1, none⟩ = some (.slice (some ⟨gb, go, none⟩) m t.c)) := Lib.hid (fun W hW => by have := ((HX.out _ HQk.out).grow hW).c1; rwa [HMM.out, hA] at this)
      have CG : Hid (∀ W, Below wr.heap.size wr W → W.cell? ⟨gb, go + k * 3, none⟩ = some (.int .u8 g.r) ∧ W.cell? ⟨gb, go + k * 3 + 1, none⟩ = some (.int .i64 g.x) ∧ W.cell? ⟨gb, go + k * 3 + 2, none⟩ = some (.int .i64 g.s)) := Lib.hid (fun W hW =>
        ⟨(hW.cell (p := ⟨gb, go + k * 3, none⟩) hgw).trans d0, (hW.cell (p := ⟨gb, go + k * 3 + 1, none⟩) hgw).trans d1, (hW.cell (p := ⟨gb, go + k * 3 + 2, none⟩) hgw).trans d2⟩)
      have hvl : w.heap.size + 2 < wr.heap.size := by have := HSk.out; omega
      obtain ⟨N, hN⟩ : ∃ N, tkTo ks tn l (k + 1) = N := ⟨_, rfl⟩
      have HN := Lib.hid hN
      have LN : Hid (N.length = 32) := Lib.hid (by rw [← hN]; exact tkTo_len _ _ _ _)
      clear hgs d0 d1 d2 hgo hN hA
      by_cases hk0 : k = 0
      · subst hk0
        have HH : Hid (hmacZ ks (numB tn ++ numsB (gN g)) = N) := Lib.hid (by rw [← HN.out]; exact (tkTo_one ks tn l g HG.out).symm)
        rw [Nat.zero_mul, Nat.add_zero] at CG
        have hm0 : 0 < m := hlt
        go_upto_region 6 with fail
        clear cf
        refine Late.region (fun w' => Below wr.heap.size wr w') [13] (by kernel_rfl) (Below.refl _ _).drew (fun hHeld => ?_)
        refine Late.take (i := 0) (oi := ⟨some 16, Op.move (Operand.tmp 0), _, _, _, _⟩) (v := ?_) rfl (by kernel_rfl) (by kernel_rfl) (by kernel_rfl) (by kernel_rfl) (fun _ _ _ h => h) (Or.inl ⟨by rfl, fun w hSw => ?_⟩) (by assumption) ?_
        rotate_left
        · (have s1 := hSw; go_simp; try with_reducible rfl)
        try simp only [Act.put, List.setIfInBounds_toArray, List.set_cons_zero, List.set_cons_succ]
        refine Late.take (i := 2) (oi := ⟨some 18, Op.fieldAddr 28 (Operand.tmp 3) 0, _, _, _, _⟩) (v := ?_) rfl (by kernel_rfl) (by kernel_rfl) (by kernel_rfl) (by kernel_rfl) (fun _ _ _ h => h) (Or.inl ⟨by rfl, fun w hSw => ?_⟩) (by assumption) ?_
        rotate_left
        · (have s1 := hSw; go_simp; try with_reducible rfl)
        try simp only [Act.put, List.setIfInBounds_toArray, List.set_cons_zero, List.set_cons_succ]
        refine Late.take (i := 3) (oi := ⟨some 19, Op.load 3 (Operand.tmp 18), _, _, _, _⟩) (v := ?_) rfl (by kernel_rfl) (by kernel_rfl) (by kernel_rfl) (by kernel_rfl) (fun _ _ _ h => h) (Or.inl ⟨by rfl, fun w hSw => ?_⟩) (by assumption) ?_
        rotate_left
        · (have s1 := hSw; have c := C0.out _ hSw; go_simp; try with_reducible rfl)
        try simp only [Act.put, List.setIfInBounds_toArray, List.set_cons_zero, List.set_cons_succ]
        refine Late.take (i := 6) (oi := ⟨some 22, Op.fieldAddr 28 (Operand.tmp 3) 1, _, _, _, _⟩) (v := ?_) rfl (by kernel_rfl) (by kernel_rfl) (by kernel_rfl) (by kernel_rfl) (fun _ _ _ h => h) (Or.inl ⟨by rfl, fun w hSw => ?_⟩) (by assumption) ?_
        rotate_left
        · (have s1 := hSw; go_simp; try with_reducible rfl)
        try simp only [Act.put, List.setIfInBounds_toArray, List.set_cons_zero, List.set_cons_succ]
        refine Late.take (i := 7) (oi := ⟨some 23, Op.load 23 (Operand.tmp 22), _, _, _, _⟩) (v := ?_) rfl (by kernel_rfl) (by kernel_rfl) (by kernel_rfl) (by kernel_rfl) (fun _ _ _ h => h) (Or.inl ⟨by rfl, fun w hSw => ?_⟩) (by assumption) ?_
        rotate_left
        · (have s1 := hSw; have c := C1.out _ hSw; go_simp; try with_reducible rfl)
        try simp only [Act.put, List.setIfInBounds_toArray, List.set_cons_zero, List.set_cons_succ]
        refine Late.take (i := 8) (oi := ⟨some 24, Op.indexAddr 23 (Operand.tmp 23) (Operand.const (Value.int IntKind.i64 0)), _, _, _, _⟩) (v := ?_) rfl (by kernel_rfl) (by kernel_rfl) (by kernel_rfl) (by kernel_rfl) (fun _ _ _ h => h) (Or.inl ⟨by rfl, fun w hSw => ?_⟩) (by assumption) ?_
        rotate_left
        · (have s1 := hSw; go_simp; try with_reducible rfl)
        try simp only [Act.put, List.setIfInBounds_toArray, List.set_cons_zero, List.set_cons_succ]
        refine Late.take (i := 9) (oi := ⟨some 25, Op.load 33 (Operand.tmp 24), _, _, _, _⟩) (v := ?_) rfl (by kernel_rfl) (by kernel_rfl) (by kernel_rfl) (by kernel_rfl) (fun _ _ _ h => h) (Or.inl ⟨by rfl, fun w hSw => ?_⟩) (by assumption) ?_
        rotate_left
        · (have s1 := hSw; obtain ⟨q0, q1, q2⟩ := CG.out _ hSw; go_simp; try with_reducible rfl)
        try simp only [Act.put, List.setIfInBounds_toArray, List.set_cons_zero, List.set_cons_succ]
        refine Late.orders (fun i => match i with | 1 => sfOwn0 wr.heap.size | 4 => sfBs 8 (numB tn) | _ => sfTrue) [1, 4] [17, 20] (f0 := 5) (by kernel_rfl) rfl (by kernel_rfl) (by kernel_rfl) (by kernel_rfl) hHeld (fun w w' h hb => h.trans (hb.mono h.size)) ?_ ?_
        · refine ⟨?_, ?_, trivial⟩
          · refine Step.of (o := ⟨some 17, Op.buildSlice 22 0 #[], _, _, _, _⟩) rfl (fun a w K hS hA hD hK => ?_)
            rw [if_pos (by rfl)]
            go_simp
            exact hK.out _ _ ((Below.refl _ _).alloc (Nat.le_refl _) _) (sfOwn0_new w wr.heap.size hS.size)
          · refine Step.of (o := ⟨some 20, Op.call { callee := Callee.value (Operand.func 37), args := #[Operand.tmp 19], argTypes := #[3] }, _, _, _, _⟩) rfl (fun a w K hS hA hD hK => ?_)
            have e19 : a.tmps[19]?.getD undef = .int .i64 tn := hA.get 19 rfl
            rw [if_pos (by rfl)]
            go_simp
            refine (refnumber_any tn w).mono ?_
            intro e w4 hm4
            obtain ⟨D4, c4, rfl, ho4, b4, _, _⟩ := hm4.n (numB_len tn)
            exact hK.out _ _ b4 (sfBs_of (Made.bs ho4 (numB_bytes _)))
        intro a wq hS hA hV
        obtain ⟨rb, e17, ho1⟩ : (sfOwn0 wr.heap.size).F (a.tmps[17]?.getD undef) wq := hV 1 17 rfl (by kernel_rfl)
        obtain ⟨D4, c4, e20, hz4⟩ : (sfBs 8 (numB tn)).F (a.tmps[20]?.getD undef) wq := hV 4 20 rfl (by kernel_rfl)
        have eA := hA.eq
        simp only [List.foldl_cons, List.foldl_nil] at eA
        rw [e17, e20] at eA
        clear hHeld hA hV e17 e20
        subst eA
        have hHeld := hS
        try simp only [Act.put, List.setIfInBounds_toArray, List.set_cons_zero, List.set_cons_succ]
        refine Late.one (i := 5) (o := ⟨some 21, Op.call { callee := Callee.builtin Builtin.append, args := #[Operand.tmp 17, Operand.tmp 20], argTypes := #[22, 22] }, _, _, _, _⟩) (by kernel_rfl) rfl (fun K hK => ?_)
        refine step_app wq rfl (.tmp 17) (.tmp 20) 22 rfl wr.heap.size 5 1 1 Tryd.underlying22 u8_info (by omega) (.slice (some ⟨rb, 0, none⟩) 0 0) 0 (vals []) (by rfl) ho1 D4 8 c4 (vals (numB tn)) (by rfl) hz4.lies.1 hz4.lies.2 (vals_one _) (by unfold maxLen; omega) (by omega) hHeld.size ?_
        intro v5 w5 ho5 hg5 _
        have b5 := hHeld.grown hg5 hHeld.size (fun q hq => (ho1.lt q hq).1)
        obtain ⟨D5, c5, rfl, _, _⟩ := own_shape ho5
        refine hK.out _ _ (b5) (fun hHeld2 => ?_)
        clear hK K hHeld
        have hHeld := hHeld2
        clear hHeld2
        try simp only [Act.put, List.setIfInBounds_toArray, List.set_cons_zero, List.set_cons_succ]
        refine Late.one (i := 10) (o := ⟨some 26, Op.call { callee := Callee.value (Operand.func 36), args := #[Operand.tmp 25], argTypes := #[33] }, _, _, _, _⟩) (by kernel_rfl) rfl (fun K hK => ?_)
        go_simp
        refine (refgrant_any g HGO.out w5).mono ?_
        intro e w6 hm6
        obtain ⟨D6, c6, rfl, ho6, b6, _, _⟩ := hm6.n (gN_num g)
        have hz6 := Made.bs ho6 (numsB_bytes _)
        have ho56 := own_below ho5 b6 (Nat.le_refl _)
        refine hK.out _ _ (hHeld.trans (b6.mono hHeld.size)) (fun hHeld2 => ?_)
        clear hK K hHeld
        have hHeld := hHeld2
        clear hHeld2
        try simp only [Act.put, List.setIfInBounds_toArray, List.set_cons_zero, List.set_cons_succ]
        refine Late.one (i := 11) (o := ⟨some 27, Op.call { callee := Callee.builtin Builtin.append, args := #[Operand.tmp 21, Operand.tmp 26], argTypes := #[22, 22] }, _, _, _, _⟩) (by kernel_rfl) rfl (fun K hK => ?_)
        refine step_app w6 rfl (.tmp 21) (.tmp 26) 22 rfl wr.heap.size 5 1 1 Tryd.underlying22 u8_info (by omega) (.slice D5 (0 + 8) c5) (0 + 8) (vals [] ++ vals (numB tn)) (by rfl) ho56 D6 24 c6 (vals (numsB (gN g))) (by rfl) hz6.lies.1 hz6.lies.2 (vals_one _) (by unfold maxLen; omega) (by omega) hHeld.size ?_
        intro v7 w7 ho7 hg7 _
        have b7 := hHeld.grown hg7 hHeld.size (fun q hq => (ho56.lt q hq).1)
        obtain ⟨D7, c7, rfl, _, _⟩ := own_shape ho7
        refine hK.out _ _ (b7) (fun hHeld2 => ?_)
        clear hK K hHeld
        have hHeld := hHeld2
        clear hHeld2
        try simp only [Act.put, List.setIfInBounds_toArray, List.set_cons_zero, List.set_cons_succ]
        refine Late.one (i := 12) (o := ⟨some 28, Op.call { callee := Callee.value (Operand.func 35), args := #[Operand.tmp 16, Operand.tmp 27], argTypes := #[22, 22] }, _, _, _, _⟩) (by kernel_rfl) rfl (fun K hK => ?_)
        go_simp
        have hz7 : Bs w7 w7.heap.size D7 (0 + 8 + 24) (numB tn ++ numsB (gN g)) := bs_of_own (by rw [vals_app]; exact ho7) ((numB_bytes _).app (numsB_bytes _))
        have hbw := hBw.out.trans (hHeld.mono hBw.out.size)
        refine (refhsum_any c1 c7 (HKEY.out.belowM hbw hB1) hz7 (Nat.le_trans hB1 hbw.size) (Nat.le_refl _) hn1 (by omega)).mono ?_
        rw [HH.out]
        rintro e w8 ⟨rfl, b8⟩
        refine hK.out _ _ (hHeld.trans (b8.mono hHeld.size)) (fun hHeld2 => ?_)
        clear hK K hHeld
        have hHeld := hHeld2
        clear hHeld2
        try simp only [Act.put, List.setIfInBounds_toArray, List.set_cons_zero, List.set_cons_succ]
        refine Late.end_ (i := 13) (o := ⟨none, Op.store 26 (Operand.tmp 5) (Operand.tmp 28), _, _, _, _⟩) (by kernel_rfl) rfl rfl (fun K hK => ?_)
        have hl32 : (vals N).toArray.size = 32 := by rw [List.size_toArray, vals_len, LN.out]
        rw [if_pos (by rfl)]
        refine wp_store_mid 26 (.tmp 5) (.tmp 28) rfl (w.heap.size + 2) 0 (vals N).toArray rfl rfl (by rw [hl32]; have := there_same HRk.out.there (hHeld.block _ hvl); rwa [tkTo_len] at this) (tag_size N LN.out) (all_oneCell_toArray (vals_one N)) ?_
        refine hK.out _ _ ?_
        clear hK K
        try simp only [Act.put]
        refine Late.done (by kernel_rfl) ?_ _
        refine NoPanic.normal ?_
        have he : Hid (w8.setCells (w.heap.size + 2) 0 (vals N) = w8.setCells (w.heap.size + 2) 0 (vals N)) := Lib.hid rfl
        have R9 : Hid (Row8 (w8.setCells (w.heap.size + 2) 0 (vals N)) (w.heap.size + 2) 0 (tkTo ks tn l (0 + 1))) := Lib.hid (by
          have ht := there_same HRk.out.there (hHeld.block _ hvl)
          rw [tkTo_len] at ht
          rw [HN.out]
          exact ⟨World.rangeAt_setCells_same _ _ _ _ (by rw [vals_len, LN.out]; exact ht), by rw [LN.out]; exact World.there_setCells ht _ _ _⟩)
        have Q9 := Lib.hid (below_storeH (HQk.out.trans (hHeld.mono (by omega))) (Nat.le_refl _) he)
        have S9 : Hid (w.heap.size + 3 ≤ (w8.setCells (w.heap.size + 2) 0 (vals N)).heap.size) := Lib.hid (Nat.le_trans HSk.out (Nat.le_trans hHeld.size (size_storeH he)))
        generalize w8.setCells (w.heap.size + 2) 0 (vals N) = w9 at *
        clear he hHeld
        go_wp2
        go_roundw
        case rel => exact ⟨0 + 1, by omega, by go_num, R9, Q9, S9⟩
        case measure => simp [intOf]; omega
      · have hkI : ((k : Int) == 0) = false := by simp; omega
        have HH : Hid (hmacZ (tkTo ks tn l k) (numsB (gN g)) = N) := Lib.hid (by rw [← HN.out]; exact (tkTo_step ks tn l k g (by omega) HG.out).symm)
        obtain ⟨Tk, hTk⟩ : ∃ T, tkTo ks tn l k = T := ⟨_, rfl⟩
        have LTk : Hid (Tk.length = 32) := Lib.hid (by rw [← hTk]; exact tkTo_len _ _ _ _)
        have BTk : Hid (IsBytes Tk) := Lib.hid (by rw [← hTk]; exact tkTo_bytes _ _ _ _)
        have HTk := Lib.hid hTk
        rw [hTk] at HH
        have ZT : Hid (∀ W, Below wr.heap.size wr W → Bs W W.heap.size (some ⟨w.heap.size + 2, 0, none⟩) 32 Tk) := Lib.hid (fun W hW => by
          have := HRk.out.same (hW.block _ hvl)
          rw [hTk] at this
          exact this.bs (by rw [← hTk]; exact tkTo_bytes _ _ _ _) (Nat.lt_of_lt_of_le hvl hW.size) (by rw [← hTk]; exact (tkTo_len _ _ _ _).symm))
        clear hk0 hTk
        go_upto_region 7 with fail
        clear cf
        refine Late.region (fun w' => Below wr.heap.size wr w') [10] (by kernel_rfl) (Below.refl _ _).drew (fun hHeld => ?_)
        refine Late.take (i := 1) (oi := ⟨some 30, Op.slice 26 (Operand.tmp 5) none none none, _, _, _, _⟩) (v := ?_) rfl (by kernel_rfl) (by kernel_rfl) (by kernel_rfl) (by kernel_rfl) (fun _ _ _ h => h) (Or.inl ⟨by rfl, fun w hSw => ?_⟩) (by assumption) ?_
        rotate_left
        · (have s1 := hSw; go_simp; try with_reducible rfl)
        try simp only [Act.put, List.setIfInBounds_toArray, List.set_cons_zero, List.set_cons_succ]
        refine Late.take (i := 3) (oi := ⟨some 32, Op.fieldAddr 28 (Operand.tmp 3) 1, _, _, _, _⟩) (v := ?_) rfl (by kernel_rfl) (by kernel_rfl) (by kernel_rfl) (by kernel_rfl) (fun _ _ _ h => h) (Or.inl ⟨by rfl, fun w hSw => ?_⟩) (by assumption) ?_
        rotate_left
        · (have s1 := hSw; go_simp; try with_reducible rfl)
        try simp only [Act.put, List.setIfInBounds_toArray, List.set_cons_zero, List.set_cons_succ]
        refine Late.take (i := 4) (oi := ⟨some 33, Op.load 23 (Operand.tmp 32), _, _, _, _⟩) (v := ?_) rfl (by kernel_rfl) (by kernel_rfl) (by kernel_rfl) (by kernel_rfl) (fun _ _ _ h => h) (Or.inl ⟨by rfl, fun w hSw => ?_⟩) (by assumption) ?_
        rotate_left
        · (have s1 := hSw; have c := C1.out _ hSw; go_simp; try with_reducible rfl)
        try simp only [Act.put, List.setIfInBounds_toArray, List.set_cons_zero, List.set_cons_succ]
        refine Late.take (i := 5) (oi := ⟨some 34, Op.move (Operand.tmp 6), _, _, _, _⟩) (v := ?_) rfl (by kernel_rfl) (by kernel_rfl) (by kernel_rfl) (by kernel_rfl) (fun _ _ _ h => h) (Or.inl ⟨by rfl, fun w hSw => ?_⟩) (by assumption) ?_
        rotate_left
        · (have s1 := hSw; go_simp; try with_reducible rfl)
        try simp only [Act.put, List.setIfInBounds_toArray, List.set_cons_zero, List.set_cons_succ]
        refine Late.take (i := 6) (oi := ⟨some 35, Op.indexAddr 23 (Operand.tmp 33) (Operand.tmp 34), _, _, _, _⟩) (v := ?_) rfl (by kernel_rfl) (by kernel_rfl) (by kernel_rfl) (by kernel_rfl) (fun _ _ _ h => h) (Or.inl ⟨by rfl, fun w hSw => ?_⟩) (by assumption) ?_
        rotate_left
        · (have s1 := hSw; go_simp; try with_reducible rfl)
        try simp only [Act.put, List.setIfInBounds_toArray, List.set_cons_zero, List.set_cons_succ]
        refine Late.take (i := 7) (oi := ⟨some 36, Op.load 33 (Operand.tmp 35), _, _, _, _⟩) (v := ?_) rfl (by kernel_rfl) (by kernel_rfl) (by kernel_rfl) (by kernel_rfl) (fun _ _ _ h => h) (Or.inl ⟨by rfl, fun w hSw => ?_⟩) (by assumption) ?_
        rotate_left
        · (have s1 := hSw; obtain ⟨q0, q1, q2⟩ := CG.out _ hSw; go_simp; try with_reducible rfl)
        try simp only [Act.put, List.setIfInBounds_toArray, List.set_cons_zero, List.set_cons_succ]
        refine Late.one (i := 0) (o := ⟨some 29, Op.buildSlice 22 0 #[], _, _, _, _⟩) (by kernel_rfl) rfl (fun K hK => ?_)
        go_simp
        refine hK.out _ _ (hHeld.alloc hHeld.size _) (fun hHeld2 => ?_)
        clear hK K hHeld
        have hHeld := hHeld2
        clear hHeld2
        try simp only [Act.put, List.setIfInBounds_toArray, List.set_cons_zero, List.set_cons_succ]
        refine Late.one (i := 2) (o := ⟨some 31, Op.call { callee := Callee.builtin Builtin.append, args := #[Operand.tmp 29, Operand.tmp 30], argTypes := #[22, 22] }, _, _, _, _⟩) (by kernel_rfl) rfl (fun K hK => ?_)
        have ho1 := own_nil8 wr.drew wr.heap.size (Nat.le_refl _)
        refine step_app (wr.drew.alloc (.cells #[] 5)) rfl (.tmp 29) (.tmp 30) 22 rfl wr.heap.size 5 1 1 Tryd.underlying22 u8_info (by omega) (.slice (some ⟨wr.drew.heap.size, 0, none⟩) 0 0) 0 (vals []) (by rfl) ho1 (some ⟨w.heap.size + 2, 0, none⟩) 32 32 (vals Tk) (by rfl) (ZT.out _ hHeld).lies.1 (ZT.out _ hHeld).lies.2 (vals_one _) (by unfold maxLen; omega) (by omega) hHeld.size ?_
        intro v5 w5 ho5 hg5 _
        have b5 := hHeld.grown hg5 hHeld.size (fun q hq => (ho1.lt q hq).1)
        obtain ⟨D5, c5, rfl, _, _⟩ := own_shape ho5
        refine hK.out _ _ (b5) (fun hHeld2 => ?_)
        clear hK K hHeld
        have hHeld := hHeld2
        clear hHeld2
        try simp only [Act.put, List.setIfInBounds_toArray, List.set_cons_zero, List.set_cons_succ]
        refine Late.one (i := 8) (o := ⟨some 37, Op.call { callee := Callee.value (Operand.func 36), args := #[Operand.tmp 36], argTypes := #[33] }, _, _, _, _⟩) (by kernel_rfl) rfl (fun K hK => ?_)
        go_simp
        refine (refgrant_any g HGO.out w5).mono ?_
        intro e w6 hm6
        obtain ⟨D6, c6, rfl, ho6, b6, _, _⟩ := hm6.n (gN_num g)
        have hz6 := Made.bs ho6 (numsB_bytes _)
        have ho56 := own_below ho5 b6 (Nat.le_refl _)
        refine hK.out _ _ (hHeld.trans (b6.mono hHeld.size)) (fun hHeld2 => ?_)
        clear hK K hHeld
        have hHeld := hHeld2
        clear hHeld2
        try simp only [Act.put, List.setIfInBounds_toArray, List.set_cons_zero, List.set_cons_succ]
        refine Late.one (i := 9) (o := ⟨some 38, Op.call { callee := Callee.value (Operand.func 35), args := #[Operand.tmp 31, Operand.tmp 37], argTypes := #[22, 22] }, _, _, _, _⟩) (by kernel_rfl) rfl (fun K hK => ?_)
        go_simp
        have hz7 : Bs w6 w6.heap.size D5 (0 + 32) Tk := bs_of_own ho56 BTk.out
        refine (refhsum_any c5 c6 hz7 hz6 (Nat.le_refl _) (Nat.le_refl _) (by omega) (by omega)).mono ?_
        rw [HH.out]
        rintro e w8 ⟨rfl, b8⟩
        refine hK.out _ _ (hHeld.trans (b8.mono hHeld.size)) (fun hHeld2 => ?_)
        clear hK K hHeld
        have hHeld := hHeld2
        clear hHeld2
        try simp only [Act.put, List.setIfInBounds_toArray, List.set_cons_zero, List.set_cons_succ]
        refine Late.end_ (i := 10) (o := ⟨none, Op.store 26 (Operand.tmp 5) (Operand.tmp 38), _, _, _, _⟩) (by kernel_rfl) rfl rfl (fun K hK => ?_)
        have hl32 : (vals N).toArray.size = 32 := by rw [List.size_toArray, vals_len, LN.out]
        rw [if_pos (by rfl)]
        refine wp_store_mid 26 (.tmp 5) (.tmp 38) rfl (w.heap.size + 2) 0 (vals N).toArray rfl rfl (by rw [hl32]; have := there_same HRk.out.there (hHeld.block _ hvl); rwa [tkTo_len] at this) (tag_size N LN.out) (all_oneCell_toArray (vals_one N)) ?_
        refine hK.out _ _ ?_
        clear hK K
        try simp only [Act.put]
        refine Late.done (by kernel_rfl) ?_ _
        refine NoPanic.normal ?_
        have he : Hid (w8.setCells (w.heap.size + 2) 0 (vals N) = w8.setCells (w.heap.size + 2) 0 (vals N)) := Lib.hid rfl
        have R9 : Hid (Row8 (w8.setCells (w.heap.size + 2) 0 (vals N)) (w.heap.size + 2) 0 (tkTo ks tn l (k + 1))) := Lib.hid (by
          have ht := there_same HRk.out.there (hHeld.block _ hvl)
          rw [tkTo_len] at ht
          rw [HN.out]
          exact ⟨World.rangeAt_setCells_same _ _ _ _ (by rw [vals_len, LN.out]; exact ht), by rw [LN.out]; exact World.there_setCells ht _ _ _⟩)
        have Q9 := Lib.hid (below_storeH (HQk.out.trans (hHeld.mono (by omega))) (Nat.le_refl _) he)
        have S9 : Hid (w.heap.size + 3 ≤ (w8.setCells (w.heap.size + 2) 0 (vals N)).heap.size) := Lib.hid (Nat.le_trans HSk.out (Nat.le_trans hHeld.size (size_storeH he)))
        generalize w8.setCells (w.heap.size + 2) 0 (vals N) = w9 at *
        clear he hHeld
        go_wp2
        go_roundw
        case rel => exact ⟨k + 1, by omega, by go_num, R9, Q9, S9⟩
        case measure => simp [intOf]; omega
    · have hkm : k = m := by omega
      have HE : Hid (tkTo ks tn l k = tokTag ks tn l) := Lib.hid (by unfold tkTo; rw [List.take_of_length_le (by rw [HLM.out, HMM.out, hkm]; exact Nat.le_refl _)])
      have hge : ¬ (k : Int) < (m : Int) := by omega
      obtain ⟨T, hT⟩ : ∃ T, tkTo ks tn l k = T := ⟨_, rfl⟩
      have HT2 : Hid (tokTag ks tn l = T) := Lib.hid (by rw [← HE.out]; exact hT)
      have LT : Hid (T.length = 32) := Lib.hid (by rw [← hT]; exact tkTo_len _ _ _ _)
      rw [hT] at HRk
      have L32 : Hid ((vals T).toArray.size = 32) := Lib.hid (by rw [List.size_toArray, vals_len, LT.out])
      have VT := Lib.hid (HV.out _ HQk.out)
      have G1 := LT
      have G2 := L32
      clear hkm HE hT
      go_wp2_with (first
        | (have g := G1; clear g; refine wpList_load_mid (op := ⟨some 39, .load 26 (.tmp 5), _, _, _, _⟩) rfl 26 (.tmp 5) rfl (w.heap.size + 2) 0 rfl (vals T) _ (HRk.out.range) Tryd.underlying26 rfl (tag_size T LT.out) ?_; clear G1)
        | (have g := G2; clear g; refine wpList_store_as (op := ⟨none, .store 26 (.tmp 4) (.tmp 39), _, _, _, _⟩) rfl 26 (.tmp 4) (.tmp 39) rfl (w.heap.size + 1) 0 (vals T).toArray rfl rfl (by rw [L32.out]; exact VT.out) (tag_size T LT.out) (all_oneCell_toArray (vals_one T)) ?_; intro w9 hw9; clear G2))
      have R9 : w9.rangeAt (w.heap.size + 1) 0 (vals T) := by rw [hw9.out]; exact World.rangeAt_setCells_same _ _ _ _ (by rw [vals_len, LT.out]; exact VT.out)
      have q9 : Below w.heap.size w w9 := by rw [hw9.out]; exact below_setCells (by omega) _ _ _ hBw.out
      rw [HT2.out]
      exact bodyPost_ret (v := .agg (vals T).toArray) (results_mid (p := 4) (ty := 26) rfl _ _ (w.heap.size + 1) 0 (vals T) _ rfl R9 Tryd.underlying26 rfl (tag_size T LT.out)) rfl ⟨rfl, q9⟩
end Go.Proofs.YtpamgeenknkjcaaDoor
