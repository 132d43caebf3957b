/- The document's own Add. -/
import Derived.Test.YtkaojhcmdichfaaDoorAuRH
import Derived.Test.YtkaojhcmdichfaaDoorB5
namespace Go.Proofs.YtkaojhcmdichfaaDoor
open Go.ChangeShapes Go.WideShapes Go.ChangeAt Go.RowKit
set_option linter.unusedVariables false
set_option linter.unusedSimpArgs false
open Plain Sha Au
theorem ev_tmpA {a : Act} {n : Nat} {v : Value} (h : a.tmps[n]?.getD undef = v) : a.eval (.tmp n) = v := by
  show a.tmps.getD n undef = v
  rw [Array.getD_eq_getD_getElem?]; exact h
def sfNilL (base : Nat) : SF := ⟨fun v w => ∃ b, v = .slice (some ⟨b, 0, none⟩) 0 0 ∧ w.ownsRow base 26 71 (.slice (some ⟨b, 0, none⟩) 0 0) 0 (lvs []), fun v w w' ⟨b, e, h⟩ hb => ⟨b, e, own_below h hb (Nat.le_refl _)⟩⟩
def sfRowL (base m : Nat) (l : List LinkZ) : SF := ⟨fun v w => ∃ D d, v = .slice D m d ∧ w.ownsRow base 26 71 (.slice D m d) m (lvs l), fun v w w' ⟨D, d, e, h⟩ hb => ⟨D, d, e, own_below h hb (Nat.le_refl _)⟩⟩
def sfOneL (l : List LinkZ) : SF := ⟨fun v w => ∃ D d, v = .slice D 1 d ∧ Lks w w.heap.size D 1 l, fun v w w' ⟨D, d, e, h⟩ hb => ⟨D, d, e, h.grow hb⟩⟩
set_option maxRecDepth 100000 in
set_option maxHeartbeats 8000000 in
theorem refadd_any {w : World} {B n : Nat} {A : Option Addr} (c0 : Nat) {l : List LinkZ} (h : Lks w B A n l) (hB : B ≤ w.heap.size) (hn : n ≤ 10000) (st op tn a b c : Int) (ha : ArgsOk st op tn a b c) :
    Calls Tryd.prog 7 #[.slice A n c0, .int .i64 st, .int .u8 op, .int .i64 tn, .int .i64 a, .int .i64 b, .int .i64 c] w (MadeL w (addZ l st op tn a b c) (n + 1)) := by
  have L := h.len
  obtain ⟨X, hX⟩ : ∃ X, bareL l st op tn a b c = X := ⟨_, rfl⟩
  obtain ⟨Y, hY⟩ : ∃ Y, nextL l st op tn a b c = Y := ⟨_, rfl⟩
  obtain ⟨X0, hX0⟩ : ∃ X : LinkZ, (⟨(n : Int) + 1, st, op, tn, a, b, c, zT, zT, rfl, rfl⟩ : LinkZ) = X := ⟨_, rfl⟩
  obtain ⟨TA, hTA⟩ : ∃ T, headZ l = T := ⟨_, rfl⟩
  have LTA : Hid (TA.length = 32) := Lib.hid (by rw [← hTA]; exact headZ_len l)
  have XOK : Hid (LOk X) := Lib.hid (by rw [← hX]; exact bare_ok h.ok (by omega) ha)
  have YOK : Hid (LOk Y) := Lib.hid (by rw [← hY]; exact next_ok h.ok (by omega) ha)
  have HADD : Hid (addZ l st op tn a b c = l ++ [Y]) := Lib.hid (by rw [← hY]; rfl)
  have HB0 : Hid (∀ W, (Instr.build 26 #[(0, .int .i64 ((n : Int) + 1)), (1, .int .i64 st), (2, .int .u8 op), (3, .int .i64 tn), (4, .int .i64 a), (5, .int .i64 b), (6, .int .i64 c)]).run Tryd.prog W = .ok (.agg (lc X0).toArray) W) := Lib.hid (fun W => by
    rw [← hX0]
    exact build_zero _ _ _ _ _ _ _ W)
  have HST : Hid (∀ (w' : World) (bb : Nat), LBox w' bb X → LBox (w'.setCells bb 39 (vals (hashZ X))) bb Y) := Lib.hid (fun w' bb hb => by
    have := hb.setS (hashZ_len X)
    subst hX hY
    exact this)
  have HSH : Hid (∀ (w' : World) (bb : Nat), LBox w' bb X0 → LBox (w'.setCells bb 7 (vals TA)) bb X) := Lib.hid (fun w' bb hb => by
    have := hb.setH (T := TA) LTA.out
    subst hX0
    rw [← hX]
    unfold bareL
    simp only [hTA, L]
    exact this)
  have HS0 : Hid (n = 0 → X0 = X) := Lib.hid (fun h0 => by
    have hl : l = [] := List.eq_nil_of_length_eq_zero (by omega)
    rw [← hX0, ← hX, h0, hl]; rfl)
  have h1 : IntKind.i64.wrap ((n : Int) + 1) = (n : Int) + 1 := by rw [IntKind.wrap_i64]; omega
  have HLW : Hid (∀ W, Below w.heap.size w W → Lks W W.heap.size A n l) := Lib.hid (fun W hW => ((h.below hW hB).more (Nat.le_trans hB hW.size)))
  have HPREV : Hid (∀ k, n = k + 1 → ∃ b off, A = some ⟨b, off, none⟩ ∧ b < w.heap.size ∧ w.rangeAt b (off + k * 71 + 39) (vals TA)) := Lib.hid (fun k hk => by
    obtain ⟨b2, off2, g2, hA2, hb2, HG2, _, hr2⟩ := h.at_ (k := k) (by omega)
    refine ⟨b2, off2, hA2, by omega, ?_⟩
    rw [← hTA, headZ_last l g2 (by rw [L, hk, Nat.add_sub_cancel]; exact HG2.out)]
    exact range_S hr2)
  have LH := Lib.hid (hashZ_len X)
  have zk := zLk
  have zs := zLc_size
  have zn := zLc_ne
  have TH : Hid ((w.alloc (.cells zLc 26)).there w.heap.size 0 (lc X0).toArray.size) := Lib.hid (lthere_new w X0 _ _ rfl)
  rw [HADD.out]
  clear hX hY hX0 hTA h ha L
  go_enter Tryd.func7, Tryd.ntmps7
  have G1 := XOK
  have G0 := XOK
  go_upto_if 28 with (first
    | (have g := G0; clear g; refine wpList_exec (op := ⟨some 25, .build 26 #[(0, .tmp 18), (1, .tmp 19), (2, .tmp 20), (3, .tmp 21), (4, .tmp 22), (5, .tmp 23), (6, .tmp 24)], _, _, _, _⟩) rfl (.agg (lc X0).toArray) (by have hb9 := HB0.out w; simp [execOp, Act.eval, hb9]) ?_; clear G0)
    | (have g := G1; clear g; refine wpList_store_as (op := ⟨none, .store 26 (.tmp 15) (.tmp 25), _, _, _, _⟩) rfl 26 (.tmp 15) (.tmp 25) rfl (w.heap.size) 0 (lc X0).toArray rfl rfl (TH.out) (lk_sizeA X0) (lk_one X0) ?_; intro w2 hw2; clear G1))
  obtain ⟨x2, b2, s2⟩ := lbox_stored rfl hw2
  have X2 := Lib.hid x2
  have B2 := Lib.hid b2
  have S2 := Lib.hid s2
  clear hw2 x2 b2 s2 HB0 zk zs zn
  go_cut [15] from 16 (fun v wx => v = .pointer (some ⟨w.heap.size, 0, none⟩) ∧ Hid (LBox wx w.heap.size X) ∧ Hid (Below w.heap.size w wx))
  case rest =>
    obtain ⟨rfl, X3, B3⟩ := hcut
    have G1 := XOK
    have G2 := XOK
    clear X2 B2 S2 HPREV HSH HS0
    go_upto_region 5 with (first
      | (have g := G1; clear g; refine wpList_load_mid (op := ⟨some 37, .load 26 (.tmp 15), _, _, _, _⟩) rfl 26 (.tmp 15) rfl (w.heap.size) (0) rfl (lc X) _ (X3.out.range) Tryd.underlying26 rfl (lk_size X) ?_; clear G1)
      | (go_at_call 10; refine (refhash_any XOK.out).mono ?_; rintro e w3 ⟨rfl, hb⟩; have B3' := Lib.hid (B3.out.trans (hb.mono B3.out.size)); have X3' := Lib.hid (X3.out.grow hb); clear hb)
      | (have g := G2; clear g; refine wpList_store_as (op := ⟨none, .store 24 (.tmp 39) (.tmp 38), _, _, _, _⟩) rfl 24 (.tmp 39) (.tmp 38) rfl (w.heap.size) 39 (vals (hashZ X)).toArray rfl rfl (X3'.out.thereS LH.out) (tag_size (hashZ X) LH.out) (all_oneCell_toArray (vals_one (hashZ X))) ?_; intro w4 hw4; clear G2))
    have X4 : Hid (LBox w4 w.heap.size Y) := Lib.hid (by rw [hw4.out]; exact HST.out _ _ X3'.out)
    have B4 := Lib.hid (below_storeA B3'.out (Nat.le_refl _) hw4)
    have HX4 : Hid (∀ W, Below w4.heap.size w4 W → LBox W w.heap.size Y) := Lib.hid (fun W hW => X4.out.grow hW)
    have HLL : Hid (∀ W, Below w4.heap.size w4 W → Lks W W.heap.size A n l) := Lib.hid (fun W hW => HLW.out W (B4.out.trans (hW.mono B4.out.size)))
    clear hw4 X3 X3' B3 B3' HST HLW X4
    refine Late.region (fun w' => Below w4.heap.size w4 w') [] (by kernel_rfl) (Below.refl _ _).drew (fun hHeld => ?_)
    refine Late.take (i := 1) (oi := ⟨some 41, Op.move (Operand.tmp 0), _, _, _, _⟩) (v := ?_) rfl (by kernel_rfl) (by kernel_rfl) (by kernel_rfl) (by kernel_rfl) (fun _ _ _ h => h) (Or.inl ⟨by rfl, fun w hSw => ?_⟩) (by assumption) ?_
    rotate_left
    · (have s1 := hSw; go_simp; try with_reducible rfl)
    try simp only [Act.put, List.setIfInBounds_toArray, List.set_cons_zero, List.set_cons_succ]
    refine Late.take (i := 3) (oi := ⟨some 43, Op.load 26 (Operand.tmp 15), _, _, _, _⟩) (v := _) rfl (by kernel_rfl) (by kernel_rfl) (by kernel_rfl) (by kernel_rfl) (fun _ _ _ h => h) (yieldsIf_load_mid (by rfl) _ _ rfl _ _ rfl (lc Y) _ (fun W hW => (HX4.out W hW).range) Tryd.underlying26 rfl (lk_size Y)) (by assumption) ?_
    try simp only [Act.put, List.setIfInBounds_toArray, List.set_cons_zero, List.set_cons_succ]
    refine Late.orders (fun i => match i with | 0 => sfNilL w4.heap.size | 2 => sfRowL w4.heap.size n l | 4 => sfOneL [Y] | _ => sfTrue) [0, 2, 4] [40, 42, 44] (f0 := 2) (by kernel_rfl) rfl (by kernel_rfl) (by kernel_rfl) (by kernel_rfl) hHeld (fun w w' h hb => h.trans (hb.mono h.size)) ?_ ?_
    · refine ⟨?_, ?_, ?_, trivial⟩
      · refine Step.of (o := ⟨some 40, Op.buildSlice 22 0 #[], _, _, _, _⟩) rfl (fun a w K hS hA hD hK => ?_)
        rw [if_pos (by rfl)]
        go_simp
        exact hK.out _ _ ((Below.refl _ _).alloc (Nat.le_refl _) _) ⟨_, rfl, own_noneA w w4.heap.size hS.size⟩
      · refine Step.of (o := ⟨some 42, Op.call { callee := Callee.builtin Builtin.append, args := #[Operand.tmp 40, Operand.tmp 41], argTypes := #[22, 22] }, _, _, _, _⟩) rfl (fun a w K hS hA hD hK => ?_)
        obtain ⟨b0, e40, ho0⟩ : (sfNilL w4.heap.size).F (a.tmps[40]?.getD undef) w := hD 0 40 rfl (by kernel_rfl) (by kernel_rfl)
        have e41 : a.tmps[41]?.getD undef = .slice A n c0 := hA.get 41 rfl
        refine step_newL rfl (.tmp 40) (.tmp 41) rfl (ev_tmpA e40) ho0 (ev_tmpA e41) (HLL.out w hS) (by omega) hS.size ?_
        intro D d w' ho hb
        exact hK.out _ _ hb ⟨D, d, rfl, ho⟩
      · refine Step.of (o := ⟨some 44, Op.buildSlice 22 1 #[(0, Operand.tmp 43)], _, _, _, _⟩) rfl (fun a w K hS hA hD hK => ?_)
        have e43 : a.tmps[43]?.getD undef = .agg (lc Y).toArray := hA.get 43 rfl
        rw [if_pos (by rfl)]
        refine wp_slice1 (.tmp 43) rfl Y (ev_tmpA e43) ?_
        exact hK.out _ _ ((Below.refl _ _).alloc (Nat.le_refl _) _) ⟨_, _, rfl, (lks_one w Y YOK.out _ _ rfl).more (by simp)⟩
    intro a wq hS hA hV
    obtain ⟨D, d, e42, ho⟩ : (sfRowL w4.heap.size n l).F (a.tmps[42]?.getD undef) wq := hV 2 42 rfl (by kernel_rfl)
    obtain ⟨D2, d2, e44, hl2⟩ : (sfOneL [Y]).F (a.tmps[44]?.getD undef) wq := hV 4 44 rfl (by kernel_rfl)
    have eA := hA.eq
    simp only [List.foldl_cons, List.foldl_nil] at eA
    rw [e42, e44] at eA
    generalize a.tmps[40]?.getD undef = v40 at eA
    clear hHeld hA hV e42 e44
    subst eA
    have hHeld := hS
    try simp only [Act.put, List.setIfInBounds_toArray, List.set_cons_zero, List.set_cons_succ]
    refine Late.one (i := 5) (o := ⟨some 45, Op.call { callee := Callee.builtin Builtin.append, args := #[Operand.tmp 42, Operand.tmp 44], argTypes := #[22, 22] }, _, _, _, _⟩) (by kernel_rfl) rfl (fun K hK => ?_)
    refine step_app wq rfl (.tmp 42) (.tmp 44) 22 rfl w4.heap.size 26 71 120 Tryd.underlying22 link_info (by omega) (.slice D n d) n (lvs l) (by rfl) ho D2 1 d2 (lvs [Y]) (by rfl) hl2.lies.1 hl2.lies.2 (lvs_one _) (by unfold maxLen; omega) (by omega) hHeld.size ?_
    intro v5 w5 ho5 hg5 _
    have b5 := hHeld.grown hg5 hHeld.size (fun q hq => (ho.lt q hq).1)
    obtain ⟨D5, c5, rfl, hnd, hdm⟩ := own_shapeA ho5
    refine hK.out _ _ (b5) (fun hHeld2 => ?_)
    clear hK K hHeld
    have hHeld := hHeld2
    clear hHeld2
    try simp only [Act.put, List.setIfInBounds_toArray, List.set_cons_zero, List.set_cons_succ]
    refine Late.take (i := 6) (oi := ⟨some 14, Op.assign (Operand.tmp 45), _, _, _, _⟩) (v := ?_) rfl (by kernel_rfl) (by kernel_rfl) (by kernel_rfl) (by kernel_rfl) (fun _ _ _ h => h) (Or.inl ⟨by rfl, fun w hSw => ?_⟩) (by assumption) ?_
    rotate_left
    · (have s1 := hSw; go_simp; try with_reducible rfl)
    try simp only [Act.put, List.setIfInBounds_toArray, List.set_cons_zero, List.set_cons_succ]
    refine Late.done (by kernel_rfl) ?_ _
    refine NoPanic.normal ?_
    have HO := Lib.hid (own_base ho5 B4.out.size)
    have HBB := Lib.hid (B4.out.trans (hHeld.mono B4.out.size))
    have HE : Hid (lvs (l ++ [Y]) = lvs l ++ lvs [Y]) := Lib.hid (lvs_app _ _)
    clear hHeld ho5
    go_wp2
    go_ret
    exact ⟨D5, c5, rfl, by rw [HE.out]; exact HO.out, HBB.out, hnd, hdm⟩
  case first =>
    rcases Nat.eq_zero_or_pos n with h0 | h0
    · have hXX := HS0.out h0
      subst h0
      go_wp2_with fail
      go_meet
      exact ⟨rfl, by rw [← hXX]; exact X2, B2⟩
    · obtain ⟨k, rfl⟩ : ∃ k, n = k + 1 := ⟨n - 1, by omega⟩
      obtain ⟨b2, off2, rfl, hb2, hr2⟩ := HPREV.out k rfl
      have HR := Lib.hid (rangeAt_same hr2 (B2.out.block _ hb2))
      have e1 : ((k + 1 : Nat) : Int) - 1 = (k : Int) := by omega
      have e2 : (0 : Int) < ((k + 1 : Nat) : Int) := by omega
      have G1 := LTA
      have G2 := LTA
      clear hr2 HLW HPREV HS0
      go_wp2_with (first
      | (have g := G1; clear g; refine wpList_load_mid (op := ⟨some 35, .load 24 (.tmp 34), _, _, _, _⟩) rfl 24 (.tmp 34) rfl (b2) (off2 + k * 71 + 39) rfl (vals TA) _ (HR.out) Tryd.underlying24 rfl (tag_size TA LTA.out) ?_; clear G1)
      | (have g := G2; clear g; refine wpList_store_as (op := ⟨none, .store 24 (.tmp 36) (.tmp 35), _, _, _, _⟩) rfl 24 (.tmp 36) (.tmp 35) rfl (w.heap.size) 7 (vals TA).toArray rfl rfl (X2.out.thereH LTA.out) (tag_size TA LTA.out) (all_oneCell_toArray (vals_one TA)) ?_; intro w3 hw3; clear G2))
      have X3 : LBox w3 w.heap.size X := by rw [hw3.out]; exact HSH.out _ _ X2.out
      have b3 : Below w.heap.size w w3 := below_storeA B2.out (Nat.le_refl _) hw3
      go_meet
      exact ⟨rfl, X3, b3⟩
end Go.Proofs.YtkaojhcmdichfaaDoor
