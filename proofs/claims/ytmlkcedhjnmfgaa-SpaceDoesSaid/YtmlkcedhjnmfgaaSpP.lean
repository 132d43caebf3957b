/- The law's put: pairs put one behind the other. -/
import Derived.Test.YtmlkcedhjnmfgaaSpL
import Derived.Test.YtmlkcedhjnmfgaaOrd2
namespace Go.Proofs.Ytmlkcedhjnmfgaa
open Go.ChangeShapes Go.WideShapes Go.ChangeAt Go.RowKit
set_option linter.unusedVariables false
set_option linter.unusedSimpArgs false
open Plain Sp
def Sp.putsR : List ByteArray → SpZ × Int → SpZ × Int
  | k :: v :: l, r => if r.2 = 0 then putsR l (putR r.1 k v) else r
  | _, r => r
theorem may_fit {K Y : Int} {l : List PairZ} {r : SpZ × Int} (h1 : limB K Y = true) (h2 : riseP ⟨#[]⟩ l = true) (hr : fitR ⟨K, Y, l⟩ = r) (h0 : r.2 = 0) : mayB r.1 = true := by
  subst hr
  unfold fitR at h0 ⊢
  split at h0
  · next h => rw [if_pos h]; exact may_of h1 h2 h
  · simp at h0
theorem may_put {s : SpZ} {k v : ByteArray} {r : SpZ × Int} (hr : putR s k v = r) (h0 : r.2 = 0) : mayB r.1 = true := by
  unfold putR at hr
  split at hr
  · next h =>
    simp only [Bool.and_eq_true] at h
    exact may_fit (may_parts h.1.1).1 (ins_rise (may_parts h.1.1).2.1 h.1.2 h.2) hr h0
  · subst hr; simp at h0
theorem may_new {K Y : Int} {r : SpZ × Int} (hr : newR K Y = r) (h0 : r.2 = 0) : mayB r.1 = true := by
  rw [← new_size] at hr
  unfold sizeR at hr
  split at hr
  · next h =>
    simp only [Bool.and_eq_true] at h
    exact may_fit h.2 rfl hr h0
  · subst hr; simp at h0
theorem puts_step {zs : List ByteArray} {j : Nat} {k v : ByteArray} (r : SpZ × Int) (h1 : zs[j]? = some k) (h2 : zs[j + 1]? = some v) : putsR (zs.drop j) r = if r.2 = 0 then putsR (zs.drop (j + 2)) (putR r.1 k v) else r := by
  obtain ⟨g1, rfl⟩ := List.getElem?_eq_some_iff.1 h1
  obtain ⟨g2, rfl⟩ := List.getElem?_eq_some_iff.1 h2
  rw [List.drop_eq_getElem_cons g1, List.drop_eq_getElem_cons g2]
  rfl
theorem puts_end {zs : List ByteArray} {j : Nat} (r : SpZ × Int) (h : zs.length ≤ j + 1) : putsR (zs.drop j) r = r := by
  have hl : (zs.drop j).length ≤ 1 := by simp; omega
  match zs.drop j, hl with
  | [], _ => rfl
  | [x], _ => rfl
set_option maxRecDepth 100000 in
set_option maxHeartbeats 1000000 in
theorem lput_any {w : World} {B N : Nat} {A : Option Addr} {zs : List ByteArray} (c : Nat) (q : SpZ × Int) (h : Sr w B A N zs) (hB : B ≤ w.heap.size) (hN : N ≤ 20) (hq : putsR zs (newR 2 10) = q) :
    Calls Try.prog 42 #[.slice A N c] w (GivesS w q) := by
  obtain ⟨W0, hW0⟩ : ∃ W, W = w.alloc (.cells #[.int .i64 0, .int .i64 0, .slice none 0 0] 28) := ⟨_, rfl⟩
  have b0 := Lib.hid (show Below w.heap.size w W0 by rw [hW0]; exact below_one _ _)
  have V0 := Lib.hid (show SVar W0 w.heap.size by rw [hW0]; exact svar_new _ _ _ _ _ _ rfl)
  have z0 : W0.heap.size = w.heap.size + 1 := by rw [hW0]; simp
  have HW0 := Lib.hid hW0
  have HS := Lib.hid sp_size
  have HZ := Lib.hid (h.below b0.out hB)
  have HQ := Lib.hid hq
  have NM := Lib.hid (new_any (w := W0) 2 10 _ rfl)
  clear hW0 h hq
  go_enter Try.func42, Try.ntmps42
  go_upto_region 1 with fail
  rw [← HW0.out]
  go_wp2_with fail
  refine NM.out.mono ?_
  rintro e w5 ⟨n0, d0, D0, rfl, hn0, hb0⟩
  have hn00 : n0 = 0 := by
    have := hn0.len
    unfold newR at this
    split at this <;> simpa [sp0] using this.symm
  subst hn00
  have hl0 : (newR 2 10).1.l = [] := List.eq_nil_of_length_eq_zero hn0.len
  obtain ⟨g, hg⟩ : ∃ g, w5.heap.size = g := ⟨_, rfl⟩
  obtain ⟨W1, hW1⟩ : ∃ W, W = w5.alloc (.cells #[.int .i64 (newR 2 10).1.K, .int .i64 (newR 2 10).1.Y, .slice D0 0 d0] 28) := ⟨_, rfl⟩
  have z1 : W1.heap.size = g + 1 := by rw [hW1, ← hg]; simp
  have X1 := Lib.hid (show SBox W1 g (newR 2 10).1.K (newR 2 10).1.Y D0 0 d0 by rw [hW1]; exact sbox_new _ _ _ _ _ _ _ _ hg)
  have V1 := Lib.hid (show SVar W1 g by rw [hW1]; exact svar_new _ _ _ _ _ _ hg)
  have b5 : Below W0.heap.size W0 W1 := by rw [hW1]; exact hb0.trans ((below_one _ _).mono hb0.size)
  have hgw : W0.heap.size ≤ g := by rw [← hg]; exact hb0.size
  have HB5 := Lib.hid b5
  have V2 := Lib.hid (V0.out.grow b5)
  have N1 := Lib.hid (show NewP W1 (g + 1) D0 0 d0 (newR 2 10).1.l by rw [hl0]; exact NewP.nil _ _ hn0.dm)
  have HM := Lib.hid (fun h0 => may_new (K := 2) (Y := 10) rfl h0)
  have HG := Lib.hid hg
  have HW1 := Lib.hid hW1
  have HZ1 := Lib.hid (HZ.out.below b5 (Nat.le_trans hB b0.out.size))
  generalize newR 2 10 = r0 at *
  clear hn0 hb0 hW1 hg b5
  go_upto_region 2 with fail
  rw [HG.out, ← HW1.out]
  go_wp2
  go_loopw [5, 6] (fun e i wr => ∃ j : Nat, j ≤ N ∧ i = .int .i64 j ∧ Hid (Below g W1 wr) ∧ g + 1 ≤ wr.heap.size ∧ Hid (SVar wr g) ∧ ∃ (r : SpZ × Int) (n d : Nat) (D : Option Addr), e = .int .i64 r.2 ∧ Hid (SBox wr g r.1.K r.1.Y D n d) ∧ Hid (NewP wr (g + 1) D n d r.1.l) ∧ Hid (r.2 = 0 → mayB r.1 = true) ∧ Hid (putsR (zs.drop j) r = q)) (fun _ i _ => N - (intOf i).toNat)
  case atStart => exact ⟨0, by omega, rfl, Lib.hid (Below.refl _ _), by omega, V1, r0, 0, d0, D0, rfl, X1, N1, HM, HQ⟩
  case round =>
    obtain ⟨j, hj, rfl, HW, hsz, VR, r, n, d, D, rfl, XR, NR, MR, QR⟩ := hrel
    have e1 : IntKind.i64.wrap ((j : Int) + 1) = (j : Int) + 1 := by rw [IntKind.wrap_i64]; omega
    obtain ⟨y1, y2, y3⟩ := XR.out
    by_cases hlt : j + 1 < N
    · have hltI : (j : Int) + 1 < (N : Int) := by omega
      by_cases h0 : r.2 = 0
      · obtain ⟨sb, so, k, hA, hsb, K1, c0⟩ := (HZ1.out.below HW.out (by omega)).at_ (k := j) (by omega)
        obtain ⟨sb', so', v, hA', _, K2, c1⟩ := (HZ1.out.below HW.out (by omega)).at_ (k := j + 1) (by omega)
        subst hA
        injection hA' with hA'; injection hA' with e2 e3
        subst e2 e3
        have hmay := MR.out h0
        have hlen := (may_parts hmay).2.2.2.1
        rw [NR.out.len] at hlen
        have QR2 := Lib.hid (show putsR (zs.drop (j + 2)) (putR r.1 k v) = q by rw [← QR.out, puts_step r K1.out K2.out, if_pos h0])
        have PM := Lib.hid (fun (V : World) (hV : Below wr.heap.size wr V) => put_any (w := V) r.1.K r.1.Y k v (putR r.1 k v) (((NR.out.below hV)).spc (by omega)) rfl)
        have HST := Lib.hid (fun (V : World) (hV : Below wr.heap.size wr V) => show V.cell? ⟨g, 0, none⟩ = some (.int .i64 r.1.K) ∧ V.cell? ⟨g, 1, none⟩ = some (.int .i64 r.1.Y) ∧ V.cell? ⟨g, 2, none⟩ = some (.slice D n d) ∧ V.cell? ⟨sb, so + j, none⟩ = some (.string k) ∧ V.cell? ⟨sb, so + (j + 1), none⟩ = some (.string v) from
          ⟨(hV.cell (p := ⟨g, 0, none⟩) (by show g < _; omega)).trans y1, (hV.cell (p := ⟨g, 1, none⟩) (by show g < _; omega)).trans y2, (hV.cell (p := ⟨g, 2, none⟩) (by show g < _; omega)).trans y3, (hV.cell (p := ⟨sb, so + j, none⟩) (by show sb < _; omega)).trans c0, (hV.cell (p := ⟨sb, so + (j + 1), none⟩) (by show sb < _; omega)).trans c1⟩)
        have e2 : IntKind.i64.wrap ((j : Int) + 2) = (j : Int) + 2 := by rw [IntKind.wrap_i64]; omega
        have hp1 : 0 ≤ (j : Int) + 1 := by omega
        have hlt1 : (j : Int) < (N : Int) := by omega
        clear hlen hmay QR K1 K2
        go_upto_region 5 with fail
        clear c0 c1 y1 y2 y3 h0
        refine Late.region (fun w' => w'.cell? ⟨g, 0, none⟩ = some (.int .i64 r.1.K) ∧ w'.cell? ⟨g, 1, none⟩ = some (.int .i64 r.1.Y) ∧ w'.cell? ⟨g, 2, none⟩ = some (.slice D n d) ∧ w'.cell? ⟨sb, so + j, none⟩ = some (.string k) ∧ w'.cell? ⟨sb, so + (j + 1), none⟩ = some (.string v)) [12, 13, 14, 15] (by kernel_rfl) (HST.out _ (Below.refl _ _).drew) (fun hHeld => ?_)
        refine Late.takeT 8 (i := 0) (oi := ⟨some 23, Op.load 28 (Operand.tmp 4), _, _, _, _⟩) (v := ?_) rfl (by kernel_rfl) (by kernel_rfl) (by kernel_rfl) (by kernel_rfl) (by kernel_rfl) (fun _ _ _ h => h) (Or.inl ⟨by rfl, fun w hSw => ?_⟩) (by assumption) ?_
        rotate_left
        · (have s1 := hSw; obtain ⟨s1, s2, s3, s4, s5⟩ := hSw; go_simp; try with_reducible rfl)
        try simp only [Act.put, List.setIfInBounds_toArray, List.set_cons_zero, List.set_cons_succ]
        refine Late.takeT 8 (i := 1) (oi := ⟨some 24, Op.move (Operand.tmp 0), _, _, _, _⟩) (v := ?_) rfl (by kernel_rfl) (by kernel_rfl) (by kernel_rfl) (by kernel_rfl) (by kernel_rfl) (fun _ _ _ h => h) (Or.inl ⟨by rfl, fun w hSw => ?_⟩) (by assumption) ?_
        rotate_left
        · (have s1 := hSw; go_simp; try with_reducible rfl)
        try simp only [Act.put, List.setIfInBounds_toArray, List.set_cons_zero, List.set_cons_succ]
        refine Late.takeT 8 (i := 2) (oi := ⟨some 25, Op.move (Operand.tmp 6), _, _, _, _⟩) (v := ?_) rfl (by kernel_rfl) (by kernel_rfl) (by kernel_rfl) (by kernel_rfl) (by kernel_rfl) (fun _ _ _ h => h) (Or.inl ⟨by rfl, fun w hSw => ?_⟩) (by assumption) ?_
        rotate_left
        · (have s1 := hSw; go_simp; try with_reducible rfl)
        try simp only [Act.put, List.setIfInBounds_toArray, List.set_cons_zero, List.set_cons_succ]
        refine Late.takeT 8 (i := 3) (oi := ⟨some 26, Op.indexAddr 48 (Operand.tmp 24) (Operand.tmp 25), _, _, _, _⟩) (v := ?_) rfl (by kernel_rfl) (by kernel_rfl) (by kernel_rfl) (by kernel_rfl) (by kernel_rfl) (fun _ _ _ h => h) (Or.inl ⟨by rfl, fun w hSw => ?_⟩) (by assumption) ?_
        rotate_left
        · (have s1 := hSw; go_simp; try with_reducible rfl)
        try simp only [Act.put, List.setIfInBounds_toArray, List.set_cons_zero, List.set_cons_succ]
        refine Late.takeT 8 (i := 4) (oi := ⟨some 27, Op.load 9 (Operand.tmp 26), _, _, _, _⟩) (v := ?_) rfl (by kernel_rfl) (by kernel_rfl) (by kernel_rfl) (by kernel_rfl) (by kernel_rfl) (fun _ _ _ h => h) (Or.inl ⟨by rfl, fun w hSw => ?_⟩) (by assumption) ?_
        rotate_left
        · (have s1 := hSw; obtain ⟨s1, s2, s3, s4, s5⟩ := hSw; go_simp; try with_reducible rfl)
        try simp only [Act.put, List.setIfInBounds_toArray, List.set_cons_zero, List.set_cons_succ]
        refine Late.takeT 8 (i := 5) (oi := ⟨some 28, Op.move (Operand.tmp 0), _, _, _, _⟩) (v := ?_) rfl (by kernel_rfl) (by kernel_rfl) (by kernel_rfl) (by kernel_rfl) (by kernel_rfl) (fun _ _ _ h => h) (Or.inl ⟨by rfl, fun w hSw => ?_⟩) (by assumption) ?_
        rotate_left
        · (have s1 := hSw; go_simp; try with_reducible rfl)
        try simp only [Act.put, List.setIfInBounds_toArray, List.set_cons_zero, List.set_cons_succ]
        refine Late.takeT 8 (i := 6) (oi := ⟨some 29, Op.move (Operand.tmp 6), _, _, _, _⟩) (v := ?_) rfl (by kernel_rfl) (by kernel_rfl) (by kernel_rfl) (by kernel_rfl) (by kernel_rfl) (fun _ _ _ h => h) (Or.inl ⟨by rfl, fun w hSw => ?_⟩) (by assumption) ?_
        rotate_left
        · (have s1 := hSw; go_simp; try with_reducible rfl)
        try simp only [Act.put, List.setIfInBounds_toArray, List.set_cons_zero, List.set_cons_succ]
        refine Late.takeT 8 (i := 7) (oi := ⟨some 30, Op.binOp BinOp.add 3 (Operand.tmp 29) (Operand.const (Value.int IntKind.i64 1)) 3, _, _, _, _⟩) (v := ?_) rfl (by kernel_rfl) (by kernel_rfl) (by kernel_rfl) (by kernel_rfl) (by kernel_rfl) (fun _ _ _ h => h) (Or.inl ⟨by rfl, fun w hSw => ?_⟩) (by assumption) ?_
        rotate_left
        · (have s1 := hSw; go_simp; try with_reducible rfl)
        try simp only [Act.put, List.setIfInBounds_toArray, List.set_cons_zero, List.set_cons_succ]
        refine Late.takeT 8 (i := 8) (oi := ⟨some 31, Op.indexAddr 48 (Operand.tmp 28) (Operand.tmp 30), _, _, _, _⟩) (v := ?_) rfl (by kernel_rfl) (by kernel_rfl) (by kernel_rfl) (by kernel_rfl) (by kernel_rfl) (fun _ _ _ h => h) (Or.inl ⟨by rfl, fun w hSw => ?_⟩) (by assumption) ?_
        rotate_left
        · (have s1 := hSw; go_simp; try with_reducible rfl)
        try simp only [Act.put, List.setIfInBounds_toArray, List.set_cons_zero, List.set_cons_succ]
        refine Late.takeT 8 (i := 9) (oi := ⟨some 32, Op.load 9 (Operand.tmp 31), _, _, _, _⟩) (v := ?_) rfl (by kernel_rfl) (by kernel_rfl) (by kernel_rfl) (by kernel_rfl) (by kernel_rfl) (fun _ _ _ h => h) (Or.inl ⟨by rfl, fun w hSw => ?_⟩) (by assumption) ?_
        rotate_left
        · (have s1 := hSw; obtain ⟨s1, s2, s3, s4, s5⟩ := hSw; go_simp; try with_reducible rfl)
        try simp only [Act.put, List.setIfInBounds_toArray, List.set_cons_zero, List.set_cons_succ]
        refine Late.one (i := 10) (o := ⟨some 33, Op.call { callee := Callee.value (Operand.func 11), args := #[Operand.tmp 23, Operand.tmp 27, Operand.tmp 32], argTypes := #[28, 9, 9] }, _, _, _, _⟩) (by kernel_rfl) rfl (fun K hK => ?_)
        go_simp
        refine (PM.out _ (Below.refl _ _).drew).mono ?_
        rintro e w6 ⟨n6, d6, D6, rfl, hn6, hb6⟩
        have B6 := Lib.hid ((Below.refl wr.heap.size wr).drew.trans hb6)
        have N6 := Lib.hid hn6
        clear hn6 hb6
        go_wp2_with fail
        refine hK.out _ _ (HST.out _ B6.out) (fun hHeld2 => ?_)
        clear hK K hHeld
        have hHeld := hHeld2
        clear hHeld2
        try simp only [Act.put, List.setIfInBounds_toArray, List.set_cons_zero, List.set_cons_succ]
        refine Late.takeT 8 (i := 11) (oi := ⟨some 22, Op.move (Operand.tmp 33), _, _, _, _⟩) (v := ?_) rfl (by kernel_rfl) (by kernel_rfl) (by kernel_rfl) (by kernel_rfl) (by kernel_rfl) (fun _ _ _ h => h) (Or.inl ⟨by rfl, fun w hSw => ?_⟩) (by assumption) ?_
        rotate_left
        · (have s1 := hSw; go_simp; try with_reducible rfl)
        try simp only [Act.put, List.setIfInBounds_toArray, List.set_cons_zero, List.set_cons_succ]
        refine Late.pull (i := 12) (oi := ⟨some 34, Op.extract (Operand.tmp 22) 0, _, _, _, _⟩) (v := ?_) rfl (by kernel_rfl) (by kernel_rfl) (by kernel_rfl) (by kernel_rfl) (fun _ _ _ h => h) (Or.inl ⟨by rfl, fun w _ => ?_⟩) ?_
        rotate_left
        · (go_simp; try with_reducible rfl)
        try simp only [Act.put, List.setIfInBounds_toArray, List.set_cons_zero, List.set_cons_succ]
        refine Late.pull (i := 13) (oi := ⟨some 35, Op.extract (Operand.tmp 22) 1, _, _, _, _⟩) (v := ?_) rfl (by kernel_rfl) (by kernel_rfl) (by kernel_rfl) (by kernel_rfl) (fun _ _ _ h => h) (Or.inl ⟨by rfl, fun w _ => ?_⟩) ?_
        rotate_left
        · (go_simp; try with_reducible rfl)
        try simp only [Act.put, List.setIfInBounds_toArray, List.set_cons_zero, List.set_cons_succ]
        refine Late.end_ (i := 14) (o := ⟨none, Op.store 28 (Operand.tmp 4) (Operand.tmp 34), _, _, _, _⟩) (by kernel_rfl) rfl rfl (fun K hK => ?_)
        refine wp_store_mid 28 (.tmp 4) (.tmp 34) rfl g 0 #[.int .i64 (putR r.1 k v).1.K, .int .i64 (putR r.1 k v).1.Y, .slice D6 n6 d6] rfl rfl (VR.out.grow B6.out).th sp_size (sp_one _ _ _ _ _) ?_
        refine hK.out _ _ ?_
        clear hK K
        try simp only [Act.put]
        refine Late.end_ (i := 15) (o := ⟨some 5, Op.assign (Operand.tmp 35), _, _, _, _⟩) (by kernel_rfl) rfl rfl (fun K hK => ?_)
        go_simp
        refine hK.out _ _ ?_
        clear hK K
        try simp only [Act.put, List.setIfInBounds_toArray, List.set_cons_zero, List.set_cons_succ]
        refine Late.done (by kernel_rfl) ?_ _
        refine NoPanic.normal ?_
        have T6 := World.rangeAt_setCells_same w6 g 0 [.int .i64 (putR r.1 k v).1.K, .int .i64 (putR r.1 k v).1.Y, .slice D6 n6 d6] (VR.out.grow B6.out).th
        have X7 := Lib.hid (show SBox (w6.setCells g 0 [.int .i64 (putR r.1 k v).1.K, .int .i64 (putR r.1 k v).1.Y, .slice D6 n6 d6]) g (putR r.1 k v).1.K (putR r.1 k v).1.Y D6 n6 d6 from ⟨T6 0 _ rfl, T6 1 _ rfl, T6 2 _ rfl⟩)
        have B7 := Lib.hid (sp_setCells (b := g) (Nat.le_refl _) [.int .i64 (putR r.1 k v).1.K, .int .i64 (putR r.1 k v).1.Y, .slice D6 n6 d6] 0 w6 (HW.out.trans (B6.out.mono (by omega))))
        have V7 := Lib.hid (show SVar (w6.setCells g 0 [.int .i64 (putR r.1 k v).1.K, .int .i64 (putR r.1 k v).1.Y, .slice D6 n6 d6]) g from ⟨World.there_setCells (VR.out.grow B6.out).th _ _ _, Nat.lt_of_lt_of_le (show g < W1.heap.size by omega) B7.out.size⟩)
        have N7 := Lib.hid ((N6.out.rebase (show g + 1 ≤ wr.drew.heap.size from hsz)).far (b := g) (by omega) 0 [.int .i64 (putR r.1 k v).1.K, .int .i64 (putR r.1 k v).1.Y, .slice D6 n6 d6])
        have M7 := Lib.hid (fun h0 => may_put (s := r.1) (k := k) (v := v) rfl h0)
        have hsz7 : g + 1 ≤ (w6.setCells g 0 [.int .i64 (putR r.1 k v).1.K, .int .i64 (putR r.1 k v).1.Y, .slice D6 n6 d6]).heap.size := by have := B7.out.size; omega
        clear HST PM T6
        go_wp2
        go_roundw
        case rel => exact ⟨j + 2, by omega, by go_num, B7, hsz7, V7, putR r.1 k v, n6, d6, D6, rfl, X7, N7, M7, QR2⟩
        case measure => simp [intOf]; omega
      · obtain ⟨k, v, K1, K2⟩ : ∃ k v, zs[j]? = some k ∧ zs[j + 1]? = some v := by
          have hl := HZ1.out.len
          exact ⟨_, _, List.getElem?_eq_getElem (show j < zs.length by omega), List.getElem?_eq_getElem (show j + 1 < zs.length by omega)⟩
        have e : r = q := by rw [← QR.out, puts_step r K1 K2, if_neg h0]
        subst e
        have hI0 : ¬ r.2 = 0 := h0
        have VQ := Lib.hid (V2.out.below HW.out (by omega))
        have BQ := Lib.hid (b0.out.trans ((HB5.out.trans (HW.out.mono (by omega))).mono b0.out.size))
        clear K1 K2 h0
        go_wp2_with (first
          | (refine sp_store_as (op := ⟨none, .store 28 (.tmp 2) (.tmp 36), _, _, _, _⟩) rfl 28 (.tmp 2) (.tmp 36) rfl w.heap.size 0 #[.int .i64 r.1.K, .int .i64 r.1.Y, .slice D n d] rfl rfl VQ.out.th HS.out (sp_one _ _ _ _ _) ?_; intro w9 hw9)
          | fail)
        obtain ⟨R9, B9⟩ := sp_stored VQ.out hw9 (Nat.le_refl _) BQ.out
        have N9 : NewP w9 (g + 1) D n d r.1.l := by rw [hw9.out]; exact NR.out.far (by omega) _ _
        exact bodyPost_ret (ret_space (p := 2) (u := 3) rfl _ _ w.heap.size rfl R9 rfl) rfl ⟨n, d, D, rfl, N9.rebase (by omega), B9⟩
    · have hltI : ¬ (j : Int) + 1 < (N : Int) := by omega
      have e : r = q := by
        rw [← QR.out]; exact (puts_end _ (by have := HZ1.out.len; omega)).symm
      subst e
      have VQ := Lib.hid (V2.out.below HW.out (by omega))
      have BQ := Lib.hid (b0.out.trans ((HB5.out.trans (HW.out.mono (by omega))).mono b0.out.size))
      go_wp2_with (first
        | (refine sp_store_as (op := ⟨none, .store 28 (.tmp 2) (.tmp 36), _, _, _, _⟩) rfl 28 (.tmp 2) (.tmp 36) rfl w.heap.size 0 #[.int .i64 r.1.K, .int .i64 r.1.Y, .slice D n d] rfl rfl VQ.out.th HS.out (sp_one _ _ _ _ _) ?_; intro w9 hw9)
        | fail)
      obtain ⟨R9, B9⟩ := sp_stored VQ.out hw9 (Nat.le_refl _) BQ.out
      have N9 : NewP w9 (g + 1) D n d r.1.l := by rw [hw9.out]; exact NR.out.far (by omega) _ _
      exact bodyPost_ret (ret_space (p := 2) (u := 3) rfl _ _ w.heap.size rfl R9 rfl) rfl ⟨n, d, D, rfl, N9.rebase (by omega), B9⟩
end Go.Proofs.Ytmlkcedhjnmfgaa
