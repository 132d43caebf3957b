/- Write, Sync and Start of a disk. -/
import Derived.Test.YtlbmhkccmclmfaaDSettle
import Derived.Deep.Cut
namespace Go.Proofs.Ytlbmhkccmclmfaa
open Go.ChangeShapes Go.WideShapes Go.ChangeAt Go.RowKit
set_option linter.unusedVariables false
/-- A write more. -/
theorem DkAt.written {w w3 : World} {b : Nat} {K : Nat → Prop} {s : DiskZ} {v u u' : Value} {ps : List PieceZ} {p : PieceZ} {zs : List Int} (h : DkAt w b K s v u ps) (hm : Moved (fun k => u.ownBlock = some k) w w3)
    (ho : w3.ownsRow 0 27 1 u' (ps.length + 1) (ps.map pval ++ [pval p])) (hat : u'.ownBlock = u.ownBlock ∨ ∀ k, u'.ownBlock = some k → w.heap.size ≤ k) (hp : Stands w3 (fun k => w.heap.size ≤ k ∧ u'.ownBlock ≠ some k) p) (hz : p.zs = zs) :
    Dk (w3.setCell ⟨b, 3, none⟩ u') b (Wider K w (w3.setCell ⟨b, 3, none⟩ u')) ⟨s.up, s.zs, s.ws ++ [zs]⟩ ∧ Moved K w (w3.setCell ⟨b, 3, none⟩ u') := by
  have hs := hm.size
  have hb := h.lt b h.kb
  have hz3 : (w3.setCell ⟨b, 3, none⟩ u').heap.size = w3.heap.size := by simp [World.setCell]
  have hu' : ∀ k, u'.ownBlock = some k → (K k ∨ w.heap.size ≤ k) ∧ k ≠ b ∧ v.ownBlock ≠ some k ∧ k < w3.heap.size := fun k hk => by
    have hlt := (ho.lt k hk).2
    rcases hat with e | e
    · rw [e] at hk; exact ⟨.inl (h.blk3 k hk).1, (h.blk3 k hk).2.1, (h.blk3 k hk).2.2, hlt⟩
    · have := e k hk
      exact ⟨.inr this, by omega, fun e2 => by have := h.lt k (h.blk2 k e2).1; omega, hlt⟩
  have hbl : w3.heap[b]? = w.heap[b]? := hm.block b hb (fun e => (h.blk3 b e).2.1 rfl)
  have far : ∀ k, k ≠ b → (w3.setCell ⟨b, 3, none⟩ u').heap[k]? = w3.heap[k]? := fun k hk => Below.heap_setCell _ _ _ _ hk
  refine ⟨⟨v, u', ps ++ [p], .inl h.kb, fun k hk => ?_, ?_, ?_, ?_, ?_, ?_, ?_, ?_, ?_, fun k hk => ⟨.inl (h.blk2 k hk).1, (h.blk2 k hk).2⟩, h.bytes, ?_, fun k hk => ?_, fun q hq => ?_, ?_⟩, ?_⟩
  · rcases hk with hk | hk
    · have := h.lt k hk; omega
    · exact hk.2
  · rw [World.cell?_setCell_other _ _ _ _ (by simp), World.cell?_of_block (a := ⟨b, 0, none⟩) hbl]; exact h.made
  · rw [World.cell?_setCell_other _ _ _ _ (by simp), World.cell?_of_block (a := ⟨b, 1, none⟩) hbl]; exact h.up
  · rw [World.cell?_setCell_other _ _ _ _ (by simp), World.cell?_of_block (a := ⟨b, 2, none⟩) hbl]; exact h.syn
  · exact World.cell?_setCell_same _ _ _ ((World.cell?_of_block (a := ⟨b, 3, none⟩) hbl).trans h.wr)
  · rw [World.frozen?_setCell, World.frozen?_of_block (a := ⟨b, 1, none⟩) hbl]; exact h.f1
  · rw [World.frozen?_setCell, World.frozen?_of_block (a := ⟨b, 2, none⟩) hbl]; exact h.f2
  · rw [World.frozen?_setCell, World.frozen?_of_block (a := ⟨b, 3, none⟩) hbl]; exact h.f3
  · exact own_same h.own2 (fun k hk => (far k (h.blk2 k hk).2).trans (hm.block k (h.lt k (h.blk2 k hk).1) (fun e => (h.blk3 k e).2.2 hk)))
  · have := own_same ho (w1 := w3.setCell ⟨b, 3, none⟩ u') (fun k hk => far k (hu' k hk).2.1)
    simpa using this
  · have := hu' k hk
    exact ⟨this.1.imp id (fun e => ⟨e, by omega⟩), this.2.1, this.2.2.1⟩
  · rcases List.mem_append.1 hq with hq | hq
    · have h1 : Stands w (fun k => Rest K b v u k ∧ u'.ownBlock ≠ some k) q := (h.all q hq).more (fun k hF hk => ⟨hF, fun e => by
        rcases hat with e2 | e2
        · rw [e2] at e; exact hF.2.2.2 e
        · have := e2 k e; omega⟩)
      exact (h1.keep (w1 := w3.setCell ⟨b, 3, none⟩ u') (fun k hF hk => (far k hF.1.2.1).trans (hm.block k hk hF.1.2.2.2))).more (fun k hF _ => ⟨.inl hF.1.1, hF.1.2.1, hF.1.2.2.1, hF.2⟩)
    · obtain rfl : q = p := by simpa using hq
      exact (hp.keep (w1 := w3.setCell ⟨b, 3, none⟩ u') (fun k hF _ => far k (by omega))).more (fun k hF hk => ⟨.inr ⟨hF.1, hk⟩, by omega, fun e => by have := h.lt k (h.blk2 k e).1; omega, hF.2⟩)
  · rw [List.map_append, h.ws, ← hz]; rfl
  · refine (hm.more (fun k hk _ => (h.blk3 k hk).1)).then (Moved.cell _ _ _ _ h.kb)
/-- What a call that may be refused hands back, as a pair of the error and the state. -/
def DidV (w : World) (b : Nat) (K : Nat → Prop) (r : Int × DiskZ) (v : Value) (w' : World) : Prop := v = .int .i64 r.1 ∧ ∃ K', Dk w' b K' r.2 ∧ Moved K w w' ∧ Newer w K K'
theorem did_under {w w1 w' : World} {b : Nat} {K : Nat → Prop} {r : Int × DiskZ} {v : Value} (hm : Moved K w w1) (h : DidV w1 b K r v w') : Did w b K r (.returned v) w' := by
  obtain ⟨rfl, K', h1, h2, h3⟩ := h
  exact ⟨rfl, K', h1, hm.then h2, fun k hk => (h3 k hk).imp id (fun e => Nat.le_trans hm.size e)⟩
def dWrite (s : DiskZ) (zs : List Int) : Int × DiskZ := if s.up then (0, ⟨s.up, s.zs, s.ws ++ [zs]⟩) else (60, s)
def dSync (s : DiskZ) : Int × DiskZ := if s.up then (0, ⟨s.up, s.zs ++ s.ws.flatten, []⟩) else (60, s)
def dStart (s : DiskZ) : Int × DiskZ := if s.up then (2, s) else (0, ⟨true, s.zs, s.ws⟩)
set_option maxHeartbeats 1000000 in
theorem write1_any {w : World} {b : Nat} {K : Nat → Prop} {s : DiskZ} {x y B n : Nat} {A : Option Addr} (c : Nat) {zs : List Int} (h : Dk w b K s) (hx : w.cell? ⟨x, 0, none⟩ = some (.slice A n c)) (hy0 : w.cell? ⟨y, 0, none⟩ = some (.pointer (some ⟨b, 0, none⟩)))
    (hz : Bs w B A n zs) (hn : n ≤ 1000000) (hs : Small s) (hyK : ¬ K y) :
    Calls Try.prog 33 #[.pointer (some ⟨x, 0, none⟩), .pointer (some ⟨y, 0, none⟩)] w (fun e w' => ∃ v, e = .returned v ∧ DidV w b K (0, ⟨s.up, s.zs, s.ws ++ [zs]⟩) v w') := by
  obtain ⟨v, u, ps, h⟩ := h
  obtain ⟨W, d, rfl, hm1, hm2, hbu⟩ := h.bunch
  have hlen := h.len
  have hwr := hs.writes
  obtain ⟨m, hm⟩ : ∃ m, ps.length = m := ⟨_, rfl⟩
  have hms : m ≤ 1000000 := by omega
  have HD := Lib.hid h
  have HM := Lib.hid hm
  have hy1 : y < w.heap.size := World.block_lt_of_cell? _ _ hy0
  have hb1 : b < w.heap.size := h.lt b h.kb
  have HY := Lib.hid hy0
  have HZ := Lib.hid hz
  clear h hbu hlen hwr hs hm hy0
  go_enter Try.func33, Try.ntmps33
  go_upto_region 2 with ((at_builtin; refine wpList_app _ rfl (.const (.slice none 0 0)) (.tmp 4) 27 rfl w.heap.size 5 1 1 Try.underlying27 u8_info (by omega) (.slice none 0 0) 0 [] rfl (World.ownsRow_nil _ _ _ _) A n c (vals zs) rfl HZ.out.lies.1 HZ.out.lies.2 (vals_one _) (by unfold maxLen; omega) (by omega) (Nat.le_refl _) ?_; intro v1 w1 ho1 hg1))
  rw [Nat.zero_add, List.nil_append] at ho1
  obtain ⟨M, cm, rfl, hn1, hcm⟩ := own_shape ho1
  have hs1 := hg1.size
  have h1 : w1.cell? ⟨y, 0, none⟩ = some (.pointer (some ⟨b, 0, none⟩)) := (World.cell?_of_block (a := ⟨y, 0, none⟩) (hg1.block y hy1 (by simp [Value.ownBlock]))).trans HY.out
  have HD1 : Hid (DkAt w1 b K s v (.slice W ps.length d) ps) := Lib.hid (HD.out.keep (fun k hk => hg1.block k (HD.out.lt k hk) (by simp [Value.ownBlock])) hs1)
  have h2 : w1.cell? ⟨b, 3, none⟩ = some (.slice W m d) := by rw [← HM.out]; exact HD1.out.wr
  have hy : y < w1.heap.size := by omega
  have hb : b < w1.heap.size := by omega
  obtain ⟨X, hX⟩ : ∃ X, (w1.alloc (.cells #[.slice M n n] 27)).drew = X := ⟨_, rfl⟩
  have HX := Lib.hid hX
  have bX : Below w1.heap.size w1 X := by rw [← hX]; exact ((Below.refl _ w1).alloc (Nat.le_refl _) _).drew
  have sX : X.heap.size = w1.heap.size + 1 := by rw [← hX]; show (w1.alloc _).heap.size = _; simp
  have HO : Hid (X.ownsRow 0 27 1 (.slice W m d) m (ps.map pval)) := Lib.hid (by
    rw [← HM.out]; exact own_same HD1.out.own3 (fun k hk => bX.block k (HD1.out.lt k (HD1.out.blk3 k hk).1)))
  have hh : X.heap[w1.heap.size]? = some (.cells #[.slice M n n] 27 (0, 0)) := by rw [← hX]; exact heap_alloc_new w1 _
  have HL : Hid (Lies X 1 (some ⟨w1.heap.size, 0, none⟩) 1 [.slice M n n] ∧ Sourced (some ⟨w1.heap.size, 0, none⟩) 1) := Lib.hid ⟨⟨rfl, fun ad hA j q hq => by
    injection hA with hA
    subst hA
    exact World.news_of_block hh j q hq⟩, fun e => by cases e⟩
  have HC : Hid (∀ w3, X.grownBy w3 (Value.slice W m d).ownBlock → w3.cell? ⟨y, 0, none⟩ = some (.pointer (some ⟨b, 0, none⟩)) ∧ w3.cell? ⟨b, 3, none⟩ = some (.slice W m d) ∧ w3.frozen? ⟨b, 3, none⟩ = false) := Lib.hid (fun w3 hg => by
    have hbn : some b ≠ (Value.slice W m d).ownBlock := fun e => (HD1.out.blk3 b (by rw [HM.out]; exact e.symm)).2.1 rfl
    have e2 := (hg.block b (by omega) hbn).trans (bX.block b hb)
    have e1 : w3.cell? ⟨y, 0, none⟩ = X.cell? ⟨y, 0, none⟩ := World.cell?_of_block (hg.block y (by omega) (fun e => hyK (HD1.out.blk3 y (by rw [HM.out]; exact e.symm)).1))
    exact ⟨e1.trans ((World.cell?_of_block (a := ⟨y, 0, none⟩) (bX.block y hy)).trans h1), (World.cell?_of_block (a := ⟨b, 3, none⟩) e2).trans h2, (World.frozen?_of_block (a := ⟨b, 3, none⟩) e2).trans HD1.out.f3⟩)
  have BX := Lib.hid bX
  have HH := Lib.hid hh
  have HG1 := Lib.hid hg1
  have HO1 := Lib.hid ho1
  clear hX bX hh hg1 ho1 hz
  refine Late.region (fun w' => w'.cell? ⟨y, 0, none⟩ = some (.pointer (some ⟨b, 0, none⟩)) ∧ w'.cell? ⟨b, 3, none⟩ = some (.slice W m d)) [11, 12, 13] (by kernel_rfl) ⟨h1, h2⟩ (fun hHeld => ?_)
  refine Late.take (i := 0) (oi := ⟨some 6, Op.load 24 (Operand.tmp 1), _, _, _, _⟩) (v := ?_) rfl (by kernel_rfl) (by kernel_rfl) (by kernel_rfl) (by kernel_rfl) (fun _ _ _ h => h) (Or.inl ⟨by rfl, fun w hSw => ?_⟩) (by assumption) ?_
  rotate_left
  · (obtain ⟨s1, s2⟩ := hSw; go_simp; try with_reducible rfl)
  try simp only [Act.put, List.setIfInBounds_toArray, List.set_cons_zero, List.set_cons_succ]
  refine Late.take (i := 1) (oi := ⟨some 7, Op.load 24 (Operand.tmp 1), _, _, _, _⟩) (v := ?_) rfl (by kernel_rfl) (by kernel_rfl) (by kernel_rfl) (by kernel_rfl) (fun _ _ _ h => h) (Or.inl ⟨by rfl, fun w hSw => ?_⟩) (by assumption) ?_
  rotate_left
  · (obtain ⟨s1, s2⟩ := hSw; go_simp; try with_reducible rfl)
  try simp only [Act.put, List.setIfInBounds_toArray, List.set_cons_zero, List.set_cons_succ]
  refine Late.take (i := 2) (oi := ⟨some 8, Op.nilCheck (Operand.tmp 7), _, _, _, _⟩) (v := ?_) rfl (by kernel_rfl) (by kernel_rfl) (by kernel_rfl) (by kernel_rfl) (fun _ _ _ h => h) (Or.inl ⟨by rfl, fun w hSw => ?_⟩) (by assumption) ?_
  rotate_left
  · (obtain ⟨s1, s2⟩ := hSw; go_simp; try with_reducible rfl)
  try simp only [Act.put, List.setIfInBounds_toArray, List.set_cons_zero, List.set_cons_succ]
  refine Late.take (i := 3) (oi := ⟨some 9, Op.fieldAddr 40 (Operand.tmp 8) 3, _, _, _, _⟩) (v := ?_) rfl (by kernel_rfl) (by kernel_rfl) (by kernel_rfl) (by kernel_rfl) (fun _ _ _ h => h) (Or.inl ⟨by rfl, fun w hSw => ?_⟩) (by assumption) ?_
  rotate_left
  · (obtain ⟨s1, s2⟩ := hSw; go_simp; try with_reducible rfl)
  try simp only [Act.put, List.setIfInBounds_toArray, List.set_cons_zero, List.set_cons_succ]
  refine Late.take (i := 4) (oi := ⟨some 10, Op.load 38 (Operand.tmp 9), _, _, _, _⟩) (v := ?_) rfl (by kernel_rfl) (by kernel_rfl) (by kernel_rfl) (by kernel_rfl) (fun _ _ _ h => h) (Or.inl ⟨by rfl, fun w hSw => ?_⟩) (by assumption) ?_
  rotate_left
  · (obtain ⟨s1, s2⟩ := hSw; go_simp; try with_reducible rfl)
  try simp only [Act.put, List.setIfInBounds_toArray, List.set_cons_zero, List.set_cons_succ]
  refine Late.take (i := 5) (oi := ⟨some 11, Op.move (Operand.tmp 3), _, _, _, _⟩) (v := ?_) rfl (by kernel_rfl) (by kernel_rfl) (by kernel_rfl) (by kernel_rfl) (fun _ _ _ h => h) (Or.inl ⟨by rfl, fun w hSw => ?_⟩) (by assumption) ?_
  rotate_left
  · (obtain ⟨s1, s2⟩ := hSw; go_simp; try with_reducible rfl)
  try simp only [Act.put, List.setIfInBounds_toArray, List.set_cons_zero, List.set_cons_succ]
  refine Late.take (i := 6) (oi := ⟨some 12, Op.move (Operand.tmp 3), _, _, _, _⟩) (v := ?_) rfl (by kernel_rfl) (by kernel_rfl) (by kernel_rfl) (by kernel_rfl) (fun _ _ _ h => h) (Or.inl ⟨by rfl, fun w hSw => ?_⟩) (by assumption) ?_
  rotate_left
  · (obtain ⟨s1, s2⟩ := hSw; go_simp; try with_reducible rfl)
  try simp only [Act.put, List.setIfInBounds_toArray, List.set_cons_zero, List.set_cons_succ]
  refine Late.take (i := 7) (oi := ⟨some 13, Op.call { callee := Callee.builtin Builtin.len, args := #[Operand.tmp 12], argTypes := #[27] }, _, _, _, _⟩) (v := ?_) rfl (by kernel_rfl) (by kernel_rfl) (by kernel_rfl) (by kernel_rfl) (fun _ _ _ h => h) (Or.inl ⟨by rfl, fun w hSw => ?_⟩) (by assumption) ?_
  rotate_left
  · (obtain ⟨s1, s2⟩ := hSw; go_simp; try with_reducible rfl)
  try simp only [Act.put, List.setIfInBounds_toArray, List.set_cons_zero, List.set_cons_succ]
  refine Late.one (i := 8) (o := ⟨some 14, Op.call { callee := Callee.value (Operand.func 34), args := #[Operand.tmp 11, Operand.tmp 13], argTypes := #[27, 3] }, _, _, _, _⟩) (by kernel_rfl) rfl (fun K hK => ?_)
  go_simp
  refine (ahead8_any M n cm n _ hn1 hcm).mono ?_
  rintro e w' ⟨rfl, rfl⟩
  go_wp2_with fail
  refine hK.out _ _ (⟨h1, h2⟩) (fun hHeld2 => ?_)
  clear hK K hHeld
  have hHeld := hHeld2
  clear hHeld2
  try simp only [Act.put, List.setIfInBounds_toArray, List.set_cons_zero, List.set_cons_succ]
  refine Late.one (i := 9) (o := ⟨some 15, Op.buildSlice 38 1 #[(0, Operand.tmp 14)], _, _, _, _⟩) (by kernel_rfl) rfl (fun K hK => ?_)
  go_simp
  refine hK.out _ _ (⟨(World.cell?_alloc_lt w1 _ ⟨y, 0, none⟩ hy).trans h1, (World.cell?_alloc_lt w1 _ ⟨b, 3, none⟩ hb).trans h2⟩) (fun hHeld2 => ?_)
  clear hK K hHeld
  have hHeld := hHeld2
  clear hHeld2
  try simp only [Act.put, List.setIfInBounds_toArray, List.set_cons_zero, List.set_cons_succ]
  refine Late.one (i := 10) (o := ⟨some 16, Op.call { callee := Callee.builtin Builtin.append, args := #[Operand.tmp 10, Operand.tmp 15], argTypes := #[38, 38] }, _, _, _, _⟩) (by kernel_rfl) rfl (fun K hK => ?_)
  rw [HX.out]
  refine step_app _ (by rfl) (.tmp 10) (.tmp 15) 38 (by rfl) 0 27 1 24 Try.underlying38 slice_info (by decide) (.slice W m d) m (ps.map pval) (by rfl) HO.out (some ⟨w1.heap.size, 0, none⟩) 1 1 [.slice M n n] (by rfl) HL.out.1 HL.out.2 (by simp [Value.oneCell']) (by unfold maxLen; omega) (by omega) (Nat.zero_le _) ?_
  intro v' w3 ho3 hg3 hat
  obtain ⟨V, cv, rfl, q1, q2⟩ := own_shape ho3
  obtain ⟨c1, c2, c3⟩ := HC.out w3 hg3
  refine hK.out _ _ (⟨c1, c2⟩) (fun hHeld2 => ?_)
  clear hK K hHeld
  have hHeld := hHeld2
  clear hHeld2
  try simp only [Act.put, List.setIfInBounds_toArray, List.set_cons_zero, List.set_cons_succ]
  refine Late.end_ (i := 11) (o := ⟨some 17, Op.nilCheck (Operand.tmp 6), _, _, _, _⟩) (by kernel_rfl) rfl rfl (fun K hK => ?_)
  go_simp
  refine hK.out _ _ ?_
  clear hK K
  try simp only [Act.put, List.setIfInBounds_toArray, List.set_cons_zero, List.set_cons_succ]
  refine Late.end_ (i := 12) (o := ⟨some 18, Op.fieldAddr 40 (Operand.tmp 17) 3, _, _, _, _⟩) (by kernel_rfl) rfl rfl (fun K hK => ?_)
  go_simp
  refine hK.out _ _ ?_
  clear hK K
  try simp only [Act.put, List.setIfInBounds_toArray, List.set_cons_zero, List.set_cons_succ]
  refine Late.end_ (i := 13) (o := ⟨none, Op.store 38 (Operand.tmp 18) (Operand.tmp 16), _, _, _, _⟩) (by kernel_rfl) rfl rfl (fun K hK => ?_)
  go_simp
  refine hK.out _ _ ?_
  clear hK K
  try simp only [Act.put, List.setIfInBounds_toArray, List.set_cons_zero, List.set_cons_succ]
  refine Late.done (by kernel_rfl) ?_ _
  refine NoPanic.normal ?_
  have HR : Hid (Dk (w3.setCell ⟨b, 3, none⟩ (.slice V (m + 1) cv)) b (Wider K w (w3.setCell ⟨b, 3, none⟩ (.slice V (m + 1) cv))) ⟨s.up, s.zs, s.ws ++ [zs]⟩ ∧ Moved K w (w3.setCell ⟨b, 3, none⟩ (.slice V (m + 1) cv))) := Lib.hid (by
    have hK : ∀ k, (Value.slice W ps.length d).ownBlock = some k → k < w.heap.size := fun k hk => HD.out.lt k (HD.out.blk3 k hk).1
    have hat2 : (Value.slice V (m + 1) cv).ownBlock = (Value.slice W ps.length d).ownBlock ∨ (Value.slice V (m + 1) cv).ownBlock = some (w1.heap.size + 1) := by rw [HM.out, ← sX]; exact hat
    have p1 : Stands w1 (fun k => w.heap.size ≤ k ∧ k < w1.heap.size) ⟨M, n, cm, zs⟩ := stands_own HO1.out HZ.out.isBytes (fun k hk => HO1.out.lt k hk)
    have p2 := p1.cut (k := n) (c' := n) (Nat.le_refl _) (Nat.le_refl _) (by unfold maxLen; omega)
    refine HD.out.written (p := ⟨M, n, n, zs⟩) (((Moved.grown HG1.out (fun k hk => by cases hk)).then ((Moved.of_below (fun k => (Value.slice W ps.length d).ownBlock = some k) BX.out))).then (Moved.grown (by rw [HM.out]; exact hg3) (fun k hk => hk))) (by rw [HM.out]; exact ho3) ?_ ?_ rfl
    · rcases hat2 with e | e
      · exact .inl e
      · exact .inr (fun k hk => by rw [e] at hk; injection hk with hk; omega)
    · have p3 : Stands w1 (fun k => w.heap.size ≤ k ∧ k < w1.heap.size) ⟨M, n, n, zs⟩ := by
        have e : zs.take n = zs := List.take_of_length_le (by rw [HZ.out.len]; omega)
        rw [← e]; exact p2
      refine (p3.keep (w1 := w3) (fun k hF _ => (hg3.block k (by omega) (fun e => ?_)).trans (BX.out.block k hF.2))).more (fun k hF _ => ⟨hF.1, fun e => ?_⟩)
      · rw [← HM.out] at e
        have := hK k e.symm; omega
      · rcases hat2 with e2 | e2
        · rw [e2] at e; have := hK k e; omega
        · rw [e2] at e; injection e with e; omega)
  clear ho3 hg3 hat
  go_wp2
  go_ret
  exact ⟨_, rfl, rfl, _, HR.out.1, HR.out.2, wider_newer K w _⟩
theorem write_any {w : World} {b : Nat} {K : Nat → Prop} {s : DiskZ} {B n : Nat} {A : Option Addr} (c : Nat) {zs : List Int} (h : Dk w b K s) (hz : Bs w B A n zs) (hB : B ≤ w.heap.size) (hn : n ≤ 1000000) (hs : Small s) :
    Calls Try.prog 16 #[.pointer (some ⟨b, 0, none⟩), .slice A n c] w (Did w b K (dWrite s zs)) := by
  obtain ⟨W, hW⟩ : ∃ W, (w.alloc (.cells #[.pointer (some ⟨b, 0, none⟩)] 24)).alloc (.cells #[.slice A n c] 27) = W := ⟨_, rfl⟩
  have bW : Below w.heap.size w W := by rw [← hW]; exact ((Below.refl _ _).alloc (Nat.le_refl _) _).alloc (by simp) _
  have sW : W.heap.size = w.heap.size + 2 := by rw [← hW]; simp
  have y0 : W.heap[w.heap.size]? = some (.cells #[.pointer (some ⟨b, 0, none⟩)] 24 (0, 0)) := by rw [← hW, Below.heap_alloc _ _ _ (by simp)]; exact heap_alloc_new w _
  have x0 : W.heap[w.heap.size + 1]? = some (.cells #[.slice A n c] 27 (0, 0)) := by
    rw [← hW]
    have := heap_alloc_new (w.alloc (.cells #[.pointer (some ⟨b, 0, none⟩)] 24)) (.cells #[.slice A n c] 27)
    rwa [show (w.alloc (.cells #[.pointer (some ⟨b, 0, none⟩)] 24)).heap.size = w.heap.size + 1 by simp] at this
  have hD := h.below bW (Nat.le_refl _)
  have hx : W.cell? ⟨w.heap.size + 1, 0, none⟩ = some (.slice A n c) := by rw [cell_of_row _ _ _ _ _ _ x0]; rfl
  have hy : W.cell? ⟨w.heap.size, 0, none⟩ = some (.pointer (some ⟨b, 0, none⟩)) := by rw [cell_of_row _ _ _ _ _ _ y0]; rfl
  have C1 := Lib.hid (write1_any c hD hx hy (hz.belowM bW hB) hn hs (fun e => by have := h.lt _ e; omega))
  have BW := Lib.hid (Moved.of_below K bW)
  have HW := Lib.hid hW
  have HDK := Lib.hid hD
  obtain ⟨v, u, ps, hA⟩ := hD
  have m0 := Lib.hid hA.made
  have m1 := hA.up
  clear hW bW y0 x0 hA hz h hs
  cases hu : s.up with
  | true =>
    rw [hu] at m1
    have C2 := Lib.hid (ifup_yes m0.out m1 33 _ (fun _ _ => by kernel_rfl) _ C1.out)
    have HZ : Hid (dWrite s zs = (0, ⟨s.up, s.zs, s.ws ++ [zs]⟩)) := Lib.hid (by unfold dWrite; rw [hu]; rfl)
    clear C1 m0 m1 hu
    go_enter Try.func16, Try.ntmps16
    go_wp2_with fail
    rw [HW.out]
    refine C2.out.mono ?_
    rintro e w2 ⟨v2, rfl, rfl, hp⟩
    have HP := Lib.hid (did_under (w := w) BW.out ⟨rfl, hp⟩)
    clear hp
    go_wp2
    go_ret
    rw [HZ.out]
    exact HP.out
  | false =>
    rw [hu] at m1
    have C2 := Lib.hid (fun F => ifup_down m0.out m1 F)
    have HZ : Hid (dWrite s zs = (60, s)) := Lib.hid (by unfold dWrite; rw [hu]; rfl)
    clear C1 m0 m1 hu
    go_enter Try.func16, Try.ntmps16
    go_wp2_with fail
    rw [HW.out]
    refine (C2.out _).mono ?_
    rintro e w2 ⟨rfl, rfl⟩
    have HP := Lib.hid (did_under (w := w) (r := (60, s)) BW.out ⟨rfl, K, HDK.out, Moved.refl _ _, Newer.refl _ _⟩)
    go_wp2
    go_ret
    rw [HZ.out]
    exact HP.out
end Go.Proofs.Ytlbmhkccmclmfaa
