/- All bytes of a disk. -/
import Derived.Test.YtlbmhkccmclmfaaDConcat
namespace Go.Proofs.Ytlbmhkccmclmfaa
open Go.ChangeShapes Go.WideShapes Go.ChangeAt Go.RowKit
set_option linter.unusedVariables false
set_option maxHeartbeats 1000000 in
theorem bytes_any {w : World} {b : Nat} {K : Nat → Prop} {s : DiskZ} (h : Dk w b K s) (hs : Small s) : Calls Try.prog 10 #[.pointer (some ⟨b, 0, none⟩)] w (Made w (allZ s)) := by
  obtain ⟨v, u, ps, h⟩ := h
  obtain ⟨A, c, rfl, hp⟩ := h.piece
  obtain ⟨W, d, rfl, hm1, hm2, hbu⟩ := h.bunch
  have h1 := h.syn
  have h2 := h.wr
  have hb : b < w.heap.size := h.lt b h.kb
  have hlen := h.len
  have hwr := hs.writes
  have hby := hs.bytes
  have HZ : Hid (flatZ (⟨A, s.zs.length, c, s.zs⟩ :: ps) = allZ s) := Lib.hid (by unfold allZ; rw [h.flat]; simp [flatZ])
  obtain ⟨n, hn⟩ : ∃ n, s.zs.length = n := ⟨_, rfl⟩
  obtain ⟨m, hm⟩ : ∃ m, ps.length = m := ⟨_, rfl⟩
  have hms : m ≤ 1000000 := by omega
  have HF : Hid ((flatZ (⟨A, s.zs.length, c, s.zs⟩ :: ps)).length ≤ 100000000) := Lib.hid (by rw [HZ.out]; omega)
  rw [hn] at h1 HZ HF hp
  rw [hm] at h2
  obtain ⟨X, hX⟩ : ∃ X, (w.alloc (.cells #[.slice A n c] 27)).drew = X := ⟨_, rfl⟩
  have hh : X.heap[w.heap.size]? = some (.cells #[.slice A n c] 27 (0, 0)) := by rw [← hX]; exact heap_alloc_new w _
  have HO : Hid (X.ownsRow w.heap.size 27 1 (.slice (some ⟨w.heap.size, 0, none⟩) 1 1) 1 [.slice A n c]) := Lib.hid ⟨rfl, .inr ⟨w.heap.size, 1, _, rfl, Nat.le_refl _, hh, Nat.le_refl _, by simp [maxLen], rfl, rfl⟩⟩
  have bX : Below w.heap.size w X := by rw [← hX]; exact ((Below.refl w.heap.size w).alloc (Nat.le_refl _) _).drew
  have HL : Hid (Lies X 1 W m (ps.map pval) ∧ Sourced W m) := Lib.hid (by rw [← hm]; exact (hbu.keep (fun k _ hk => bX.block k hk)).lies)
  have sX : X.heap.size = w.heap.size + 1 := by rw [← hX]; show (w.alloc _).heap.size = _; simp
  have HP : Hid (∀ w3, X.grownBy w3 (some w.heap.size) → ∀ p ∈ (⟨A, n, c, s.zs⟩ :: ps : List PieceZ), Stands w3 (fun _ => True) p) := Lib.hid (fun w3 hg p hpm => by
    have kk : ∀ k, k < w.heap.size → w3.heap[k]? = w.heap[k]? := fun k hk => (hg.block k (by omega) (fun e => by injection e with e; omega)).trans (bX.block k hk)
    rcases List.mem_cons.1 hpm with rfl | hpm
    · exact (hp.keep (fun k _ hk => kk k hk)).more (fun _ _ _ => trivial)
    · exact ((hbu.all p hpm).keep (fun k _ hk => kk k hk)).more (fun _ _ _ => trivial))
  have HC : Hid (∀ w3, X.grownBy w3 (some w.heap.size) → ∀ (i : Nat) x, w.cell? ⟨b, i, none⟩ = some x → w3.cell? ⟨b, i, none⟩ = some x) := Lib.hid (fun w3 hg i x hx => by
    rw [World.cell?_of_block (a := ⟨b, i, none⟩) (w := w) ((hg.block b (by omega) (fun e => by injection e with e; omega)).trans (bX.block b hb))]
    exact hx)
  have BX := Lib.hid bX
  have HM := Lib.hid hm
  have HX := Lib.hid hX
  clear h hbu hp hs hlen hwr hby hn hm hh bX hX hm1 hm2
  go_enter Try.func10, Try.ntmps10
  go_wp2
  refine Late.region (fun w' => w'.cell? ⟨b, 2, none⟩ = some (.slice A n c) ∧ w'.cell? ⟨b, 3, none⟩ = some (.slice W m d)) [10] (by kernel_rfl) ⟨h1, h2⟩ (fun hHeld => ?_)
  refine Late.take (i := 0) (oi := ⟨some 6, Op.move (Operand.tmp 0), _, _, _, _⟩) (v := ?_) rfl (by kernel_rfl) (by kernel_rfl) (by kernel_rfl) (by kernel_rfl) (fun _ _ _ h => h) (Or.inl ⟨by rfl, fun w hSw => ?_⟩) (by assumption) ?_
  rotate_left
  · (obtain ⟨s1, s2⟩ := hSw; go_simp; try with_reducible rfl)
  try simp only [Act.put, List.setIfInBounds_toArray, List.set_cons_zero, List.set_cons_succ]
  refine Late.take (i := 1) (oi := ⟨some 7, Op.nilCheck (Operand.tmp 6), _, _, _, _⟩) (v := ?_) rfl (by kernel_rfl) (by kernel_rfl) (by kernel_rfl) (by kernel_rfl) (fun _ _ _ h => h) (Or.inl ⟨by rfl, fun w hSw => ?_⟩) (by assumption) ?_
  rotate_left
  · (obtain ⟨s1, s2⟩ := hSw; go_simp; try with_reducible rfl)
  try simp only [Act.put, List.setIfInBounds_toArray, List.set_cons_zero, List.set_cons_succ]
  refine Late.take (i := 2) (oi := ⟨some 8, Op.fieldAddr 40 (Operand.tmp 7) 2, _, _, _, _⟩) (v := ?_) rfl (by kernel_rfl) (by kernel_rfl) (by kernel_rfl) (by kernel_rfl) (fun _ _ _ h => h) (Or.inl ⟨by rfl, fun w hSw => ?_⟩) (by assumption) ?_
  rotate_left
  · (obtain ⟨s1, s2⟩ := hSw; go_simp; try with_reducible rfl)
  try simp only [Act.put, List.setIfInBounds_toArray, List.set_cons_zero, List.set_cons_succ]
  refine Late.take (i := 3) (oi := ⟨some 9, Op.load 27 (Operand.tmp 8), _, _, _, _⟩) (v := ?_) rfl (by kernel_rfl) (by kernel_rfl) (by kernel_rfl) (by kernel_rfl) (fun _ _ _ h => h) (Or.inl ⟨by rfl, fun w hSw => ?_⟩) (by assumption) ?_
  rotate_left
  · (obtain ⟨s1, s2⟩ := hSw; go_simp; try with_reducible rfl)
  try simp only [Act.put, List.setIfInBounds_toArray, List.set_cons_zero, List.set_cons_succ]
  refine Late.take (i := 5) (oi := ⟨some 11, Op.move (Operand.tmp 0), _, _, _, _⟩) (v := ?_) rfl (by kernel_rfl) (by kernel_rfl) (by kernel_rfl) (by kernel_rfl) (fun _ _ _ h => h) (Or.inl ⟨by rfl, fun w hSw => ?_⟩) (by assumption) ?_
  rotate_left
  · (obtain ⟨s1, s2⟩ := hSw; go_simp; try with_reducible rfl)
  try simp only [Act.put, List.setIfInBounds_toArray, List.set_cons_zero, List.set_cons_succ]
  refine Late.take (i := 6) (oi := ⟨some 12, Op.nilCheck (Operand.tmp 11), _, _, _, _⟩) (v := ?_) rfl (by kernel_rfl) (by kernel_rfl) (by kernel_rfl) (by kernel_rfl) (fun _ _ _ h => h) (Or.inl ⟨by rfl, fun w hSw => ?_⟩) (by assumption) ?_
  rotate_left
  · (obtain ⟨s1, s2⟩ := hSw; go_simp; try with_reducible rfl)
  try simp only [Act.put, List.setIfInBounds_toArray, List.set_cons_zero, List.set_cons_succ]
  refine Late.take (i := 7) (oi := ⟨some 13, Op.fieldAddr 40 (Operand.tmp 12) 3, _, _, _, _⟩) (v := ?_) rfl (by kernel_rfl) (by kernel_rfl) (by kernel_rfl) (by kernel_rfl) (fun _ _ _ h => h) (Or.inl ⟨by rfl, fun w hSw => ?_⟩) (by assumption) ?_
  rotate_left
  · (obtain ⟨s1, s2⟩ := hSw; go_simp; try with_reducible rfl)
  try simp only [Act.put, List.setIfInBounds_toArray, List.set_cons_zero, List.set_cons_succ]
  refine Late.take (i := 8) (oi := ⟨some 14, Op.load 38 (Operand.tmp 13), _, _, _, _⟩) (v := ?_) rfl (by kernel_rfl) (by kernel_rfl) (by kernel_rfl) (by kernel_rfl) (fun _ _ _ h => h) (Or.inl ⟨by rfl, fun w hSw => ?_⟩) (by assumption) ?_
  rotate_left
  · (obtain ⟨s1, s2⟩ := hSw; go_simp; try with_reducible rfl)
  try simp only [Act.put, List.setIfInBounds_toArray, List.set_cons_zero, List.set_cons_succ]
  refine Late.one (i := 4) (o := ⟨some 10, Op.buildSlice 38 1 #[(0, Operand.tmp 9)], _, _, _, _⟩) (by kernel_rfl) rfl (fun K hK => ?_)
  go_simp
  refine hK.out _ _ (⟨(World.cell?_alloc_lt w _ ⟨b, 2, none⟩ hb).trans h1, (World.cell?_alloc_lt w _ ⟨b, 3, none⟩ hb).trans h2⟩) (fun hHeld2 => ?_)
  clear hK K hHeld
  have hHeld := hHeld2
  clear hHeld2
  try simp only [Act.put, List.setIfInBounds_toArray, List.set_cons_zero, List.set_cons_succ]
  refine Late.one (i := 9) (o := ⟨some 15, Op.call { callee := Callee.builtin Builtin.append, args := #[Operand.tmp 10, Operand.tmp 14], argTypes := #[38, 38] }, _, _, _, _⟩) (by kernel_rfl) rfl (fun K hK => ?_)
  rw [HX.out]
  refine step_app _ (by rfl) (.tmp 10) (.tmp 14) 38 (by rfl) w.heap.size 27 1 24 Try.underlying38 slice_info (by decide) (.slice (some ⟨w.heap.size, 0, none⟩) 1 1) 1 [.slice A n c] (by rfl) HO.out W m d (ps.map pval) (by rfl) HL.out.1 HL.out.2 (pvals_one _) (by unfold maxLen; omega) (by omega) (by omega) ?_
  intro v' w3 ho3 hg3 hat
  have c1 : w3.cell? ⟨b, 2, none⟩ = some (.slice A n c) := HC.out w3 hg3 2 _ h1
  have c2 : w3.cell? ⟨b, 3, none⟩ = some (.slice W m d) := HC.out w3 hg3 3 _ h2
  refine hK.out _ _ (⟨c1, c2⟩) (fun hHeld2 => ?_)
  clear hK K hHeld
  have hHeld := hHeld2
  clear hHeld2
  try simp only [Act.put, List.setIfInBounds_toArray, List.set_cons_zero, List.set_cons_succ]
  refine Late.end_ (i := 10) (o := ⟨some 3, Op.assign (Operand.tmp 15), _, _, _, _⟩) (by kernel_rfl) rfl rfl (fun K hK => ?_)
  go_simp
  refine hK.out _ _ ?_
  clear hK K
  try simp only [Act.put, List.setIfInBounds_toArray, List.set_cons_zero, List.set_cons_succ]
  refine Late.done (by kernel_rfl) ?_ _
  refine NoPanic.normal ?_
  obtain ⟨V, cv, rfl, q1, q2⟩ := own_shape ho3
  have HB : Hid (Bunch w3 (fun _ => True) V (⟨A, n, c, s.zs⟩ :: ps)) := Lib.hid (bunch_own (ps := ⟨A, n, c, s.zs⟩ :: ps) (c := cv) (base := w.heap.size) (by
    have e : (⟨A, n, c, s.zs⟩ :: ps : List PieceZ).length = 1 + m := by rw [List.length_cons, HM.out]; omega
    rw [e]; exact ho3) (fun _ _ => trivial) (HP.out w3 hg3))
  have CC := concat_any cv HB.out (by rw [List.length_cons, HM.out]; omega) HF.out
  rw [HZ.out, show (⟨A, n, c, s.zs⟩ :: ps : List PieceZ).length = 1 + m by rw [List.length_cons, HM.out]; omega] at CC
  have HCC := Lib.hid CC
  have B3 : Hid (Below w.heap.size w w3) := Lib.hid (BX.out.grown hg3 (by omega) (fun k hk => by simp [Value.ownBlock] at hk; omega))
  clear CC HC HP HL HO ho3 hg3 hat c1 c2 hHeld h1 h2
  go_wp2_with (go_at_call 25; refine HCC.out.mono ?_; rintro e w4 ⟨A4, c4, rfl, ho4, hb4, hc4, hc4'⟩)
  go_ret
  exact ⟨A4, c4, rfl, own_base ho4 B3.out.size, B3.out.trans (hb4.mono B3.out.size), hc4, hc4'⟩
end Go.Proofs.Ytlbmhkccmclmfaa
