/- Sync and Start of a disk. -/
import Derived.Test.YtlbmhkccmclmfaaDWrite
namespace Go.Proofs.Ytlbmhkccmclmfaa
open Go.ChangeShapes Go.WideShapes Go.ChangeAt Go.RowKit
set_option linter.unusedVariables false
set_option maxHeartbeats 1000000 in
theorem sync1_any {w : World} {b : Nat} {K : Nat → Prop} {s : DiskZ} {y : Nat} (h : Dk w b K s) (h1 : w.cell? ⟨y, 0, none⟩ = some (.pointer (some ⟨b, 0, none⟩))) (hs : Small s) (hyK : ¬ K y) :
    Calls Try.prog 35 #[.pointer (some ⟨y, 0, none⟩)] w (fun e w' => ∃ v, e = .returned v ∧ DidV w b K (0, ⟨s.up, s.zs ++ s.ws.flatten, []⟩) v w') := by
  obtain ⟨v, u, ps, h⟩ := h
  obtain ⟨W, d, rfl, hm1, hm2, hbu⟩ := h.bunch
  have hlen := h.len
  have hwr := hs.writes
  have hby := hs.bytes
  have h2 := h.wr
  have e := h.flat
  have HS := Lib.hid (settle_any (w := w.drew) d (h.keep (w1 := w.drew) (fun _ _ => rfl) (Nat.le_refl _)) ((hbu.keep (w1 := w.drew) (fun _ _ _ => rfl)).more (fun k hk _ => ⟨hk.2.1, hk.2.2⟩)) (by omega) (by unfold allZ at hby; rw [← e]; rw [List.length_append] at hby; omega))
  obtain ⟨m, hm⟩ : ∃ m, ps.length = m := ⟨_, rfl⟩
  rw [hm] at HS h2
  rw [e]
  clear h hbu hlen hwr hby hs hm hm1 hm2 e
  go_enter Try.func35, Try.ntmps35
  go_wp2
  refine Late.region (fun w' => w'.cell? ⟨y, 0, none⟩ = some (.pointer (some ⟨b, 0, none⟩))) [] (by kernel_rfl) h1 (fun hHeld => ?_)
  refine Late.take (i := 0) (oi := ⟨some 2, Op.load 24 (Operand.tmp 0), _, _, _, _⟩) (v := ?_) rfl (by kernel_rfl) (by kernel_rfl) (by kernel_rfl) (by kernel_rfl) (fun _ _ _ h => h) (Or.inl ⟨by rfl, fun w hSw => ?_⟩) (by assumption) ?_
  rotate_left
  · (have s1 := hSw; go_simp; try with_reducible rfl)
  try simp only [Act.put, List.setIfInBounds_toArray, List.set_cons_zero, List.set_cons_succ]
  refine Late.take (i := 1) (oi := ⟨some 3, Op.load 24 (Operand.tmp 0), _, _, _, _⟩) (v := ?_) rfl (by kernel_rfl) (by kernel_rfl) (by kernel_rfl) (by kernel_rfl) (fun _ _ _ h => h) (Or.inl ⟨by rfl, fun w hSw => ?_⟩) (by assumption) ?_
  rotate_left
  · (have s1 := hSw; go_simp; try with_reducible rfl)
  try simp only [Act.put, List.setIfInBounds_toArray, List.set_cons_zero, List.set_cons_succ]
  refine Late.take (i := 2) (oi := ⟨some 4, Op.nilCheck (Operand.tmp 3), _, _, _, _⟩) (v := ?_) rfl (by kernel_rfl) (by kernel_rfl) (by kernel_rfl) (by kernel_rfl) (fun _ _ _ h => h) (Or.inl ⟨by rfl, fun w hSw => ?_⟩) (by assumption) ?_
  rotate_left
  · (have s1 := hSw; go_simp; try with_reducible rfl)
  try simp only [Act.put, List.setIfInBounds_toArray, List.set_cons_zero, List.set_cons_succ]
  refine Late.take (i := 3) (oi := ⟨some 5, Op.fieldAddr 40 (Operand.tmp 4) 3, _, _, _, _⟩) (v := ?_) rfl (by kernel_rfl) (by kernel_rfl) (by kernel_rfl) (by kernel_rfl) (fun _ _ _ h => h) (Or.inl ⟨by rfl, fun w hSw => ?_⟩) (by assumption) ?_
  rotate_left
  · (have s1 := hSw; go_simp; try with_reducible rfl)
  try simp only [Act.put, List.setIfInBounds_toArray, List.set_cons_zero, List.set_cons_succ]
  refine Late.one (i := 4) (o := ⟨some 6, Op.load 38 (Operand.tmp 5), _, _, _, _⟩) (by kernel_rfl) rfl (fun K hK => ?_)
  go_simp
  refine hK.out _ _ (h1) (fun hHeld2 => ?_)
  clear hK K hHeld
  have hHeld := hHeld2
  clear hHeld2
  try simp only [Act.put, List.setIfInBounds_toArray, List.set_cons_zero, List.set_cons_succ]
  refine Late.one (i := 5) (o := ⟨some 7, Op.call { callee := Callee.value (Operand.func 36), args := #[Operand.tmp 2, Operand.tmp 6], argTypes := #[24, 38] }, _, _, _, _⟩) (by kernel_rfl) rfl (fun K hK => ?_)
  go_simp
  refine HS.out.mono ?_
  rintro e w2 ⟨rfl, hd, hm⟩
  have h3 : w2.cell? ⟨y, 0, none⟩ = some (.pointer (some ⟨b, 0, none⟩)) := (hm.cell? ⟨y, 0, none⟩ (World.block_lt_of_cell? _ _ h1) hyK).trans h1
  have HDm := Lib.hid (And.intro hd hm)
  clear hd hm
  go_wp2_with fail
  refine hK.out _ _ (h3) (fun hHeld2 => ?_)
  clear hK K hHeld
  have hHeld := hHeld2
  clear hHeld2
  try simp only [Act.put, List.setIfInBounds_toArray, List.set_cons_zero, List.set_cons_succ]
  refine Late.done (by kernel_rfl) ?_ _
  refine NoPanic.normal ?_
  go_wp2
  go_ret
  exact ⟨_, rfl, rfl, _, HDm.out.1, (Moved.drew K w).then HDm.out.2, wider_newer K _ _⟩
theorem sync_any {w : World} {b : Nat} {K : Nat → Prop} {s : DiskZ} (h : Dk w b K s) (hs : Small s) :
    Calls Try.prog 17 #[.pointer (some ⟨b, 0, none⟩)] w (Did w b K (dSync s)) := by
  obtain ⟨W, hW⟩ : ∃ W, w.alloc (.cells #[.pointer (some ⟨b, 0, none⟩)] 24) = W := ⟨_, rfl⟩
  have bW : Below w.heap.size w W := by rw [← hW]; exact (Below.refl _ _).alloc (Nat.le_refl _) _
  have y0 : W.heap[w.heap.size]? = some (.cells #[.pointer (some ⟨b, 0, none⟩)] 24 (0, 0)) := by rw [← hW]; exact heap_alloc_new w _
  have hD := h.below bW (Nat.le_refl _)
  have hy : W.cell? ⟨w.heap.size, 0, none⟩ = some (.pointer (some ⟨b, 0, none⟩)) := by rw [cell_of_row _ _ _ _ _ _ y0]; rfl
  have C1 := Lib.hid (sync1_any hD hy hs (fun e => by have := h.lt _ e; omega))
  have BW := Lib.hid (Moved.of_below K bW)
  have HW := Lib.hid hW
  have HDK := Lib.hid hD
  obtain ⟨v, u, ps, hA⟩ := hD
  have m0 := Lib.hid hA.made
  have m1 := hA.up
  clear hW bW y0 hA h hs
  cases hu : s.up with
  | true =>
    rw [hu] at m1
    have C2 := Lib.hid (ifup_yes m0.out m1 35 _ (fun _ _ => by kernel_rfl) _ C1.out)
    have HZ : Hid (dSync s = (0, ⟨s.up, s.zs ++ s.ws.flatten, []⟩)) := Lib.hid (by unfold dSync; rw [hu]; rfl)
    clear C1 m0 m1 hu
    go_enter Try.func17, Try.ntmps17
    go_wp2_with fail
    rw [HW.out]
    refine C2.out.mono ?_
    rintro e w2 ⟨v2, rfl, rfl, hp⟩
    have HP := Lib.hid (did_under (w := w) BW.out ⟨rfl, hp⟩)
    clear hp
    go_wp2
    go_ret
    rw [HZ.out]
    exact HP.out
  | false =>
    rw [hu] at m1
    have C2 := Lib.hid (fun F => ifup_down m0.out m1 F)
    have HZ : Hid (dSync s = (60, s)) := Lib.hid (by unfold dSync; rw [hu]; rfl)
    clear C1 m0 m1 hu
    go_enter Try.func17, Try.ntmps17
    go_wp2_with fail
    rw [HW.out]
    refine (C2.out _).mono ?_
    rintro e w2 ⟨rfl, rfl⟩
    have HP := Lib.hid (did_under (w := w) (r := (60, s)) BW.out ⟨rfl, K, HDK.out, Moved.refl _ _, Newer.refl _ _⟩)
    go_wp2
    go_ret
    rw [HZ.out]
    exact HP.out
/-- One of its flags is stored. -/
theorem DkAt.upped {w : World} {b : Nat} {K : Nat → Prop} {s : DiskZ} {v u : Value} {ps : List PieceZ} (h : DkAt w b K s v u ps) (x : Bool) : DkAt (w.setCell ⟨b, 1, none⟩ (.bool x)) b K ⟨x, s.zs, s.ws⟩ v u ps := by
  have far : ∀ k, k ≠ b → (w.setCell ⟨b, 1, none⟩ (.bool x)).heap[k]? = w.heap[k]? := fun k hk => Below.heap_setCell _ _ _ _ hk
  refine ⟨h.kb, fun k hk => by have := h.lt k hk; simpa [World.setCell] using this, ?_, World.cell?_setCell_same _ _ _ h.up, ?_, ?_, ?_, ?_, ?_, own_same h.own2 (fun k hk => far k (h.blk2 k hk).2), h.blk2, h.bytes, own_same h.own3 (fun k hk => far k (h.blk3 k hk).2.1), h.blk3, fun p hp => (h.all p hp).keep (fun k hF _ => far k hF.2.1), h.ws⟩
  · rw [World.cell?_setCell_other _ _ _ _ (by simp)]; exact h.made
  · rw [World.cell?_setCell_other _ _ _ _ (by simp)]; exact h.syn
  · rw [World.cell?_setCell_other _ _ _ _ (by simp)]; exact h.wr
  · rw [World.frozen?_setCell]; exact h.f1
  · rw [World.frozen?_setCell]; exact h.f2
  · rw [World.frozen?_setCell]; exact h.f3
theorem start_any {w : World} {b : Nat} {K : Nat → Prop} {s : DiskZ} (h : Dk w b K s) : Calls Try.prog 19 #[.pointer (some ⟨b, 0, none⟩)] w (Did w b K (dStart s)) := by
  have HD := Lib.hid h
  obtain ⟨v, u, ps, h⟩ := h
  have h0 := h.made
  have h1 := h.up
  have f1 := h.f1
  have HA := Lib.hid h
  clear h
  cases hu : s.up with
  | true =>
    rw [hu] at h1
    have HZ : Hid (dStart s = (2, s)) := Lib.hid (by unfold dStart; rw [hu]; rfl)
    clear hu
    go_enter Try.func19, Try.ntmps19
    go_wp2
    go_ret
    rw [HZ.out]
    exact ⟨rfl, K, HD.out, Moved.refl _ _, Newer.refl _ _⟩
  | false =>
    rw [hu] at h1
    have HZ : Hid (dStart s = (0, ⟨true, s.zs, s.ws⟩)) := Lib.hid (by unfold dStart; rw [hu]; rfl)
    clear hu
    go_enter Try.func19, Try.ntmps19
    go_wp2
    go_ret
    rw [HZ.out]
    exact ⟨rfl, K, ⟨_, _, _, HA.out.upped true⟩, Moved.cell _ _ _ _ HA.out.kb, Newer.refl _ _⟩
end Go.Proofs.Ytlbmhkccmclmfaa
