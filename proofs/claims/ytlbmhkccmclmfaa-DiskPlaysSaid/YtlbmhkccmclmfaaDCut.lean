/- Cut of a disk. -/
import Derived.Test.YtlbmhkccmclmfaaDCrash
namespace Go.Proofs.Ytlbmhkccmclmfaa
open Go.ChangeShapes Go.WideShapes Go.ChangeAt Go.RowKit
set_option linter.unusedVariables false
def dCut (s : DiskZ) (n : Int) : Int × DiskZ := if s.up then (if n < 0 ∨ ((allZ s).length : Int) < n then (2, s) else (0, ⟨s.up, (allZ s).take n.toNat, []⟩)) else (60, s)
/-- A disk's bytes are new. -/
theorem settling_new {w w3 : World} {b : Nat} {K : Nat → Prop} {s : DiskZ} {v u v' : Value} {ps : List PieceZ} {zs : List Int} {n : Nat} (h : DkAt w b K s v u ps) (hb : Below w.heap.size w w3) (ho : w3.ownsRow w.heap.size 5 1 v' n (vals zs)) (hn : zs.length = n) (hz : IsBytes zs) : Settling w b v zs (w3.setCell ⟨b, 2, none⟩ v') := by
  have hbb := h.lt b h.kb
  have hv : ∀ k, v'.ownBlock = some k → w.heap.size ≤ k := fun k hk => (ho.lt k hk).1
  have e := hb.block b hbb
  refine ⟨⟨v', World.cell?_setCell_same _ _ _ ((World.cell?_of_block (a := ⟨b, 2, none⟩) e).trans h.syn), ?_, .inr hv⟩, hz, fun i hi => ?_, fun i => ?_, ?_⟩
  · rw [hn]
    exact own_base (own_same ho (fun k hk => Below.heap_setCell _ _ _ _ (by have := hv k hk; show k ≠ b; omega))) (Nat.zero_le _)
  · rw [World.cell?_setCell_other _ _ _ _ (fun e => hi (congrArg Addr.off e).symm)]; exact World.cell?_of_block (a := ⟨b, i, none⟩) e
  · rw [World.frozen?_setCell]; exact World.frozen?_of_block (a := ⟨b, i, none⟩) e
  · exact (Moved.of_below _ hb).then (Moved.cell _ _ _ _ (.inl rfl))
theorem allZ_bytes {w : World} {b : Nat} {K : Nat → Prop} {s : DiskZ} (h : Dk w b K s) : IsBytes (allZ s) := by
  obtain ⟨v, u, ps, h⟩ := h
  unfold allZ
  rw [h.flat]
  exact h.bytes.app (flatZ_bytes fun p hp => (h.all p hp).bytes)
set_option maxHeartbeats 1000000 in
theorem cut1_no {w : World} {b : Nat} {K : Nat → Prop} {s : DiskZ} {x y : Nat} (n : Int) (h : Dk w b K s) (h1 : w.cell? ⟨y, 0, none⟩ = some (.pointer (some ⟨b, 0, none⟩))) (h2 : w.cell? ⟨x, 0, none⟩ = some (.int .i64 n)) (hs : Small s) (hn : n < 0 ∨ ((allZ s).length : Int) < n) :
    Calls Try.prog 39 #[.pointer (some ⟨y, 0, none⟩), .pointer (some ⟨x, 0, none⟩)] w (fun e w' => ∃ v, e = .returned v ∧ DidV w b K (2, s) v w') := by
  have HB := Lib.hid (bytes_any h hs)
  have HD := Lib.hid h
  have hx := World.block_lt_of_cell? _ _ h2
  have hby := hs.bytes
  obtain ⟨m, hm⟩ : ∃ m, (allZ s).length = m := ⟨_, rfl⟩
  have HM := Lib.hid hm
  rw [hm] at hn hby
  have H2 := Lib.hid h2
  clear h hs hm h2
  by_cases n1 : n < 0
  · clear hn
    go_enter Try.func39, Try.ntmps39
    go_wp2_with (go_at_call 10; refine HB.out.mono ?_; intro e w1 hm1; obtain ⟨M, cm, rfl, ho1, hb1, hc1, hc2⟩ := hm1.n HM.out; have h4 := (hb1.cell (p := ⟨x, 0, none⟩) hx).trans H2.out; clear hm1)
    have HB1 := Lib.hid hb1
    clear ho1 hb1
    go_wp2
    go_ret
    exact ⟨_, rfl, rfl, K, HD.out.below HB1.out (Nat.le_refl _), Moved.of_below _ HB1.out, Newer.refl _ _⟩
  · have n2 : (m : Int) < n := by omega
    clear hn
    go_enter Try.func39, Try.ntmps39
    go_wp2_with (go_at_call 10; refine HB.out.mono ?_; intro e w1 hm1; obtain ⟨M, cm, rfl, ho1, hb1, hc1, hc2⟩ := hm1.n HM.out; have h4 := (hb1.cell (p := ⟨x, 0, none⟩) hx).trans H2.out; clear hm1)
    have HB1 := Lib.hid hb1
    clear ho1 hb1
    go_wp2
    go_ret
    exact ⟨_, rfl, rfl, K, HD.out.below HB1.out (Nat.le_refl _), Moved.of_below _ HB1.out, Newer.refl _ _⟩
set_option maxHeartbeats 1000000 in
theorem cut1_yes {w : World} {b : Nat} {K : Nat → Prop} {s : DiskZ} {x y : Nat} (k : Nat) (h : Dk w b K s) (h1 : w.cell? ⟨y, 0, none⟩ = some (.pointer (some ⟨b, 0, none⟩))) (h2 : w.cell? ⟨x, 0, none⟩ = some (.int .i64 k)) (hs : Small s) (hyK : ¬ K y) (hn : k ≤ (allZ s).length) :
    Calls Try.prog 39 #[.pointer (some ⟨y, 0, none⟩), .pointer (some ⟨x, 0, none⟩)] w (fun e w' => ∃ v, e = .returned v ∧ DidV w b K (0, ⟨s.up, (allZ s).take k, []⟩) v w') := by
  have HB := Lib.hid (bytes_any h hs)
  have hx := World.block_lt_of_cell? _ _ h2
  have hy := World.block_lt_of_cell? _ _ h1
  have hby := hs.bytes
  have HZB := Lib.hid (allZ_bytes h)
  have hyb : y ≠ b := fun e => hyK (by rw [e]; exact h.kb)
  obtain ⟨v, u, ps, h⟩ := h
  have HD := Lib.hid h
  have hb : b < w.heap.size := h.lt b h.kb
  obtain ⟨m, hm⟩ : ∃ m, (allZ s).length = m := ⟨_, rfl⟩
  have HM := Lib.hid hm
  rw [hm] at hn hby
  have H1 := Lib.hid h1
  have H2 := Lib.hid h2
  have n1 : ¬ ((k : Int) < 0) := by omega
  have n2 : ¬ ((m : Int) < k) := by omega
  clear h hs hm h2 h1
  go_enter Try.func39, Try.ntmps39
  go_upto_region 1 with fail
  have h1 := H1.out
  go_upto_region 2 with (go_at_call 10; refine HB.out.mono ?_; intro e w1 hm1; obtain ⟨M, cm, rfl, ho1, hb1, hc1, hc2⟩ := hm1.n HM.out; clear hm1)
  have h3 : w1.cell? ⟨y, 0, none⟩ = some (.pointer (some ⟨b, 0, none⟩)) := (hb1.cell (p := ⟨y, 0, none⟩) hy).trans H1.out
  have h4 : w1.cell? ⟨x, 0, none⟩ = some (.int .i64 k) := (hb1.cell (p := ⟨x, 0, none⟩) hx).trans H2.out
  have HB1 := Lib.hid hb1
  have HCUT := Lib.hid (cut_h M m cm k k rfl (by omega))
  have p1 : Stands w1 (fun _ => True) ⟨M, m, cm, allZ s⟩ := stands_own ho1 HZB.out (fun _ _ => trivial)
  have HL := Lib.hid ((p1.cut (k := k) (c' := cm) hn (by omega) hc2).lies)
  have s1 := hb1.size
  have HG : Hid (∀ w3, w1.drew.grownBy w3 none → w3.cell? ⟨y, 0, none⟩ = some (.pointer (some ⟨b, 0, none⟩)) ∧ w3.cell? ⟨x, 0, none⟩ = some (.int .i64 k) ∧ w3.cell? ⟨b, 2, none⟩ = some v ∧ w3.frozen? ⟨b, 2, none⟩ = false ∧ Below w.heap.size w w3) := Lib.hid (fun w3 hg => by
    have hbb : Below w.heap.size w w3 := (HB1.out.drew).grown hg (by show w.heap.size ≤ w1.heap.size; omega) (fun k e => by cases e)
    exact ⟨(hbb.cell (p := ⟨y, 0, none⟩) hy).trans H1.out, (hbb.cell (p := ⟨x, 0, none⟩) hx).trans H2.out, (hbb.cell (p := ⟨b, 2, none⟩) hb).trans HD.out.syn, (hbb.frozen (p := ⟨b, 2, none⟩) hb).trans HD.out.f2, hbb⟩)
  have HTL : Hid (((allZ s).take k).length = k) := Lib.hid (by rw [List.length_take, HM.out]; omega)
  have HTB : Hid (IsBytes ((allZ s).take k)) := Lib.hid (by
    have := HZB.out
    rw [isBytes_iff] at *
    exact fun z hz => this z (List.mem_of_mem_take hz))
  have hk1 : (k : Int) ≤ (cm : Int) := by omega
  have hk0 : (0 : Int) ≤ (k : Int) := by omega
  clear ho1 hb1 p1 h1
  go_wp2
  refine Late.region (fun w' => w'.cell? ⟨y, 0, none⟩ = some (.pointer (some ⟨b, 0, none⟩)) ∧ w'.cell? ⟨x, 0, none⟩ = some (.int .i64 k)) [5, 6, 7] (by kernel_rfl) ⟨h3, h4⟩ (fun hHeld => ?_)
  refine Late.take (i := 0) (oi := ⟨some 14, Op.load 24 (Operand.tmp 0), _, _, _, _⟩) (v := ?_) rfl (by kernel_rfl) (by kernel_rfl) (by kernel_rfl) (by kernel_rfl) (fun _ _ _ h => h) (Or.inl ⟨by rfl, fun w hSw => ?_⟩) (by assumption) ?_
  rotate_left
  · (obtain ⟨s1, s2⟩ := hSw; go_simp; try with_reducible rfl)
  try simp only [Act.put, List.setIfInBounds_toArray, List.set_cons_zero, List.set_cons_succ]
  refine Late.take (i := 1) (oi := ⟨some 15, Op.move (Operand.tmp 3), _, _, _, _⟩) (v := ?_) rfl (by kernel_rfl) (by kernel_rfl) (by kernel_rfl) (by kernel_rfl) (fun _ _ _ h => h) (Or.inl ⟨by rfl, fun w hSw => ?_⟩) (by assumption) ?_
  rotate_left
  · (obtain ⟨s1, s2⟩ := hSw; go_simp; try with_reducible rfl)
  try simp only [Act.put, List.setIfInBounds_toArray, List.set_cons_zero, List.set_cons_succ]
  refine Late.take (i := 2) (oi := ⟨some 16, Op.load 3 (Operand.tmp 1), _, _, _, _⟩) (v := ?_) rfl (by kernel_rfl) (by kernel_rfl) (by kernel_rfl) (by kernel_rfl) (fun _ _ _ h => h) (Or.inl ⟨by rfl, fun w hSw => ?_⟩) (by assumption) ?_
  rotate_left
  · (obtain ⟨s1, s2⟩ := hSw; go_simp; try with_reducible rfl)
  try simp only [Act.put, List.setIfInBounds_toArray, List.set_cons_zero, List.set_cons_succ]
  refine Late.take (i := 3) (oi := ⟨some 17, Op.slice 27 (Operand.tmp 15) none (some (Operand.tmp 16)) none, _, _, _, _⟩) (v := ?_) rfl (by kernel_rfl) (by kernel_rfl) (by kernel_rfl) (by kernel_rfl) (fun _ _ _ h => h) (Or.inl ⟨by rfl, fun w hSw => ?_⟩) (by assumption) ?_
  rotate_left
  · (obtain ⟨s1, s2⟩ := hSw; have hcut := HCUT.out; go_simp; try with_reducible rfl)
  try simp only [Act.put, List.setIfInBounds_toArray, List.set_cons_zero, List.set_cons_succ]
  refine Late.one (i := 4) (o := ⟨some 18, Op.call { callee := Callee.builtin Builtin.append, args := #[Operand.const (Value.slice none 0 0), Operand.tmp 17], argTypes := #[27, 27] }, _, _, _, _⟩) (by kernel_rfl) rfl (fun K hK => ?_)
  refine step_app _ (by rfl) (.const (.slice none 0 0)) (.tmp 17) 27 (by rfl) w1.heap.size 5 1 1 Try.underlying27 u8_info (by decide) (.slice none 0 0) 0 [] (by rfl) (World.ownsRow_nil _ _ _ _) M k cm (vals ((allZ s).take k)) (by rfl) HL.out.1 HL.out.2 (vals_one _) (by unfold maxLen; omega) (by omega) (Nat.le_refl _) ?_
  intro v' w3 ho3 hg3 hat
  rw [Nat.zero_add, List.nil_append] at ho3
  obtain ⟨V, cv, rfl, q1, q2⟩ := own_shape ho3
  have h5 : w3.cell? ⟨y, 0, none⟩ = some (.pointer (some ⟨b, 0, none⟩)) := (HG.out w3 hg3).1
  have h6 : w3.cell? ⟨x, 0, none⟩ = some (.int .i64 k) := (HG.out w3 hg3).2.1
  have h7 : w3.cell? ⟨b, 2, none⟩ = some v := (HG.out w3 hg3).2.2.1
  have f7 : w3.frozen? ⟨b, 2, none⟩ = false := (HG.out w3 hg3).2.2.2.1
  refine hK.out _ _ (⟨h5, h6⟩) (fun hHeld2 => ?_)
  clear hK K hHeld
  have hHeld := hHeld2
  clear hHeld2
  try simp only [Act.put, List.setIfInBounds_toArray, List.set_cons_zero, List.set_cons_succ]
  refine Late.end_ (i := 5) (o := ⟨some 19, Op.nilCheck (Operand.tmp 14), _, _, _, _⟩) (by kernel_rfl) rfl rfl (fun K hK => ?_)
  go_simp
  refine hK.out _ _ ?_
  clear hK K
  try simp only [Act.put, List.setIfInBounds_toArray, List.set_cons_zero, List.set_cons_succ]
  refine Late.end_ (i := 6) (o := ⟨some 20, Op.fieldAddr 40 (Operand.tmp 19) 2, _, _, _, _⟩) (by kernel_rfl) rfl rfl (fun K hK => ?_)
  go_simp
  refine hK.out _ _ ?_
  clear hK K
  try simp only [Act.put, List.setIfInBounds_toArray, List.set_cons_zero, List.set_cons_succ]
  refine Late.end_ (i := 7) (o := ⟨none, Op.store 27 (Operand.tmp 20) (Operand.tmp 18), _, _, _, _⟩) (by kernel_rfl) rfl rfl (fun K hK => ?_)
  go_simp
  refine hK.out _ _ ?_
  clear hK K
  try simp only [Act.put, List.setIfInBounds_toArray, List.set_cons_zero, List.set_cons_succ]
  refine Late.done (by kernel_rfl) ?_ _
  refine NoPanic.normal ?_
  have HS : Hid (Settling w b v ((allZ s).take k) (w3.setCell ⟨b, 2, none⟩ (.slice V k cv))) := Lib.hid (settling_new HD.out (HG.out w3 hg3).2.2.2.2 (own_base ho3 s1) HTL.out HTB.out)
  have h8 : (w3.setCell ⟨b, 2, none⟩ (.slice V k cv)).cell? ⟨b, 3, none⟩ = some u := (HS.out.cell 3 (by omega)).trans HD.out.wr
  have f8 : (w3.setCell ⟨b, 2, none⟩ (.slice V k cv)).frozen? ⟨b, 3, none⟩ = false := (HS.out.frozen 3).trans HD.out.f3
  have h9 : (w3.setCell ⟨b, 2, none⟩ (.slice V k cv)).cell? ⟨y, 0, none⟩ = some (.pointer (some ⟨b, 0, none⟩)) := by rw [World.cell?_setCell_far _ _ _ _ (by show b ≠ y; omega)]; exact h5
  obtain ⟨w4, hw4⟩ : ∃ w4, w3.setCell ⟨b, 2, none⟩ (.slice V k cv) = w4 := ⟨_, rfl⟩
  have HW4 := Lib.hid hw4
  rw [hw4] at h8 f8 h9 HS
  clear hw4 hat ho3 hg3 HG
  simp only [HW4.out]
  go_wp2
  go_ret
  have HE := HS.out.end_ HD.out
  exact ⟨_, rfl, rfl, _, HE.1, HE.2, wider_newer K w _⟩
theorem cut_any {w : World} {b : Nat} {K : Nat → Prop} {s : DiskZ} (n : Int) (h : Dk w b K s) (hs : Small s) :
    Calls Try.prog 20 #[.pointer (some ⟨b, 0, none⟩), .int .i64 n] w (Did w b K (dCut s n)) := by
  obtain ⟨W, hW⟩ : ∃ W, (w.alloc (.cells #[.pointer (some ⟨b, 0, none⟩)] 24)).alloc (.cells #[.int .i64 n] 3) = W := ⟨_, rfl⟩
  have bW : Below w.heap.size w W := by rw [← hW]; exact ((Below.refl _ _).alloc (Nat.le_refl _) _).alloc (by simp) _
  have y0 : W.heap[w.heap.size]? = some (.cells #[.pointer (some ⟨b, 0, none⟩)] 24 (0, 0)) := by rw [← hW, Below.heap_alloc _ _ _ (by simp)]; exact heap_alloc_new w _
  have x0 : W.heap[w.heap.size + 1]? = some (.cells #[.int .i64 n] 3 (0, 0)) := by
    rw [← hW]
    have := heap_alloc_new (w.alloc (.cells #[.pointer (some ⟨b, 0, none⟩)] 24)) (.cells #[.int .i64 n] 3)
    rwa [show (w.alloc (.cells #[.pointer (some ⟨b, 0, none⟩)] 24)).heap.size = w.heap.size + 1 by simp] at this
  have hD := h.below bW (Nat.le_refl _)
  have hlt := h.lt
  have hy : W.cell? ⟨w.heap.size, 0, none⟩ = some (.pointer (some ⟨b, 0, none⟩)) := by rw [cell_of_row _ _ _ _ _ _ y0]; rfl
  have hx : W.cell? ⟨w.heap.size + 1, 0, none⟩ = some (.int .i64 n) := by rw [cell_of_row _ _ _ _ _ _ x0]; rfl
  have BW := Lib.hid (Moved.of_below K bW)
  have HW := Lib.hid hW
  have HDK := Lib.hid hD
  obtain ⟨v, u, ps, hA⟩ := hD
  have m0 := Lib.hid hA.made
  have m1 := hA.up
  clear hW bW y0 x0 hA h
  cases hu : s.up with
  | true =>
    rw [hu] at m1
    have C1 : Calls Try.prog 39 #[.pointer (some ⟨w.heap.size, 0, none⟩), .pointer (some ⟨w.heap.size + 1, 0, none⟩)] W (fun e w' => ∃ v, e = .returned v ∧ DidV W b K (dCut s n) v w') := by
      unfold dCut
      rw [hu, if_pos rfl]
      by_cases hn : n < 0 ∨ ((allZ s).length : Int) < n
      · rw [if_pos hn]
        exact cut1_no n HDK.out hy hx hs hn
      · rw [if_neg hn]
        obtain ⟨k, rfl⟩ := Int.eq_ofNat_of_zero_le (show 0 ≤ n by omega)
        rw [← hu]
        exact cut1_yes k HDK.out hy hx hs (fun e => by have := hlt _ e; omega) (by omega)
    have C2 := Lib.hid (ifup_yes m0.out m1 39 _ (fun _ _ => by kernel_rfl) _ C1)
    clear C1 m0 m1 hu hy hx
    go_enter Try.func20, Try.ntmps20
    go_wp2_with fail
    rw [HW.out]
    refine C2.out.mono ?_
    rintro e w2 ⟨v2, rfl, hp⟩
    have HP := Lib.hid (did_under (w := w) BW.out hp)
    obtain ⟨rfl, hp⟩ := hp
    clear hp
    go_wp2
    go_ret
    exact HP.out
  | false =>
    rw [hu] at m1
    have C2 := Lib.hid (fun F => ifup_down m0.out m1 F)
    have HZ : Hid (dCut s n = (60, s)) := Lib.hid (by unfold dCut; rw [hu]; rfl)
    clear m0 m1 hu hy hx
    go_enter Try.func20, Try.ntmps20
    go_wp2_with fail
    rw [HW.out]
    refine (C2.out _).mono ?_
    rintro e w2 ⟨rfl, rfl⟩
    have HP := Lib.hid (did_under (w := w) (r := (60, s)) BW.out ⟨rfl, K, HDK.out, Moved.refl _ _, Newer.refl _ _⟩)
    go_wp2
    go_ret
    rw [HZ.out]
    exact HP.out
end Go.Proofs.Ytlbmhkccmclmfaa
