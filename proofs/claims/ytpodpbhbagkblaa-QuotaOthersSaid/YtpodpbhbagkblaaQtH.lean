/- slices.Insert in a row of the call's own: in its midst, with room and without. -/
import Derived.Test.YtpodpbhbagkblaaQtG
import Derived.Test.YtpodpbhbagkblaaB2
namespace Go.Proofs.Ytpodpbhbagkblaa
open Go.ChangeShapes Go.WideShapes Go.ChangeAt Go.RowKit
set_option linter.unusedVariables false
set_option linter.unusedSimpArgs false
open Plain Qt
theorem own_isSome {w : World} {base n c g : Nat} {t : TypeId} {xs : List Value} (h : w.ownsRow base t 3 (.slice (some ⟨g, 0, none⟩) n c) n xs) (j : Nat) (hj : j < n * 3) : (w.cell? ⟨g, j, none⟩).isSome = true := by
  rw [h.cellAt j hj]
  have := h.1
  rw [List.getElem?_eq_getElem (by omega)]; rfl
theorem own_shapeAt {w : World} {base n c g : Nat} {t : TypeId} {xs : List Value} (h : w.ownsRow base t 3 (.slice (some ⟨g, 0, none⟩) n c) n xs) (hn : 0 < n) : ∃ k, k ≠ 0 ∧ w.shape? g = some (t, k) := by
  rcases h.2 with ⟨e, _⟩ | ⟨g', cap, cur, e, hb, hg, h1, h2, h3, h4⟩
  · cases e
  · injection e with e1 e2 e3
    injection e1 with e1
    injection e1 with e1
    subst e1 e3
    refine ⟨cur.size, by rw [h3]; omega, ?_⟩
    unfold World.shape?
    rw [hg]
set_option maxRecDepth 100000 in
set_option maxHeartbeats 4000000 in
theorem insert_room {w : World} {base n d i vb g : Nat} {l : List ShZ} (x : ShZ) (ho : w.ownsRow base 27 3 (.slice (some ⟨g, 0, none⟩) n d) n (svs l)) (hi : i < n) (hn : n ≤ 8) (hd : n + 1 ≤ d) (hne : vb ≠ g)
    (hv : w.heap[vb]? = some (.cells #[.int .i64 x.t, .int .i64 x.k, .int .i64 x.s] 27 (0, 0))) :
    Calls Try.prog 29 #[.slice (some ⟨g, 0, none⟩) n d, .int .i64 i, .slice (some ⟨vb, 0, none⟩) 1 1] w (InsQ base (n + 1) (l.take i ++ x :: l.drop i) w) := by
  have hl : l.length = n := by have := ho.1; rw [svs_len] at this; omega
  obtain ⟨junk, hj, hm⟩ := own_more ho hd
  have hdm : d ≤ maxLen := by
    obtain ⟨_, _, e, _, h2⟩ := own_shapeQ ho
    injection e with e1 e2 e3
    omega
  have hgb : base ≤ g := (ho.lt g rfl).1
  obtain ⟨kB, hkB, hsb⟩ := own_shapeAt ho (by omega)
  have hsa : w.shape? vb = some (27, 3) := by unfold World.shape?; rw [hv]; rfl
  have hfa : w.frozen? ⟨vb, 0, none⟩ = false := by unfold World.frozen?; rw [hv]; rfl
  have hfe : w.frozen? ⟨vb, 3, none⟩ = false := by unfold World.frozen?; rw [hv]; rfl
  have hsize : (Try.prog.info? 27).map (·.size) = some 3 := q_size
  have hzz : ∀ w : World, (Go.sizeOf 27).run Try.prog w = .ok 3 w := fun w => by
    obtain ⟨i0, hi0, _, h1, _⟩ := share_info.choose_spec.choose_spec |> fun h => (⟨share_info.choose, h.1, trivial, h.2.2.1, trivial⟩ : ∃ i0, Try.prog.info? 27 = some i0 ∧ True ∧ i0.size = 3 ∧ True)
    simp [Go.sizeOf, typeInfo, hi0, h1]
  have hov : ∀ lb cb, (callFunc 35 #[.slice (some ⟨vb, 0, none⟩) 1 1, .slice (some ⟨g, (i + 1) * 3, none⟩) lb cb]).run Try.prog w = .ok (.value (.bool false)) w := fun lb cb => by
    rw [run_callFunc_extern Try.func35 (by kernel_rfl) (by kernel_rfl) (by kernel_rfl) (e := Extern.SlicesOverlaps.overlaps #[25, 25] #[4]) (by kernel_rfl),
      Lib.run_overlaps_apart w 25 4 27 Try.underlying25 3 hzz ⟨vb, 0, none⟩ ⟨g, (i + 1) * 3, none⟩ 1 1 lb cb hne _ _ _ _ hsa hsb hkB hfa hfe]
    rfl
  have hm0 : w.drew.ownsRow base 27 3 (.slice (some ⟨g, 0, none⟩) (n + 1) d) (n + 1) (svs l ++ junk) := hm
  have ho0 : w.drew.ownsRow base 27 3 (.slice (some ⟨g, 0, none⟩) n d) n (svs l) := ho
  have hdl : (svs (l.drop i)).length = (n - i) * 3 := by rw [svs_len, List.length_drop, hl]
  have hmin1 : Nat.min (n + 1 - i) (n - i) = n - i := by simp only [Nat.min_def]; split <;> omega
  have hmin2 : Nat.min 1 (n + 1 - i) = 1 := by simp only [Nat.min_def]; split <;> omega
  obtain ⟨W1, hW1⟩ : ∃ W1, W1 = w.drew.setCells g ((i + 1) * 3) (svs (l.drop i)) := ⟨_, rfl⟩
  have hm1 : W1.ownsRow base 27 3 (.slice (some ⟨g, 0, none⟩) (n + 1) d) (n + 1) (putL (svs l ++ junk) ((i + 1) * 3) (svs (l.drop i))) := by rw [hW1]; exact own_setCells _ _ _ _ hm0
  have hb1 : Below base w W1 := by rw [hW1]; exact q_setCells hgb _ _ _ (Below.refl _ _).drew
  have hcp1 : ∀ ty dc sc, (Builtin.copy_ #[25, 25] ty #[.slice (some ⟨g, (i + 1) * 3, none⟩) (n - i) dc, .slice (some ⟨g, i * 3, none⟩) (n + 1 - i) sc]).run Try.prog w.drew = .ok (goInt (n - i : Nat)) W1 := fun ty dc sc => by
    rw [hW1]
    have := run_copy_wide w.drew 25 25 ty 27 3 g ((i + 1) * 3) (n - i) dc ⟨g, i * 3, none⟩ (n + 1 - i) sc (svs (l.drop i)) Try.underlying25 hsize (by rw [hdl, hmin1])
      (fun j v hjv => by
        have hj2 := (List.getElem?_eq_some_iff.1 hjv).1
        rw [hdl] at hj2
        rw [Addr.add_lit, ho0.cellAt (i * 3 + j) (by omega), ← List.getElem?_drop, svs_drop]; exact hjv)
      (fun j hj2 => by rw [hdl] at hj2; exact own_isSome hm0 _ (by omega)) (fun j hj2 => hm0.frozenAt _) (svs_one _)
    rw [hmin1] at this
    exact this
  obtain ⟨W2, hW2⟩ : ∃ W2, W2 = W1.setCells g (i * 3) (svs [x]) := ⟨_, rfl⟩
  have hm2 : W2.ownsRow base 27 3 (.slice (some ⟨g, 0, none⟩) (n + 1) d) (n + 1) (svs (l.take i ++ x :: l.drop i)) := by
    rw [hW2, ← shift_list x hl hi hj]; exact own_setCells _ _ _ _ hm1
  have hb2 : Below base w W2 := by rw [hW2]; exact q_setCells hgb _ _ _ hb1
  have hv1 : W1.heap[vb]? = some (.cells #[.int .i64 x.t, .int .i64 x.k, .int .i64 x.s] 27 (0, 0)) := by
    rw [hW1, q_heap hne]; exact hv
  have hcp2 : ∀ ty dc, (Builtin.copy_ #[25, 25] ty #[.slice (some ⟨g, i * 3, none⟩) (n + 1 - i) dc, .slice (some ⟨vb, 0, none⟩) 1 1]).run Try.prog W1 = .ok (goInt (1 : Nat)) W2 := fun ty dc => by
    rw [hW2]
    have := run_copy_wide W1 25 25 ty 27 3 g (i * 3) (n + 1 - i) dc ⟨vb, 0, none⟩ 1 1 (svs [x]) Try.underlying25 hsize (by rw [hmin2]; rfl)
      (fun j v hjv => (one_lies x hv1).2 _ rfl j v hjv)
      (fun j hj2 => own_isSome hm1 _ (by have : (svs [x]).length = 3 := rfl; omega)) (fun j hj2 => hm1.frozenAt _) (svs_one _)
    rw [hmin2] at this
    exact this
  have HM2 := Lib.hid hm2
  have HB2 := Lib.hid hb2
  clear hm hm0 ho ho0 hW1 hm1 hb1 hW2 hm2 hb2 hv hv1 hj hsa hsb hfa hfe hmin1 hmin2 hdl hl hzz hsize
  unfold maxLen at hdm
  have mixed : Try.prog.follows Departure.mixedOrders = true := by kernel_rfl
  have hw1 : IntKind.i64.wrap ((i : Int) + 1) = (i : Int) + 1 := by rw [IntKind.wrap_i64]; omega
  have hb1 : (0 : Int) ≤ (i : Int) + 1 := by omega
  have htn : ((i : Int) + 1).toNat = i + 1 := by omega
  have hz2 : ¬ ((i : Int) = (n : Int)) := by omega
  have hin : (i : Int) ≤ (n : Int) := by omega
  have hin1 : (i : Int) ≤ (n : Int) + 1 := by omega
  have hin2 : (i : Int) + 1 ≤ (n : Int) + 1 := by omega
  have hnd : (n : Int) + 1 ≤ (d : Int) := by omega
  have hb2 : ¬ (d = i + 1) := by omega
  have hb4 : ¬ (d = i) := by omega
  go_enter Try.func29, Try.ntmps29
  go_upto_region 15 with (simp only [hov])
  refine Late.region (fun w' => True) [] (by kernel_rfl) trivial (fun hHeld => ?_)
  refine Late.take (i := 0) (oi := ⟨some 69, Op.move (Operand.tmp 0), _, _, _, _⟩) (v := ?_) rfl (by kernel_rfl) (by kernel_rfl) (by kernel_rfl) (by kernel_rfl) (fun _ _ _ h => h) (Or.inl ⟨by rfl, fun w hSw => ?_⟩) (by assumption) ?_
  rotate_left
  · (go_simp; try with_reducible rfl)
  try simp only [Act.put, List.setIfInBounds_toArray, List.set_cons_zero, List.set_cons_succ]
  refine Late.take (i := 1) (oi := ⟨some 70, Op.move (Operand.tmp 1), _, _, _, _⟩) (v := ?_) rfl (by kernel_rfl) (by kernel_rfl) (by kernel_rfl) (by kernel_rfl) (fun _ _ _ h => h) (Or.inl ⟨by rfl, fun w hSw => ?_⟩) (by assumption) ?_
  rotate_left
  · (go_simp; try with_reducible rfl)
  try simp only [Act.put, List.setIfInBounds_toArray, List.set_cons_zero, List.set_cons_succ]
  refine Late.take (i := 2) (oi := ⟨some 71, Op.move (Operand.tmp 7), _, _, _, _⟩) (v := ?_) rfl (by kernel_rfl) (by kernel_rfl) (by kernel_rfl) (by kernel_rfl) (fun _ _ _ h => h) (Or.inl ⟨by rfl, fun w hSw => ?_⟩) (by assumption) ?_
  rotate_left
  · (go_simp; try with_reducible rfl)
  try simp only [Act.put, List.setIfInBounds_toArray, List.set_cons_zero, List.set_cons_succ]
  refine Late.take (i := 3) (oi := ⟨some 72, Op.binOp BinOp.add 3 (Operand.tmp 70) (Operand.tmp 71) 3, _, _, _, _⟩) (v := ?_) rfl (by kernel_rfl) (by kernel_rfl) (by kernel_rfl) (by kernel_rfl) (fun _ _ _ h => h) (Or.inl ⟨by rfl, fun w hSw => ?_⟩) (by assumption) ?_
  rotate_left
  · (go_simp; try with_reducible rfl)
  try simp only [Act.put, List.setIfInBounds_toArray, List.set_cons_zero, List.set_cons_succ]
  refine Late.take (i := 4) (oi := ⟨some 73, Op.slice 25 (Operand.tmp 69) (some (Operand.tmp 72)) none none, _, _, _, _⟩) (v := ?_) rfl (by kernel_rfl) (by kernel_rfl) (by kernel_rfl) (by kernel_rfl) (fun _ _ _ h => h) (Or.inl ⟨by rfl, fun w hSw => ?_⟩) (by assumption) ?_
  rotate_left
  · (go_simp; try with_reducible rfl)
  try simp only [Act.put, List.setIfInBounds_toArray, List.set_cons_zero, List.set_cons_succ]
  refine Late.take (i := 5) (oi := ⟨some 74, Op.move (Operand.tmp 0), _, _, _, _⟩) (v := ?_) rfl (by kernel_rfl) (by kernel_rfl) (by kernel_rfl) (by kernel_rfl) (fun _ _ _ h => h) (Or.inl ⟨by rfl, fun w hSw => ?_⟩) (by assumption) ?_
  rotate_left
  · (go_simp; try with_reducible rfl)
  try simp only [Act.put, List.setIfInBounds_toArray, List.set_cons_zero, List.set_cons_succ]
  refine Late.take (i := 6) (oi := ⟨some 75, Op.move (Operand.tmp 1), _, _, _, _⟩) (v := ?_) rfl (by kernel_rfl) (by kernel_rfl) (by kernel_rfl) (by kernel_rfl) (fun _ _ _ h => h) (Or.inl ⟨by rfl, fun w hSw => ?_⟩) (by assumption) ?_
  rotate_left
  · (go_simp; try with_reducible rfl)
  try simp only [Act.put, List.setIfInBounds_toArray, List.set_cons_zero, List.set_cons_succ]
  refine Late.take (i := 7) (oi := ⟨some 76, Op.slice 25 (Operand.tmp 74) (some (Operand.tmp 75)) none none, _, _, _, _⟩) (v := ?_) rfl (by kernel_rfl) (by kernel_rfl) (by kernel_rfl) (by kernel_rfl) (fun _ _ _ h => h) (Or.inl ⟨by rfl, fun w hSw => ?_⟩) (by assumption) ?_
  rotate_left
  · (go_simp; try with_reducible rfl)
  try simp only [Act.put, List.setIfInBounds_toArray, List.set_cons_zero, List.set_cons_succ]
  refine Late.one (i := 8) (o := ⟨some 77, Op.call { callee := Callee.builtin Builtin.copy, args := #[Operand.tmp 73, Operand.tmp 76], argTypes := #[25, 25] }, _, _, _, _⟩) (by kernel_rfl) rfl (fun K hK => ?_)
  refine wp_copy_runI _ (.tmp 73) (.tmp 76) 25 25 rfl _ _ rfl rfl (hcp1 _ _ _) ?_
  refine hK.out _ _ (trivial) (fun hHeld2 => ?_)
  clear hK K hHeld
  have hHeld := hHeld2
  clear hHeld2
  try simp only [Act.put, List.setIfInBounds_toArray, List.set_cons_zero, List.set_cons_succ]
  refine Late.done (by kernel_rfl) ?_ _
  refine NoPanic.normal ?_
  go_wp2_with (at_builtin; refine wpList_copy_runI _ rfl _ _ 25 25 rfl _ _ rfl rfl (hcp2 _ _) ?_)
  go_ret
  exact ⟨_, _, rfl, HM2.out, HB2.out⟩
set_option maxRecDepth 100000 in
set_option maxHeartbeats 4000000 in
theorem insert_grow {w : World} {base n d i vb g : Nat} {l : List ShZ} (x : ShZ) (ho : w.ownsRow base 27 3 (.slice (some ⟨g, 0, none⟩) n d) n (svs l)) (hbase : base ≤ w.heap.size) (hi : i < n) (hn : n ≤ 8) (hd : d < n + 1)
    (hv : w.heap[vb]? = some (.cells #[.int .i64 x.t, .int .i64 x.k, .int .i64 x.s] 27 (0, 0))) :
    Calls Try.prog 29 #[.slice (some ⟨g, 0, none⟩) n d, .int .i64 i, .slice (some ⟨vb, 0, none⟩) 1 1] w (InsQ base (n + 1) (l.take i ++ x :: l.drop i) w) := by
  have hl : l.length = n := by have := ho.1; rw [svs_len] at this; omega
  have hnd : n ≤ d := by
    obtain ⟨_, _, e, h1, _⟩ := own_shapeQ ho
    injection e with e1 e2 e3
    omega
  have hgw : g < w.heap.size := (ho.lt g rfl).2
  have hvw : vb < w.heap.size := (Array.getElem?_eq_some_iff.1 hv).1
  have hsize : (Try.prog.info? 27).map (·.size) = some 3 := q_size
  obtain ⟨i0, z, hi0, hz, hsz, hby, hzs⟩ := share_info
  have hik : i + (n + 1 - i) = n + 1 := by omega
  have e4 : (svs (l.take i)).length = i * 3 := by rw [svs_len, List.length_take, hl]; omega
  have hold : (Builtin.firstCells i0.size i (.slice (some ⟨g, 0, none⟩) i d)).run Try.prog w.drew = .ok (svs (l.take i)).toArray w.drew := by
    rw [hsz]
    exact run_firstCells_some w.drew 3 i ⟨g, 0, none⟩ i d (svs (l.take i)) e4 (fun j v hj => by
      have hj2 := (List.getElem?_eq_some_iff.1 hj).1
      rw [e4] at hj2
      have h1 := ho.cellAt j (by omega)
      rw [← svs_take, List.getElem?_take, if_pos (by omega)] at hj
      rw [Addr.add_lit, Nat.zero_add]
      exact h1.trans hj)
  have hkk : (n : Int) + 1 - (i : Int) = ((n + 1 - i : Nat) : Int) := by omega
  obtain ⟨G, hG⟩ : ∃ G, G = grownCap w (n + 1) d 27 := ⟨_, rfl⟩
  obtain ⟨zs, hzl⟩ : ∃ zs, zs = (Builtin.zeroCells z.cells (n + 1 - i)).toList := ⟨_, rfl⟩
  obtain ⟨W1, hW1⟩ : ∃ W1, W1 = w.drew.alloc (.cells ((svs (l.take i)).toArray ++ Builtin.zeroCells z.cells (n + 1 - i) ++ Builtin.zeroCells z.cells (G - (n + 1))) 27) := ⟨_, rfl⟩
  have hrz : ∀ ty, (Builtin.append_ #[25, 3] ty #[.slice (some ⟨g, 0, none⟩) i d, .int .i64 ((n : Int) + 1 - (i : Int))]).run Try.prog w = .ok (.slice (some ⟨w.heap.size, 0, none⟩) (n + 1) G) W1 := fun ty => by
    have h := Lib.run_append_grow_zeros w 25 3 ty 27 i0 z .i64 .i64 Try.underlying25 Try.underlying3 hi0 hz (some ⟨g, 0, none⟩) i d (svs (l.take i)) hold (n + 1 - i) (by omega) (by omega) (by omega) (by omega) (by rw [hby]; omega) (by
      have := nextslicecap_le (need := i + (n + 1 - i)) (old := d) (by omega)
      rw [hby]; omega)
    rw [hik, ← hG, ← hW1] at h
    rw [hkk]
    exact h
  have hzlen : zs.length = (n + 1 - i) * 3 := by rw [hzl, Array.length_toList, size_zeroCells, hzs]
  have hGn : n + 1 ≤ G := by rw [hG]; exact grownCap_ge w _ _ _
  have hGm : G ≤ maxLen := by rw [hG]; exact grownCap_le_maxLen w (n + 1) d 27 (by unfold maxLen; omega)
  have hm1 : W1.ownsRow base 27 3 (.slice (some ⟨w.heap.size, 0, none⟩) (n + 1) G) (n + 1) (svs (l.take i) ++ zs) := by
    rw [hW1]
    refine ⟨by rw [List.length_append, e4, hzlen]; omega, .inr ⟨w.heap.size, G, _, rfl, hbase, heap_alloc_new w.drew _, hGn, hGm, ?_, ?_⟩⟩
    · simp only [Array.size_append, List.size_toArray, size_zeroCells, hzs, e4]
      omega
    · simp only [Array.toList_append]
      rw [← hzl]
      exact List.take_left' (by rw [List.length_append, e4, hzlen]; omega)
  have hb1 : Below w.heap.size w W1 := by rw [hW1]; exact (Below.refl _ _).drew.alloc (Nat.le_refl _) _
  obtain ⟨W2, hW2⟩ : ∃ W2, W2 = W1.setCells w.heap.size (i * 3) (svs [x]) := ⟨_, rfl⟩
  have hmin2 : Nat.min 1 (n + 1 - i) = 1 := by simp only [Nat.min_def]; split <;> omega
  have hm2 : W2.ownsRow base 27 3 (.slice (some ⟨w.heap.size, 0, none⟩) (n + 1) G) (n + 1) (putL (svs (l.take i) ++ zs) (i * 3) (svs [x])) := by rw [hW2]; exact own_setCells _ _ _ _ hm1
  have hb2 : Below w.heap.size w W2 := by rw [hW2]; exact q_setCells (Nat.le_refl _) _ _ _ hb1
  have hv1 : W1.heap[vb]? = some (.cells #[.int .i64 x.t, .int .i64 x.k, .int .i64 x.s] 27 (0, 0)) := (hb1.block vb hvw).trans hv
  have hcpA : ∀ ty dc, (Builtin.copy_ #[25, 25] ty #[.slice (some ⟨w.heap.size, i * 3, none⟩) (n + 1 - i) dc, .slice (some ⟨vb, 0, none⟩) 1 1]).run Try.prog W1 = .ok (goInt (1 : Nat)) W2 := fun ty dc => by
    rw [hW2]
    have := run_copy_wide W1 25 25 ty 27 3 w.heap.size (i * 3) (n + 1 - i) dc ⟨vb, 0, none⟩ 1 1 (svs [x]) Try.underlying25 hsize (by rw [hmin2]; rfl)
      (fun j v hjv => (one_lies x hv1).2 _ rfl j v hjv)
      (fun j hj2 => own_isSome hm1 _ (by have : (svs [x]).length = 3 := rfl; omega)) (fun j hj2 => hm1.frozenAt _) (svs_one _)
    rw [hmin2] at this
    exact this
  have hm2d : W2.drew.ownsRow base 27 3 (.slice (some ⟨w.heap.size, 0, none⟩) (n + 1) G) (n + 1) (putL (svs (l.take i) ++ zs) (i * 3) (svs [x])) := hm2
  obtain ⟨W3, hW3⟩ : ∃ W3, W3 = W2.drew.setCells w.heap.size ((i + 1) * 3) (svs (l.drop i)) := ⟨_, rfl⟩
  have hdl : (svs (l.drop i)).length = (n - i) * 3 := by rw [svs_len, List.length_drop, hl]
  have hmin1 : Nat.min (n - i) (n - i) = n - i := by simp only [Nat.min_def]; split <;> omega
  have hm3 : W3.ownsRow base 27 3 (.slice (some ⟨w.heap.size, 0, none⟩) (n + 1) G) (n + 1) (svs (l.take i ++ x :: l.drop i)) := by
    rw [hW3, ← grow_list x hl hi hzlen]; exact own_setCells _ _ _ _ hm2d
  have hb3 : Below base w W3 := by rw [hW3]; exact (q_setCells (Nat.le_refl _) _ _ _ hb2.drew).mono hbase
  have hcpB : ∀ ty dc sc, (Builtin.copy_ #[25, 25] ty #[.slice (some ⟨w.heap.size, (i + 1) * 3, none⟩) (n - i) dc, .slice (some ⟨g, i * 3, none⟩) (n - i) sc]).run Try.prog W2.drew = .ok (goInt (n - i : Nat)) W3 := fun ty dc sc => by
    rw [hW3]
    have := run_copy_wide W2.drew 25 25 ty 27 3 w.heap.size ((i + 1) * 3) (n - i) dc ⟨g, i * 3, none⟩ (n - i) sc (svs (l.drop i)) Try.underlying25 hsize (by rw [hdl, hmin1])
      (fun j v hjv => by
        have hj2 := (List.getElem?_eq_some_iff.1 hjv).1
        rw [hdl] at hj2
        have h1 := ho.cellAt (i * 3 + j) (by omega)
        have h2 := hb2.cell (p := ⟨g, i * 3 + j, none⟩) hgw
        rw [Addr.add_lit]
        refine (show W2.drew.cell? ⟨g, i * 3 + j, none⟩ = _ from h2).trans (h1.trans ?_)
        rw [← List.getElem?_drop, svs_drop]; exact hjv)
      (fun j hj2 => by rw [hdl] at hj2; exact own_isSome hm2d _ (by omega)) (fun j hj2 => hm2d.frozenAt _) (svs_one _)
    rw [hmin1] at this
    exact this
  have HM3 := Lib.hid hm3
  have HB3 := Lib.hid hb3
  obtain ⟨hs, hhs⟩ : ∃ hs, w.heap.size = hs := ⟨_, rfl⟩
  rw [hhs] at hrz hcpA hcpB HM3
  have HHS := Lib.hid hhs
  have hGi : ¬ (G = i) := by omega
  have hGi1 : ¬ (G = i + 1) := by omega
  have hdi : ¬ (d = i) := by omega
  have hw1 : IntKind.i64.wrap ((i : Int) + 1) = (i : Int) + 1 := by rw [IntKind.wrap_i64]; omega
  have hb01 : (0 : Int) ≤ (i : Int) + 1 := by omega
  have htn : ((i : Int) + 1).toNat = i + 1 := by omega
  have hz2 : ¬ ((i : Int) = (n : Int)) := by omega
  have hin : (i : Int) ≤ (n : Int) := by omega
  have hidc : (i : Int) ≤ (d : Int) := by omega
  have hin1 : (i : Int) ≤ (n : Int) + 1 := by omega
  have hin2 : (i : Int) + 1 ≤ (n : Int) + 1 := by omega
  have hz3 : (d : Int) < (n : Int) + 1 := by omega
  clear hhs ho hv hv1 hW1 hm1 hb1 hW2 hm2 hm2d hb2 hW3 hm3 hb3 hmin1 hmin2 hdl hl hsize hi0 hz hsz hby hzs hold hG hzl hzlen hik hkk e4 hGm hGn hgw hvw hbase hd hnd
  go_enter Try.func29, Try.ntmps29
  go_upto_region 11 with (first
    | (at_builtin; refine Lib.wpList_append_run _ rfl _ _ _ _ rfl _ _ rfl rfl _ _ (hrz _) ?_)
    | (at_builtin; refine wpList_copy_runI _ rfl _ _ 25 25 rfl _ _ rfl rfl (hcpA _ _) ?_)
    | fail)
  refine Late.region (fun w' => True) [] (by kernel_rfl) trivial (fun hHeld => ?_)
  refine Late.take (i := 0) (oi := ⟨some 46, Op.move (Operand.tmp 9), _, _, _, _⟩) (v := ?_) rfl (by kernel_rfl) (by kernel_rfl) (by kernel_rfl) (by kernel_rfl) (fun _ _ _ h => h) (Or.inl ⟨by rfl, fun w hSw => ?_⟩) (by assumption) ?_
  rotate_left
  · (go_simp; try with_reducible rfl)
  try simp only [Act.put, List.setIfInBounds_toArray, List.set_cons_zero, List.set_cons_succ]
  refine Late.take (i := 1) (oi := ⟨some 47, Op.move (Operand.tmp 1), _, _, _, _⟩) (v := ?_) rfl (by kernel_rfl) (by kernel_rfl) (by kernel_rfl) (by kernel_rfl) (fun _ _ _ h => h) (Or.inl ⟨by rfl, fun w hSw => ?_⟩) (by assumption) ?_
  rotate_left
  · (go_simp; try with_reducible rfl)
  try simp only [Act.put, List.setIfInBounds_toArray, List.set_cons_zero, List.set_cons_succ]
  refine Late.take (i := 2) (oi := ⟨some 48, Op.move (Operand.tmp 7), _, _, _, _⟩) (v := ?_) rfl (by kernel_rfl) (by kernel_rfl) (by kernel_rfl) (by kernel_rfl) (fun _ _ _ h => h) (Or.inl ⟨by rfl, fun w hSw => ?_⟩) (by assumption) ?_
  rotate_left
  · (go_simp; try with_reducible rfl)
  try simp only [Act.put, List.setIfInBounds_toArray, List.set_cons_zero, List.set_cons_succ]
  refine Late.take (i := 3) (oi := ⟨some 49, Op.binOp BinOp.add 3 (Operand.tmp 47) (Operand.tmp 48) 3, _, _, _, _⟩) (v := ?_) rfl (by kernel_rfl) (by kernel_rfl) (by kernel_rfl) (by kernel_rfl) (fun _ _ _ h => h) (Or.inl ⟨by rfl, fun w hSw => ?_⟩) (by assumption) ?_
  rotate_left
  · (go_simp; try with_reducible rfl)
  try simp only [Act.put, List.setIfInBounds_toArray, List.set_cons_zero, List.set_cons_succ]
  refine Late.take (i := 4) (oi := ⟨some 50, Op.slice 25 (Operand.tmp 46) (some (Operand.tmp 49)) none none, _, _, _, _⟩) (v := ?_) rfl (by kernel_rfl) (by kernel_rfl) (by kernel_rfl) (by kernel_rfl) (fun _ _ _ h => h) (Or.inl ⟨by rfl, fun w hSw => ?_⟩) (by assumption) ?_
  rotate_left
  · (go_simp; try with_reducible rfl)
  try simp only [Act.put, List.setIfInBounds_toArray, List.set_cons_zero, List.set_cons_succ]
  refine Late.take (i := 5) (oi := ⟨some 51, Op.move (Operand.tmp 0), _, _, _, _⟩) (v := ?_) rfl (by kernel_rfl) (by kernel_rfl) (by kernel_rfl) (by kernel_rfl) (fun _ _ _ h => h) (Or.inl ⟨by rfl, fun w hSw => ?_⟩) (by assumption) ?_
  rotate_left
  · (go_simp; try with_reducible rfl)
  try simp only [Act.put, List.setIfInBounds_toArray, List.set_cons_zero, List.set_cons_succ]
  refine Late.take (i := 6) (oi := ⟨some 52, Op.move (Operand.tmp 1), _, _, _, _⟩) (v := ?_) rfl (by kernel_rfl) (by kernel_rfl) (by kernel_rfl) (by kernel_rfl) (fun _ _ _ h => h) (Or.inl ⟨by rfl, fun w hSw => ?_⟩) (by assumption) ?_
  rotate_left
  · (go_simp; try with_reducible rfl)
  try simp only [Act.put, List.setIfInBounds_toArray, List.set_cons_zero, List.set_cons_succ]
  refine Late.take (i := 7) (oi := ⟨some 53, Op.slice 25 (Operand.tmp 51) (some (Operand.tmp 52)) none none, _, _, _, _⟩) (v := ?_) rfl (by kernel_rfl) (by kernel_rfl) (by kernel_rfl) (by kernel_rfl) (fun _ _ _ h => h) (Or.inl ⟨by rfl, fun w hSw => ?_⟩) (by assumption) ?_
  rotate_left
  · (go_simp; try with_reducible rfl)
  try simp only [Act.put, List.setIfInBounds_toArray, List.set_cons_zero, List.set_cons_succ]
  refine Late.one (i := 8) (o := ⟨some 54, Op.call { callee := Callee.builtin Builtin.copy, args := #[Operand.tmp 50, Operand.tmp 53], argTypes := #[25, 25] }, _, _, _, _⟩) (by kernel_rfl) rfl (fun K hK => ?_)
  refine wp_copy_runI _ (.tmp 50) (.tmp 53) 25 25 rfl _ _ rfl rfl (hcpB _ _ _) ?_
  refine hK.out _ _ (trivial) (fun hHeld2 => ?_)
  clear hK K hHeld
  have hHeld := hHeld2
  clear hHeld2
  try simp only [Act.put, List.setIfInBounds_toArray, List.set_cons_zero, List.set_cons_succ]
  refine Late.done (by kernel_rfl) ?_ _
  refine NoPanic.normal ?_
  go_wp2
  go_ret
  exact ⟨_, _, rfl, HM3.out, HB3.out⟩
end Go.Proofs.Ytpodpbhbagkblaa
