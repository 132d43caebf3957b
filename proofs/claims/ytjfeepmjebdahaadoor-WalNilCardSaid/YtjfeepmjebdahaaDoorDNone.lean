/- A disk that nobody made. -/
import Derived.Test.YtjfeepmjebdahaaDoorB6
import Derived.Deep.Cut
namespace Go.Proofs.YtjfeepmjebdahaaDoor
open Go.ChangeShapes Go.WideShapes Go.ChangeAt Go.RowKit
set_option linter.unusedVariables false
set_option maxHeartbeats 1000000 in
theorem bytes_zero {w : World} {b : Nat} (hb : b < w.heap.size) (h1 : w.cell? ⟨b, 2, none⟩ = some (.slice none 0 0)) (h2 : w.cell? ⟨b, 3, none⟩ = some (.slice none 0 0)) : Calls Tryd.prog 17 #[.pointer (some ⟨b, 0, none⟩)] w (Made w []) := by
  obtain ⟨A, hA⟩ : ∃ A : Option Addr, none = A := ⟨_, rfl⟩
  obtain ⟨n, hn⟩ : ∃ n : Nat, 0 = n := ⟨_, rfl⟩
  obtain ⟨c, hc⟩ : ∃ c : Nat, 0 = c := ⟨_, rfl⟩
  obtain ⟨W, hW⟩ : ∃ W : Option Addr, none = W := ⟨_, rfl⟩
  obtain ⟨m, hm⟩ : ∃ m : Nat, 0 = m := ⟨_, rfl⟩
  obtain ⟨d, hd⟩ : ∃ d : Nat, 0 = d := ⟨_, rfl⟩
  have h1' : w.cell? ⟨b, 2, none⟩ = some (.slice A n c) := by rw [← hA, ← hn, ← hc]; exact h1
  have h2' : w.cell? ⟨b, 3, none⟩ = some (.slice W m d) := by rw [← hW, ← hm, ← hd]; exact h2
  have hp : Stands w (fun _ => True) ⟨A, n, c, []⟩ := by rw [← hA, ← hn, ← hc]; exact stands_nil _ _
  have hbu : Bunch w (fun _ => True) W [] := bunch_nil _ _ _
  have hms : m ≤ 1000000 := by omega
  have HZ : Hid (flatZ [⟨A, n, c, []⟩] = []) := Lib.hid rfl
  have HF : Hid ((flatZ [⟨A, n, c, []⟩]).length ≤ 100000000) := Lib.hid (by rw [HZ.out]; simp)
  have hm0 : ([] : List PieceZ).length = m := hm
  clear hA hn hc hW hd h1 h2
  have h1 := h1'
  have h2 := h2'
  clear h1' h2'
  obtain ⟨X, hX⟩ : ∃ X, (w.alloc (.cells #[.slice A n c] 27)).drew = X := ⟨_, rfl⟩
  have hh : X.heap[w.heap.size]? = some (.cells #[.slice A n c] 27 (0, 0)) := by rw [← hX]; exact heap_alloc_new w _
  have HO : Hid (X.ownsRow w.heap.size 27 1 (.slice (some ⟨w.heap.size, 0, none⟩) 1 1) 1 [.slice A n c]) := Lib.hid ⟨rfl, .inr ⟨w.heap.size, 1, _, rfl, Nat.le_refl _, hh, Nat.le_refl _, by simp [maxLen], rfl, rfl⟩⟩
  have bX : Below w.heap.size w X := by rw [← hX]; exact ((Below.refl w.heap.size w).alloc (Nat.le_refl _) _).drew
  have HL : Hid (Lies X 1 W m ([].map pval) ∧ Sourced W m) := Lib.hid (by rw [← hm]; exact (hbu.keep (fun k _ hk => bX.block k hk)).lies)
  have sX : X.heap.size = w.heap.size + 1 := by rw [← hX]; show (w.alloc _).heap.size = _; simp
  have HP : Hid (∀ w3, X.grownBy w3 (some w.heap.size) → ∀ p ∈ (⟨A, n, c, []⟩ :: [] : List PieceZ), Stands w3 (fun _ => True) p) := Lib.hid (fun w3 hg p hpm => by
    have kk : ∀ k, k < w.heap.size → w3.heap[k]? = w.heap[k]? := fun k hk => (hg.block k (by omega) (fun e => by injection e with e; omega)).trans (bX.block k hk)
    rcases List.mem_cons.1 hpm with rfl | hpm
    · exact (hp.keep (fun k _ hk => kk k hk)).more (fun _ _ _ => trivial)
    · exact ((hbu.all p hpm).keep (fun k _ hk => kk k hk)).more (fun _ _ _ => trivial))
  have HC : Hid (∀ w3, X.grownBy w3 (some w.heap.size) → ∀ (i : Nat) x, w.cell? ⟨b, i, none⟩ = some x → w3.cell? ⟨b, i, none⟩ = some x) := Lib.hid (fun w3 hg i x hx => by
    rw [World.cell?_of_block (a := ⟨b, i, none⟩) (w := w) ((hg.block b (by omega) (fun e => by injection e with e; omega)).trans (bX.block b hb))]
    exact hx)
  have BX := Lib.hid bX
  have HM := Lib.hid hm0
  have HX := Lib.hid hX
  clear hbu hp hm hm0 hh bX hX
  go_enter Tryd.func17, Tryd.ntmps17
  go_wp2
  refine Late.region (fun w' => w'.cell? ⟨b, 2, none⟩ = some (.slice A n c) ∧ w'.cell? ⟨b, 3, none⟩ = some (.slice W m d)) [10] (by kernel_rfl) ⟨h1, h2⟩ (fun hHeld => ?_)
  refine Late.take (i := 0) (oi := ⟨some 6, Op.move (Operand.tmp 0), _, _, _, _⟩) (v := ?_) rfl (by kernel_rfl) (by kernel_rfl) (by kernel_rfl) (by kernel_rfl) (fun _ _ _ h => h) (Or.inl ⟨by rfl, fun w hSw => ?_⟩) (by assumption) ?_
  rotate_left
  · (obtain ⟨s1, s2⟩ := hSw; go_simp; try with_reducible rfl)
  try simp only [Act.put, List.setIfInBounds_toArray, List.set_cons_zero, List.set_cons_succ]
  refine Late.take (i := 1) (oi := ⟨some 7, Op.nilCheck (Operand.tmp 6), _, _, _, _⟩) (v := ?_) rfl (by kernel_rfl) (by kernel_rfl) (by kernel_rfl) (by kernel_rfl) (fun _ _ _ h => h) (Or.inl ⟨by rfl, fun w hSw => ?_⟩) (by assumption) ?_
  rotate_left
  · (obtain ⟨s1, s2⟩ := hSw; go_simp; try with_reducible rfl)
  try simp only [Act.put, List.setIfInBounds_toArray, List.set_cons_zero, List.set_cons_succ]
  refine Late.take (i := 2) (oi := ⟨some 8, Op.fieldAddr 48 (Operand.tmp 7) 2, _, _, _, _⟩) (v := ?_) rfl (by kernel_rfl) (by kernel_rfl) (by kernel_rfl) (by kernel_rfl) (fun _ _ _ h => h) (Or.inl ⟨by rfl, fun w hSw => ?_⟩) (by assumption) ?_
  rotate_left
  · (obtain ⟨s1, s2⟩ := hSw; go_simp; try with_reducible rfl)
  try simp only [Act.put, List.setIfInBounds_toArray, List.set_cons_zero, List.set_cons_succ]
  refine Late.take (i := 3) (oi := ⟨some 9, Op.load 27 (Operand.tmp 8), _, _, _, _⟩) (v := ?_) rfl (by kernel_rfl) (by kernel_rfl) (by kernel_rfl) (by kernel_rfl) (fun _ _ _ h => h) (Or.inl ⟨by rfl, fun w hSw => ?_⟩) (by assumption) ?_
  rotate_left
  · (obtain ⟨s1, s2⟩ := hSw; go_simp; try with_reducible rfl)
  try simp only [Act.put, List.setIfInBounds_toArray, List.set_cons_zero, List.set_cons_succ]
  refine Late.take (i := 5) (oi := ⟨some 11, Op.move (Operand.tmp 0), _, _, _, _⟩) (v := ?_) rfl (by kernel_rfl) (by kernel_rfl) (by kernel_rfl) (by kernel_rfl) (fun _ _ _ h => h) (Or.inl ⟨by rfl, fun w hSw => ?_⟩) (by assumption) ?_
  rotate_left
  · (obtain ⟨s1, s2⟩ := hSw; go_simp; try with_reducible rfl)
  try simp only [Act.put, List.setIfInBounds_toArray, List.set_cons_zero, List.set_cons_succ]
  refine Late.take (i := 6) (oi := ⟨some 12, Op.nilCheck (Operand.tmp 11), _, _, _, _⟩) (v := ?_) rfl (by kernel_rfl) (by kernel_rfl) (by kernel_rfl) (by kernel_rfl) (fun _ _ _ h => h) (Or.inl ⟨by rfl, fun w hSw => ?_⟩) (by assumption) ?_
  rotate_left
  · (obtain ⟨s1, s2⟩ := hSw; go_simp; try with_reducible rfl)
  try simp only [Act.put, List.setIfInBounds_toArray, List.set_cons_zero, List.set_cons_succ]
  refine Late.take (i := 7) (oi := ⟨some 13, Op.fieldAddr 48 (Operand.tmp 12) 3, _, _, _, _⟩) (v := ?_) rfl (by kernel_rfl) (by kernel_rfl) (by kernel_rfl) (by kernel_rfl) (fun _ _ _ h => h) (Or.inl ⟨by rfl, fun w hSw => ?_⟩) (by assumption) ?_
  rotate_left
  · (obtain ⟨s1, s2⟩ := hSw; go_simp; try with_reducible rfl)
  try simp only [Act.put, List.setIfInBounds_toArray, List.set_cons_zero, List.set_cons_succ]
  refine Late.take (i := 8) (oi := ⟨some 14, Op.load 33 (Operand.tmp 13), _, _, _, _⟩) (v := ?_) rfl (by kernel_rfl) (by kernel_rfl) (by kernel_rfl) (by kernel_rfl) (fun _ _ _ h => h) (Or.inl ⟨by rfl, fun w hSw => ?_⟩) (by assumption) ?_
  rotate_left
  · (obtain ⟨s1, s2⟩ := hSw; go_simp; try with_reducible rfl)
  try simp only [Act.put, List.setIfInBounds_toArray, List.set_cons_zero, List.set_cons_succ]
  refine Late.one (i := 4) (o := ⟨some 10, Op.buildSlice 33 1 #[(0, Operand.tmp 9)], _, _, _, _⟩) (by kernel_rfl) rfl (fun K hK => ?_)
  go_simp
  refine hK.out _ _ (⟨(World.cell?_alloc_lt w _ ⟨b, 2, none⟩ hb).trans h1, (World.cell?_alloc_lt w _ ⟨b, 3, none⟩ hb).trans h2⟩) (fun hHeld2 => ?_)
  clear hK K hHeld
  have hHeld := hHeld2
  clear hHeld2
  try simp only [Act.put, List.setIfInBounds_toArray, List.set_cons_zero, List.set_cons_succ]
  refine Late.one (i := 9) (o := ⟨some 15, Op.call { callee := Callee.builtin Builtin.append, args := #[Operand.tmp 10, Operand.tmp 14], argTypes := #[33, 33] }, _, _, _, _⟩) (by kernel_rfl) rfl (fun K hK => ?_)
  rw [HX.out]
  refine step_app _ (by rfl) (.tmp 10) (.tmp 14) 33 (by rfl) w.heap.size 27 1 24 Tryd.underlying33 slice_info (by decide) (.slice (some ⟨w.heap.size, 0, none⟩) 1 1) 1 [.slice A n c] (by rfl) HO.out W m d ([].map pval) (by rfl) HL.out.1 HL.out.2 (pvals_one _) (by unfold maxLen; omega) (by omega) (by omega) ?_
  intro v' w3 ho3 hg3 hat
  have c1 : w3.cell? ⟨b, 2, none⟩ = some (.slice A n c) := HC.out w3 hg3 2 _ h1
  have c2 : w3.cell? ⟨b, 3, none⟩ = some (.slice W m d) := HC.out w3 hg3 3 _ h2
  refine hK.out _ _ (⟨c1, c2⟩) (fun hHeld2 => ?_)
  clear hK K hHeld
  have hHeld := hHeld2
  clear hHeld2
  try simp only [Act.put, List.setIfInBounds_toArray, List.set_cons_zero, List.set_cons_succ]
  refine Late.end_ (i := 10) (o := ⟨some 3, Op.assign (Operand.tmp 15), _, _, _, _⟩) (by kernel_rfl) rfl rfl (fun K hK => ?_)
  go_simp
  refine hK.out _ _ ?_
  clear hK K
  try simp only [Act.put, List.setIfInBounds_toArray, List.set_cons_zero, List.set_cons_succ]
  refine Late.done (by kernel_rfl) ?_ _
  refine NoPanic.normal ?_
  obtain ⟨V, cv, rfl, q1, q2⟩ := own_shape ho3
  have HB : Hid (Bunch w3 (fun _ => True) V (⟨A, n, c, []⟩ :: [])) := Lib.hid (bunch_own (ps := ⟨A, n, c, []⟩ :: []) (c := cv) (base := w.heap.size) (by
    have e : (⟨A, n, c, []⟩ :: [] : List PieceZ).length = 1 + m := by rw [List.length_cons, HM.out]; omega
    rw [e]; exact ho3) (fun _ _ => trivial) (HP.out w3 hg3))
  have CC := concat_any cv HB.out (by rw [List.length_cons, HM.out]; omega) HF.out
  rw [HZ.out, show (⟨A, n, c, []⟩ :: [] : List PieceZ).length = 1 + m by rw [List.length_cons, HM.out]; omega] at CC
  have HCC := Lib.hid CC
  have B3 : Hid (Below w.heap.size w w3) := Lib.hid (BX.out.grown hg3 (by omega) (fun k hk => by simp [Value.ownBlock] at hk; omega))
  clear CC HC HP HL HO ho3 hg3 hat c1 c2 hHeld h1 h2
  go_wp2_with (go_at_call 33; refine HCC.out.mono ?_; rintro e w4 ⟨A4, c4, rfl, ho4, hb4, hc4, hc4'⟩)
  go_ret
  exact ⟨A4, c4, rfl, own_base ho4 B3.out.size, B3.out.trans (hb4.mono B3.out.size), hc4, hc4'⟩
/-- Nobody made it: nil, or zero values. -/
def NoDk (w : World) (v : Value) : Prop := v = .pointer none ∨ ∃ b, v = .pointer (some ⟨b, 0, none⟩) ∧ b < w.heap.size ∧ w.cell? ⟨b, 0, none⟩ = some (.bool false) ∧ w.cell? ⟨b, 1, none⟩ = some (.bool false) ∧ w.cell? ⟨b, 2, none⟩ = some (.slice none 0 0) ∧ w.cell? ⟨b, 3, none⟩ = some (.slice none 0 0)
theorem NoDk.below {w w' : World} {v : Value} {B : Nat} (h : NoDk w v) (hb : Below B w w') (hB : w.heap.size ≤ B) : NoDk w' v := by
  rcases h with rfl | ⟨b, rfl, h0, h1, h2, h3, h4⟩
  · exact .inl rfl
  · exact .inr ⟨b, rfl, Nat.lt_of_lt_of_le h0 hb.size, (hb.cell (p := ⟨b, 0, none⟩) (by show b < B; omega)).trans h1, (hb.cell (p := ⟨b, 1, none⟩) (by show b < B; omega)).trans h2, (hb.cell (p := ⟨b, 2, none⟩) (by show b < B; omega)).trans h3, (hb.cell (p := ⟨b, 3, none⟩) (by show b < B; omega)).trans h4⟩
theorem ifup_no {w : World} {v : Value} (h : NoDk w v) (F : Value) : Calls Tryd.prog 46 #[v, F] w (fun e w' => e = .returned (.int .i64 1) ∧ w = w') := by
  rcases h with rfl | ⟨b, rfl, h0, h1, _⟩
  · exact ifup_nil F
  · exact ifup_zero h1 F
/-- Refused: nobody made it. -/
def Refused (w : World) (e : Ending) (w' : World) : Prop := e = .returned (.int .i64 1) ∧ Below w.heap.size w w'
set_option maxHeartbeats 1000000 in
theorem write_no {w : World} {v : Value} (h : NoDk w v) (A : Option Addr) (n c : Nat) : Calls Tryd.prog 30 #[v, .slice A n c] w (Refused w) := by
  obtain ⟨W, hW⟩ : ∃ W, ((((w).alloc (.cells #[v] 24))).alloc (.cells #[.slice A n c] 27)) = W := ⟨_, rfl⟩
  have bW : Below w.heap.size w W := by rw [← hW]; exact (((Below.refl _ _).alloc (Nat.le_refl _) _).alloc (by simp; try omega) _)
  have C := Lib.hid (ifup_no (h.below bW (Nat.le_refl _)))
  have y0 : W.cell? ⟨w.heap.size, 0, none⟩ = some v := by
    rw [← hW]
    rw [World.cell?_alloc_lt _ _ _ (by simp)]
    rw [cell_of_row _ _ _ _ _ _ (heap_alloc_new w _)]; rfl
  have HW := Lib.hid hW
  have BW := Lib.hid bW
  have hv : v = .pointer none ∨ ∃ b, v = .pointer (some ⟨b, 0, none⟩) := h.elim .inl (fun ⟨b, e, _⟩ => .inr ⟨b, e⟩)
  clear hW bW h
  rcases hv with rfl | ⟨b, rfl⟩
  all_goals
    go_enter Tryd.func30, Tryd.ntmps30
    go_upto_region 1 with fail
    simp only [HW.out]
    go_wp2_with fail
    refine (C.out _).mono ?_
    rintro e w2 ⟨rfl, rfl⟩
    go_wp2
    go_ret
    exact ⟨rfl, BW.out⟩
set_option maxHeartbeats 1000000 in
theorem sync_no {w : World} {v : Value} (h : NoDk w v)  : Calls Tryd.prog 44 #[v] w (Refused w) := by
  obtain ⟨W, hW⟩ : ∃ W, ((w).alloc (.cells #[v] 24)) = W := ⟨_, rfl⟩
  have bW : Below w.heap.size w W := by rw [← hW]; exact ((Below.refl _ _).alloc (Nat.le_refl _) _)
  have C := Lib.hid (ifup_no (h.below bW (Nat.le_refl _)))
  have y0 : W.cell? ⟨w.heap.size, 0, none⟩ = some v := by
    rw [← hW]
    rw [cell_of_row _ _ _ _ _ _ (heap_alloc_new w _)]; rfl
  have HW := Lib.hid hW
  have BW := Lib.hid bW
  have hv : v = .pointer none ∨ ∃ b, v = .pointer (some ⟨b, 0, none⟩) := h.elim .inl (fun ⟨b, e, _⟩ => .inr ⟨b, e⟩)
  clear hW bW h
  rcases hv with rfl | ⟨b, rfl⟩
  all_goals
    go_enter Tryd.func44, Tryd.ntmps44
    go_upto_region 1 with fail
    simp only [HW.out]
    go_wp2_with fail
    refine (C.out _).mono ?_
    rintro e w2 ⟨rfl, rfl⟩
    go_wp2
    go_ret
    exact ⟨rfl, BW.out⟩
set_option maxHeartbeats 1000000 in
theorem crash_no {w : World} {v : Value} (h : NoDk w v) (k t : Int) : Calls Tryd.prog 26 #[v, .int .i64 k, .int .i64 t] w (Refused w) := by
  obtain ⟨W, hW⟩ : ∃ W, ((((((w).alloc (.cells #[v] 24))).alloc (.cells #[.int .i64 k] 3))).alloc (.cells #[.int .i64 t] 3)) = W := ⟨_, rfl⟩
  have bW : Below w.heap.size w W := by rw [← hW]; exact ((((Below.refl _ _).alloc (Nat.le_refl _) _).alloc (by simp; try omega) _).alloc (by simp; try omega) _)
  have C := Lib.hid (ifup_no (h.below bW (Nat.le_refl _)))
  have y0 : W.cell? ⟨w.heap.size, 0, none⟩ = some v := by
    rw [← hW]
    rw [World.cell?_alloc_lt _ _ _ (by simp; omega)]
    rw [World.cell?_alloc_lt _ _ _ (by simp)]
    rw [cell_of_row _ _ _ _ _ _ (heap_alloc_new w _)]; rfl
  have HW := Lib.hid hW
  have BW := Lib.hid bW
  have hv : v = .pointer none ∨ ∃ b, v = .pointer (some ⟨b, 0, none⟩) := h.elim .inl (fun ⟨b, e, _⟩ => .inr ⟨b, e⟩)
  clear hW bW h
  rcases hv with rfl | ⟨b, rfl⟩
  all_goals
    go_enter Tryd.func26, Tryd.ntmps26
    go_upto_region 1 with fail
    simp only [HW.out]
    go_wp2_with fail
    refine (C.out _).mono ?_
    rintro e w2 ⟨rfl, rfl⟩
    go_wp2
    go_ret
    exact ⟨rfl, BW.out⟩
set_option maxHeartbeats 1000000 in
theorem cut_no {w : World} {v : Value} (h : NoDk w v) (k : Int) : Calls Tryd.prog 42 #[v, .int .i64 k] w (Refused w) := by
  obtain ⟨W, hW⟩ : ∃ W, ((((w).alloc (.cells #[v] 24))).alloc (.cells #[.int .i64 k] 3)) = W := ⟨_, rfl⟩
  have bW : Below w.heap.size w W := by rw [← hW]; exact (((Below.refl _ _).alloc (Nat.le_refl _) _).alloc (by simp; try omega) _)
  have C := Lib.hid (ifup_no (h.below bW (Nat.le_refl _)))
  have y0 : W.cell? ⟨w.heap.size, 0, none⟩ = some v := by
    rw [← hW]
    rw [World.cell?_alloc_lt _ _ _ (by simp)]
    rw [cell_of_row _ _ _ _ _ _ (heap_alloc_new w _)]; rfl
  have HW := Lib.hid hW
  have BW := Lib.hid bW
  have hv : v = .pointer none ∨ ∃ b, v = .pointer (some ⟨b, 0, none⟩) := h.elim .inl (fun ⟨b, e, _⟩ => .inr ⟨b, e⟩)
  clear hW bW h
  rcases hv with rfl | ⟨b, rfl⟩
  all_goals
    go_enter Tryd.func42, Tryd.ntmps42
    go_upto_region 1 with fail
    simp only [HW.out]
    go_wp2_with fail
    refine (C.out _).mono ?_
    rintro e w2 ⟨rfl, rfl⟩
    go_wp2
    go_ret
    exact ⟨rfl, BW.out⟩
theorem start_no {w : World} {v : Value} (h : NoDk w v) : Calls Tryd.prog 27 #[v] w (fun e w' => e = .returned (.int .i64 1) ∧ w = w') := by
  rcases h with rfl | ⟨b, rfl, h0, h1, h2, h3, h4⟩
  all_goals
    go_enter Tryd.func27, Tryd.ntmps27
    go_wp2
    go_ret
    exact ⟨rfl, rfl⟩
theorem synced_no {w : World} {v : Value} (h : NoDk w v) : Calls Tryd.prog 18 #[v] w (fun e w' => e = .returned (.int .i64 0) ∧ w = w') := by
  rcases h with rfl | ⟨b, rfl, h0, h1, h2, h3, h4⟩
  all_goals
    go_enter Tryd.func18, Tryd.ntmps18
    go_wp2
    go_ret
    exact ⟨rfl, rfl⟩
theorem up_no {w : World} {v : Value} (h : NoDk w v) : Calls Tryd.prog 19 #[v] w (fun e w' => e = .returned (.bool false) ∧ w = w') := by
  rcases h with rfl | ⟨b, rfl, h0, h1, h2, h3, h4⟩
  all_goals
    go_enter Tryd.func19, Tryd.ntmps19
    go_wp2
    go_ret
    exact ⟨rfl, rfl⟩
theorem bytes_no {w : World} {v : Value} (h : NoDk w v) : Calls Tryd.prog 17 #[v] w (fun e w' => (∃ A c, e = .returned (.slice A 0 c)) ∧ Below w.heap.size w w') := by
  rcases h with rfl | ⟨b, rfl, h0, h1, h2, h3, h4⟩
  · go_enter Tryd.func17, Tryd.ntmps17
    go_wp2
    go_ret
    exact ⟨⟨_, _, rfl⟩, Below.refl _ _⟩
  · refine (bytes_zero h0 h3 h4).mono ?_
    rintro e w' ⟨A, c, rfl, _, hb, _, _⟩
    exact ⟨⟨A, c, rfl⟩, hb⟩
end Go.Proofs.YtjfeepmjebdahaaDoor
