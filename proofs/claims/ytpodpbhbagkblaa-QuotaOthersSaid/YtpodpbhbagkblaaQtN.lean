/- The law's own: the program's shares out of the document's; whether they are the same. -/
import Derived.Test.YtpodpbhbagkblaaQtF
import Derived.Test.YtpodpbhbagkblaaB2
namespace Go.Proofs.Ytpodpbhbagkblaa
open Go.ChangeShapes Go.WideShapes Go.ChangeAt Go.RowKit
set_option linter.unusedVariables false
set_option linter.unusedSimpArgs false
open Plain Qt
theorem one_liesQ (wr : World) (g : ShZ) (b : Nat) (hb : wr.heap.size = b) : Lies (wr.drew.alloc (.cells #[.int .i64 g.t, .int .i64 g.k, .int .i64 g.s] 27)) 3 (some ⟨b, 0, none⟩) 1 (svs [g]) ∧ Sourced (some (⟨b, 0, none⟩ : Addr)) 1 := by
  subst hb
  refine ⟨⟨by rw [svs_len]; rfl, fun ad hA j u hu => ?_⟩, fun h => by cases h⟩
  injection hA with hA; subst hA
  have e : (wr.drew.alloc (.cells #[.int .i64 g.t, .int .i64 g.k, .int .i64 g.s] 27)).heap[wr.heap.size]? = _ := heap_alloc_new wr.drew (.cells #[.int .i64 g.t, .int .i64 g.k, .int .i64 g.s] 27)
  rw [Go.WideShapes.add_plain, cell_of_row _ _ _ _ _ _ e, Nat.zero_add]
  rw [← hu]
  simp [svs]
theorem ownsRow_drewAlloc {w : World} {base : Nat} {t : TypeId} {size : Nat} {v : Value} {n : Nat} {xs : List Value} (h : w.ownsRow base t size v n xs) (o : Obj) : (w.drew.alloc o).ownsRow base t size v n xs := World.ownsRow.alloc (w := w.drew) h o
set_option maxRecDepth 100000 in
set_option maxHeartbeats 4000000 in
theorem to_anyQ {w : World} {B n c : Nat} {A : Option Addr} {l : List ShZ} (h : Shs w B A n l) (hB : B ≤ w.heap.size) (hn : n * 24 ≤ 140737488355328) :
    Calls Try.prog 8 #[.slice A n c] w (MadeQ w n l) := by
  have L := Lib.hid h.len
  have HG := Lib.hid h
  have HB := Lib.hid hB
  clear h hB
  go_enter Try.func8, Try.ntmps8
  go_wp2
  go_loopw [3, 4] (fun a i wr => ∃ k : Nat, k ≤ n ∧ i = .int .i64 k ∧ Hid (Below w.heap.size w wr) ∧ ∃ D d, a = .slice D k d ∧ Hid (wr.ownsRow w.heap.size 27 3 (.slice D k d) k (svs (l.take k)))) (fun _ i _ => n - (intOf i).toNat)
  case atStart => exact ⟨0, by omega, rfl, Lib.hid (Below.refl _ _), none, 0, rfl, Lib.hid (World.ownsRow_nil _ _ _ _)⟩
  case round =>
    obtain ⟨k, hk, rfl, HW, D, d, rfl, HO⟩ := hrel
    by_cases hlt : k < n
    · have hltI : (k : Int) < (n : Int) := by omega
      obtain ⟨b, off, g, rfl, hb, HK, hgo, c0, c1, c2⟩ := (HG.out.below HW.out HB.out).at_ hlt
      have hsz := HW.out.size
      have hbw : b < wr.heap.size := by have := HB.out; omega
      have hbw0 : b < w.heap.size := by have := HB.out; omega
      have HST := Lib.hid (fun (V : World) (hV : Below wr.heap.size wr V) => show V.cell? ⟨b, off + k * 3, none⟩ = some (.int .i64 g.t) ∧ V.cell? ⟨b, off + k * 3 + 1, none⟩ = some (.int .i64 g.k) ∧ V.cell? ⟨b, off + k * 3 + 2, none⟩ = some (.int .i64 g.s) from
        ⟨(hV.cell (p := ⟨b, off + k * 3, none⟩) hbw).trans c0, (hV.cell (p := ⟨b, off + k * 3 + 1, none⟩) hbw).trans c1, (hV.cell (p := ⟨b, off + k * 3 + 2, none⟩) hbw).trans c2⟩)
      have HSB := Lib.hid (fun (V : World) (hV : Below w.heap.size wr V) => show V.cell? ⟨b, off + k * 3, none⟩ = some (.int .i64 g.t) ∧ V.cell? ⟨b, off + k * 3 + 1, none⟩ = some (.int .i64 g.k) ∧ V.cell? ⟨b, off + k * 3 + 2, none⟩ = some (.int .i64 g.s) from
        ⟨(hV.cell (p := ⟨b, off + k * 3, none⟩) hbw0).trans c0, (hV.cell (p := ⟨b, off + k * 3 + 1, none⟩) hbw0).trans c1, (hV.cell (p := ⟨b, off + k * 3 + 2, none⟩) hbw0).trans c2⟩)
      clear hgo hbw hbw0
      go_upto_region 5 with fail
      refine Late.region (fun w' => w'.cell? ⟨b, off + k * 3, none⟩ = some (.int .i64 g.t) ∧ w'.cell? ⟨b, off + k * 3 + 1, none⟩ = some (.int .i64 g.k) ∧ w'.cell? ⟨b, off + k * 3 + 2, none⟩ = some (.int .i64 g.s)) [] (by kernel_rfl) (HST.out _ (Below.refl _ _).drew) (fun hHeld => ?_)
      refine Late.take (i := 0) (oi := ⟨some 11, Op.move (Operand.tmp 3), _, _, _, _⟩) (v := ?_) rfl (by kernel_rfl) (by kernel_rfl) (by kernel_rfl) (by kernel_rfl) (fun _ _ _ h => h) (Or.inl ⟨by rfl, fun w hSw => ?_⟩) (by assumption) ?_
      rotate_left
      · (obtain ⟨s1, s2, s3⟩ := hSw; go_simp; try with_reducible rfl)
      try simp only [Act.put, List.setIfInBounds_toArray, List.set_cons_zero, List.set_cons_succ]
      refine Late.take (i := 1) (oi := ⟨some 12, Op.move (Operand.tmp 0), _, _, _, _⟩) (v := ?_) rfl (by kernel_rfl) (by kernel_rfl) (by kernel_rfl) (by kernel_rfl) (fun _ _ _ h => h) (Or.inl ⟨by rfl, fun w hSw => ?_⟩) (by assumption) ?_
      rotate_left
      · (obtain ⟨s1, s2, s3⟩ := hSw; go_simp; try with_reducible rfl)
      try simp only [Act.put, List.setIfInBounds_toArray, List.set_cons_zero, List.set_cons_succ]
      refine Late.take (i := 2) (oi := ⟨some 13, Op.move (Operand.tmp 4), _, _, _, _⟩) (v := ?_) rfl (by kernel_rfl) (by kernel_rfl) (by kernel_rfl) (by kernel_rfl) (fun _ _ _ h => h) (Or.inl ⟨by rfl, fun w hSw => ?_⟩) (by assumption) ?_
      rotate_left
      · (obtain ⟨s1, s2, s3⟩ := hSw; go_simp; try with_reducible rfl)
      try simp only [Act.put, List.setIfInBounds_toArray, List.set_cons_zero, List.set_cons_succ]
      refine Late.take (i := 3) (oi := ⟨some 14, Op.indexAddr 22 (Operand.tmp 12) (Operand.tmp 13), _, _, _, _⟩) (v := ?_) rfl (by kernel_rfl) (by kernel_rfl) (by kernel_rfl) (by kernel_rfl) (fun _ _ _ h => h) (Or.inl ⟨by rfl, fun w hSw => ?_⟩) (by assumption) ?_
      rotate_left
      · (obtain ⟨s1, s2, s3⟩ := hSw; go_simp; try with_reducible rfl)
      try simp only [Act.put, List.setIfInBounds_toArray, List.set_cons_zero, List.set_cons_succ]
      refine Late.take (i := 4) (oi := ⟨some 15, Op.fieldAddr 24 (Operand.tmp 14) 0, _, _, _, _⟩) (v := ?_) rfl (by kernel_rfl) (by kernel_rfl) (by kernel_rfl) (by kernel_rfl) (fun _ _ _ h => h) (Or.inl ⟨by rfl, fun w hSw => ?_⟩) (by assumption) ?_
      rotate_left
      · (obtain ⟨s1, s2, s3⟩ := hSw; go_simp; try with_reducible rfl)
      try simp only [Act.put, List.setIfInBounds_toArray, List.set_cons_zero, List.set_cons_succ]
      refine Late.take (i := 5) (oi := ⟨some 16, Op.load 3 (Operand.tmp 15), _, _, _, _⟩) (v := ?_) rfl (by kernel_rfl) (by kernel_rfl) (by kernel_rfl) (by kernel_rfl) (fun _ _ _ h => h) (Or.inl ⟨by rfl, fun w hSw => ?_⟩) (by assumption) ?_
      rotate_left
      · (obtain ⟨s1, s2, s3⟩ := hSw; go_simp; try with_reducible rfl)
      try simp only [Act.put, List.setIfInBounds_toArray, List.set_cons_zero, List.set_cons_succ]
      refine Late.take (i := 6) (oi := ⟨some 17, Op.move (Operand.tmp 0), _, _, _, _⟩) (v := ?_) rfl (by kernel_rfl) (by kernel_rfl) (by kernel_rfl) (by kernel_rfl) (fun _ _ _ h => h) (Or.inl ⟨by rfl, fun w hSw => ?_⟩) (by assumption) ?_
      rotate_left
      · (obtain ⟨s1, s2, s3⟩ := hSw; go_simp; try with_reducible rfl)
      try simp only [Act.put, List.setIfInBounds_toArray, List.set_cons_zero, List.set_cons_succ]
      refine Late.take (i := 7) (oi := ⟨some 18, Op.move (Operand.tmp 4), _, _, _, _⟩) (v := ?_) rfl (by kernel_rfl) (by kernel_rfl) (by kernel_rfl) (by kernel_rfl) (fun _ _ _ h => h) (Or.inl ⟨by rfl, fun w hSw => ?_⟩) (by assumption) ?_
      rotate_left
      · (obtain ⟨s1, s2, s3⟩ := hSw; go_simp; try with_reducible rfl)
      try simp only [Act.put, List.setIfInBounds_toArray, List.set_cons_zero, List.set_cons_succ]
      refine Late.take (i := 8) (oi := ⟨some 19, Op.indexAddr 22 (Operand.tmp 17) (Operand.tmp 18), _, _, _, _⟩) (v := ?_) rfl (by kernel_rfl) (by kernel_rfl) (by kernel_rfl) (by kernel_rfl) (fun _ _ _ h => h) (Or.inl ⟨by rfl, fun w hSw => ?_⟩) (by assumption) ?_
      rotate_left
      · (obtain ⟨s1, s2, s3⟩ := hSw; go_simp; try with_reducible rfl)
      try simp only [Act.put, List.setIfInBounds_toArray, List.set_cons_zero, List.set_cons_succ]
      refine Late.take (i := 9) (oi := ⟨some 20, Op.fieldAddr 24 (Operand.tmp 19) 1, _, _, _, _⟩) (v := ?_) rfl (by kernel_rfl) (by kernel_rfl) (by kernel_rfl) (by kernel_rfl) (fun _ _ _ h => h) (Or.inl ⟨by rfl, fun w hSw => ?_⟩) (by assumption) ?_
      rotate_left
      · (obtain ⟨s1, s2, s3⟩ := hSw; go_simp; try with_reducible rfl)
      try simp only [Act.put, List.setIfInBounds_toArray, List.set_cons_zero, List.set_cons_succ]
      refine Late.take (i := 10) (oi := ⟨some 21, Op.load 3 (Operand.tmp 20), _, _, _, _⟩) (v := ?_) rfl (by kernel_rfl) (by kernel_rfl) (by kernel_rfl) (by kernel_rfl) (fun _ _ _ h => h) (Or.inl ⟨by rfl, fun w hSw => ?_⟩) (by assumption) ?_
      rotate_left
      · (obtain ⟨s1, s2, s3⟩ := hSw; go_simp; try with_reducible rfl)
      try simp only [Act.put, List.setIfInBounds_toArray, List.set_cons_zero, List.set_cons_succ]
      refine Late.take (i := 11) (oi := ⟨some 22, Op.move (Operand.tmp 0), _, _, _, _⟩) (v := ?_) rfl (by kernel_rfl) (by kernel_rfl) (by kernel_rfl) (by kernel_rfl) (fun _ _ _ h => h) (Or.inl ⟨by rfl, fun w hSw => ?_⟩) (by assumption) ?_
      rotate_left
      · (obtain ⟨s1, s2, s3⟩ := hSw; go_simp; try with_reducible rfl)
      try simp only [Act.put, List.setIfInBounds_toArray, List.set_cons_zero, List.set_cons_succ]
      refine Late.take (i := 12) (oi := ⟨some 23, Op.move (Operand.tmp 4), _, _, _, _⟩) (v := ?_) rfl (by kernel_rfl) (by kernel_rfl) (by kernel_rfl) (by kernel_rfl) (fun _ _ _ h => h) (Or.inl ⟨by rfl, fun w hSw => ?_⟩) (by assumption) ?_
      rotate_left
      · (obtain ⟨s1, s2, s3⟩ := hSw; go_simp; try with_reducible rfl)
      try simp only [Act.put, List.setIfInBounds_toArray, List.set_cons_zero, List.set_cons_succ]
      refine Late.take (i := 13) (oi := ⟨some 24, Op.indexAddr 22 (Operand.tmp 22) (Operand.tmp 23), _, _, _, _⟩) (v := ?_) rfl (by kernel_rfl) (by kernel_rfl) (by kernel_rfl) (by kernel_rfl) (fun _ _ _ h => h) (Or.inl ⟨by rfl, fun w hSw => ?_⟩) (by assumption) ?_
      rotate_left
      · (obtain ⟨s1, s2, s3⟩ := hSw; go_simp; try with_reducible rfl)
      try simp only [Act.put, List.setIfInBounds_toArray, List.set_cons_zero, List.set_cons_succ]
      refine Late.take (i := 14) (oi := ⟨some 25, Op.fieldAddr 24 (Operand.tmp 24) 2, _, _, _, _⟩) (v := ?_) rfl (by kernel_rfl) (by kernel_rfl) (by kernel_rfl) (by kernel_rfl) (fun _ _ _ h => h) (Or.inl ⟨by rfl, fun w hSw => ?_⟩) (by assumption) ?_
      rotate_left
      · (obtain ⟨s1, s2, s3⟩ := hSw; go_simp; try with_reducible rfl)
      try simp only [Act.put, List.setIfInBounds_toArray, List.set_cons_zero, List.set_cons_succ]
      refine Late.take (i := 15) (oi := ⟨some 26, Op.load 3 (Operand.tmp 25), _, _, _, _⟩) (v := ?_) rfl (by kernel_rfl) (by kernel_rfl) (by kernel_rfl) (by kernel_rfl) (fun _ _ _ h => h) (Or.inl ⟨by rfl, fun w hSw => ?_⟩) (by assumption) ?_
      rotate_left
      · (obtain ⟨s1, s2, s3⟩ := hSw; go_simp; try with_reducible rfl)
      try simp only [Act.put, List.setIfInBounds_toArray, List.set_cons_zero, List.set_cons_succ]
      refine Late.one (i := 16) (o := ⟨some 27, Op.build 27 #[(0, Operand.tmp 16), (1, Operand.tmp 21), (2, Operand.tmp 26)], _, _, _, _⟩) (by kernel_rfl) rfl (fun K hK => ?_)
      go_simp
      refine hK.out _ _ (hHeld) (fun hHeld2 => ?_)
      clear hK K hHeld
      have hHeld := hHeld2
      clear hHeld2
      try simp only [Act.put, List.setIfInBounds_toArray, List.set_cons_zero, List.set_cons_succ]
      refine Late.one (i := 17) (o := ⟨some 28, Op.buildSlice 25 1 #[(0, Operand.tmp 27)], _, _, _, _⟩) (by kernel_rfl) rfl (fun K hK => ?_)
      go_simp
      refine hK.out _ _ (HST.out _ ((Below.refl _ _).drew.alloc (Nat.le_refl _) _)) (fun hHeld2 => ?_)
      clear hK K hHeld
      have hHeld := hHeld2
      clear hHeld2
      try simp only [Act.put, List.setIfInBounds_toArray, List.set_cons_zero, List.set_cons_succ]
      refine Late.one (i := 18) (o := ⟨some 29, Op.call { callee := Callee.builtin Builtin.append, args := #[Operand.tmp 11, Operand.tmp 28], argTypes := #[25, 25] }, _, _, _, _⟩) (by kernel_rfl) rfl (fun K hK => ?_)
      refine step_app _ (by rfl) (.tmp 11) (.tmp 28) 25 (by rfl) w.heap.size 27 3 24 Try.underlying25 share_info (by omega) (.slice D k d) k (svs (l.take k)) (by rfl) (ownsRow_drewAlloc HO.out _) _ 1 1 (svs [g]) (by rfl) (one_liesQ wr g _ rfl).1 (one_liesQ wr g _ rfl).2 (svs_one _) (by unfold maxLen; omega) (by omega) (by simp; omega) ?_
      intro v16 w16 ho16 hg16 _
      have B16 := Lib.hid (show Below w.heap.size wr w16 from ((Below.refl _ _).drew.alloc hsz _).grown hg16 (by simp; omega) (fun q hq => (HO.out.lt q hq).1))
      obtain ⟨D6, d6, rfl, hd6, hd7⟩ := own_shapeQ ho16
      have HO16 := Lib.hid ho16
      clear ho16 hg16
      refine hK.out _ _ (HSB.out _ B16.out) (fun hHeld2 => ?_)
      clear hK K hHeld
      have hHeld := hHeld2
      clear hHeld2
      try simp only [Act.put, List.setIfInBounds_toArray, List.set_cons_zero, List.set_cons_succ]
      refine Late.take (i := 19) (oi := ⟨some 3, Op.assign (Operand.tmp 29), _, _, _, _⟩) (v := ?_) rfl (by kernel_rfl) (by kernel_rfl) (by kernel_rfl) (by kernel_rfl) (fun _ _ _ h => h) (Or.inl ⟨by rfl, fun w hSw => ?_⟩) (by assumption) ?_
      rotate_left
      · (obtain ⟨s1, s2, s3⟩ := hSw; go_simp; try with_reducible rfl)
      try simp only [Act.put, List.setIfInBounds_toArray, List.set_cons_zero, List.set_cons_succ]
      refine Late.done (by kernel_rfl) ?_ _
      refine NoPanic.normal ?_
      have HN := Lib.hid (show w16.ownsRow w.heap.size 27 3 (.slice D6 (k + 1) d6) (k + 1) (svs (l.take (k + 1))) by
        rw [take_snocQ l k g HK.out, svs_app]; exact HO16.out)
      clear c0 c1 c2
      go_wp2
      go_roundw
      case rel => exact ⟨k + 1, by omega, by go_num, Lib.hid (HW.out.trans B16.out), D6, d6, by trivial, HN⟩
      case measure => simp [intOf]; omega
    · have e : k = n := by omega
      subst e
      have hl : l.take k = l := List.take_of_length_le (by rw [L.out]; exact Nat.le_refl _)
      rw [hl] at HO
      go_wp2
      go_ret
      exact ⟨D, d, rfl, HO.out, HW.out⟩
theorem eqQ_drop {l1 l2 : List ShZ} {k : Nat} {p1 p2 : ShZ} {q : Bool} (h1 : l1[k]? = some p1) (h2 : l2[k]? = some p2) (hq : decide (l1.drop k = l2.drop k) = q) :
    (¬ (p1.t = p2.t ∧ p1.k = p2.k ∧ p1.s = p2.s) → q = false) ∧ (p1.t = p2.t → p1.k = p2.k → p1.s = p2.s → decide (l1.drop (k + 1) = l2.drop (k + 1)) = q) := by
  rw [drop_atQ h1, drop_atQ h2] at hq
  refine ⟨fun e => ?_, fun e1 e2 e3 => ?_⟩
  · rw [← hq, decide_eq_false_iff_not]; intro h; injection h with h _; exact e (by rw [h]; exact ⟨rfl, rfl, rfl⟩)
  · have e : p1 = p2 := by cases p1; cases p2; simp_all
    rw [← hq, e]; simp
theorem sq_moreQ {w w' : World} {m : Nat} {v : Value} (h : Hid (∃ m, w' = w.drewN m)) : Quiet v w (.returned v) (w'.drewN m) := by
  obtain ⟨k, hk⟩ := h.out
  exact ⟨rfl, k + m, by rw [hk, World.drewN_drewN]⟩
theorem sq_onQ {w w' w'' : World} (h : Hid (∃ m, w' = w.drewN m)) (h2 : ∃ k, w'' = w'.drewN k) : Hid (∃ m, w'' = w.drewN m) := by
  obtain ⟨m, hm⟩ := h.out
  obtain ⟨k, hk⟩ := h2
  exact Lib.hid ⟨m + k, by rw [hk, hm, World.drewN_drewN]⟩
set_option maxRecDepth 100000 in
set_option maxHeartbeats 4000000 in
theorem is_anyQ {w : World} {B1 B2 n1 n2 : Nat} {A1 A2 : Option Addr} {l1 l2 : List ShZ} (c1 c2 : Nat) (q : Bool) (h1 : Shs w B1 A1 n1 l1) (h2 : Shs w B2 A2 n2 l2) (hn1 : n1 ≤ maxLen) (hn2 : n2 ≤ maxLen) (hq : decide (l1 = l2) = q) :
    Calls Try.prog 13 #[.slice A1 n1 c1, .slice A2 n2 c2] w (Quiet (.bool q) w) := by
  unfold maxLen at hn1
  by_cases hn : n1 = n2
  · subst hn
    have L1 := Lib.hid h1.len
    have L2 := Lib.hid h2.len
    have H1 := Lib.hid h1
    have H2 := Lib.hid h2
    have HQ := Lib.hid hq
    clear h1 h2 hq hn2
    go_enter Try.func13, Try.ntmps13
    go_wp2
    go_loopw [5] (fun i wr => ∃ j : Nat, j ≤ n1 ∧ i = .int .i64 j ∧ Hid (∃ m, wr = w.drewN m) ∧ Hid (decide (l1.drop j = l2.drop j) = q)) (fun i _ => n1 - (intOf i).toNat)
    case atStart => exact ⟨0, by omega, rfl, Lib.hid ⟨0, rfl⟩, Lib.hid HQ.out⟩
    case round =>
      obtain ⟨j, hj, rfl, HW, HY⟩ := hrel
      by_cases hlt : j < n1
      · have hltI : (j : Int) < (n1 : Int) := by omega
        have HA : Hid (Shs wr B1 A1 n1 l1 ∧ Shs wr B2 A2 n1 l2) := Lib.hid (by
          obtain ⟨m, hm⟩ := HW.out
          rw [hm]; exact ⟨H1.out.drewN m, H2.out.drewN m⟩)
        obtain ⟨b1, o1, p1, rfl, hb1, K1, ok1, x0, x1, x2⟩ := HA.out.1.at_ hlt
        obtain ⟨b2, o2, p2, rfl, hb2, K2, ok2, y0, y1, y2⟩ := HA.out.2.at_ hlt
        have HD := Lib.hid (eqQ_drop K1.out K2.out HY.out)
        obtain ⟨t1, k1, s1⟩ := p1
        obtain ⟨t2, k2, s2⟩ := p2
        simp only at x0 x1 x2 y0 y1 y2
        clear ok1 ok2 HA
        by_cases ht : t1 = t2
        · subst ht
          by_cases hk : k1 = k2
          · subst hk
            by_cases hs : s1 = s2
            · subst hs
              have HD2 := Lib.hid (HD.out.2 rfl rfl rfl)
              go_wp2
              go_quiet (fail)
              go_wp2
              go_roundw
              case rel => exact ⟨j + 1, by omega, by go_num, sq_onQ HW ⟨_, rfl⟩, HD2⟩
              case measure => simp [intOf]; omega
            · have e : q = false := HD.out.1 (fun h => hs h.2.2)
              subst e
              have E1 : (s1 == s2) = false := by simpa using hs
              have E2 : (s1 != s2) = true := by simpa using hs
              have E3 : decide (s1 = s2) = false := by simpa using hs
              clear hs
              go_wp2
              go_quiet (fail)
              go_wp2
              go_ret
              exact sq_moreQ HW
          · have e : q = false := HD.out.1 (fun h => hk h.2.1)
            subst e
            have E1 : (k1 == k2) = false := by simpa using hk
            have E2 : (k1 != k2) = true := by simpa using hk
            have E3 : decide (k1 = k2) = false := by simpa using hk
            clear hk
            go_wp2
            go_quiet (fail)
            go_wp2
            go_ret
            exact sq_moreQ HW
        · have e : q = false := HD.out.1 (fun h => ht h.1)
          subst e
          have E1 : (t1 == t2) = false := by simpa using ht
          have E2 : (t1 != t2) = true := by simpa using ht
          have E3 : decide (t1 = t2) = false := by simpa using ht
          clear ht
          go_wp2
          go_quiet (fail)
          go_wp2
          go_ret
          exact sq_moreQ HW
      · have e : q = true := by
          rw [← HY.out, List.drop_eq_nil_of_le (by rw [L1.out]; omega), List.drop_eq_nil_of_le (by rw [L2.out]; omega)]; rfl
        subst e
        go_wp2
        go_ret
        exact ⟨rfl, HW.out⟩
  · have e : q = false := by
      rw [← hq, decide_eq_false_iff_not]
      intro e; subst e; exact hn (h1.len.symm.trans h2.len)
    subst e
    have hnI : ¬ ((n1 : Int) = (n2 : Int)) := by omega
    clear h1 h2 hq hn hn2
    go_enter Try.func13, Try.ntmps13
    go_wp2
    go_ret
    exact ⟨rfl, 0, rfl⟩
end Go.Proofs.Ytpodpbhbagkblaa
