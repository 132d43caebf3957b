/- Forms of numbers, entries, configurations: the document's. Printed by gen_mst.py. -/
import Derived.Test.YtfihiandifnkpaaMsJ
import Derived.Test.YtfihiandifnkpaaMsS
import Derived.Test.YtfihiandifnkpaaB4
import Derived.Test.YtfihiandifnkpaaMsV
namespace Go.Proofs.Ytfihiandifnkpaa
open Go.ChangeShapes Go.WideShapes Go.ChangeAt Go.RowKit
set_option linter.unusedVariables false
set_option maxRecDepth 100000
set_option linter.unusedSimpArgs false
open Plain Sha Ms
theorem flag_isB (x : Bool) : IsBytes [if x then (1 : Int) else 0] := isBytes_iff.2 fun z hz => by rw [List.mem_singleton.1 hz]; cases x <;> decide
theorem flat64_len : ∀ l : List Int, (l.flatMap n64).length = l.length * 8
  | [] => rfl
  | a :: l => by rw [List.flatMap_cons, List.length_append, n64_len', flat64_len l, List.length_cons]; omega
set_option maxHeartbeats 8000000 in
theorem rnumbers_any {w : World} (b n c : Nat) (l : List Int) (hl : l.length = n) (hn : n ≤ 100) (hb : b < w.heap.size) (hc : ∀ j x, l[j]? = some x → w.cell? ⟨b, j, none⟩ = some (.int .i64 x)) (hin : ∀ x, x ∈ l → InM x) : Calls Try.prog 44 #[.slice (some ⟨b, 0, none⟩) n c] w (Made w (l.flatMap n64)) := by
  have HC := Lib.hid hc
  have HIN := Lib.hid hin
  have HL := Lib.hid hl
  clear hc hin hl
  go_enter Try.func44, Try.ntmps44
  go_wp2
  go_loopw [3, 4] (fun v3 i wr => ∃ (k : Nat) (A : Option Addr) (c : Nat), k ≤ n ∧ i = .int .i64 k ∧ v3 = .slice A (8 * k) c ∧ Hid (wr.ownsRow w.heap.size 5 1 (.slice A (8 * k) c) (8 * k) (vals ((l.take k).flatMap n64))) ∧ Hid (Below w.heap.size w wr)) (fun _ i _ => n - (intOf i).toNat)
  case atStart => exact ⟨0, none, 0, by omega, rfl, rfl, Lib.hid (World.ownsRow_nil _ _ _ _), Lib.hid (Below.refl _ _)⟩
  case round =>
    obtain ⟨k, A, c, hk, rfl, rfl, OR, BR⟩ := hrel
    by_cases hlt : k < n
    · have hki : (k : Int) < (n : Int) := by omega
      obtain ⟨v, hv⟩ : ∃ v, l[k]? = some v := ⟨l[k]'(by rw [HL.out]; exact hlt), List.getElem?_eq_getElem _⟩
      have ck := (BR.out.cell (p := ⟨b, k, none⟩) hb).trans (HC.out k v hv)
      have hvi := HIN.out v (List.mem_of_getElem? hv)
      unfold InM at hvi
      have HE : Hid ((l.take (k + 1)).flatMap n64 = (l.take k).flatMap n64 ++ n64 v) := Lib.hid (by rw [List.take_add_one, hv, List.flatMap_append]; simp)
      have BS := Lib.hid BR.out.size
      clear hv
      go_wp2_with (first
        | (go_at_call 61; refine (refint_any v hvi.1 hvi.2 wr).mono ?_; intro e w8 hm; obtain ⟨D8, d8, rfl, ho, hbw, _, _⟩ := hm.n (n64_len' _); have H8 := Lib.hid (Made.bs ho (n64_bytes' _)); have O8 := Lib.hid (own_below OR.out hbw (Nat.le_refl _)); have P8 := Lib.hid (BR.out.trans (hbw.mono BR.out.size)); clear hm ho hbw)
        | (at_builtin; refine wpList_app _ rfl (.tmp 11) (.tmp 16) 22 rfl w.heap.size 5 1 1 Try.underlying22 u8_info (by omega) (.slice A (8 * k) c) (8 * k) (vals ((l.take k).flatMap n64)) rfl O8.out D8 8 d8 (vals (n64 v)) rfl H8.out.lies.1 H8.out.lies.2 (vals_one _) (by unfold maxLen; omega) (by omega) P8.out.size ?_; intro v1 w9 ho1 hg1; rw [← vals_app, ← HE.out] at ho1; have P9 := Lib.hid (P8.out.grown hg1 P8.out.size (fun j hj => (O8.out.lt j hj).1)); obtain ⟨A9, c9, rfl, _, _⟩ := own_shape ho1; have O9 := Lib.hid (show w9.ownsRow w.heap.size 5 1 (.slice A9 (8 * (k + 1)) c9) (8 * (k + 1)) (vals ((l.take (k + 1)).flatMap n64)) from ho1); clear ho1 hg1))
      go_roundw
      case rel => exact ⟨k + 1, A9, c9, by omega, by go_num, by go_num, O9, P9⟩
      case measure => simp [intOf]; omega
    · have hki : ¬ (k : Int) < (n : Int) := by omega
      obtain rfl : k = n := by omega
      have OE : Hid (wr.ownsRow w.heap.size 5 1 (.slice A (8 * k) c) (8 * k) (vals (l.flatMap n64))) := Lib.hid (by have := OR.out; rw [List.take_of_length_le (by rw [HL.out]; omega)] at this; exact this)
      go_wp2
      go_ret
      exact made_of (n := 8 * k) (by rw [flat64_len, HL.out]; omega) OE.out BR.out
theorem rnumbers1 (W : World) (b c : Nat) (hb : W.heap.size = b) (a0 : Int) (ha0 : InM a0) : Calls Try.prog 44 #[.slice (some ⟨b, 0, none⟩) 1 c] (W.alloc (.cells #[.int .i64 a0] 3)) (Made (W.alloc (.cells #[.int .i64 a0] 3)) (n64 a0)) := by
  subst hb
  have h := rnumbers_any (w := W.alloc (.cells #[.int .i64 a0] 3)) W.heap.size 1 c [a0] rfl (by omega) (by simp) (fun j x hx => by
    rw [cell_of_row _ _ _ _ _ _ (heap_alloc_new W _)]
    match j, hx with
    | 0, hx => (obtain rfl : a0 = x := by simpa using hx); rfl
    | j + 1, hx => simp at hx) (fun x hx => by
    simp only [List.mem_cons, List.not_mem_nil, or_false] at hx
    rcases hx with rfl <;> assumption)
  have e : ([a0] : List Int).flatMap n64 = n64 a0 := by simp
  rw [e] at h
  exact h
theorem rnumbers2 (W : World) (b c : Nat) (hb : W.heap.size = b) (a0 a1 : Int) (ha0 : InM a0) (ha1 : InM a1) : Calls Try.prog 44 #[.slice (some ⟨b, 0, none⟩) 2 c] (W.alloc (.cells #[.int .i64 a0, .int .i64 a1] 3)) (Made (W.alloc (.cells #[.int .i64 a0, .int .i64 a1] 3)) (n64 a0 ++ n64 a1)) := by
  subst hb
  have h := rnumbers_any (w := W.alloc (.cells #[.int .i64 a0, .int .i64 a1] 3)) W.heap.size 2 c [a0, a1] rfl (by omega) (by simp) (fun j x hx => by
    rw [cell_of_row _ _ _ _ _ _ (heap_alloc_new W _)]
    match j, hx with
    | 0, hx => (obtain rfl : a0 = x := by simpa using hx); rfl
    | 1, hx => (obtain rfl : a1 = x := by simpa using hx); rfl
    | j + 2, hx => simp at hx) (fun x hx => by
    simp only [List.mem_cons, List.not_mem_nil, or_false] at hx
    rcases hx with rfl | rfl <;> assumption)
  have e : ([a0, a1] : List Int).flatMap n64 = n64 a0 ++ n64 a1 := by simp
  rw [e] at h
  exact h
theorem rnumbers3 (W : World) (b c : Nat) (hb : W.heap.size = b) (a0 a1 a2 : Int) (ha0 : InM a0) (ha1 : InM a1) (ha2 : InM a2) : Calls Try.prog 44 #[.slice (some ⟨b, 0, none⟩) 3 c] (W.alloc (.cells #[.int .i64 a0, .int .i64 a1, .int .i64 a2] 3)) (Made (W.alloc (.cells #[.int .i64 a0, .int .i64 a1, .int .i64 a2] 3)) (n64 a0 ++ n64 a1 ++ n64 a2)) := by
  subst hb
  have h := rnumbers_any (w := W.alloc (.cells #[.int .i64 a0, .int .i64 a1, .int .i64 a2] 3)) W.heap.size 3 c [a0, a1, a2] rfl (by omega) (by simp) (fun j x hx => by
    rw [cell_of_row _ _ _ _ _ _ (heap_alloc_new W _)]
    match j, hx with
    | 0, hx => (obtain rfl : a0 = x := by simpa using hx); rfl
    | 1, hx => (obtain rfl : a1 = x := by simpa using hx); rfl
    | 2, hx => (obtain rfl : a2 = x := by simpa using hx); rfl
    | j + 3, hx => simp at hx) (fun x hx => by
    simp only [List.mem_cons, List.not_mem_nil, or_false] at hx
    rcases hx with rfl | rfl | rfl <;> assumption)
  have e : ([a0, a1, a2] : List Int).flatMap n64 = n64 a0 ++ n64 a1 ++ n64 a2 := by simp
  rw [e] at h
  exact h
set_option maxHeartbeats 8000000 in
theorem rrest_any {w : World} {B : Nat} {x : EX} (h : EOk w B x) (hB : B ≤ w.heap.size) (hn : x.n ≤ 65536) : Calls Try.prog 46 #[.agg (ec x).toArray] w (Made w (restF x.z)) := by
  obtain ⟨W1, hW1⟩ : ∃ W, W = w.alloc (.cells (ec x).toArray 42) := ⟨_, rfl⟩
  have b1 := Lib.hid (show Below w.heap.size w W1 by rw [hW1]; exact below_one _ _)
  obtain ⟨g, hg⟩ : ∃ g, w.heap.size = g := ⟨_, rfl⟩
  have Hg := Lib.hid hg
  have V1 := Lib.hid (show VBox W1 g 5 (ec x) by rw [hW1]; exact vbox_new _ _ _ _ _ hg rfl (by omega))
  have z1 := Lib.hid (show W1.heap.size = g + 1 by rw [hW1]; simp [hg])
  have HW1 := Lib.hid hW1
  clear hW1 hg
  have hst := h.stamp
  have hcl := h.client
  have hid := h.id
  have hpo := h.pos
  have HX := Lib.hid h
  have HT := Lib.hid (fun (W : World) (hW : Below W1.heap.size W1 W) => (⟨(h.body.belowM b1.out hB).belowM (hW.mono b1.out.size) hB, Nat.le_trans hB (Nat.le_trans b1.out.size hW.size)⟩ : Bs W B x.A x.n x.body ∧ B ≤ W.heap.size))
  have HC := Lib.hid (fun (W : World) (hW : Below W1.heap.size W1 W) => ((V1.out.grow hW).e))
  have HL : Hid (x.body.length = x.n) := Lib.hid h.body.len
  have HD := Lib.hid (show Below W1.heap.size W1 W1.drew from below_drewN (Below.refl _ _) 1)
  clear h
  go_enter Try.func46, Try.ntmps46
  go_upto_region 1 with fail
  rw [← HW1.out, Hg.out]
  refine Late.region (fun w' => Below W1.heap.size W1 w') [] (by kernel_rfl) HD.out (fun hHeld => ?_)
  refine Late.take (i := 0) (oi := ⟨some 3, Op.fieldAddr 42 (Operand.tmp 1) 1, _, _, _, _⟩) (v := ?_) rfl (by kernel_rfl) (by kernel_rfl) (by kernel_rfl) (by kernel_rfl) (fun _ _ _ h => h) (Or.inl ⟨by rfl, fun w hSw => ?_⟩) (by assumption) ?_
  rotate_left
  · (have s1 := hSw; go_simp; try with_reducible rfl)
  try simp only [Act.put, List.setIfInBounds_toArray, List.set_cons_zero, List.set_cons_succ]
  refine Late.take (i := 1) (oi := ⟨some 4, Op.load 3 (Operand.tmp 3), _, _, _, _⟩) (v := ?_) rfl (by kernel_rfl) (by kernel_rfl) (by kernel_rfl) (by kernel_rfl) (fun _ _ _ h => h) (Or.inl ⟨by rfl, fun w hSw => ?_⟩) (by assumption) ?_
  rotate_left
  · (have s1 := hSw; obtain ⟨d0, d1, d2, d3, d4⟩ := HC.out _ hSw; go_simp; try with_reducible rfl)
  try simp only [Act.put, List.setIfInBounds_toArray, List.set_cons_zero, List.set_cons_succ]
  refine Late.take (i := 2) (oi := ⟨some 5, Op.fieldAddr 42 (Operand.tmp 1) 2, _, _, _, _⟩) (v := ?_) rfl (by kernel_rfl) (by kernel_rfl) (by kernel_rfl) (by kernel_rfl) (fun _ _ _ h => h) (Or.inl ⟨by rfl, fun w hSw => ?_⟩) (by assumption) ?_
  rotate_left
  · (have s1 := hSw; go_simp; try with_reducible rfl)
  try simp only [Act.put, List.setIfInBounds_toArray, List.set_cons_zero, List.set_cons_succ]
  refine Late.take (i := 3) (oi := ⟨some 6, Op.load 3 (Operand.tmp 5), _, _, _, _⟩) (v := ?_) rfl (by kernel_rfl) (by kernel_rfl) (by kernel_rfl) (by kernel_rfl) (fun _ _ _ h => h) (Or.inl ⟨by rfl, fun w hSw => ?_⟩) (by assumption) ?_
  rotate_left
  · (have s1 := hSw; obtain ⟨d0, d1, d2, d3, d4⟩ := HC.out _ hSw; go_simp; try with_reducible rfl)
  try simp only [Act.put, List.setIfInBounds_toArray, List.set_cons_zero, List.set_cons_succ]
  refine Late.take (i := 4) (oi := ⟨some 7, Op.fieldAddr 42 (Operand.tmp 1) 3, _, _, _, _⟩) (v := ?_) rfl (by kernel_rfl) (by kernel_rfl) (by kernel_rfl) (by kernel_rfl) (fun _ _ _ h => h) (Or.inl ⟨by rfl, fun w hSw => ?_⟩) (by assumption) ?_
  rotate_left
  · (have s1 := hSw; go_simp; try with_reducible rfl)
  try simp only [Act.put, List.setIfInBounds_toArray, List.set_cons_zero, List.set_cons_succ]
  refine Late.take (i := 5) (oi := ⟨some 8, Op.load 3 (Operand.tmp 7), _, _, _, _⟩) (v := ?_) rfl (by kernel_rfl) (by kernel_rfl) (by kernel_rfl) (by kernel_rfl) (fun _ _ _ h => h) (Or.inl ⟨by rfl, fun w hSw => ?_⟩) (by assumption) ?_
  rotate_left
  · (have s1 := hSw; obtain ⟨d0, d1, d2, d3, d4⟩ := HC.out _ hSw; go_simp; try with_reducible rfl)
  try simp only [Act.put, List.setIfInBounds_toArray, List.set_cons_zero, List.set_cons_succ]
  refine Late.take (i := 8) (oi := ⟨some 11, Op.fieldAddr 42 (Operand.tmp 1) 4, _, _, _, _⟩) (v := ?_) rfl (by kernel_rfl) (by kernel_rfl) (by kernel_rfl) (by kernel_rfl) (fun _ _ _ h => h) (Or.inl ⟨by rfl, fun w hSw => ?_⟩) (by assumption) ?_
  rotate_left
  · (have s1 := hSw; go_simp; try with_reducible rfl)
  try simp only [Act.put, List.setIfInBounds_toArray, List.set_cons_zero, List.set_cons_succ]
  refine Late.take (i := 9) (oi := ⟨some 12, Op.load 22 (Operand.tmp 11), _, _, _, _⟩) (v := ?_) rfl (by kernel_rfl) (by kernel_rfl) (by kernel_rfl) (by kernel_rfl) (fun _ _ _ h => h) (Or.inl ⟨by rfl, fun w hSw => ?_⟩) (by assumption) ?_
  rotate_left
  · (have s1 := hSw; obtain ⟨d0, d1, d2, d3, d4⟩ := HC.out _ hSw; go_simp; try with_reducible rfl)
  try simp only [Act.put, List.setIfInBounds_toArray, List.set_cons_zero, List.set_cons_succ]
  refine Late.one (i := 6) (o := ⟨some 9, Op.buildSlice 76 3 #[(0, Operand.tmp 4), (1, Operand.tmp 6), (2, Operand.tmp 8)], _, _, _, _⟩) (by kernel_rfl) rfl (fun K hK => ?_)
  go_simp
  refine hK.out _ _ (hHeld.trans ((below_one _ _).mono hHeld.size)) (fun hHeld2 => ?_)
  clear hK K hHeld
  have hHeld := hHeld2
  clear hHeld2
  try simp only [Act.put, List.setIfInBounds_toArray, List.set_cons_zero, List.set_cons_succ]
  refine Late.one (i := 7) (o := ⟨some 10, Op.call { callee := Callee.value (Operand.func 44), args := #[Operand.tmp 9], argTypes := #[76] }, _, _, _, _⟩) (by kernel_rfl) rfl (fun K hK => ?_)
  go_simp
  refine (rnumbers3 W1.drew _ 3 rfl x.stamp x.client x.id hst hcl hid).mono ?_
  intro e v2 hm
  obtain ⟨D1, d1, rfl, ho1, hb1, _, _⟩ := hm.n (show (n64 x.stamp ++ n64 x.client ++ n64 x.id).length = 24 by simp only [List.length_append, n64_len'])
  have H1 := Made.bs ho1 (((n64_isB _).app (n64_isB _)).app (n64_isB _))
  have hbA := hHeld.trans (hb1.mono hHeld.size)
  refine hK.out _ _ (hbA) (fun hHeld2 => ?_)
  clear hK K hHeld
  have hHeld := hHeld2
  clear hHeld2
  try simp only [Act.put, List.setIfInBounds_toArray, List.set_cons_zero, List.set_cons_succ]
  refine Late.one (i := 10) (o := ⟨some 13, Op.call { callee := Callee.value (Operand.func 45), args := #[Operand.tmp 12], argTypes := #[22] }, _, _, _, _⟩) (by kernel_rfl) rfl (fun K hK => ?_)
  go_simp
  refine (refbytesW_any x.c (HT.out _ hHeld).1 (HT.out _ hHeld).2 hn).mono ?_
  intro e v3 hm2
  obtain ⟨D2, d2, rfl, ho2, hb2, _, _⟩ := hm2.n (show (bytesF x.body).length = 4 + x.n by rw [bytesF_lenM, HL.out])
  have H2 := Made.bs ho2 (show IsBytes (bytesF x.body) by unfold bytesF; exact (putZ_bytes _ _).app HX.out.body.isBytes)
  have hbB := hHeld.trans (hb2.mono hHeld.size)
  refine hK.out _ _ (hbB) (fun hHeld2 => ?_)
  clear hK K hHeld
  have hHeld := hHeld2
  clear hHeld2
  try simp only [Act.put, List.setIfInBounds_toArray, List.set_cons_zero, List.set_cons_succ]
  refine Late.one (i := 11) (o := ⟨some 14, Op.call { callee := Callee.value (Operand.func 47), args := #[Operand.tmp 10, Operand.tmp 13], argTypes := #[22, 22] }, _, _, _, _⟩) (by kernel_rfl) rfl (fun K hK => ?_)
  go_simp
  refine (refcat_any d1 d2 (H1.belowM hb2 (Nat.le_refl _)) H2 hb2.size (Nat.le_refl _) (by omega)).mono ?_
  intro e v4 hm3
  obtain ⟨D3, d3, rfl, ho3, hb3, _, _⟩ := hm3.n (show (n64 x.stamp ++ n64 x.client ++ n64 x.id ++ bytesF x.body).length = 24 + (4 + x.n) by simp only [List.length_append, n64_len', bytesF_lenM, HL.out])
  have hv3 := hHeld.size
  have hbC := hHeld.trans (hb3.mono hHeld.size)
  refine hK.out _ _ (hbC) (fun hHeld2 => ?_)
  clear hK K hHeld
  have hHeld := hHeld2
  clear hHeld2
  try simp only [Act.put, List.setIfInBounds_toArray, List.set_cons_zero, List.set_cons_succ]
  refine Late.take (i := 12) (oi := ⟨some 2, Op.assign (Operand.tmp 14), _, _, _, _⟩) (v := ?_) rfl (by kernel_rfl) (by kernel_rfl) (by kernel_rfl) (by kernel_rfl) (fun _ _ _ h => h) (Or.inl ⟨by rfl, fun w hSw => ?_⟩) (by assumption) ?_
  rotate_left
  · (have s1 := hSw; go_simp; try with_reducible rfl)
  try simp only [Act.put, List.setIfInBounds_toArray, List.set_cons_zero, List.set_cons_succ]
  refine Late.done (by kernel_rfl) ?_ _
  refine NoPanic.normal ?_
  have BZ := Lib.hid (b1.out.trans (hHeld.mono b1.out.size))
  have OZ := Lib.hid (own_base ho3 (Nat.le_trans b1.out.size hv3))
  clear hHeld
  go_wp2
  go_ret
  exact made_of (n := 24 + (4 + x.n)) (by rw [restF_len]; show 28 + x.body.length = _; rw [HL.out]; omega) OZ.out BZ.out
set_option maxHeartbeats 8000000 in
theorem rentform_any {w : World} {B : Nat} {x : EX} (h : EOk w B x) (hB : B ≤ w.heap.size) (hn : x.n ≤ 65536) : Calls Try.prog 24 #[.agg (ec x).toArray] w (Made w (entF x.z)) := by
  obtain ⟨W1, hW1⟩ : ∃ W, W = w.alloc (.cells (ec x).toArray 42) := ⟨_, rfl⟩
  have b1 := Lib.hid (show Below w.heap.size w W1 by rw [hW1]; exact below_one _ _)
  obtain ⟨g, hg⟩ : ∃ g, w.heap.size = g := ⟨_, rfl⟩
  have Hg := Lib.hid hg
  have V1 := Lib.hid (show VBox W1 g 5 (ec x) by rw [hW1]; exact vbox_new _ _ _ _ _ hg rfl (by omega))
  have z1 := Lib.hid (show W1.heap.size = g + 1 by rw [hW1]; simp [hg])
  have HW1 := Lib.hid hW1
  clear hW1 hg
  have HEO := Lib.hid (fun (W : World) (hW : Below W1.heap.size W1 W) => (⟨(h.below b1.out hB).below hW (Nat.le_trans hB b1.out.size), Nat.le_trans hB (Nat.le_trans b1.out.size hW.size)⟩ : EOk W B x ∧ B ≤ W.heap.size))
  have hst := h.stamp
  have hcl := h.client
  have hid := h.id
  have hpo := h.pos
  have HX := Lib.hid h
  have HT := Lib.hid (fun (W : World) (hW : Below W1.heap.size W1 W) => (⟨(h.body.belowM b1.out hB).belowM (hW.mono b1.out.size) hB, Nat.le_trans hB (Nat.le_trans b1.out.size hW.size)⟩ : Bs W B x.A x.n x.body ∧ B ≤ W.heap.size))
  have HC := Lib.hid (fun (W : World) (hW : Below W1.heap.size W1 W) => ((V1.out.grow hW).e))
  have HL : Hid (x.body.length = x.n) := Lib.hid h.body.len
  have HD := Lib.hid (show Below W1.heap.size W1 W1.drew from below_drewN (Below.refl _ _) 1)
  clear h
  unfold InM at hpo
  go_enter Try.func24, Try.ntmps24
  go_upto_region 1 with fail
  rw [← HW1.out, Hg.out]
  refine Late.region (fun w' => Below W1.heap.size W1 w') [] (by kernel_rfl) HD.out (fun hHeld => ?_)
  refine Late.take (i := 0) (oi := ⟨some 3, Op.fieldAddr 42 (Operand.tmp 1) 0, _, _, _, _⟩) (v := ?_) rfl (by kernel_rfl) (by kernel_rfl) (by kernel_rfl) (by kernel_rfl) (fun _ _ _ h => h) (Or.inl ⟨by rfl, fun w hSw => ?_⟩) (by assumption) ?_
  rotate_left
  · (have s1 := hSw; go_simp; try with_reducible rfl)
  try simp only [Act.put, List.setIfInBounds_toArray, List.set_cons_zero, List.set_cons_succ]
  refine Late.take (i := 1) (oi := ⟨some 4, Op.load 3 (Operand.tmp 3), _, _, _, _⟩) (v := ?_) rfl (by kernel_rfl) (by kernel_rfl) (by kernel_rfl) (by kernel_rfl) (fun _ _ _ h => h) (Or.inl ⟨by rfl, fun w hSw => ?_⟩) (by assumption) ?_
  rotate_left
  · (have s1 := hSw; obtain ⟨d0, d1, d2, d3, d4⟩ := HC.out _ hSw; go_simp; try with_reducible rfl)
  try simp only [Act.put, List.setIfInBounds_toArray, List.set_cons_zero, List.set_cons_succ]
  refine Late.take (i := 3) (oi := ⟨some 6, Op.load 42 (Operand.tmp 1), _, _, _, _⟩) (v := ?_) rfl (by kernel_rfl) (by kernel_rfl) (by kernel_rfl) (by kernel_rfl) (fun _ _ _ h => h) (Or.inl ⟨by rfl, fun w hSw => ?_⟩) (by assumption) ?_
  rotate_left
  · (have s1 := hSw; obtain ⟨d0, d1, d2, d3, d4⟩ := HC.out _ hSw; go_simp; try with_reducible rfl)
  try simp only [Act.put, List.setIfInBounds_toArray, List.set_cons_zero, List.set_cons_succ]
  refine Late.one (i := 2) (o := ⟨some 5, Op.call { callee := Callee.value (Operand.func 61), args := #[Operand.tmp 4], argTypes := #[3] }, _, _, _, _⟩) (by kernel_rfl) rfl (fun K hK => ?_)
  go_simp
  refine (refint_any x.pos hpo.1 hpo.2 W1.drew).mono ?_
  intro e v2 hm
  obtain ⟨D1, d1, rfl, ho1, hb1, _, _⟩ := hm.n (n64_len' x.pos)
  have H1 := Made.bs ho1 (n64_isB _)
  have hbA := hHeld.trans (hb1.mono hHeld.size)
  refine hK.out _ _ (hbA) (fun hHeld2 => ?_)
  clear hK K hHeld
  have hHeld := hHeld2
  clear hHeld2
  try simp only [Act.put, List.setIfInBounds_toArray, List.set_cons_zero, List.set_cons_succ]
  refine Late.one (i := 4) (o := ⟨some 7, Op.call { callee := Callee.value (Operand.func 46), args := #[Operand.tmp 6], argTypes := #[42] }, _, _, _, _⟩) (by kernel_rfl) rfl (fun K hK => ?_)
  go_simp
  refine (rrest_any (HEO.out _ hHeld).1 (HEO.out _ hHeld).2 hn).mono ?_
  intro e v3 hm2
  obtain ⟨D2, d2, rfl, ho2, hb2, _, _⟩ := hm2.n (show (restF x.z).length = 28 + x.n by rw [restF_len]; show 28 + x.body.length = _; rw [HL.out])
  have H2 := Made.bs ho2 (restF_isB (e := x.z) HX.out.body.isBytes)
  have hbB := hHeld.trans (hb2.mono hHeld.size)
  refine hK.out _ _ (hbB) (fun hHeld2 => ?_)
  clear hK K hHeld
  have hHeld := hHeld2
  clear hHeld2
  try simp only [Act.put, List.setIfInBounds_toArray, List.set_cons_zero, List.set_cons_succ]
  refine Late.one (i := 5) (o := ⟨some 8, Op.call { callee := Callee.value (Operand.func 47), args := #[Operand.tmp 5, Operand.tmp 7], argTypes := #[22, 22] }, _, _, _, _⟩) (by kernel_rfl) rfl (fun K hK => ?_)
  go_simp
  refine (refcat_any d1 d2 (H1.belowM hb2 (Nat.le_refl _)) H2 hb2.size (Nat.le_refl _) (by omega)).mono ?_
  intro e v4 hm3
  obtain ⟨D3, d3, rfl, ho3, hb3, _, _⟩ := hm3.n (show (n64 x.pos ++ restF x.z).length = 8 + (28 + x.n) by rw [List.length_append, n64_len', restF_len]; show 8 + (28 + x.body.length) = _; rw [HL.out])
  have hv3 := hHeld.size
  have hbC := hHeld.trans (hb3.mono hHeld.size)
  refine hK.out _ _ (hbC) (fun hHeld2 => ?_)
  clear hK K hHeld
  have hHeld := hHeld2
  clear hHeld2
  try simp only [Act.put, List.setIfInBounds_toArray, List.set_cons_zero, List.set_cons_succ]
  refine Late.take (i := 6) (oi := ⟨some 2, Op.assign (Operand.tmp 8), _, _, _, _⟩) (v := ?_) rfl (by kernel_rfl) (by kernel_rfl) (by kernel_rfl) (by kernel_rfl) (fun _ _ _ h => h) (Or.inl ⟨by rfl, fun w hSw => ?_⟩) (by assumption) ?_
  rotate_left
  · (have s1 := hSw; go_simp; try with_reducible rfl)
  try simp only [Act.put, List.setIfInBounds_toArray, List.set_cons_zero, List.set_cons_succ]
  refine Late.done (by kernel_rfl) ?_ _
  refine NoPanic.normal ?_
  have BZ := Lib.hid (b1.out.trans (hHeld.mono b1.out.size))
  have OZ := Lib.hid (own_base ho3 (Nat.le_trans b1.out.size hv3))
  clear hHeld
  go_wp2
  go_ret
  exact made_of (n := 8 + (28 + x.n)) (by unfold entF; rw [List.length_append, n64_len', restF_len]; show 8 + (28 + x.body.length) = _; rw [HL.out]) OZ.out BZ.out
set_option maxHeartbeats 16000000 in
theorem rconfform_any {w : World} {B n : Nat} {A : Option Addr} {ms : List MemZ} (c : Nat) (ep : Int) (hep : InM ep) (h : Mems w B A n ms) (hB : B ≤ w.heap.size) (hn : n ≤ 1000) : Calls Try.prog 25 #[.agg (gc ep A n c).toArray] w (Made w (confF ep ms)) := by
  obtain ⟨W1, hW1⟩ : ∃ W, W = w.alloc (.cells (gc ep A n c).toArray 26) := ⟨_, rfl⟩
  have b1 := Lib.hid (show Below w.heap.size w W1 by rw [hW1]; exact below_one _ _)
  obtain ⟨g, hg⟩ : ∃ g, w.heap.size = g := ⟨_, rfl⟩
  have Hg := Lib.hid hg
  have V1 := Lib.hid (show VBox W1 g 2 (gc ep A n c) by rw [hW1]; exact vbox_new _ _ _ _ _ hg rfl (by omega))
  have z1 := Lib.hid (show W1.heap.size = g + 1 by rw [hW1]; simp [hg])
  have HW1 := Lib.hid hW1
  obtain ⟨q0, q1⟩ := V1.out.g
  clear hW1 hg
  have HM := Lib.hid (h.below b1.out hB)
  have HLn := Lib.hid h.row.len
  have NM := Lib.hid (rnumbers2 W1 (g + 1) 2 z1.out ep (n : Int) hep (by unfold InM; omega))
  have B1r := Lib.hid (below_one W1 (.cells #[.int .i64 ep, .int .i64 (n : Int)] 3))
  have zz := z1.out
  clear h
  go_enter Try.func25, Try.ntmps25
  go_upto_region 1 with fail
  rw [← HW1.out, Hg.out]
  go_upto_region 2 with (go_at_call 44; refine NM.out.mono ?_; intro e w2 hm; obtain ⟨D0, d0, rfl, hoo, hbb, _, _⟩ := hm.n (show (n64 ep ++ n64 (n : Int)).length = 16 by simp only [List.length_append, n64_len']); have B2 := Lib.hid (B1r.out.trans (hbb.mono B1r.out.size)); have O2 := Lib.hid (show w2.ownsRow W1.heap.size 5 1 (.slice D0 16 d0) 16 (vals (n64 ep ++ n64 (n : Int))) from own_base hoo B1r.out.size); clear hm hoo hbb)
  obtain ⟨hd, hhd⟩ : ∃ z, n64 ep ++ n64 (n : Int) = z := ⟨_, rfl⟩
  rw [hhd] at O2
  have HHD := Lib.hid hhd
  clear hhd q0 q1 NM zz
  go_wp2
  go_loopw [3, 4] (fun v3 i wr => ∃ (k N : Nat) (A3 : Option Addr) (c3 : Nat), k ≤ n ∧ i = .int .i64 k ∧ Hid (16 + 17 * k = N) ∧ N ≤ 17016 ∧ v3 = .slice A3 N c3 ∧ Hid (wr.ownsRow W1.heap.size 5 1 (.slice A3 N c3) N (vals (hd ++ msF (ms.take k)))) ∧ Hid (Below W1.heap.size W1 wr)) (fun _ i _ => n - (intOf i).toNat)
  case atStart => exact ⟨0, 16, D0, d0, by omega, rfl, Lib.hid rfl, by omega, rfl, Lib.hid (by rw [show msF (ms.take 0) = [] from rfl, List.append_nil]; exact O2.out), B2⟩
  case round =>
    obtain ⟨k, N, A3, c3, hk, rfl, HN, hN, rfl, OR, BR⟩ := hrel
    obtain ⟨q0, q1⟩ := (V1.out.grow BR.out).g
    by_cases hlt : k < n
    · have hki : (k : Int) < (n : Int) := by omega
      obtain ⟨bb, off, x, hA, hb, hx, hmm, hr⟩ := (HM.out.below BR.out (Nat.le_trans hB b1.out.size)).row.at_ bc_len hlt
      obtain ⟨c0, c1, c2⟩ := rng_b hr
      have XO := HM.out.ok x hmm
      have hno := XO.node
      have hsi := XO.since
      obtain ⟨W2, hW2⟩ : ∃ W, W = wr.alloc (.cells #[.int .i64 x.node, .int .i64 x.since, .bool x.whole] 91) := ⟨_, rfl⟩
      obtain ⟨gx, hgx⟩ : ∃ g, wr.heap.size = g := ⟨_, rfl⟩
      have zx : W2.heap.size = gx + 1 := by rw [hW2]; simp [hgx]
      have b2 := Lib.hid (show Below wr.heap.size wr W2 by rw [hW2]; exact below_one _ _)
      have VX := Lib.hid (show VBox W2 gx 3 (bc x) by rw [hW2]; exact vbox_new wr (bc x) _ _ _ hgx rfl (by omega))
      have hgxW : W1.heap.size ≤ gx := by rw [← hgx]; exact BR.out.size
      have Bn := Lib.hid (BR.out.trans (b2.out.mono BR.out.size))
      have NM := Lib.hid (rnumbers2 W2 (gx + 1) 2 zx x.node x.since hno hsi)
      have b3 := Lib.hid (below_one W2 (.cells #[.int .i64 x.node, .int .i64 x.since] 3))
      have O3 := Lib.hid (show (W2.alloc (.cells #[.int .i64 x.node, .int .i64 x.since] 3)).ownsRow W1.heap.size 5 1 (.slice A3 N c3) N (vals (hd ++ msF (ms.take k))) from (own_below OR.out b2.out (Nat.le_refl _)).alloc _)
      have B3 := Lib.hid (Bn.out.trans (b3.out.mono Bn.out.size))
      have VX3 := Lib.hid (VX.out.grow b3.out)
      have HTK : Hid (hd ++ msF (ms.take (k + 1)) = (hd ++ msF (ms.take k) ++ (n64 x.node ++ n64 x.since)) ++ [if x.whole then 1 else 0]) := Lib.hid (by
        rw [List.take_add_one, hx.out]
        unfold msF
        rw [List.flatMap_append]
        simp [memF, List.append_assoc])
      have HW2 := Lib.hid hW2
      have Hgx := Lib.hid hgx
      have hN2 : N + 17 ≤ 17016 := by have := HN.out; omega
      subst hA
      clear hr hmm hW2 hgx hx XO
      go_upto_region 6 with fail
      rw [← HW2.out, Hgx.out]
      clear c0 c1 c2 q0 q1
      obtain ⟨d0, d1, d2⟩ := VX.out.mb
      go_upto_region 7 with (first
        | (go_at_call 44; refine NM.out.mono ?_; intro e w4 hm; obtain ⟨D4, d4, rfl, hoo, hbb, _, _⟩ := hm.n (show (n64 x.node ++ n64 x.since).length = 16 by simp only [List.length_append, n64_len']); have H4 := Lib.hid (Made.bs hoo ((n64_isB _).app (n64_isB _))); have O4 := Lib.hid (own_below O3.out hbb (Nat.le_refl _)); have B4 := Lib.hid (B3.out.trans (hbb.mono B3.out.size)); have VX4 := Lib.hid (VX3.out.grow hbb); clear hm hoo hbb)
        | (at_builtin; refine wpList_app _ rfl (.tmp 25) (.tmp 31) 22 rfl W1.heap.size 5 1 1 Try.underlying22 u8_info (by omega) (.slice A3 N c3) N (vals (hd ++ msF (ms.take k))) rfl O4.out D4 16 d4 (vals (n64 x.node ++ n64 x.since)) rfl H4.out.lies.1 H4.out.lies.2 (vals_one _) (by unfold maxLen; omega) (by omega) B4.out.size ?_; intro v1 w5 ho1 hg1; rw [← vals_app] at ho1; have B5 := Lib.hid (B4.out.grown hg1 B4.out.size (fun j hj => (O4.out.lt j hj).1)); obtain ⟨A5, c5, rfl, _, _⟩ := own_shape ho1; have O5 := Lib.hid ho1; have VX5 := Lib.hid (show VBox w5 gx 3 (bc x) from VX4.out.same (hg1.block gx VX4.out.lt (fun e => absurd (OR.out.lt gx e.symm).2 (by rw [Hgx.out]; omega)))); clear ho1 hg1))
      obtain ⟨f0, f1, f2⟩ := VX5.out.mb
      have FL := Lib.hid (refflag_any x.whole w5)
      go_wp2_with (first
        | (go_at_call 62; refine FL.out.mono ?_; intro e w6 hm; obtain ⟨D6, d6, rfl, hoo, hbb, _, _⟩ := hm.n (show [if x.whole then (1 : Int) else 0].length = 1 from rfl); have H6 := Lib.hid (Made.bs hoo (flag_isB x.whole)); have O6 := Lib.hid (own_below O5.out hbb (Nat.le_refl _)); have B6 := Lib.hid (B5.out.trans (hbb.mono B5.out.size)); clear hm hoo hbb)
        | (at_builtin; refine wpList_app _ rfl (.tmp 33) (.tmp 36) 22 rfl W1.heap.size 5 1 1 Try.underlying22 u8_info (by omega) (.slice A5 (N + 16) c5) (N + 16) (vals (hd ++ msF (ms.take k) ++ (n64 x.node ++ n64 x.since))) rfl O6.out D6 1 d6 (vals [if x.whole then 1 else 0]) rfl H6.out.lies.1 H6.out.lies.2 (vals_one _) (by unfold maxLen; omega) (by omega) B6.out.size ?_; intro v1 w7 ho1 hg1; rw [← vals_app, ← HTK.out] at ho1; have B7 := Lib.hid (B6.out.grown hg1 B6.out.size (fun j hj => (O6.out.lt j hj).1)); obtain ⟨A7, c7, rfl, _, _⟩ := own_shape ho1; have O7 := Lib.hid ho1; clear ho1 hg1))
      go_roundw
      case rel => exact ⟨k + 1, N + 16 + 1, A7, c7, by omega, by go_num, Lib.hid (by have := HN.out; omega), by omega, rfl, O7, B7⟩
      case measure => simp [intOf]; omega
    · have hki : ¬ (k : Int) < (n : Int) := by omega
      obtain rfl : k = n := by omega
      have OE : Hid (wr.ownsRow w.heap.size 5 1 (.slice A3 N c3) N (vals (confF ep ms))) := Lib.hid (by
        have := own_base OR.out b1.out.size
        rw [List.take_of_length_le (by rw [HLn.out]; omega), ← HHD.out] at this
        unfold confF
        rw [HLn.out]
        exact this)
      go_wp2
      go_ret
      exact made_of (n := N) (by rw [← HN.out]; unfold confF; simp only [List.length_append, n64_len', msF_len, HLn.out]; omega) OE.out (b1.out.trans (BR.out.mono b1.out.size))
end Go.Proofs.Ytfihiandifnkpaa
