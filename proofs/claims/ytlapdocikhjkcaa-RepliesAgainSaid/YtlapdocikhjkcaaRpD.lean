/- Texts held against each other, copied; a reply with its keys in new memory. -/
import Derived.Test.YtlapdocikhjkcaaRpC
import Derived.Test.YtlapdocikhjkcaaB2
import Derived.Laws.Strings
import Derived.Lib.SliceRun
namespace Go.Proofs.Ytlapdocikhjkcaa
open Go.ChangeShapes Go.WideShapes Go.ChangeAt Go.RowKit
set_option linter.unusedVariables false
set_option linter.unusedSimpArgs false
open Plain Sha Au Rp
theorem toList_inj {x y : ByteArray} (h : x.toList = y.toList) : x = y := by
  rw [ByteArray.toList_eq, ByteArray.toList_eq] at h
  exact ByteArray.ext (Array.toList_inj.mp h)
theorem seq_of (x y : ByteArray) : (x.toList == y.toList) = decide (x = y) := by
  by_cases e : x = y
  · subst e; simp
  · rw [decide_eq_false e, beq_eq_false_iff_ne]; exact fun h => e (toList_inj h)
theorem own_keepB {w w' : World} {base n size : Nat} {t : TypeId} {v : Value} {xs : List Value} (h : w.ownsRow base t size v n xs) (hk : ∀ g, base ≤ g → g < w.heap.size → w'.heap[g]? = w.heap[g]?) : w'.ownsRow base t size v n xs := by
  have hlt := h.lt
  obtain ⟨h1, h2 | ⟨g, cap, cur, rfl, hg, hh, h3⟩⟩ := h
  · exact ⟨h1, .inl h2⟩
  · have := hlt g rfl
    exact ⟨h1, .inr ⟨g, cap, cur, rfl, hg, (hk g this.1 this.2).trans hh, h3⟩⟩
theorem own_from {w : World} {base base' n size : Nat} {t : TypeId} {v : Value} {xs : List Value} (h : w.ownsRow base t size v n xs) (hk : base' ≤ base) : w.ownsRow base' t size v n xs := by
  obtain ⟨h1, h2 | ⟨g, cap, cur, rfl, hg, hh, h3⟩⟩ := h
  · exact ⟨h1, .inl h2⟩
  · exact ⟨h1, .inr ⟨g, cap, cur, rfl, by omega, hh, h3⟩⟩
theorem heap_setCell (w : World) (b k j : Nat) (v : Value) (h : j ≠ b) : (w.setCell ⟨b, k, none⟩ v).heap[j]? = w.heap[j]? := Below.heap_setCell _ _ _ _ h
set_option maxRecDepth 100000 in
set_option maxHeartbeats 2000000 in
theorem sleq_any {w : World} {B1 B2 n1 n2 : Nat} {A1 A2 : Option Addr} {k1 k2 : List ByteArray} (c1 c2 : Nat) (q : Bool) (h1 : Sr w B1 A1 n1 k1) (h2 : Sr w B2 A2 n2 k2) (hn : n1 ≤ 9223372036854775807) (hq : decide (k1 = k2) = q) :
    Calls Try.prog 35 #[.slice A1 n1 c1, .slice A2 n2 c2] w (Quiet (.bool q) w) := by
  have H1 := Lib.hid h1
  have H2 := Lib.hid h2
  have HQ := Lib.hid hq
  clear h1 h2 hq
  by_cases hl : n1 = n2
  · subst hl
    go_enter Try.func35, Try.ntmps35
    go_wp2
    go_loopw [13] (fun i wr => ∃ k : Nat, k ≤ n1 ∧ i = .int .i64 k ∧ Hid (∃ m, wr = w.drewN m) ∧ Hid (k1.take k = k2.take k)) (fun i _ => n1 - (intOf i).toNat)
    case atStart => exact ⟨0, by omega, rfl, Lib.hid ⟨0, rfl⟩, Lib.hid rfl⟩
    case round =>
      obtain ⟨k, hk, rfl, HW, HY⟩ := hrel
      by_cases hlt : k < n1
      · have HG1 : Sr wr B1 A1 n1 k1 := by obtain ⟨m, hm⟩ := HW.out; rw [hm]; exact H1.out.keep fun _ _ => rfl
        have HG2 : Sr wr B2 A2 n1 k2 := by obtain ⟨m, hm⟩ := HW.out; rw [hm]; exact H2.out.keep fun _ _ => rfl
        obtain ⟨b1, o1, z1, rfl, _, HZ1, d1⟩ := HG1.at_ hlt
        obtain ⟨b2, o2, z2, rfl, _, HZ2, d2⟩ := HG2.at_ hlt
        have hkI : (k : Int) < (n1 : Int) := by omega
        clear HG1 HG2
        by_cases he : z1 = z2
        · have HT : Hid (k1.take (k + 1) = k2.take (k + 1)) := Lib.hid (by rw [List.take_add_one, List.take_add_one, HY.out, HZ1.out, HZ2.out, he])
          have hs : (z1.toList == z2.toList) = true := by rw [seq_of]; exact decide_eq_true he
          clear he HZ1 HZ2
          go_wp2
          go_quiet (fail)
          go_wp2
          go_roundw
          case rel => exact ⟨k + 1, by omega, by go_num, Lib.hid (by obtain ⟨m, hm⟩ := HW.out; exact ⟨_, by rw [hm, World.drewN_drewN]⟩), HT⟩
          case measure => simp [intOf]; omega
        · have e : q = false := by
            rw [← HQ.out]
            refine decide_eq_false fun h => he ?_
            have e1 := HZ1.out
            rw [h, HZ2.out] at e1
            exact (Option.some.inj e1).symm
          have hs : (z1.toList == z2.toList) = false := by rw [seq_of]; exact decide_eq_false he
          subst e
          clear he HZ1 HZ2
          go_wp2
          go_quiet (fail)
          go_wp2
          go_ret
          exact ⟨rfl, (by obtain ⟨m, hm⟩ := HW.out; exact ⟨_, by rw [hm, World.drewN_drewN]⟩)⟩
      · have e : q = true := by
          rw [← HQ.out]
          have := HY.out
          rw [List.take_of_length_le (by rw [H1.out.len]; omega), List.take_of_length_le (by rw [H2.out.len]; omega)] at this
          exact decide_eq_true this
        subst e
        go_wp2
        go_ret
        exact ⟨rfl, HW.out⟩
  · have e : q = false := by
      rw [← HQ.out]
      refine decide_eq_false fun h => hl ?_
      rw [← H1.out.len, ← H2.out.len, h]
    subst e
    have hl2 : ¬ ((n1 : Int) = (n2 : Int)) := by omega
    go_enter Try.func35, Try.ntmps35
    go_wp2
    go_ret
    exact ⟨rfl, 0, rfl⟩
/-- A row of texts that a call makes. -/
def MadeT (w : World) (n : Nat) (zs : List ByteArray) (e : Ending) (w' : World) : Prop :=
  ∃ D d, e = .returned (.slice D n d) ∧ w'.ownsRow w.heap.size 9 1 (.slice D n d) n (svs zs) ∧ Below w.heap.size w w'
theorem own_noneS (w : World) (base : Nat) (hb : base ≤ w.heap.size) : (w.alloc (.cells #[] 9)).ownsRow base 9 1 (.slice (some ⟨w.heap.size, 0, none⟩) 0 0) 0 (svs []) :=
  World.ownsRow_lit w #[] 0 hb (by simp [maxLen]) rfl
theorem str_info : ∃ i z, Try.prog.info? 9 = some i ∧ i.zero = some z ∧ i.size = 1 ∧ i.bytes = 16 ∧ z.cells.size = 1 := by
  obtain ⟨i, hi, hz, hs, hb⟩ := info_parts (show (Try.prog.info? 9).map (fun i => (i.zero, i.size, i.bytes)) = some (some (.string ByteArray.empty), 1, 16) by kernel_rfl)
  exact ⟨i, _, hi, hz, hs, hb, rfl⟩
set_option maxRecDepth 100000 in
set_option maxHeartbeats 1000000 in
theorem sclone_any {w : World} {B n c : Nat} {A : Option Addr} {zs : List ByteArray} (h : Sr w B A n zs) (hB : B ≤ w.heap.size) (hn : n ≤ 100000) :
    Calls Try.prog 37 #[.slice A n c] w (MadeT w n zs) := by
  have qT : ∀ (w : World) (a : Option Addr) (n c n' c' : Nat), (binOp .eql 27 (.slice a n c) (.slice none n' c')).run Try.prog w = .ok (.bool a.isNone) w := fun w a n c n' c' => Lib.run_eql_slice_nil w _ _ a n c n' c' Try.underlying27
  cases A with
  | none =>
    have h0 : n = 0 := h.lies.2 rfl
    subst h0
    have hl : zs = [] := List.eq_nil_of_length_eq_zero h.len
    subst hl
    clear h
    go_enter Try.func37, Try.ntmps37
    go_wp2
    go_ret
    exact ⟨none, 0, rfl, World.ownsRow_nil _ _ _ _, Below.refl _ _⟩
  | some ad =>
    have HL := Lib.hid (h.below (below_one w (.cells #[] 9)) hB).lies
    have HO := Lib.hid (own_noneS w w.heap.size (Nat.le_refl _))
    clear h
    go_enter Try.func37, Try.ntmps37
    go_wp2_with (at_builtin; refine wpList_app _ rfl (.tmp 5) (.tmp 6) 27 rfl w.heap.size 9 1 16 Try.underlying27 str_info (by omega) _ 0 (svs []) rfl HO.out _ n c (svs zs) rfl HL.out.1 HL.out.2 (svs_one _) (by unfold maxLen; omega) (by omega) (by simp) ?_; intro v1 w1 ho1 hg1; have B1 := Lib.hid (((below_one w (.cells #[] 9))).grown hg1 (by simp) (fun q hq => (HO.out.lt q hq).1)); have HO1 := Lib.hid ho1; clear ho1 hg1)
    go_ret
    have ho := HO1.out
    rw [Nat.zero_add] at ho
    obtain ⟨D, d, rfl, _, _⟩ := own_shapeA ho
    exact ⟨D, d, rfl, ho, B1.out⟩
/-- A reply that a call hands back, its keys in new memory. -/
def CopyX (x : RX) (D : Option Addr) (d : Nat) : RX := { x with A := D, kc := d }
def MadeR (w : World) (x : RX) (e : Ending) (w' : World) : Prop :=
  ∃ D d, e = .returned (.agg (rc (CopyX x D d)).toArray) ∧ w'.ownsRow w.heap.size 9 1 (.slice D x.kn d) x.kn (svs x.ks) ∧ Below w.heap.size w w'
theorem rc_set (x : RX) (D : Option Addr) (d : Nat) : (rc x).set 2 (.slice D x.kn d) = rc (CopyX x D d) := by
  unfold rc rhead CopyX
  simp
theorem VBox.setK {w : World} {b : Nat} {x : RX} {D : Option Addr} {d : Nat} (h : VBox w b 75 (rc x)) : VBox (w.setCell ⟨b, 2, none⟩ (.slice D x.kn d)) b 75 (rc (CopyX x D d)) := by
  have e : w.setCell ⟨b, 2, none⟩ (.slice D x.kn d) = w.setCells b 2 [.slice D x.kn d] := rfl
  refine ⟨fun j v hv => ?_, by rw [e]; exact World.there_setCells h.there _ _ _, rc_len _, h.pos⟩
  rw [← rc_set, List.getElem?_set] at hv
  rw [e]
  by_cases hj : 2 = j
  · subst hj
    rw [if_pos rfl, if_pos (by rw [rc_len]; omega)] at hv
    injection hv with hv
    subst hv
    exact World.rangeAt_setCells_same w b 2 [.slice D x.kn d] (there_sub h.there (by omega) (by simp)) 0 _ rfl
  · rw [if_neg hj] at hv
    rw [World.cell?_setCells_out b [.slice D x.kn d] 2 w ⟨b, 0 + j, none⟩ (fun _ _ => by
      show 0 + j < 2 ∨ 2 + 1 ≤ 0 + j
      omega)]
    exact h.range j v hv
set_option maxRecDepth 100000 in
set_option maxHeartbeats 2000000 in
theorem copied_any {w : World} {B : Nat} {x : RX} (h : ROk w B x) (hB : B ≤ w.heap.size) (hn : x.kn ≤ 100000) :
    Calls Try.prog 26 #[.agg (rc x).toArray] w (MadeR w x) := by
  obtain ⟨W1, hW1⟩ : ∃ W, W = (w.alloc (.cells (rc x).toArray 33)).alloc (.cells zR 33) := ⟨_, rfl⟩
  have b1 := Lib.hid (show Below w.heap.size w W1 by rw [hW1]; exact ((Below.refl _ _).alloc (Nat.le_refl _) _).alloc (by simp) _)
  have V1 : Hid (VBox W1 w.heap.size 75 (rc x)) := Lib.hid (by rw [hW1]; exact (vbox_new w (rc x) _ _ 75 rfl (rc_len _) (by omega)).grow (below_one _ _))
  have V2 : Hid (VBox W1 (w.heap.size + 1) 75 (rc r0)) := Lib.hid (by rw [hW1]; exact vbox_new _ _ _ _ _ (by simp) (rc_len _) (by omega))
  have z1 := Lib.hid (show W1.heap.size = w.heap.size + 1 + 1 by rw [hW1]; simp)
  have CM := Lib.hid (sclone_any (c := x.kc) (h.below b1.out hB).ks (Nat.le_trans hB b1.out.size) hn)
  have HW1 := Lib.hid hW1
  obtain ⟨_, _, c2, _, _⟩ := rng_r V1.out.range
  have c2 : W1.cell? ⟨w.heap.size, 2, none⟩ = some (.slice x.A x.kn x.kc) := by simpa using c2
  clear hW1 h
  have zk := zRk
  have zs := zR_size
  have zn := zR_ne
  have hone := rc_len x
  go_enter Try.func26, Try.ntmps26
  go_upto_region 1 with fail
  rw [← HW1.out]
  clear zk zs zn hone
  have G1 := V1
  have G2 := V2
  go_upto_region 2 with (go_at_call 37; refine CM.out.mono ?_; rintro e5 w5 ⟨D, d, rfl, ho5, b5⟩; have V5 := Lib.hid (V1.out.grow b5); have f5 : w5.frozen? ⟨w.heap.size, 2, none⟩ = false := (V5.out.there 2 (by omega)).2; have d2 : w5.cell? ⟨w.heap.size, 2, none⟩ = some (.slice x.A x.kn x.kc) := (b5.cell (p := ⟨w.heap.size, 2, none⟩) (by have := z1.out; show w.heap.size < W1.heap.size; omega)).trans c2; have V25 := Lib.hid (V2.out.grow b5); have O5 := Lib.hid ho5; have B5 := Lib.hid (b1.out.trans (b5.mono b1.out.size)); have z5 := Lib.hid b5.size; clear ho5 b5)
  obtain ⟨w6, hw6⟩ : ∃ W, W = w5.setCell ⟨w.heap.size, 2, none⟩ (.slice D x.kn d) := ⟨_, rfl⟩
  rw [← hw6]
  have V6 := Lib.hid (show VBox w6 w.heap.size 75 (rc (CopyX x D d)) by rw [hw6]; exact V5.out.setK)
  have V26 : Hid (VBox w6 (w.heap.size + 1) 75 (rc r0)) := Lib.hid (V25.out.same (by rw [hw6]; exact heap_setCell _ _ _ _ _ (by omega)))
  have O6 : Hid (w6.ownsRow W1.heap.size 9 1 (.slice D x.kn d) x.kn (svs x.ks)) := Lib.hid (own_keepB O5.out (fun g h1 h2 => by rw [hw6]; exact heap_setCell _ _ _ _ _ (by have := z1.out; omega)))
  have B6 : Hid (Below w.heap.size w w6) := Lib.hid (by rw [hw6]; exact B5.out.setCell (p := ⟨w.heap.size, 2, none⟩) (Nat.le_refl _) _)
  clear hw6 V5 f5 d2 V25 O5 B5 V1 V2
  go_wp2_with (first
        | (have g := G1; clear g; refine wpList_load_mid (op := ⟨some 7, .load 33 (.tmp 1), _, _, _, _⟩) rfl 33 (.tmp 1) rfl (w.heap.size) (0) rfl (rc (CopyX x D d)) _ (V6.out.range) Try.underlying33 rfl (r_size (CopyX x D d)) ?_; clear G1)
        | (have g := G2; clear g; refine wpList_store_as (op := ⟨none, .store 33 (.tmp 2) (.tmp 7), _, _, _, _⟩) rfl 33 (.tmp 2) (.tmp 7) rfl (w.heap.size + 1) 0 (rc (CopyX x D d)).toArray rfl rfl (vthere V26.out (rc_len _)) (r_sizeA (CopyX x D d)) (r_oneA (CopyX x D d)) ?_; intro w9 hw9; clear G2))
  obtain ⟨V9, b9⟩ := vstored V26.out (rc_len (CopyX x D d)) hw9 (by omega) B6.out
  have O9 : w9.ownsRow W1.heap.size 9 1 (.slice D x.kn d) x.kn (svs x.ks) := own_keepB O6.out (fun g h1 h2 => by rw [hw9.out]; exact heap_setCells (w.heap.size + 1) g (by have := z1.out; omega) _ _ _)
  exact bodyPost_ret (v := .agg (rc (CopyX x D d)).toArray) (results_mid (p := 2) (ty := 33) rfl _ _ (w.heap.size + 1) 0 (rc (CopyX x D d)) _ rfl V9.range Try.underlying33 rfl (r_size _)) rfl ⟨D, d, rfl, own_from O9 b1.out.size, b9⟩
end Go.Proofs.Ytlapdocikhjkcaa
