/- Tags, written and read. -/
import Derived.Test.YtcihbkdpkhhhcaaWrites
import Derived.Test.YtcihbkdpkhhhcaaTagEq
import Derived.Laws.Cover3
import Derived.Deep.Cut
namespace Go.Proofs.Ytcihbkdpkhhhcaa
open Go.ChangeShapes Go.WideShapes Go.ChangeAt Go.RowKit
set_option linter.unusedVariables false
open Plain
theorem tag_wr {w : World} {b : Nat} {g : Option Nat} {st : Option (List Int)} (h : Wr w b g st) (T : List Int) (hl : T.length = 32) (hT : IsBytes T) : Calls Try.prog 35 #[.pointer (some ⟨b, 0, none⟩), .agg (vals T).toArray] w (Puts w b g (wPut st T)) := by
  have HC := Lib.hid (put1 (w := w.alloc (.cells (vals T).toArray 28)) (h.grown (grown_alloc _ _ none) (by simp) (by simp)) (bs_new w T 32 hl hT 28 _ rfl) (by simp) (by omega) (apart_new h _ (Nat.le_refl _)) 26 32 1 (w.heap.size + 1) (by simp))
  have HG := Lib.hid (grown_alloc w (.cells (vals T).toArray 28) none)
  clear h
  go_enter Try.func35, Try.ntmps35
  go_wp2_with (go_at_call 64; refine HC.out.mono ?_; intro e w' k; replace k := Puts.from HG.out k; obtain ⟨rfl, k⟩ := k)
  go_ret
  exact ⟨rfl, k⟩
def ZT : List Int := List.replicate 32 0
theorem zt_bytes : IsBytes ZT := rep_bytes 32 0 (by omega) (by omega)
/-- Two new variables of tags. -/
def Two0 (w : World) : World := (w.alloc (.cells (vals ZT).toArray 28)).alloc (.cells (vals ZT).toArray 28)
theorem two0_rows (w : World) : Row8 (Two0 w) w.heap.size 0 ZT ∧ Row8 (Two0 w) (w.heap.size + 1) 0 ZT ∧ w.grownBy (Two0 w) none ∧ (Two0 w).heap.size = w.heap.size + 2 := by
  refine ⟨(Row8.new w ZT _).same (Below.heap_alloc _ _ _ (by simp)), ?_, grown_trans (grown_alloc _ _ _) (grown_alloc _ _ _), by simp [Two0]⟩
  have := Row8.new (w.alloc (.cells (vals ZT).toArray 28)) ZT 28
  rwa [show (w.alloc (.cells (vals ZT).toArray 28)).heap.size = w.heap.size + 1 by simp] at this
/-- What a block of the call's own holds behind a whole store, and that nothing else turned. -/
theorem tag_stored {w w1 : World} {g : Nat} {T U : List Int} {r : Option Nat} (hU : Row8 w1 g 0 U) (hl : U.length = T.length) (hg : w.grownBy w1 r) (hn : w.heap.size ≤ g) : (w1.setCells g 0 (vals T)).rangeAt g 0 (vals T) ∧ w.grownBy (w1.setCells g 0 (vals T)) r := by
  refine ⟨World.rangeAt_setCells_same w1 g 0 (vals T) (by rw [vals_len, ← hl]; exact hU.there), ?_⟩
  have hs : ∀ (vs : List Value) (o : Nat) (u : World), (u.setCells g o vs).heap.size = u.heap.size := by
    intro vs
    induction vs with
    | nil => intro o u; rfl
    | cons v l ih => intro o u; rw [World.setCells, ih]; simp [World.setCell]
  have hb := below_setCells (B := g) (Nat.le_refl g) (vals T) 0 w1 (Below.refl _ _)
  refine ⟨hb.os.trans hg.os, hb.tape.trans hg.tape, hb.output.trans hg.output, by rw [hs]; exact hg.size, fun k hk hr => ?_⟩
  rw [heap_setCells g k (by omega)]
  exact hg.block k hk hr
theorem zt_size : (Try.prog.info? 28).map (·.size) = some (vals ZT).length := tag_size ZT rfl
set_option maxRecDepth 100000 in
set_option maxHeartbeats 1000000 in
theorem take_t_none (p F : Value) (why size : Int) (hw : why ≠ 0) (w : World) (h : ∀ w', w.grownBy w' none → Calls Try.prog 19 #[p] w' (Says (.int .i64 why) w')) :
    Calls Try.prog 61 #[p, .int .i64 size, F] w (fun e w' => e = .returned (.agg (vals ZT).toArray) ∧ w.grownBy w' none) := by
  obtain ⟨R0, R1, g0, _⟩ := two0_rows w
  obtain ⟨r, g⟩ := tag_stored (T := ZT) R0 rfl g0 (Nat.le_refl _)
  have HW0 : Hid (Two0 w = (w.alloc (.cells (vals ZT).toArray 28)).alloc (.cells (vals ZT).toArray 28)) := Lib.hid rfl
  have HE := Lib.hid (h (Two0 w) g0)
  generalize Two0 w = W0 at *
  have hw2 : (why == 0) = false := by simpa using hw
  have L1 := Lib.hid R1.range
  have T0 : Hid (W0.there w.heap.size 0 (vals ZT).toArray.size) := Lib.hid R0.there
  have HI := Lib.hid zt_size
  have HR := Lib.hid r
  have HG := Lib.hid g
  clear R0 R1 g0 r g h
  go_enter Try.func61, Try.ntmps61
  go_wp2_with fail
  refine (show Calls Try.prog _ _ ((w.alloc (.cells (vals ZT).toArray 28)).alloc (.cells (vals ZT).toArray 28)) _ from ?_)
  rw [← HW0.out]
  refine HE.out.mono ?_
  rintro e w1 ⟨rfl, rfl⟩
  have G := HI
  go_wp2_with (first
    | (have g := G; refine wpList_load_mid (op := ⟨some 14, .load 28 (.tmp 7), _, _, _, _⟩) rfl 28 (.tmp 7) rfl (w.heap.size + 1) 0 rfl (vals ZT) _ L1.out Try.underlying28 rfl HI.out ?_; clear g)
    | (have g := G; clear g; refine wpList_store_as (op := ⟨none, .store 28 (.tmp 6) (.tmp 14), _, _, _, _⟩) rfl 28 (.tmp 6) (.tmp 14) rfl w.heap.size 0 (vals ZT).toArray rfl rfl T0.out HI.out (all_oneCell_toArray (vals_one ZT)) ?_; intro w2 hw2; clear G))
  have e2 := hw2.out
  have r2 : w2.rangeAt w.heap.size 0 (vals ZT) := by rw [e2]; exact HR.out
  have g2 : w.grownBy w2 none := by rw [e2]; exact HG.out
  exact bodyPost_ret (v := .agg (vals ZT).toArray) (results_mid (p := 6) (ty := 28) rfl _ _ w.heap.size 0 (vals ZT) _ rfl r2 Try.underlying28 rfl HI.out) rfl ⟨rfl, g2⟩
set_option maxRecDepth 100000 in
set_option maxHeartbeats 1000000 in
theorem take_t_short {w : World} {b : Nat} {B : Span} {zs : List Int} (F : Value) (size : Int) (h : Rd w b B 0 zs) (hs : (zs.length : Int) < size) :
    Calls Try.prog 61 #[.pointer (some ⟨b, 0, none⟩), .int .i64 size, F] w (Takes w b B 40 [] (.agg (vals ZT).toArray)) := by
  have hlt := h.lt
  obtain ⟨R0, R1, g0, z0⟩ := two0_rows w
  have h' := h.grown g0 (fun k hk => by cases hk)
  have HW0 : Hid (Two0 w = (w.alloc (.cells (vals ZT).toArray 28)).alloc (.cells (vals ZT).toArray 28)) := Lib.hid rfl
  generalize Two0 w = W0 at *
  have HE := Lib.hid (err_any h')
  have HL := Lib.hid (left_any h')
  have sp := h'.spoilt 40 (by omega)
  have gs : w.grownBy ((W0.setCell ⟨b, 1, none⟩ (.int .i64 40)).setCell ⟨b, 2, none⟩ (.slice none 0 0)) (some b) := grown_trans (grown_more g0) (grown_trans (grown_cell _ ⟨b, 1, none⟩ _) (grown_cell _ ⟨b, 2, none⟩ _))
  have same : ∀ k, k ≠ b → ((W0.setCell ⟨b, 1, none⟩ (.int .i64 40)).setCell ⟨b, 2, none⟩ (.slice none 0 0)).heap[k]? = W0.heap[k]? := fun k hk => by
    rw [Below.heap_setCell _ _ _ _ hk, Below.heap_setCell _ _ _ _ hk]
  have R2 := R0.same (same _ (by omega))
  have R3 := R1.same (same _ (by omega))
  obtain ⟨A, n, c, h2, _⟩ := h'.rest
  have h1 := h'.errno
  have g1 := h'.f1
  have g2 := h'.f2
  obtain ⟨m, hm⟩ : ∃ m, zs.length = m := ⟨_, rfl⟩
  rw [hm] at HL hs
  obtain ⟨W1, hW1⟩ : ∃ W1, (W0.setCell ⟨b, 1, none⟩ (.int .i64 40)).setCell ⟨b, 2, none⟩ (.slice none 0 0) = W1 := ⟨_, rfl⟩
  rw [hW1] at sp gs R2 R3
  obtain ⟨r, g⟩ := tag_stored (T := ZT) R2 rfl gs (Nat.le_refl _)
  have HRd := Lib.hid (sp.below (B' := w.heap.size) (below_setCells (Nat.le_refl _) (vals ZT) 0 W1 (Below.refl _ _)) hlt)
  have L1 := Lib.hid R3.range
  have T0 : Hid (W1.there w.heap.size 0 (vals ZT).toArray.size) := Lib.hid R2.there
  have HI := Lib.hid zt_size
  have HR := Lib.hid r
  have HG := Lib.hid g
  have HW1 := Lib.hid hW1
  have hnlt : ¬ size ≤ (m : Int) := by omega
  clear h hm h' R0 R1 R2 R3 g0 r g gs sp same hW1
  go_enter Try.func61, Try.ntmps61
  go_wp2_with fail
  refine (show Calls Try.prog _ _ ((w.alloc (.cells (vals ZT).toArray 28)).alloc (.cells (vals ZT).toArray 28)) _ from ?_)
  rw [← HW0.out]
  refine HE.out.mono ?_
  rintro e w1 ⟨rfl, rfl⟩
  go_upto_region 11 with (go_at_call 17; refine HL.out.mono ?_; rintro e w' ⟨rfl, rfl⟩)
  rw [HW1.out]
  have G := HI
  go_wp2_with (first
    | (have g := G; refine wpList_load_mid (op := ⟨some 48, .load 28 (.tmp 7), _, _, _, _⟩) rfl 28 (.tmp 7) rfl (w.heap.size + 1) 0 rfl (vals ZT) _ L1.out Try.underlying28 rfl HI.out ?_; clear g)
    | (have g := G; clear g; refine wpList_store_as (op := ⟨none, .store 28 (.tmp 6) (.tmp 48), _, _, _, _⟩) rfl 28 (.tmp 6) (.tmp 48) rfl w.heap.size 0 (vals ZT).toArray rfl rfl T0.out HI.out (all_oneCell_toArray (vals_one ZT)) ?_; intro w2 hw2; clear G))
  have e2 := hw2.out
  have r2 : w2.rangeAt w.heap.size 0 (vals ZT) := by rw [e2]; exact HR.out
  exact bodyPost_ret (v := .agg (vals ZT).toArray) (results_mid (p := 6) (ty := 28) rfl _ _ w.heap.size 0 (vals ZT) _ rfl r2 Try.underlying28 rfl HI.out) rfl ⟨rfl, by rw [e2]; exact HRd.out, by rw [e2]; exact HG.out⟩
theorem bs_rangeAt {w : World} {B n : Nat} {b off : Nat} {zs : List Int} (h : Bs w B (some ⟨b, off, none⟩) n zs) : w.rangeAt b off (vals zs) := fun j v hv => by
  have hj : j < zs.length := by have := (List.getElem?_eq_some_iff.1 hv).1; rwa [vals_len] at this
  rw [vals_at zs j hj] at hv
  injection hv with hv
  subst hv
  obtain ⟨b', o', e, _, hc⟩ := h.row (by rw [← h.len]; omega)
  injection e with e
  injection e with e1 e2
  subst e1 e2
  exact hc j (by rw [← h.len]; exact hj)
set_option maxRecDepth 100000 in
set_option maxHeartbeats 1000000 in
theorem tag_mk {w : World} {B c : Nat} {A : Option Addr} {zs : List Int} (h : Bs w B A 32 zs) (hB : B ≤ w.heap.size) : Calls Try.prog 62 #[.slice A 32 c] w (Makes w true (fun x _ => x = .agg (vals zs).toArray)) := by
  obtain ⟨b, off, rfl, hb, _⟩ := h.row (by omega)
  have hL := h.len
  obtain ⟨W0, hW0⟩ : ∃ W0, w.alloc (.cells (vals ZT).toArray 28) = W0 := ⟨_, rfl⟩
  have R0 : Row8 W0 w.heap.size 0 ZT := by rw [← hW0]; exact Row8.new w ZT _
  have g0 : w.grownBy W0 none := by rw [← hW0]; exact grown_alloc _ _ _
  have hr := rangeAt_same (bs_rangeAt h) (g0.block b (by omega) (by simp))
  obtain ⟨r, g⟩ := tag_stored (T := zs) R0 (by rw [hL]; rfl) g0 (Nat.le_refl _)
  have hat : ∀ W, (Instr.arrayAt 28 (.slice (some ⟨b, off, none⟩) 32 c)).run Try.prog W = .ok (.pointer (some ⟨b, off, none⟩)) W := fun W => run_arrayAt W 28 5 32 _ 32 c Try.underlying28 (Nat.le_refl _)
  have L1 := Lib.hid hr
  have e32 : (vals zs).toArray.size = 32 := by rw [List.size_toArray, vals_len, hL]
  have T0 : Hid (W0.there w.heap.size 0 (vals zs).toArray.size) := Lib.hid (by rw [e32]; exact R0.there)
  have HI : Hid ((Try.prog.info? 28).map (·.size) = some (vals zs).length) := Lib.hid (tag_size zs hL)
  have HR := Lib.hid r
  have HG := Lib.hid g
  have HW0 := Lib.hid hW0
  clear h R0 g0 hr r g hW0 hL e32
  go_enter Try.func62, Try.ntmps62
  go_upto_region 1 with fail
  refine (show Code.wp Try.prog _ _ _ (w.alloc (.cells (vals ZT).toArray 28)) from ?_)
  rw [HW0.out]
  have G := HI
  go_wp2_with (first
    | (have g := G; refine wpList_load_mid (op := ⟨some 6, .load 28 (.tmp 5), _, _, _, _⟩) rfl 28 (.tmp 5) rfl b off rfl (vals zs) _ L1.out Try.underlying28 rfl HI.out ?_; clear g)
    | (have g := G; clear g; refine wpList_store_as (op := ⟨none, .store 28 (.tmp 2) (.tmp 6), _, _, _, _⟩) rfl 28 (.tmp 2) (.tmp 6) rfl w.heap.size 0 (vals zs).toArray rfl rfl T0.out HI.out (all_oneCell_toArray (vals_one zs)) ?_; intro w2 hw2; clear G))
  have e2 := hw2.out
  have r2 : w2.rangeAt w.heap.size 0 (vals zs) := by rw [e2]; exact HR.out
  exact bodyPost_ret (v := .tuple #[.agg (vals zs).toArray, .bool true]) (results_mid_tmp (p := 2) (u := 3) (ty := 28) rfl _ _ w.heap.size 0 (vals zs) _ rfl r2 Try.underlying28 rfl HI.out) rfl ⟨_, rfl, by rw [e2]; exact HG.out, rfl⟩
set_option maxRecDepth 100000 in
set_option maxHeartbeats 2000000 in
theorem take_t_ok {w : World} {b : Nat} {B : Span} {zs : List Int} (h : Rd w b B 0 zs) (hs : 32 ≤ zs.length) :
    Calls Try.prog 61 #[.pointer (some ⟨b, 0, none⟩), .int .i64 32, .func (.func 62) #[] #[]] w (Takes w b B 0 (zs.drop 32) (.agg (vals (zs.take 32)).toArray)) := by
  have hlt := h.lt
  obtain ⟨R0, R1, g0, z0⟩ := two0_rows w
  have h' := h.grown g0 (fun k hk => by cases hk)
  have HW0 : Hid (Two0 w = (w.alloc (.cells (vals ZT).toArray 28)).alloc (.cells (vals ZT).toArray 28)) := Lib.hid rfl
  generalize Two0 w = W0 at *
  have HE := Lib.hid (err_any h')
  have HL := Lib.hid (left_any h')
  obtain ⟨A, n, c, h2, hz, hnc, hcm, hn5⟩ := h'.rest
  rw [hz.len] at HL hs
  have hTl : Hid ((zs.take 32).length = 32) := Lib.hid (by rw [List.length_take, hz.len]; omega)
  have h1 := h'.errno
  have g1 := h'.f1
  have g2 := h'.f2
  have hB : B.hi ≤ b := h'.le
  have C1 := cut_h A n c 32 32 rfl (by omega)
  obtain ⟨A2, C2, hA2⟩ := cut_l A n c 32 32 rfl hs hnc
  have HT := Lib.hid (h'.taken (c' := c - 32) h2 hs hA2 (by omega) (by omega))
  obtain ⟨W1, hW1⟩ : ∃ W1, W0.setCell ⟨b, 2, none⟩ (.slice A2 (n - 32) (c - 32)) = W1 := ⟨_, rfl⟩
  rw [hW1] at HT
  have s1 : W1.heap.size = W0.heap.size := by rw [← hW1]; simp [World.setCell]
  have q1 : Hid (W0.grownBy W1 (some b)) := Lib.hid (by rw [← hW1]; exact grown_cell W0 ⟨b, 2, none⟩ _)
  have HC := Lib.hid (tag_mk (c := c) HT.out.2 (by omega))
  have HW1 := Lib.hid hW1
  have R0' := Lib.hid R0
  have G0 := Lib.hid g0
  have hle : (32 : Int) ≤ (n : Int) := by omega
  clear h h' hz R0 R1 g0 hW1
  go_enter Try.func61, Try.ntmps61
  go_wp2_with fail
  refine (show Calls Try.prog _ _ ((w.alloc (.cells (vals ZT).toArray 28)).alloc (.cells (vals ZT).toArray 28)) _ from ?_)
  rw [← HW0.out]
  refine HE.out.mono ?_
  rintro e w1 ⟨rfl, rfl⟩
  go_upto_region 7 with (go_at_call 17; refine HL.out.mono ?_; rintro e w' ⟨rfl, rfl⟩)
  rw [HW1.out]
  go_wp2_with fail
  refine HC.out.mono ?_
  rintro e w2 ⟨x, rfl, q2, rfl⟩
  generalize zs.take 32 = T at *
  have r2 := HT.out.1.grown q2 (fun k hk => by cases hk)
  have R2 : Row8 w2 w.heap.size 0 ZT := (R0'.out.same (q1.out.block _ (by omega) (by intro e; injection e with e; omega))).same (q2.block _ (by omega) (by simp))
  have G2 : w.grownBy w2 (some b) := grown_trans (grown_more G0.out) (grown_trans q1.out (grown_more q2))
  have z2 : w2.heap.size ≥ W1.heap.size := q2.size
  obtain ⟨W3, hW3⟩ : ∃ W3, w2.alloc (.cells (vals ZT).toArray 28) = W3 := ⟨_, rfl⟩
  have R3 : Row8 W3 w.heap.size 0 ZT := by rw [← hW3]; exact R2.same (Below.heap_alloc _ _ _ (by omega))
  have S3 : Row8 W3 w2.heap.size 0 ZT := by rw [← hW3]; exact Row8.new w2 ZT _
  have r3 : Rd W3 b B 0 (zs.drop 32) := by rw [← hW3]; exact r2.grown (grown_alloc _ _ none) (fun k hk => by cases hk)
  have G3 : w.grownBy W3 (some b) := by rw [← hW3]; exact grown_trans G2 (grown_alloc _ _ _)
  obtain ⟨a4, G4⟩ := tag_stored (T := T) S3 (by rw [hTl.out]; rfl) G3 (by omega)
  have R4 : Row8 (W3.setCells w2.heap.size 0 (vals T)) w.heap.size 0 ZT := R3.same (heap_setCells _ _ (by omega) _ _ _)
  have r4 : Rd (W3.setCells w2.heap.size 0 (vals T)) b B 0 (zs.drop 32) := r3.below (B' := w.heap.size) (below_setCells (by omega) _ _ _ (Below.refl _ _)) hlt
  obtain ⟨W4, hW4⟩ : ∃ W4, W3.setCells w2.heap.size 0 (vals T) = W4 := ⟨_, rfl⟩
  rw [hW4] at a4 G4 R4 r4
  obtain ⟨a5, G5⟩ := tag_stored (T := T) R4 (by rw [hTl.out]; rfl) G4 (Nat.le_refl _)
  have r5 : Rd (W4.setCells w.heap.size 0 (vals T)) b B 0 (zs.drop 32) := r4.below (B' := w.heap.size) (below_setCells (Nat.le_refl _) _ _ _ (Below.refl _ _)) hlt
  have e32 : (vals T).toArray.size = 32 := by rw [List.size_toArray, vals_len, hTl.out]
  have T3 : Hid (W3.there w2.heap.size 0 (vals T).toArray.size) := Lib.hid (by rw [e32]; exact S3.there)
  have T4 : Hid (W4.there w.heap.size 0 (vals T).toArray.size) := Lib.hid (by rw [e32]; exact R4.there)
  have HI : Hid ((Try.prog.info? 28).map (·.size) = some (vals T).length) := Lib.hid (tag_size T hTl.out)
  have A4 := Lib.hid a4
  have A5 := Lib.hid a5
  have HG := Lib.hid G5
  have HR := Lib.hid r5
  have HW3 := Lib.hid hW3
  have HW4 := Lib.hid hW4
  clear r2 R2 G2 R3 S3 r3 G3 a4 G4 R4 r4 a5 G5 r5 e32 hW3 hW4 q2 C1 C2
  have G := HI
  go_upto_region 9 with (have g := G; clear g; refine (show wpList _ _ _ _ _ (w2.alloc (.cells (vals ZT).toArray 28)) from ?_); rw [HW3.out]; refine wpList_store_as (op := ⟨none, .store 28 (.tmp 9) (.tmp 38), _, _, _, _⟩) rfl 28 (.tmp 9) (.tmp 38) rfl w2.heap.size 0 (vals T).toArray rfl rfl T3.out HI.out (all_oneCell_toArray (vals_one T)) ?_; intro w4 hw4; clear G)
  obtain rfl : w4 = W4 := by rw [hw4.out]; exact HW4.out
  clear hw4
  have G := HI
  go_wp2_with (first
    | (have g := G; refine wpList_load_mid (op := ⟨some 41, .load 28 (.tmp 9), _, _, _, _⟩) rfl 28 (.tmp 9) rfl w2.heap.size 0 rfl (vals T) _ A4.out Try.underlying28 rfl HI.out ?_; clear g)
    | (have g := G; clear g; refine wpList_store_as (op := ⟨none, .store 28 (.tmp 6) (.tmp 41), _, _, _, _⟩) rfl 28 (.tmp 6) (.tmp 41) rfl w.heap.size 0 (vals T).toArray rfl rfl T4.out HI.out (all_oneCell_toArray (vals_one T)) ?_; intro w5 hw5; clear G))
  have e2 := hw5.out
  have r2 : w5.rangeAt w.heap.size 0 (vals T) := by rw [e2]; exact A5.out
  exact bodyPost_ret (v := .agg (vals T).toArray) (results_mid (p := 6) (ty := 28) rfl _ _ w.heap.size 0 (vals T) _ rfl r2 Try.underlying28 rfl HI.out) rfl ⟨rfl, by rw [e2]; exact HR.out, by rw [e2]; exact HG.out⟩
end Go.Proofs.Ytcihbkdpkhhhcaa
