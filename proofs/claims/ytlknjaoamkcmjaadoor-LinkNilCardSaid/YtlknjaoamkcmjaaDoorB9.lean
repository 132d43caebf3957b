/- Texts of the proof, one behind the other: TagRW More Field TagRd Fields Back WAwake WBad Num BackZ AgainZ. -/
import Derived.Test.YtlknjaoamkcmjaaDoorB8
import Derived.Test.YtlknjaoamkcmjaaDoorB3
import Derived.Laws.Cover3
import Derived.Deep.Cut
import Derived.Lib.Strings
import Derived.Test.YtlknjaoamkcmjaaDoorB1
import Derived.RowKit
/- Tags, written and read. -/
namespace Go.Proofs.YtlknjaoamkcmjaaDoor
open Go.ChangeShapes Go.WideShapes Go.ChangeAt Go.RowKit
set_option linter.unusedVariables false
open Plain
set_option maxRecDepth 100000 in
theorem tag_wr {w : World} {b : Nat} {g : Option Nat} {st : Option (List Int)} (h : Wr w b g st) (T : List Int) (hl : T.length = 32) (hT : IsBytes T) : Calls Tryd.prog 36 #[.pointer (some ⟨b, 0, none⟩), .agg (vals T).toArray] w (Puts w b g (wPut st T)) := by
  have HC := Lib.hid (put1 (w := w.alloc (.cells (vals T).toArray 24)) (h.grown (grown_alloc _ _ none) (by simp) (by simp)) (bs_new w T 32 hl hT 24 _ rfl) (by simp) (by omega) (apart_new h _ (Nat.le_refl _)) 22 32 1 (w.heap.size + 1) (by simp))
  have HG := Lib.hid (grown_alloc w (.cells (vals T).toArray 24) none)
  clear h
  go_enter Tryd.func36, Tryd.ntmps36
  go_wp2_with (go_at_call 57; refine HC.out.mono ?_; intro e w' k; replace k := Puts.from HG.out k; obtain ⟨rfl, k⟩ := k)
  go_ret
  exact ⟨rfl, k⟩
def ZT : List Int := List.replicate 32 0
theorem zt_bytes : IsBytes ZT := rep_bytes 32 0 (by omega) (by omega)
/-- Two new variables of tags. -/
def Two0 (w : World) : World := (w.alloc (.cells (vals ZT).toArray 24)).alloc (.cells (vals ZT).toArray 24)
theorem two0_rows (w : World) : Row8 (Two0 w) w.heap.size 0 ZT ∧ Row8 (Two0 w) (w.heap.size + 1) 0 ZT ∧ w.grownBy (Two0 w) none ∧ (Two0 w).heap.size = w.heap.size + 2 := by
  refine ⟨(Row8.new w ZT _).same (Below.heap_alloc _ _ _ (by simp)), ?_, grown_trans (grown_alloc _ _ _) (grown_alloc _ _ _), by simp [Two0]⟩
  have := Row8.new (w.alloc (.cells (vals ZT).toArray 24)) ZT 24
  rwa [show (w.alloc (.cells (vals ZT).toArray 24)).heap.size = w.heap.size + 1 by simp] at this
/-- What a block of the call's own holds behind a whole store, and that nothing else turned. -/
theorem tag_stored {w w1 : World} {g : Nat} {T U : List Int} {r : Option Nat} (hU : Row8 w1 g 0 U) (hl : U.length = T.length) (hg : w.grownBy w1 r) (hn : w.heap.size ≤ g) : (w1.setCells g 0 (vals T)).rangeAt g 0 (vals T) ∧ w.grownBy (w1.setCells g 0 (vals T)) r := by
  refine ⟨World.rangeAt_setCells_same w1 g 0 (vals T) (by rw [vals_len, ← hl]; exact hU.there), ?_⟩
  have hs : ∀ (vs : List Value) (o : Nat) (u : World), (u.setCells g o vs).heap.size = u.heap.size := by
    intro vs
    induction vs with
    | nil => intro o u; rfl
    | cons v l ih => intro o u; rw [World.setCells, ih]; simp [World.setCell]
  have hb := below_setCells (B := g) (Nat.le_refl g) (vals T) 0 w1 (Below.refl _ _)
  refine ⟨hb.os.trans hg.os, hb.tape.trans hg.tape, hb.output.trans hg.output, by rw [hs]; exact hg.size, fun k hk hr => ?_⟩
  rw [heap_setCells g k (by omega)]
  exact hg.block k hk hr
theorem zt_size : (Tryd.prog.info? 24).map (·.size) = some (vals ZT).length := tag_size ZT rfl
set_option maxRecDepth 100000 in
set_option maxHeartbeats 1000000 in
theorem take_t_none (p F : Value) (why size : Int) (hw : why ≠ 0) (w : World) (h : ∀ w', w.grownBy w' none → Calls Tryd.prog 68 #[p] w' (Says (.int .i64 why) w')) :
    Calls Tryd.prog 66 #[p, .int .i64 size, F] w (fun e w' => e = .returned (.agg (vals ZT).toArray) ∧ w.grownBy w' none) := by
  obtain ⟨R0, R1, g0, _⟩ := two0_rows w
  obtain ⟨r, g⟩ := tag_stored (T := ZT) R0 rfl g0 (Nat.le_refl _)
  have HW0 : Hid (Two0 w = (w.alloc (.cells (vals ZT).toArray 24)).alloc (.cells (vals ZT).toArray 24)) := Lib.hid rfl
  have HE := Lib.hid (h (Two0 w) g0)
  generalize Two0 w = W0 at *
  have hw2 : (why == 0) = false := by simpa using hw
  have L1 := Lib.hid R1.range
  have T0 : Hid (W0.there w.heap.size 0 (vals ZT).toArray.size) := Lib.hid R0.there
  have HI := Lib.hid zt_size
  have HR := Lib.hid r
  have HG := Lib.hid g
  clear R0 R1 g0 r g h
  go_enter Tryd.func66, Tryd.ntmps66
  go_wp2_with fail
  refine (show Calls Tryd.prog _ _ ((w.alloc (.cells (vals ZT).toArray 24)).alloc (.cells (vals ZT).toArray 24)) _ from ?_)
  rw [← HW0.out]
  refine HE.out.mono ?_
  rintro e w1 ⟨rfl, rfl⟩
  have G := HI
  go_wp2_with (first
    | (have g := G; refine wpList_load_mid (op := ⟨some 14, .load 24 (.tmp 7), _, _, _, _⟩) rfl 24 (.tmp 7) rfl (w.heap.size + 1) 0 rfl (vals ZT) _ L1.out Tryd.underlying24 rfl HI.out ?_; clear g)
    | (have g := G; clear g; refine wpList_store_as (op := ⟨none, .store 24 (.tmp 6) (.tmp 14), _, _, _, _⟩) rfl 24 (.tmp 6) (.tmp 14) rfl w.heap.size 0 (vals ZT).toArray rfl rfl T0.out HI.out (all_oneCell_toArray (vals_one ZT)) ?_; intro w2 hw2; clear G))
  have e2 := hw2.out
  have r2 : w2.rangeAt w.heap.size 0 (vals ZT) := by rw [e2]; exact HR.out
  have g2 : w.grownBy w2 none := by rw [e2]; exact HG.out
  exact bodyPost_ret (v := .agg (vals ZT).toArray) (results_mid (p := 6) (ty := 24) rfl _ _ w.heap.size 0 (vals ZT) _ rfl r2 Tryd.underlying24 rfl HI.out) rfl ⟨rfl, g2⟩
set_option maxRecDepth 100000 in
set_option maxHeartbeats 1000000 in
theorem take_t_short {w : World} {b : Nat} {B : Span} {zs : List Int} (F : Value) (size : Int) (h : Rd w b B 0 zs) (hs : (zs.length : Int) < size) :
    Calls Tryd.prog 66 #[.pointer (some ⟨b, 0, none⟩), .int .i64 size, F] w (Takes w b B 40 [] (.agg (vals ZT).toArray)) := by
  have hlt := h.lt
  obtain ⟨R0, R1, g0, z0⟩ := two0_rows w
  have h' := h.grown g0 (fun k hk => by cases hk)
  have HW0 : Hid (Two0 w = (w.alloc (.cells (vals ZT).toArray 24)).alloc (.cells (vals ZT).toArray 24)) := Lib.hid rfl
  generalize Two0 w = W0 at *
  have HE := Lib.hid (err_any h')
  have HL := Lib.hid (left_any h')
  have sp := h'.spoilt 40 (by omega)
  have gs : w.grownBy ((W0.setCell ⟨b, 1, none⟩ (.int .i64 40)).setCell ⟨b, 2, none⟩ (.slice none 0 0)) (some b) := grown_trans (grown_more g0) (grown_trans (grown_cell _ ⟨b, 1, none⟩ _) (grown_cell _ ⟨b, 2, none⟩ _))
  have same : ∀ k, k ≠ b → ((W0.setCell ⟨b, 1, none⟩ (.int .i64 40)).setCell ⟨b, 2, none⟩ (.slice none 0 0)).heap[k]? = W0.heap[k]? := fun k hk => by
    rw [Below.heap_setCell _ _ _ _ hk, Below.heap_setCell _ _ _ _ hk]
  have R2 := R0.same (same _ (by omega))
  have R3 := R1.same (same _ (by omega))
  obtain ⟨A, n, c, h2, _⟩ := h'.rest
  have h1 := h'.errno
  have g1 := h'.f1
  have g2 := h'.f2
  obtain ⟨m, hm⟩ : ∃ m, zs.length = m := ⟨_, rfl⟩
  rw [hm] at HL hs
  obtain ⟨W1, hW1⟩ : ∃ W1, (W0.setCell ⟨b, 1, none⟩ (.int .i64 40)).setCell ⟨b, 2, none⟩ (.slice none 0 0) = W1 := ⟨_, rfl⟩
  rw [hW1] at sp gs R2 R3
  obtain ⟨r, g⟩ := tag_stored (T := ZT) R2 rfl gs (Nat.le_refl _)
  have HRd := Lib.hid (sp.below (B' := w.heap.size) (below_setCells (Nat.le_refl _) (vals ZT) 0 W1 (Below.refl _ _)) hlt)
  have L1 := Lib.hid R3.range
  have T0 : Hid (W1.there w.heap.size 0 (vals ZT).toArray.size) := Lib.hid R2.there
  have HI := Lib.hid zt_size
  have HR := Lib.hid r
  have HG := Lib.hid g
  have HW1 := Lib.hid hW1
  have hnlt : ¬ size ≤ (m : Int) := by omega
  clear h hm h' R0 R1 R2 R3 g0 r g gs sp same hW1
  go_enter Tryd.func66, Tryd.ntmps66
  go_wp2_with fail
  refine (show Calls Tryd.prog _ _ ((w.alloc (.cells (vals ZT).toArray 24)).alloc (.cells (vals ZT).toArray 24)) _ from ?_)
  rw [← HW0.out]
  refine HE.out.mono ?_
  rintro e w1 ⟨rfl, rfl⟩
  go_upto_region 11 with (go_at_call 69; refine HL.out.mono ?_; rintro e w' ⟨rfl, rfl⟩)
  rw [HW1.out]
  have G := HI
  go_wp2_with (first
    | (have g := G; refine wpList_load_mid (op := ⟨some 48, .load 24 (.tmp 7), _, _, _, _⟩) rfl 24 (.tmp 7) rfl (w.heap.size + 1) 0 rfl (vals ZT) _ L1.out Tryd.underlying24 rfl HI.out ?_; clear g)
    | (have g := G; clear g; refine wpList_store_as (op := ⟨none, .store 24 (.tmp 6) (.tmp 48), _, _, _, _⟩) rfl 24 (.tmp 6) (.tmp 48) rfl w.heap.size 0 (vals ZT).toArray rfl rfl T0.out HI.out (all_oneCell_toArray (vals_one ZT)) ?_; intro w2 hw2; clear G))
  have e2 := hw2.out
  have r2 : w2.rangeAt w.heap.size 0 (vals ZT) := by rw [e2]; exact HR.out
  exact bodyPost_ret (v := .agg (vals ZT).toArray) (results_mid (p := 6) (ty := 24) rfl _ _ w.heap.size 0 (vals ZT) _ rfl r2 Tryd.underlying24 rfl HI.out) rfl ⟨rfl, by rw [e2]; exact HRd.out, by rw [e2]; exact HG.out⟩
theorem bs_rangeAt {w : World} {B n : Nat} {b off : Nat} {zs : List Int} (h : Bs w B (some ⟨b, off, none⟩) n zs) : w.rangeAt b off (vals zs) := fun j v hv => by
  have hj : j < zs.length := by have := (List.getElem?_eq_some_iff.1 hv).1; rwa [vals_len] at this
  rw [vals_at zs j hj] at hv
  injection hv with hv
  subst hv
  obtain ⟨b', o', e, _, hc⟩ := h.row (by rw [← h.len]; omega)
  injection e with e
  injection e with e1 e2
  subst e1 e2
  exact hc j (by rw [← h.len]; exact hj)
set_option maxRecDepth 100000 in
set_option maxHeartbeats 1000000 in
theorem tag_mk {w : World} {B c : Nat} {A : Option Addr} {zs : List Int} (h : Bs w B A 32 zs) (hB : B ≤ w.heap.size) : Calls Tryd.prog 67 #[.slice A 32 c] w (Makes w true (fun x _ => x = .agg (vals zs).toArray)) := by
  obtain ⟨b, off, rfl, hb, _⟩ := h.row (by omega)
  have hL := h.len
  obtain ⟨W0, hW0⟩ : ∃ W0, w.alloc (.cells (vals ZT).toArray 24) = W0 := ⟨_, rfl⟩
  have R0 : Row8 W0 w.heap.size 0 ZT := by rw [← hW0]; exact Row8.new w ZT _
  have g0 : w.grownBy W0 none := by rw [← hW0]; exact grown_alloc _ _ _
  have hr := rangeAt_same (bs_rangeAt h) (g0.block b (by omega) (by simp))
  obtain ⟨r, g⟩ := tag_stored (T := zs) R0 (by rw [hL]; rfl) g0 (Nat.le_refl _)
  have hat : ∀ W, (Instr.arrayAt 24 (.slice (some ⟨b, off, none⟩) 32 c)).run Tryd.prog W = .ok (.pointer (some ⟨b, off, none⟩)) W := fun W => run_arrayAt W 24 5 32 _ 32 c Tryd.underlying24 (Nat.le_refl _)
  have L1 := Lib.hid hr
  have e32 : (vals zs).toArray.size = 32 := by rw [List.size_toArray, vals_len, hL]
  have T0 : Hid (W0.there w.heap.size 0 (vals zs).toArray.size) := Lib.hid (by rw [e32]; exact R0.there)
  have HI : Hid ((Tryd.prog.info? 24).map (·.size) = some (vals zs).length) := Lib.hid (tag_size zs hL)
  have HR := Lib.hid r
  have HG := Lib.hid g
  have HW0 := Lib.hid hW0
  clear h R0 g0 hr r g hW0 hL e32
  go_enter Tryd.func67, Tryd.ntmps67
  go_upto_region 1 with fail
  refine (show Code.wp Tryd.prog _ _ _ (w.alloc (.cells (vals ZT).toArray 24)) from ?_)
  rw [HW0.out]
  have G := HI
  go_wp2_with (first
    | (have g := G; refine wpList_load_mid (op := ⟨some 6, .load 24 (.tmp 5), _, _, _, _⟩) rfl 24 (.tmp 5) rfl b off rfl (vals zs) _ L1.out Tryd.underlying24 rfl HI.out ?_; clear g)
    | (have g := G; clear g; refine wpList_store_as (op := ⟨none, .store 24 (.tmp 2) (.tmp 6), _, _, _, _⟩) rfl 24 (.tmp 2) (.tmp 6) rfl w.heap.size 0 (vals zs).toArray rfl rfl T0.out HI.out (all_oneCell_toArray (vals_one zs)) ?_; intro w2 hw2; clear G))
  have e2 := hw2.out
  have r2 : w2.rangeAt w.heap.size 0 (vals zs) := by rw [e2]; exact HR.out
  exact bodyPost_ret (v := .tuple #[.agg (vals zs).toArray, .bool true]) (results_mid_tmp (p := 2) (u := 3) (ty := 24) rfl _ _ w.heap.size 0 (vals zs) _ rfl r2 Tryd.underlying24 rfl HI.out) rfl ⟨_, rfl, by rw [e2]; exact HG.out, rfl⟩
set_option maxRecDepth 100000 in
set_option maxHeartbeats 2000000 in
theorem take_t_ok {w : World} {b : Nat} {B : Span} {zs : List Int} (h : Rd w b B 0 zs) (hs : 32 ≤ zs.length) :
    Calls Tryd.prog 66 #[.pointer (some ⟨b, 0, none⟩), .int .i64 32, .func (.func 67) #[] #[]] w (Takes w b B 0 (zs.drop 32) (.agg (vals (zs.take 32)).toArray)) := by
  have hlt := h.lt
  obtain ⟨R0, R1, g0, z0⟩ := two0_rows w
  have h' := h.grown g0 (fun k hk => by cases hk)
  have HW0 : Hid (Two0 w = (w.alloc (.cells (vals ZT).toArray 24)).alloc (.cells (vals ZT).toArray 24)) := Lib.hid rfl
  generalize Two0 w = W0 at *
  have HE := Lib.hid (err_any h')
  have HL := Lib.hid (left_any h')
  obtain ⟨A, n, c, h2, hz, hnc, hcm, hn5⟩ := h'.rest
  rw [hz.len] at HL hs
  have hTl : Hid ((zs.take 32).length = 32) := Lib.hid (by rw [List.length_take, hz.len]; omega)
  have h1 := h'.errno
  have g1 := h'.f1
  have g2 := h'.f2
  have hB : B.hi ≤ b := h'.le
  have C1 := cut_h A n c 32 32 rfl (by omega)
  obtain ⟨A2, C2, hA2⟩ := cut_l A n c 32 32 rfl hs hnc
  have HT := Lib.hid (h'.taken (c' := c - 32) h2 hs hA2 (by omega) (by omega))
  obtain ⟨W1, hW1⟩ : ∃ W1, W0.setCell ⟨b, 2, none⟩ (.slice A2 (n - 32) (c - 32)) = W1 := ⟨_, rfl⟩
  rw [hW1] at HT
  have s1 : W1.heap.size = W0.heap.size := by rw [← hW1]; simp [World.setCell]
  have q1 : Hid (W0.grownBy W1 (some b)) := Lib.hid (by rw [← hW1]; exact grown_cell W0 ⟨b, 2, none⟩ _)
  have HC := Lib.hid (tag_mk (c := c) HT.out.2 (by omega))
  have HW1 := Lib.hid hW1
  have R0' := Lib.hid R0
  have G0 := Lib.hid g0
  have hle : (32 : Int) ≤ (n : Int) := by omega
  clear h h' hz R0 R1 g0 hW1
  go_enter Tryd.func66, Tryd.ntmps66
  go_wp2_with fail
  refine (show Calls Tryd.prog _ _ ((w.alloc (.cells (vals ZT).toArray 24)).alloc (.cells (vals ZT).toArray 24)) _ from ?_)
  rw [← HW0.out]
  refine HE.out.mono ?_
  rintro e w1 ⟨rfl, rfl⟩
  go_upto_region 7 with (go_at_call 69; refine HL.out.mono ?_; rintro e w' ⟨rfl, rfl⟩)
  rw [HW1.out]
  go_wp2_with fail
  refine HC.out.mono ?_
  rintro e w2 ⟨x, rfl, q2, rfl⟩
  generalize zs.take 32 = T at *
  have r2 := HT.out.1.grown q2 (fun k hk => by cases hk)
  have R2 : Row8 w2 w.heap.size 0 ZT := (R0'.out.same (q1.out.block _ (by omega) (by intro e; injection e with e; omega))).same (q2.block _ (by omega) (by simp))
  have G2 : w.grownBy w2 (some b) := grown_trans (grown_more G0.out) (grown_trans q1.out (grown_more q2))
  have z2 : w2.heap.size ≥ W1.heap.size := q2.size
  obtain ⟨W3, hW3⟩ : ∃ W3, w2.alloc (.cells (vals ZT).toArray 24) = W3 := ⟨_, rfl⟩
  have R3 : Row8 W3 w.heap.size 0 ZT := by rw [← hW3]; exact R2.same (Below.heap_alloc _ _ _ (by omega))
  have S3 : Row8 W3 w2.heap.size 0 ZT := by rw [← hW3]; exact Row8.new w2 ZT _
  have r3 : Rd W3 b B 0 (zs.drop 32) := by rw [← hW3]; exact r2.grown (grown_alloc _ _ none) (fun k hk => by cases hk)
  have G3 : w.grownBy W3 (some b) := by rw [← hW3]; exact grown_trans G2 (grown_alloc _ _ _)
  obtain ⟨a4, G4⟩ := tag_stored (T := T) S3 (by rw [hTl.out]; rfl) G3 (by omega)
  have R4 : Row8 (W3.setCells w2.heap.size 0 (vals T)) w.heap.size 0 ZT := R3.same (heap_setCells _ _ (by omega) _ _ _)
  have r4 : Rd (W3.setCells w2.heap.size 0 (vals T)) b B 0 (zs.drop 32) := r3.below (B' := w.heap.size) (below_setCells (by omega) _ _ _ (Below.refl _ _)) hlt
  obtain ⟨W4, hW4⟩ : ∃ W4, W3.setCells w2.heap.size 0 (vals T) = W4 := ⟨_, rfl⟩
  rw [hW4] at a4 G4 R4 r4
  obtain ⟨a5, G5⟩ := tag_stored (T := T) R4 (by rw [hTl.out]; rfl) G4 (Nat.le_refl _)
  have r5 : Rd (W4.setCells w.heap.size 0 (vals T)) b B 0 (zs.drop 32) := r4.below (B' := w.heap.size) (below_setCells (Nat.le_refl _) _ _ _ (Below.refl _ _)) hlt
  have e32 : (vals T).toArray.size = 32 := by rw [List.size_toArray, vals_len, hTl.out]
  have T3 : Hid (W3.there w2.heap.size 0 (vals T).toArray.size) := Lib.hid (by rw [e32]; exact S3.there)
  have T4 : Hid (W4.there w.heap.size 0 (vals T).toArray.size) := Lib.hid (by rw [e32]; exact R4.there)
  have HI : Hid ((Tryd.prog.info? 24).map (·.size) = some (vals T).length) := Lib.hid (tag_size T hTl.out)
  have A4 := Lib.hid a4
  have A5 := Lib.hid a5
  have HG := Lib.hid G5
  have HR := Lib.hid r5
  have HW3 := Lib.hid hW3
  have HW4 := Lib.hid hW4
  clear r2 R2 G2 R3 S3 r3 G3 a4 G4 R4 r4 a5 G5 r5 e32 hW3 hW4 q2 C1 C2
  have G := HI
  go_upto_region 9 with (have g := G; clear g; refine (show wpList _ _ _ _ _ (w2.alloc (.cells (vals ZT).toArray 24)) from ?_); rw [HW3.out]; refine wpList_store_as (op := ⟨none, .store 24 (.tmp 9) (.tmp 38), _, _, _, _⟩) rfl 24 (.tmp 9) (.tmp 38) rfl w2.heap.size 0 (vals T).toArray rfl rfl T3.out HI.out (all_oneCell_toArray (vals_one T)) ?_; intro w4 hw4; clear G)
  obtain rfl : w4 = W4 := by rw [hw4.out]; exact HW4.out
  clear hw4
  have G := HI
  go_wp2_with (first
    | (have g := G; refine wpList_load_mid (op := ⟨some 41, .load 24 (.tmp 9), _, _, _, _⟩) rfl 24 (.tmp 9) rfl w2.heap.size 0 rfl (vals T) _ A4.out Tryd.underlying24 rfl HI.out ?_; clear g)
    | (have g := G; clear g; refine wpList_store_as (op := ⟨none, .store 24 (.tmp 6) (.tmp 41), _, _, _, _⟩) rfl 24 (.tmp 6) (.tmp 41) rfl w.heap.size 0 (vals T).toArray rfl rfl T4.out HI.out (all_oneCell_toArray (vals_one T)) ?_; intro w5 hw5; clear G))
  have e2 := hw5.out
  have r2 : w5.rangeAt w.heap.size 0 (vals T) := by rw [e2]; exact A5.out
  exact bodyPost_ret (v := .agg (vals T).toArray) (results_mid (p := 6) (ty := 24) rfl _ _ w.heap.size 0 (vals T) _ rfl r2 Tryd.underlying24 rfl HI.out) rfl ⟨rfl, by rw [e2]; exact HR.out, by rw [e2]; exact HG.out⟩
end Go.Proofs.YtlknjaoamkcmjaaDoor
/- Small facts on writers and on lists that were made. -/
namespace Go.Proofs.YtlknjaoamkcmjaaDoor
open Go.ChangeShapes Go.WideShapes Go.ChangeAt Go.RowKit
set_option linter.unusedVariables false
open Plain
/-- A list that was made, as bytes. -/
theorem IsList.bs {x : Value} {w : World} {base : Nat} {zs : List Int} (h : IsList x w base zs) (hz : IsBytes zs) : ∃ A c, x = .slice A zs.length c ∧ Bs w w.heap.size A zs.length zs ∧ zs.length ≤ c ∧ c ≤ maxLen := by
  obtain ⟨A, c, rfl, ho, h1, h2⟩ := h
  exact ⟨A, c, rfl, bs_of_own ho hz, h1, h2⟩
theorem Wrote.below {w w' : World} {b B : Nat} {g : Option Nat} (h : Wrote w w' b g) (hB : B ≤ w.heap.size) (hb : B ≤ b) (hg : ∀ k, g = some k → B ≤ k) : Below B w w' :=
  ⟨h.os, h.tape, h.output, h.size, fun k hk => h.block k (by omega) (by omega) (fun e => by have := hg k e.symm; omega)⟩
theorem IsBytes.take {a : List Int} (h : IsBytes a) {k : Nat} : IsBytes (a.take k) := by
  rw [isBytes_iff] at *
  exact fun z hz => h z (List.mem_of_mem_take hz)
theorem IsBytes.drop {a : List Int} (h : IsBytes a) {k : Nat} : IsBytes (a.drop k) := by
  rw [isBytes_iff] at *
  exact fun z hz => h z (List.mem_of_mem_drop hz)
end Go.Proofs.YtlknjaoamkcmjaaDoor
/- Fields as values; a field is written. -/
namespace Go.Proofs.YtlknjaoamkcmjaaDoor
open Go.ChangeShapes Go.WideShapes Go.ChangeAt Go.RowKit
set_option linter.unusedVariables false
open Plain
/-- A field as it is handed in: its kind, its number, its bytes and where they stand, its tag. -/
structure FieldZ where
  kind : Int
  n : Int
  A : Option Addr
  len : Nat
  cap : Nat
  zs : List Int
  tag : List Int
def fHead (f : FieldZ) : List Value := [.int .i64 f.kind, .int .i64 f.n, .slice f.A f.len f.cap]
def fCells (f : FieldZ) : List Value := fHead f ++ vals f.tag
structure FieldOk (w : World) (B : Nat) (f : FieldZ) : Prop where
  kind : -9223372036854775808 ≤ f.kind ∧ f.kind ≤ 9223372036854775807
  n : -9223372036854775808 ≤ f.n ∧ f.n ≤ 9223372036854775807
  bs : Bs w B f.A f.len f.zs
  cap : f.len ≤ f.cap
  max : f.cap ≤ maxLen
  small : f.len ≤ 140737488355328
  tag : f.tag.length = 32
  bytes : IsBytes f.tag
theorem FieldOk.below {w w' : World} {B : Nat} {f : FieldZ} (h : FieldOk w B f) (hb : Below B w w') : FieldOk w' B f := ⟨h.kind, h.n, h.bs.below hb, h.cap, h.max, h.small, h.tag, h.bytes⟩
theorem FieldOk.grown {w w' : World} {B : Nat} {f : FieldZ} (h : FieldOk w B f) (hb : w.grownBy w' none) (hB : B ≤ w.heap.size) : FieldOk w' B f := h.below (below_of_grown hb hB (fun k hk => by cases hk))
theorem fCells_len {f : FieldZ} (h : f.tag.length = 32) : (fCells f).length = 35 := by unfold fCells fHead; rw [List.length_append, vals_len, h]; rfl
/-- Is a number odd, as the program asks? -/
def oddB (n : Int) : Bool := !(n.tmod 2 == 0)
/-- What a field comes to. -/
def fieldB (f : FieldZ) : List Int :=
  if f.kind = 0 then [f.n % 256] else if f.kind = 1 then n64 f.n else if f.kind = 2 then [if oddB f.n then 1 else 0] else if f.kind = 3 then bytesF f.zs else if f.kind = 4 then bytesF f.zs else if f.kind = 5 then f.tag else []
/-- A field in a block of its own. -/
structure Boxed (w : World) (g : Nat) (f : FieldZ) : Prop where
  c0 : w.cell? ⟨g, 0, none⟩ = some (.int .i64 f.kind)
  c1 : w.cell? ⟨g, 1, none⟩ = some (.int .i64 f.n)
  c2 : w.cell? ⟨g, 2, none⟩ = some (.slice f.A f.len f.cap)
  tag : w.rangeAt g 3 (vals f.tag)
theorem Boxed.same {w w' : World} {g : Nat} {f : FieldZ} (h : Boxed w g f) (e : w'.heap[g]? = w.heap[g]?) : Boxed w' g f :=
  ⟨(World.cell?_of_block (a := ⟨g, 0, none⟩) e).trans h.c0, (World.cell?_of_block (a := ⟨g, 1, none⟩) e).trans h.c1, (World.cell?_of_block (a := ⟨g, 2, none⟩) e).trans h.c2, rangeAt_same h.tag e⟩
theorem tag_info {T : List Int} (h : T.length = 32) : (Tryd.prog.info? 24).map (·.size) = some (vals T).length := tag_size T h
end Go.Proofs.YtlknjaoamkcmjaaDoor
/- A reader's tag. -/
namespace Go.Proofs.YtlknjaoamkcmjaaDoor
open Go.ChangeShapes Go.WideShapes Go.ChangeAt Go.RowKit
set_option linter.unusedVariables false
open Plain
theorem rTag_len (s : Int × List Int) : (rTag s).1.length = 32 := by
  unfold rTag tk
  split
  · next h => simp only [id, List.length_take]; have := h.2.1; omega
  · exact List.length_replicate ..
set_option maxRecDepth 100000 in
set_option maxHeartbeats 1000000 in
theorem tag_rd {w : World} {b : Nat} {B : Span} {why : Int} {zs : List Int} (h : Rd w b B why zs) : Calls Tryd.prog 43 #[.pointer (some ⟨b, 0, none⟩)] w (Reads w b B (.agg (vals (rTag (why, zs)).1).toArray) (rTag (why, zs)).2) := by
  have HC0 : ∀ w, Rd w b B why zs → Calls Tryd.prog 66 #[.pointer (some ⟨b, 0, none⟩), .int .i64 32, .func (.func 67) #[] #[]] w (Reads w b B (.agg (vals (rTag (why, zs)).1).toArray) (rTag (why, zs)).2) := (by
    intro w h
    unfold rTag
    by_cases hw : why = 0
    · subst hw
      by_cases hk : 32 ≤ zs.length
      · rw [tk_ok _ _ _ _ _ hk rfl]
        exact take_t_ok h hk
      · rw [tk_short _ _ _ _ _ (by omega)]
        exact take_t_short _ _ h (by omega)
    · rw [tk_bad _ _ _ _ _ _ hw]
      refine (take_t_none _ _ why _ hw w (fun w' g => err_any (h.grown g (fun k hk => by cases hk)))).mono ?_
      rintro e w' ⟨rfl, g⟩
      have := h.bad hw
      subst this
      exact ⟨rfl, h.grown g (fun k hk => by cases hk), grown_more g⟩)
  have hlt := h.lt
  obtain ⟨T, hT⟩ : ∃ T, (rTag (why, zs)).1 = T := ⟨_, rfl⟩
  have hl : Hid (T.length = 32) := Lib.hid (by rw [← hT]; exact rTag_len _)
  generalize (rTag (why, zs)).2 = s at *
  rw [hT] at HC0 ⊢
  obtain ⟨W0, hW0⟩ : ∃ W0, w.alloc (.cells (vals ZT).toArray 24) = W0 := ⟨_, rfl⟩
  have R0 : Row8 W0 w.heap.size 0 ZT := by rw [← hW0]; exact Row8.new w ZT _
  have g0 : w.grownBy W0 none := by rw [← hW0]; exact grown_alloc _ _ _
  have s0 : W0.heap.size = w.heap.size + 1 := by rw [← hW0]; simp
  have HC := Lib.hid (HC0 W0 (h.grown g0 (fun k hk => by cases hk)))
  have HW0 := Lib.hid hW0
  have HR0 := Lib.hid R0
  have HG0 := Lib.hid g0
  clear h HC0 hT hW0 R0 g0
  go_enter Tryd.func43, Tryd.ntmps43
  go_wp2_with fail
  refine (show Calls Tryd.prog _ _ (w.alloc (.cells (vals ZT).toArray 24)) _ from ?_)
  rw [HW0.out]
  refine HC.out.mono ?_
  rintro e w2 ⟨rfl, r2, g2⟩
  have R2 : Row8 w2 w.heap.size 0 ZT := HR0.out.same (g2.block _ (by omega) (by intro e; injection e with e; omega))
  obtain ⟨a3, g3⟩ := tag_stored (T := T) R2 (by rw [hl.out]; rfl) (grown_trans (grown_more HG0.out) g2) (Nat.le_refl _)
  have r3 := r2.below (B' := w.heap.size) (below_setCells (Nat.le_refl _) (vals T) 0 w2 (Below.refl _ _)) hlt
  have e32 : (vals T).toArray.size = 32 := by rw [List.size_toArray, vals_len, hl.out]
  have T3 : Hid (w2.there w.heap.size 0 (vals T).toArray.size) := Lib.hid (by rw [e32]; exact R2.there)
  have HI : Hid ((Tryd.prog.info? 24).map (·.size) = some (vals T).length) := Lib.hid (tag_size T hl.out)
  have A3 := Lib.hid a3
  have G3 := Lib.hid g3
  have R3 := Lib.hid r3
  clear R2 a3 g3 r3 e32 r2 g2
  have G := HI
  go_wp2_with (have g := G; clear g; refine wpList_store_as (op := ⟨none, .store 24 (.tmp 2) (.tmp 4), _, _, _, _⟩) rfl 24 (.tmp 2) (.tmp 4) rfl w.heap.size 0 (vals T).toArray rfl rfl T3.out HI.out (all_oneCell_toArray (vals_one T)) ?_; intro w5 hw5; clear G)
  have e2 := hw5.out
  have r2 : w5.rangeAt w.heap.size 0 (vals T) := by rw [e2]; exact A3.out
  exact bodyPost_ret (v := .agg (vals T).toArray) (results_mid (p := 2) (ty := 24) rfl _ _ w.heap.size 0 (vals T) _ rfl r2 Tryd.underlying24 rfl HI.out) rfl ⟨rfl, by rw [e2]; exact R3.out, by rw [e2]; exact G3.out⟩
end Go.Proofs.YtlknjaoamkcmjaaDoor
/- Rows of fields that came in; whether they are too many. -/
namespace Go.Proofs.YtlknjaoamkcmjaaDoor
open Go.ChangeShapes Go.WideShapes Go.ChangeAt Go.RowKit
set_option linter.unusedVariables false
open Plain
/-- The m fields that the slice at A holds. -/
structure Fields (w : World) (B : Nat) (A : Option Addr) (m : Nat) (F : Nat → FieldZ) : Prop where
  row : 0 < m → ∃ b off, A = some ⟨b, off, none⟩ ∧ b < B ∧ ∀ j, j < m → w.rangeAt b (off + j * 35) (fCells (F j))
  ok : ∀ j, j < m → FieldOk w B (F j)
theorem Fields.below {w w' : World} {B m : Nat} {A : Option Addr} {F : Nat → FieldZ} (h : Fields w B A m F) (hb : Below B w w') : Fields w' B A m F :=
  ⟨fun hm => by
    obtain ⟨b, off, rfl, hlt, hc⟩ := h.row hm
    exact ⟨b, off, rfl, hlt, fun j hj => rangeAt_same (hc j hj) (hb.block b hlt)⟩, fun j hj => (h.ok j hj).below hb⟩
theorem Fields.at_ {w : World} {B m : Nat} {A : Option Addr} {F : Nat → FieldZ} (h : Fields w B A m F) {k : Nat} (hk : k < m) :
    ∃ b off, A = some ⟨b, off, none⟩ ∧ b < B ∧ w.rangeAt b (off + k * 35) (fCells (F k)) ∧ w.cell? ⟨b, off + k * 35, none⟩ = some (.int .i64 (F k).kind) ∧ w.cell? ⟨b, off + k * 35 + 2, none⟩ = some (.slice (F k).A (F k).len (F k).cap) := by
  obtain ⟨b, off, rfl, hlt, hc⟩ := h.row (by omega)
  have := hc k hk
  exact ⟨b, off, rfl, hlt, this, this 0 _ rfl, this 2 _ rfl⟩
def gsum (F : Nat → FieldZ) : Nat → Nat
  | 0 => 0
  | k + 1 => gsum F k + (F k).len + 40
theorem gsum_le (F : Nat → FieldZ) : ∀ k m, k ≤ m → gsum F k ≤ gsum F m := by
  intro k m h
  induction m with
  | zero => have : k = 0 := by omega
            subst this; exact Nat.le_refl _
  | succ m ih =>
    by_cases hk : k = m + 1
    · subst hk; exact Nat.le_refl _
    · have := ih (by omega)
      show _ ≤ gsum F m + (F m).len + 40
      omega
end Go.Proofs.YtlknjaoamkcmjaaDoor
/- A field is read back. -/
namespace Go.Proofs.YtlknjaoamkcmjaaDoor
open Go.ChangeShapes Go.WideShapes Go.ChangeAt Go.RowKit
set_option linter.unusedVariables false
open Plain
theorem Rd.drew {w : World} {b : Nat} {B : Span} {why : Int} {zs : List Int} (h : Rd w b B why zs) : Rd w.drew b B why zs := h.keep rfl (fun _ _ _ => rfl)
end Go.Proofs.YtlknjaoamkcmjaaDoor
/- The chapter's examples come out. -/
namespace Go.Proofs.YtlknjaoamkcmjaaDoor
open Go.ChangeShapes Go.WideShapes Go.ChangeAt Go.RowKit
set_option linter.unusedVariables false
open Plain
end Go.Proofs.YtlknjaoamkcmjaaDoor
/- The statement WireBad: the walk. -/
namespace Go.Proofs.YtlknjaoamkcmjaaDoor
open Go.ChangeShapes Go.WideShapes Go.ChangeAt Go.RowKit
set_option linter.unusedVariables false
open Plain
end Go.Proofs.YtlknjaoamkcmjaaDoor
/- Numbers and their bytes, there and back. -/
namespace Go.Proofs.YtlknjaoamkcmjaaDoor
open Go.ChangeShapes Go.WideShapes Go.ChangeAt Go.RowKit
set_option linter.unusedVariables false
open Plain
theorem putZ_succ (x : Int) (s : Nat) (h0 : 0 ≤ x) : putZ x (s + 1) = putZ (x / 256) s ++ [x % 256] := by
  refine list_ext_getD (by simp [putZ_len]) (fun j hj => ?_)
  rw [putZ_len] at hj
  rw [putZ_at x (s + 1) j hj]
  by_cases hjs : j < s
  · have e : (putZ (x / 256) s ++ [x % 256]).getD j 0 = (putZ (x / 256) s).getD j 0 := by
      simp only [List.getD_eq_getElem?_getD]
      rw [List.getElem?_append_left (by rw [putZ_len]; exact hjs)]
    rw [e, putZ_at _ s j hjs, show s + 1 - 1 - j = (s - 1 - j) + 1 from by omega, Int.pow_succ, Int.mul_comm (256 ^ (s - 1 - j)), Int.ediv_ediv_of_nonneg (by omega)]
  · obtain rfl : j = s := by omega
    have e : (putZ (x / 256) j ++ [x % 256]).getD j 0 = x % 256 := by
      simp only [List.getD_eq_getElem?_getD]
      rw [List.getElem?_append_right (by rw [putZ_len]; omega), putZ_len]
      simp
    rw [e, show j + 1 - 1 - j = 0 from by omega]
    simp
theorem numZ_putZ (s : Nat) : ∀ x : Int, 0 ≤ x → x < 256 ^ s → numZ (putZ x s) = x := by
  induction s with
  | zero => intro x h0 h1; have : x = 0 := by simp at h1; omega
            subst this; rfl
  | succ s ih =>
    intro x h0 h1
    rw [Int.pow_succ] at h1
    rw [putZ_succ x s h0, numZ_snoc, ih (x / 256) (by omega) (by omega)]
    omega
end Go.Proofs.YtlknjaoamkcmjaaDoor
/- What was written is read back, plainly. -/
namespace Go.Proofs.YtlknjaoamkcmjaaDoor
open Go.ChangeShapes Go.WideShapes Go.ChangeAt Go.RowKit
set_option linter.unusedVariables false
open Plain
theorem n64_len' (n : Int) : (n64 n).length = 8 := putZ_len ..
theorem n64_bytes' (n : Int) : IsBytes (n64 n) := putZ_bytes _ _
theorem intZ_n64' (n : Int) (h0 : -9223372036854775808 ≤ n) (h1 : n ≤ 9223372036854775807) : intZ (n64 n) = n := by
  unfold intZ n64
  rw [numZ_putZ 8 _ (by omega) (by omega)]
  unfold wrap64
  omega
theorem take_app {α : Type} (a b : List α) {n : Nat} (h : a.length = n) : (a ++ b).take n = a := by subst h; exact List.take_left
theorem drop_app {α : Type} (a b : List α) {n : Nat} (h : a.length = n) : (a ++ b).drop n = b := by subst h; exact List.drop_left
theorem tk_app {α : Type} (k : Nat) (okf : List Int → List Int → Bool) (val : List Int → α) (nv : α) (p q : List Int) (hp : p.length = k) (ho : okf p q = true) : tk k okf val nv (0, p ++ q) = (val p, 0, q) := by
  rw [tk_ok _ _ _ _ _ (by rw [List.length_append]; omega) (by rw [take_app p q hp, drop_app p q hp]; exact ho), take_app p q hp, drop_app p q hp]
def bytesFn (zs : List Int) : List Int := putZ (zs.length : Nat) 4
theorem bytesF_small {zs : List Int} (h : zs.length ≤ 65536) : bytesF zs = bytesFn zs ++ zs := by
  unfold bytesF bytesFn
  rw [show ((zs.length : Nat) : Int) % 4294967296 = (zs.length : Nat) by omega]
theorem bytesFn_len (zs : List Int) : (bytesFn zs).length = 4 := putZ_len ..
theorem bytesFn_num {zs : List Int} (h : zs.length ≤ 65536) : numZ (bytesFn zs) = (zs.length : Nat) := numZ_putZ 4 _ (by omega) (by omega)
theorem rLen_app {zs q : List Int} (h : zs.length ≤ 65536) : rLen (0, bytesFn zs ++ q) = (((zs.length : Nat) : Int), (0 : Int), q) := by
  unfold rLen
  rw [tk_app 4 _ _ _ _ _ (bytesFn_len zs) (by rw [bytesFn_num h]; simp; omega), bytesFn_num h]
theorem rBytes_app {zs q : List Int} (h : zs.length ≤ 65536) : rBytes (0, bytesF zs ++ q) = (zs, 0, q) := by
  rw [bytesF_small h, List.append_assoc]
  unfold rBytes
  rw [rLen_app h]
  simp only [Int.toNat_natCast]
  rw [tk_app zs.length yes2 id [] zs q rfl rfl]
  rfl
theorem fieldB_len (f : FieldZ) (h : f.tag.length = 32) : (fieldB f).length = if f.kind = 0 then 1 else if f.kind = 1 then 8 else if f.kind = 2 then 1 else if f.kind = 3 then 4 + f.zs.length else if f.kind = 4 then 4 + f.zs.length else if f.kind = 5 then 32 else 0 := by
  unfold fieldB
  by_cases k0 : f.kind = 0
  · rw [if_pos k0, if_pos k0]
    rfl
  by_cases k1 : f.kind = 1
  · rw [if_neg k0, if_neg k0, if_pos k1, if_pos k1]
    exact n64_len' _
  by_cases k2 : f.kind = 2
  · rw [if_neg k0, if_neg k0, if_neg k1, if_neg k1, if_pos k2, if_pos k2]
    rfl
  by_cases k3 : f.kind = 3
  · rw [if_neg k0, if_neg k0, if_neg k1, if_neg k1, if_neg k2, if_neg k2, if_pos k3, if_pos k3]
    unfold bytesF; rw [List.length_append, putZ_len]
  by_cases k4 : f.kind = 4
  · rw [if_neg k0, if_neg k0, if_neg k1, if_neg k1, if_neg k2, if_neg k2, if_neg k3, if_neg k3, if_pos k4, if_pos k4]
    unfold bytesF; rw [List.length_append, putZ_len]
  by_cases k5 : f.kind = 5
  · rw [if_neg k0, if_neg k0, if_neg k1, if_neg k1, if_neg k2, if_neg k2, if_neg k3, if_neg k3, if_neg k4, if_neg k4, if_pos k5, if_pos k5]
    exact h
  rw [if_neg k0, if_neg k0, if_neg k1, if_neg k1, if_neg k2, if_neg k2, if_neg k3, if_neg k3, if_neg k4, if_neg k4, if_neg k5, if_neg k5]
  rfl
/-- All fields, one behind the other. -/
def formB (F : Nat → FieldZ) : Nat → List Int := catTo (fun j => fieldB (F j))
def formN (F : Nat → FieldZ) : Nat → Nat := sumTo (fun j => (fieldB (F j)).length)
theorem formB_len (F : Nat → FieldZ) (k : Nat) : (formB F k).length = formN F k := catTo_len _ _ k (fun _ _ => rfl)
theorem formN_le (F : Nat → FieldZ) {k m : Nat} (h : k ≤ m) : formN F k ≤ formN F m := sumTo_le _ k m h
theorem formN_succ (F : Nat → FieldZ) (k : Nat) : formN F (k + 1) = formN F k + (fieldB (F k)).length := rfl
theorem formB_succ (F : Nat → FieldZ) (k : Nat) : formB F (k + 1) = formB F k ++ fieldB (F k) := rfl
theorem fieldB_le {f : FieldZ} (h : f.tag.length = 32) : (fieldB f).length ≤ f.zs.length + 40 := by
  rw [fieldB_len f h]
  repeat' split
  all_goals omega
theorem form_small {F : Nat → FieldZ} : ∀ k, (∀ j, j < k → (F j).tag.length = 32 ∧ (F j).zs.length = (F j).len) → formN F k ≤ gsum F k := by
  intro k
  induction k with
  | zero => intro _; exact Nat.le_refl _
  | succ k ih =>
    intro h
    have h1 := ih (fun j hj => h j (by omega))
    have h2 := fieldB_le (h k (by omega)).1
    have h3 := (h k (by omega)).2
    rw [formN_succ]
    show _ ≤ gsum F k + (F k).len + 40
    omega
end Go.Proofs.YtlknjaoamkcmjaaDoor
/- What is read, and written again. -/
namespace Go.Proofs.YtlknjaoamkcmjaaDoor
open Go.ChangeShapes Go.WideShapes Go.ChangeAt Go.RowKit
set_option linter.unusedVariables false
open Plain
theorem putZ_numZ : ∀ (n : Nat) (p : List Int), p.length = n → IsBytes p → putZ (numZ p) n = p
  | 0, p, hl, _ => by
    have : p = [] := List.eq_nil_of_length_eq_zero hl
    subst this; rfl
  | n + 1, p, hl, hb => by
    obtain ⟨q, z, rfl⟩ : ∃ q z, p = q ++ [z] := by
      rcases List.eq_nil_or_concat p with rfl | ⟨q, z, rfl⟩
      · simp at hl
      · exact ⟨q, z, by simp⟩
    have hq : q.length = n := by simpa using hl
    have hbq : IsBytes q := by rw [isBytes_iff] at *; exact fun y hy => hb y (List.mem_append_left _ hy)
    have hz := (isBytes_iff.1 hb) z (by simp)
    have hnn := (numZ_range q (isBytes_iff.1 hbq)).1
    rw [numZ_snoc, putZ_succ _ _ (by omega), show (numZ q * 256 + z) / 256 = numZ q by omega, show (numZ q * 256 + z) % 256 = z by omega, putZ_numZ n q hq hbq]
/-- What is read so far stands in the form; or the reader is bad. -/
def GoodS (bs : List Int) (why : Int) (rest : List Int) (st : Option (List Int)) : Prop := (why = 0 ∧ ∃ fs, st = some fs ∧ fs ++ rest = bs) ∨ (why = 40 ∧ rest = [])
theorem good_tk {α : Type} {bs rest : List Int} {why : Int} {st : Option (List Int)} (k : Nat) (okf : List Int → List Int → Bool) (val : List Int → α) (nv : α) (Zof : α → List Int) (hb : bs.length ≤ 65536) (hB : IsBytes bs)
    (h : GoodS bs why rest st) (hZ : ∀ p r, p.length = k → IsBytes p → okf p r = true → Zof (val p) = p) :
    GoodS bs (tk k okf val nv (why, rest)).2.1 (tk k okf val nv (why, rest)).2.2 (wPut st (Zof (tk k okf val nv (why, rest)).1)) := by
  rcases h with ⟨rfl, fs, rfl, rfl⟩ | ⟨rfl, rfl⟩
  · by_cases hok : k ≤ rest.length ∧ okf (rest.take k) (rest.drop k) = true
    · rw [tk_ok k okf val nv rest hok.1 hok.2]
      have hp : IsBytes (rest.take k) := by rw [isBytes_iff] at *; exact fun z hz => hB z (List.mem_append_right _ (List.mem_of_mem_take hz))
      have hl : (rest.take k).length = k := by rw [List.length_take]; omega
      rw [List.length_append] at hb
      refine .inl ⟨rfl, fs ++ rest.take k, ?_, ?_⟩
      · show wPut (some fs) (Zof (val (rest.take k))) = _
        rw [hZ _ _ hl hp hok.2, wPut_yes _ _ (by rw [hl]; omega)]
      · show fs ++ rest.take k ++ rest.drop k = fs ++ rest
        rw [List.append_assoc, List.take_append_drop]
    · have : tk k okf val nv (0, rest) = (nv, 40, []) := by
        unfold tk
        rw [if_neg (fun h => hok ⟨h.2.1, h.2.2⟩)]
        rfl
      rw [this]
      exact .inr ⟨rfl, rfl⟩
  · rw [tk_bad k okf val nv 40 [] (by decide)]
    exact .inr ⟨rfl, rfl⟩
section
variable {bs rest : List Int} {why : Int} {st : Option (List Int)}
theorem good_byte (hb : bs.length ≤ 65536) (hB : IsBytes bs) (h : GoodS bs why rest st) : GoodS bs (rByte (why, rest)).2.1 (rByte (why, rest)).2.2 (wPut st [(rByte (why, rest)).1]) :=
  good_tk 1 yes2 (fun b => b.getD 0 0) 0 (fun x => [x]) hb hB h (fun p r hl _ _ => by
    match p, hl with
    | [z], _ => rfl)
theorem n64_intZ (p : List Int) (hl : p.length = 8) (hp : IsBytes p) : n64 (intZ p) = p := by
  have h := numZ_range p (isBytes_iff.1 hp)
  rw [hl] at h
  unfold n64 intZ wrap64
  have : (if numZ p % 18446744073709551616 < 9223372036854775808 then numZ p % 18446744073709551616 else numZ p % 18446744073709551616 - 18446744073709551616) % 18446744073709551616 = numZ p := by
    split <;> omega
  first
    | rw [this]; exact putZ_numZ 8 p hl hp
    | (have e : ∀ x : Int, x = numZ p → putZ x 8 = p := fun x hx => by rw [hx]; exact putZ_numZ 8 p hl hp
       apply e
       omega)
theorem good_int (hb : bs.length ≤ 65536) (hB : IsBytes bs) (h : GoodS bs why rest st) : GoodS bs (rInt (why, rest)).2.1 (rInt (why, rest)).2.2 (wPut st (n64 (rInt (why, rest)).1)) :=
  good_tk 8 yes2 intZ 0 n64 hb hB h (fun p r hl hp _ => n64_intZ p hl hp)
theorem good_flag (hb : bs.length ≤ 65536) (hB : IsBytes bs) (h : GoodS bs why rest st) : GoodS bs (rFlag (why, rest)).2.1 (rFlag (why, rest)).2.2 (wPut st [if (rFlag (why, rest)).1 then 1 else 0]) :=
  good_tk 1 (fun b _ => decide (b.getD 0 0 ≤ 1)) (fun b => b.getD 0 0 == 1) false (fun x => [if x then 1 else 0]) hb hB h (fun p r hl hp ho => by
    match p, hl with
    | [z], _ =>
      have h0 := (isBytes_iff.1 hp) z (by simp)
      have h1 : z ≤ 1 := by simpa using ho
      by_cases hz : z = 1
      · subst hz; rfl
      · have : z = 0 := by omega
        subst this; rfl)
theorem good_tag (hb : bs.length ≤ 65536) (hB : IsBytes bs) (h : GoodS bs why rest st) : GoodS bs (rTag (why, rest)).2.1 (rTag (why, rest)).2.2 (wPut st (rTag (why, rest)).1) :=
  good_tk 32 yes2 id (List.replicate 32 0) (fun x => x) hb hB h (fun p r hl hp _ => rfl)
theorem good_bytes (hb : bs.length ≤ 65536) (hB : IsBytes bs) (h : GoodS bs why rest st) : GoodS bs (rBytes (why, rest)).2.1 (rBytes (why, rest)).2.2 (wPut st (bytesF (rBytes (why, rest)).1)) := by
  rcases h with ⟨rfl, fs, rfl, rfl⟩ | ⟨rfl, rfl⟩
  · rw [List.length_append] at hb
    by_cases h4 : 4 ≤ rest.length ∧ numZ (rest.take 4) ≤ 65536
    · have hp : IsBytes (rest.take 4) := by rw [isBytes_iff] at *; exact fun z hz => hB z (List.mem_append_right _ (List.mem_of_mem_take hz))
      have hl : (rest.take 4).length = 4 := by rw [List.length_take]; omega
      have hnn := (numZ_range _ (isBytes_iff.1 hp)).1
      have e1 : rLen (0, rest) = (numZ (rest.take 4), 0, rest.drop 4) := by unfold rLen; exact tk_ok 4 _ _ _ rest h4.1 (by simpa using h4.2)
      have e2 : rBytes (0, rest) = tk (numZ (rest.take 4)).toNat yes2 id [] (0, rest.drop 4) := by unfold rBytes; rw [e1]
      obtain ⟨m, hm⟩ := Int.eq_ofNat_of_zero_le hnn
      rw [e2, hm]
      by_cases hk : m ≤ (rest.drop 4).length
      · have hk2 := hk
        rw [List.length_drop] at hk2
        rw [show ((m : Int)).toNat = m from rfl, tk_ok m yes2 id [] (rest.drop 4) hk rfl]
        have hlm : ((rest.drop 4).take m).length = m := by rw [List.length_take]; omega
        have e3 : bytesF ((rest.drop 4).take m) = rest.take 4 ++ (rest.drop 4).take m := by
          unfold bytesF
          rw [hlm, show ((m : Nat) : Int) % 4294967296 = numZ (rest.take 4) by rw [hm]; have := h4.2; omega, putZ_numZ 4 _ hl hp]
        refine .inl ⟨rfl, fs ++ (rest.take 4 ++ (rest.drop 4).take m), ?_, ?_⟩
        · show wPut (some fs) (bytesF ((rest.drop 4).take m)) = _
          rw [e3, wPut_yes _ _ (by rw [List.length_append, hl, hlm]; omega)]
        · show fs ++ (rest.take 4 ++ (rest.drop 4).take m) ++ (rest.drop 4).drop m = fs ++ rest
          rw [List.append_assoc, List.append_assoc, List.take_append_drop, List.take_append_drop]
      · rw [show ((m : Int)).toNat = m from rfl, tk_short m yes2 id [] (rest.drop 4) (by omega)]
        exact .inr ⟨rfl, rfl⟩
    · have e1 : rLen (0, rest) = (0, 40, []) := by
        unfold rLen tk
        rw [if_neg (fun h => h4 ⟨h.2.1, by simpa using h.2.2⟩)]
        rfl
      have e2 : rBytes (0, rest) = ([], 40, []) := by
        unfold rBytes; rw [e1]; exact tk_bad _ _ _ _ 40 [] (by decide)
      rw [e2]
      exact .inr ⟨rfl, rfl⟩
  · have e1 : rLen (40, []) = (0, 40, []) := tk_bad _ _ _ _ 40 [] (by decide)
    have e2 : rBytes (40, []) = ([], 40, []) := by
      unfold rBytes; rw [e1]; exact tk_bad _ _ _ _ 40 [] (by decide)
    rw [e2]
    exact .inr ⟨rfl, rfl⟩
end
theorem tk_val {α : Type} (P : α → Prop) (k : Nat) (okf : List Int → List Int → Bool) (val : List Int → α) (nv : α) (why : Int) (rest : List Int) (hB : IsBytes rest) (hn : P nv) (hv : ∀ p, p.length = k → IsBytes p → P (val p)) : P (tk k okf val nv (why, rest)).1 := by
  unfold tk
  split
  · next h =>
    have h2 : k ≤ rest.length := h.2.1
    exact hv _ (by rw [List.length_take]; show min k rest.length = k; omega) (by rw [isBytes_iff] at *; exact fun z hz => hB z (List.mem_of_mem_take hz))
  · exact hn
theorem rByte_rng (why : Int) {rest : List Int} (hB : IsBytes rest) : 0 ≤ (rByte (why, rest)).1 ∧ (rByte (why, rest)).1 < 256 :=
  tk_val (fun x => 0 ≤ x ∧ x < 256) 1 yes2 (fun b => b.getD 0 0) 0 why rest hB (by omega) (fun p hl hp => hp 0 (by omega))
theorem rInt_rng (why : Int) {rest : List Int} (hB : IsBytes rest) : -9223372036854775808 ≤ (rInt (why, rest)).1 ∧ (rInt (why, rest)).1 ≤ 9223372036854775807 :=
  tk_val (fun x => -9223372036854775808 ≤ x ∧ x ≤ 9223372036854775807) 8 yes2 intZ 0 why rest hB (by omega) (fun p hl hp => by unfold intZ wrap64; omega)
theorem rTag_ok (why : Int) {rest : List Int} (hB : IsBytes rest) : (rTag (why, rest)).1.length = 32 ∧ IsBytes (rTag (why, rest)).1 :=
  tk_val (fun x => x.length = 32 ∧ IsBytes x) 32 yes2 id (List.replicate 32 0) why rest hB ⟨rfl, rep_bytes 32 0 (by omega) (by omega)⟩ (fun p hl hp => ⟨hl, hp⟩)
theorem rBytes_good (why : Int) {rest : List Int} (hB : IsBytes rest) (hl : rest.length ≤ 65536) : IsBytes (rBytes (why, rest)).1 ∧ (rBytes (why, rest)).1.length ≤ 65536 := by
  have hB2 : IsBytes (rLen (why, rest)).2.2 := by
    unfold rLen tk
    split
    · rw [isBytes_iff] at *; exact fun z hz => hB z (List.mem_of_mem_drop hz)
    · exact IsBytes.nil
  have hl2 : (rLen (why, rest)).2.2.length ≤ 65536 := by
    unfold rLen tk
    split
    · show (rest.drop 4).length ≤ 65536; rw [List.length_drop]; omega
    · show ([] : List Int).length ≤ _; simp
  unfold rBytes
  generalize rLen (why, rest) = s at hB2 hl2 ⊢
  obtain ⟨v, y, r⟩ := s
  refine ⟨tk_val (fun x => IsBytes x) v.toNat yes2 id [] y r hB2 IsBytes.nil (fun p _ hp => hp), ?_⟩
  unfold tk
  split
  · show (r.take v.toNat).length ≤ _; rw [List.length_take]; have : r.length ≤ 65536 := hl2; omega
  · show ([] : List Int).length ≤ _; simp
theorem rd_wrote {w w' : World} {rb bw : Nat} {Y : Span} {why : Int} {zs : List Int} {g : Option Nat} (h : Rd w rb Y why zs) (hw : Wrote w w' bw g) (hlt : rb < bw) (hg : ∀ k, g = some k → bw < k) : Rd w' rb Y why zs :=
  h.keep (hw.block rb h.lt (by omega) (fun e => by have := hg rb e.symm; omega)) (fun k _ hk => hw.block k (by have := h.lt; have := h.le; omega) (by have := h.le; omega) (fun e => by have := hg k e.symm; have := h.le; omega))
end Go.Proofs.YtlknjaoamkcmjaaDoor
