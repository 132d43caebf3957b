/- A window in memory. -/
import Derived.Test.YtnnfcbcjepbjiaaWnZ
import Derived.Test.YtnnfcbcjepbjiaaB2
import Derived.Laws.StructEq
namespace Go.Proofs.Ytnnfcbcjepbjiaa
open Go.ChangeShapes Go.WideShapes Go.ChangeAt Go.RowKit
set_option linter.unusedVariables false
set_option linter.unusedSimpArgs false
open Plain Sha Wn
def bls (F : List Bool) : List Value := F.map fun q => .bool q
theorem bls_len (F : List Bool) : (bls F).length = F.length := by simp [bls]
theorem bls_at (F : List Bool) (j : Nat) (h : j < F.length) : (bls F)[j]? = some (.bool (F.getD j false)) := by
  simp [bls, List.getElem?_map, List.getElem?_eq_getElem h, List.getD_eq_getElem?_getD]
theorem bls_one (F : List Bool) : ∀ u ∈ bls F, u.oneCell' = true := by
  intro u hu
  obtain ⟨q, _, rfl⟩ := List.mem_map.1 hu
  rfl
theorem bls_set (F : List Bool) (k : Nat) (q : Bool) : (bls F).set k (.bool q) = bls (F.set k q) := by
  simp [bls, List.map_set]
/-- The cells of a window. -/
def whead (x : WZ) : List Value := [.bool x.made, .int .i64 x.boot, .int .i64 x.top]
def wc (x : WZ) : List Value := whead x ++ bls x.F
theorem wc_len (x : WZ) : (wc x).length = 67 := by
  unfold wc whead
  simp only [List.length_append, bls_len, x.hF, List.length_cons, List.length_nil]
theorem wc_one (x : WZ) : ∀ u ∈ wc x, u.oneCell' = true := by
  intro u hu
  unfold wc whead at hu
  rw [List.mem_append] at hu
  rcases hu with hu | hu
  · simp only [List.mem_cons, List.not_mem_nil, or_false] at hu
    rcases hu with rfl | rfl | rfl <;> rfl
  · exact bls_one _ u hu
theorem wc_num (x : WZ) (i : Nat) (hi : i < 3) : (wc x)[i]? = (whead x)[i]? := by
  unfold wc
  rw [List.getElem?_append_left (by simpa [whead] using hi)]
theorem wc_F (x : WZ) (j : Nat) : (wc x)[3 + j]? = (bls x.F)[j]? := by
  unfold wc
  rw [List.getElem?_append_right (by simp [whead])]
  simp [whead]
def w0 : WZ := ⟨false, 0, 0, noF, by simp [noF]⟩
theorem wn_size (x : WZ) : (Try.prog.info? 40).map (·.size) = some (wc x).length := by rw [wc_len]; kernel_rfl
theorem wn_sizeA (x : WZ) : (Try.prog.info? 40).map (·.size) = some (wc x).toArray.size := by rw [List.size_toArray]; exact wn_size x
theorem wn_one (x : WZ) : (wc x).toArray.all (·.oneCell') = true := all_oneCell_toArray (wc_one x)
theorem wn_info : ∃ i z, Try.prog.info? 40 = some i ∧ i.zero = some z ∧ i.size = 67 ∧ z.cells.size = 67 := by
  obtain ⟨i, hi, hz, hs, hb⟩ := info_parts (show (Try.prog.info? 40).map (fun i => (i.zero, i.size, i.bytes)) = some (some (.agg (wc w0).toArray), 67, 88) by kernel_rfl)
  exact ⟨i, _, hi, hz, hs, by show (wc w0).toArray.size = 67; rw [List.size_toArray, wc_len]⟩
/-- A new window's cells. -/
def zWc : Array Value := (wc w0).toArray
theorem zWc_size : zWc.size = 67 := by unfold zWc; rw [List.size_toArray, wc_len]
theorem zWc_ne : ¬ zWc = #[] := fun h => by have := zWc_size; rw [h] at this; simp at this
theorem zWk (w : World) : (zeroValue 40).run Try.prog w = .ok (.agg zWc) w := by
  obtain ⟨i, hi, hz, hs, hb⟩ := info_parts (show (Try.prog.info? 40).map (fun i => (i.zero, i.size, i.bytes)) = some (some (.agg (wc w0).toArray), 67, 88) by kernel_rfl)
  simp [zeroValue, run_typeInfo w hi, hz, zWc]
/-- Block b holds the window x from its head on, and may be written. -/
structure WBox (w : World) (b : Nat) (x : WZ) : Prop where
  range : w.rangeAt b 0 (wc x)
  there : w.there b 0 67
section
variable {w w' : World} {B b : Nat} {x : WZ}
theorem WBox.same (h : WBox w b x) (e : w'.heap[b]? = w.heap[b]?) : WBox w' b x := ⟨rangeAt_same h.range e, there_same h.there e⟩
theorem WBox.lt (h : WBox w b x) : b < w.heap.size := by
  have := h.range 0 (.bool x.made) rfl
  exact World.block_lt_of_cell? _ _ this
theorem WBox.below (h : WBox w b x) (hb : Below B w w') (hB : b < B) : WBox w' b x := h.same (hb.block b hB)
theorem WBox.grow (h : WBox w b x) (hb : Below w.heap.size w w') : WBox w' b x := h.below hb h.lt
theorem WBox.drew (h : WBox w b x) : WBox w.drew b x := h.same rfl
theorem WBox.thereA (h : WBox w b x) (u : WZ) : w.there b 0 (wc u).toArray.size := by rw [List.size_toArray, wc_len]; exact h.there
/-- What the numbers read as, and the flags. -/
theorem WBox.c0 (h : WBox w b x) : w.cell? ⟨b, 0, none⟩ = some (.bool x.made) := h.range 0 _ rfl
theorem WBox.c1 (h : WBox w b x) : w.cell? ⟨b, 1, none⟩ = some (.int .i64 x.boot) := by have := h.range 1 (.int .i64 x.boot) rfl; rwa [Nat.zero_add] at this
theorem WBox.c2 (h : WBox w b x) : w.cell? ⟨b, 2, none⟩ = some (.int .i64 x.top) := by have := h.range 2 (.int .i64 x.top) rfl; rwa [Nat.zero_add] at this
theorem WBox.flag (h : WBox w b x) (j : Nat) (hj : j < 64) : w.cell? ⟨b, 3 + j, none⟩ = some (.bool (x.F.getD j false)) := by
  have := h.range (3 + j) _ (by rw [wc_F]; exact bls_at _ j (by rw [x.hF]; exact hj)); rwa [Nat.zero_add] at this
theorem WBox.free (h : WBox w b x) (j : Nat) (hj : j < 67) : w.frozen? ⟨b, j, none⟩ = false := by
  have := (h.there j hj).2; rwa [Nat.zero_add] at this
/-- A new variable of a window. -/
theorem wbox_new (w : World) (x : WZ) (y : TypeId) (k : Nat) (hk : w.heap.size = k) : WBox (w.alloc (.cells (wc x).toArray y)) k x := by
  subst hk
  have e := heap_alloc_new w (.cells (wc x).toArray y)
  refine ⟨fun j v hv => ?_, fun j hj => ⟨?_, frozen_of_row _ _ _ _ _ e⟩⟩
  · rw [cell_of_row _ _ _ _ _ _ e, Nat.zero_add, List.getElem?_toArray, hv]
  · rw [cell_of_row _ _ _ _ _ _ e, Nat.zero_add, List.getElem?_toArray, List.getElem?_eq_getElem (by rw [wc_len]; exact hj)]; rfl
/-- Another window is stored into the variable. -/
theorem WBox.store (h : WBox w b x) (u : WZ) : WBox (w.setCells b 0 (wc u)) b u :=
  ⟨World.rangeAt_setCells_same _ _ _ _ (by rw [wc_len]; exact h.there), World.there_setCells h.there _ _ _⟩
theorem WBox.set1 (h : WBox w b x) {k : Nat} {v : Value} {y : WZ} (hk : k < 67) (e : (wc x).set k v = wc y) : WBox (w.setCell ⟨b, k, none⟩ v) b y := by
  have ht : ∀ j, j < 67 → (w.setCell ⟨b, k, none⟩ v).frozen? ⟨b, j, none⟩ = false := fun j hj => by rw [World.frozen?_setCell]; exact h.free j hj
  have hc : ∀ j u, (wc y)[j]? = some u → (w.setCell ⟨b, k, none⟩ v).cell? ⟨b, j, none⟩ = some u := fun j u hu => by
    rw [← e] at hu
    by_cases hj : k = j
    · subst hj
      rw [List.getElem?_set_self (by rw [wc_len]; exact hk)] at hu
      injection hu with hu
      subst hu
      have := h.range k _ (List.getElem?_eq_getElem (by rw [wc_len]; exact hk))
      rw [Nat.zero_add] at this
      exact World.cell?_setCell_same _ _ _ this
    · rw [List.getElem?_set_ne hj] at hu
      rw [World.cell?_setCell_other _ _ _ _ (fun e' => by injection e' with _ e2; exact hj e2)]
      have := h.range j u hu
      rwa [Nat.zero_add] at this
  refine ⟨fun j u hu => by rw [Nat.zero_add]; exact hc j u hu, fun j hj => ?_⟩
  rw [Nat.zero_add]
  refine ⟨?_, ht j hj⟩
  rw [hc j _ (List.getElem?_eq_getElem (by rw [wc_len]; exact hj))]; rfl
theorem WBox.setTop (h : WBox w b x) (t : Int) : WBox (w.setCell ⟨b, 2, none⟩ (.int .i64 t)) b { x with top := t } := h.set1 (by omega) rfl
theorem WBox.setF (h : WBox w b x) (j : Nat) (q : Bool) (hj : j < 64) (F : List Bool) (hF : F.length = 64) (e : F = x.F.set j q) : WBox (w.setCell ⟨b, 3 + j, none⟩ (.bool q)) b { x with F := F, hF := hF } := h.set1 (by omega) (by
  subst e
  unfold wc
  rw [List.set_append, if_neg (by simp [whead])]
  show whead x ++ (bls x.F).set (3 + j - 3) (.bool q) = _
  rw [show 3 + j - 3 = j by omega, bls_set]; rfl)
/-- What the parts read as, in one fact. -/
theorem wbox_stored {y : TypeId} {g : Nat} (hg : w.heap.size = g) (h : Hid (w' = (w.alloc (.cells zWc y)).setCells g 0 (wc x).toArray.toList)) :
    WBox w' g x ∧ Below w.heap.size w w' ∧ g < w'.heap.size := by
  subst hg
  have b := wbox_new w w0 y _ rfl
  have hb : Below w.heap.size w w' := by rw [h.out]; exact below_setCells (Nat.le_refl _) _ _ _ ((Below.refl _ _).alloc (Nat.le_refl _) _)
  have hx : WBox w' w.heap.size x := by rw [h.out]; exact b.store x
  exact ⟨hx, hb, hx.lt⟩
end
theorem wthere_new (w : World) (x : WZ) (y : TypeId) (k : Nat) (hk : w.heap.size = k) : (w.alloc (.cells zWc y)).there k 0 (wc x).toArray.size := (wbox_new w w0 y k hk).thereA x
/-- Two windows are held against each other. -/
theorem run_partB (F : List Bool) (i : Nat) (hi : i < F.length) (w : World) : (part 4 (bls F).toArray (i * 1)).run Try.prog w = .ok (.bool (F.getD i false)) w := by
  have hx := bls_at F i hi
  simp [part, isAgg, run_underlying Try.underlying4, hx, go_sem]
theorem run_boolIn (d : Nat) (p q : Bool) (w : World) : (Op.equalIn (d + 1) 4 (.bool p) (.bool q)).run Try.prog w = .ok (p == q) w := by
  simp [Op.equalIn, run_underlying Try.underlying4, go_sem]
theorem run_eqItemsB (d : Nat) (a b : List Bool) (hl : a.length = b.length) (w : World) : ∀ (is : List Nat), (∀ i ∈ is, i < a.length) →
    (Op.eqItems (d + 1) 4 1 (bls a).toArray (bls b).toArray is).run Try.prog w = .ok (is.all fun i => a.getD i false == b.getD i false) w
  | [], _ => by simp [Op.eqItems]
  | i :: is, h => by
    have hi := h i (by simp)
    simp only [Op.eqItems, Sem.run_bind, run_partB a i hi w, run_partB b i (by omega) w, Result.andThen_ok, run_boolIn d, List.all_cons]
    have ih := run_eqItemsB d a b hl w is (fun j hj => h j (by simp [hj]))
    cases hc : (a.getD i false == b.getD i false)
    · simp
    · simp only [Bool.not_true, Bool.false_eq_true, if_false, Bool.true_and]
      exact ih
theorem eqB_rangeB (a b : List Bool) (hl : a.length = b.length) : ((List.range a.length).all fun i => a.getD i false == b.getD i false) = decide (a = b) := by
  rw [Bool.eq_iff_iff]
  simp only [List.all_eq_true, List.mem_range, beq_iff_eq, decide_eq_true_eq]
  exact ⟨fun h => listB_ext hl h, fun h _ _ => by rw [h]⟩
theorem bool_cells : Try.prog.cellsOf 4 = 1 := by kernel_rfl
theorem bool_info : ∃ i, Try.prog.info? 4 = some i := by
  obtain ⟨i, hi, _⟩ := info_parts (show (Try.prog.info? 4).map (fun i => (i.zero, i.size, i.bytes)) = some (some (.bool false), 1, 1) by kernel_rfl)
  exact ⟨i, hi⟩
theorem run_arrIn (d : Nat) (a b : List Bool) (ha : a.length = 64) (hb : b.length = 64) (w : World) : (Op.equalIn (d + 2) 38 (.agg (bls a).toArray) (.agg (bls b).toArray)).run Try.prog w = .ok (decide (a = b)) w := by
  obtain ⟨i, hi⟩ := bool_info
  rw [run_equalIn_array w (d + 1) (bls a).toArray (bls b).toArray Try.underlying38 hi, bool_cells]
  have := run_eqItemsB d a b (by omega) w (List.range 64) (fun i hi => by rw [List.mem_range] at hi; omega)
  rw [this, ← eqB_rangeB a b (by omega), ha]
def wnF (x y : WZ) (o : Nat) : Bool := match o with
  | 0 => x.made == y.made
  | 1 => x.boot == y.boot
  | 2 => x.top == y.top
  | _ => decide (x.F = y.F)
def wnB (x y : WZ) : Bool := [0, 1, 2, 3].all (wnF x y)
theorem wnB_iff (x y : WZ) : wnB x y = true ↔ x = y := by
  constructor
  · intro h
    simp [wnB, wnF] at h
    exact WZ.ext' h.1 h.2.1 h.2.2.1 h.2.2.2
  · rintro rfl
    simp [wnB, wnF]
theorem wn_fields : (Try.prog.fieldsOf 40).toList.map (fun f => (f.type, f.offset)) = [(4, 0), (3, 1), (3, 2), (38, 3)] := by kernel_rfl
theorem wn_under : Try.prog.underlying 40 = some (.struct (Try.prog.fieldsOf 40)) := by kernel_rfl
theorem wn_stood : Try.prog.stoodInHeld 40 = false := by kernel_rfl
theorem wn_names : (Try.prog.fieldsOf 40).toList.all (fun f => !(f.name == "_")) = true := by kernel_rfl
theorem part_int {w : World} {cs : Array Value} {o : Nat} {v : Value} (h : cs[o]? = some v) : (part 3 cs o).run Try.prog w = .ok v w := by
  simp [part, isAgg, run_underlying Try.underlying3, h, go_sem]
theorem part_bool {w : World} {cs : Array Value} {o : Nat} {v : Value} (h : cs[o]? = some v) : (part 4 cs o).run Try.prog w = .ok v w := by
  simp [part, isAgg, run_underlying Try.underlying4, h, go_sem]
theorem part_arr {w : World} {cs : Array Value} {o : Nat} : (part 38 cs o).run Try.prog w = .ok (.agg (cs.extract o (o + 64))) w := by
  obtain ⟨i, hi, hs⟩ : ∃ i, Try.prog.info? 38 = some i ∧ i.size = 64 := by
    obtain ⟨i, hi, _, hs, _⟩ := info_parts (show (Try.prog.info? 38).map (fun i => (i.zero, i.size, i.bytes)) = some (some (.agg (bls (List.replicate 64 false)).toArray), 64, 64) by kernel_rfl)
    exact ⟨i, hi, hs⟩
  simp [part, isAgg, run_underlying Try.underlying38, run_sizeOf w hi, hs, go_sem]
theorem extract_F (x : WZ) : (wc x).toArray.extract 3 (3 + 64) = (bls x.F).toArray := by
  have e : ((wc x).drop 3).take 64 = bls x.F := by
    unfold wc
    rw [List.drop_append_of_le_length (by simp [whead]), show (whead x).drop 3 = [] from rfl, List.nil_append, List.take_of_length_le (by rw [bls_len, x.hF]; omega)]
  rw [List.extract_toArray, List.extract_eq_take_drop, show 3 + 64 - 3 = 64 from rfl, e]
theorem eqFields_list {P : Program} (d : Nat) (xs ys : Array Value) (w : World) (q : Field → Bool) : ∀ fs : List Field, (∀ f ∈ fs, f.name ≠ "_" ∧ ∃ a b, (part f.type xs f.offset).run P w = .ok a w ∧ (part f.type ys f.offset).run P w = .ok b w ∧ (Op.equalIn d f.type a b).run P w = .ok (q f) w) →
    (Op.eqFields d xs ys fs).run P w = .ok (fs.all q) w
  | [], h => by simp [Op.eqFields]
  | f :: fs, h => by
    obtain ⟨hn, a, b, h1, h2, h3⟩ := h f (by simp)
    have ih := eqFields_list d xs ys w q fs (fun f hf => h f (by simp [hf]))
    simp only [Op.eqFields, if_pos hn, Sem.run_bind, h1, h2, h3, Result.andThen_ok, List.all_cons]
    cases q f
    · simp
    · simpa using ih
theorem run_wnIn (g h : WZ) (w : World) : (Op.equalIn 10000 40 (.agg (wc g).toArray) (.agg (wc h).toArray)).run Try.prog w = .ok (wnB g h) w := by
  rw [run_equalIn_struct w 9999 40 _ _ wn_under wn_stood]
  have hat : ∀ (x : WZ) (i : Nat), (wc x).toArray[i]? = (wc x)[i]? := fun x i => List.getElem?_toArray ..
  have hI : ∀ (i : Nat) (x y : Int), (wc g)[i]? = some (.int .i64 x) → (wc h)[i]? = some (.int .i64 y) → ∃ a b, (part 3 (wc g).toArray i).run Try.prog w = .ok a w ∧ (part 3 (wc h).toArray i).run Try.prog w = .ok b w ∧ (Op.equalIn 9999 3 a b).run Try.prog w = .ok (x == y) w := fun i x y h1 h2 =>
    ⟨_, _, part_int ((hat g i).trans h1), part_int ((hat h i).trans h2), by rw [run_equalIn_int w 9998 3 .i64 .i64 _ _ Try.underlying3]⟩
  have hF := eqFields_list 9999 (wc g).toArray (wc h).toArray w (fun f => wnF g h f.offset) (Try.prog.fieldsOf 40).toList (fun f hf => by
    refine ⟨?_, ?_⟩
    · have := wn_names
      rw [List.all_eq_true] at this
      have := this f hf
      simpa using this
    · have hm : (f.type, f.offset) ∈ (Try.prog.fieldsOf 40).toList.map (fun f => (f.type, f.offset)) := List.mem_map.2 ⟨f, hf, rfl⟩
      rw [wn_fields] at hm
      simp only [List.mem_cons, Prod.mk.injEq, List.not_mem_nil, or_false] at hm
      rcases hm with ⟨e1, e2⟩ | ⟨e1, e2⟩ | ⟨e1, e2⟩ | ⟨e1, e2⟩ <;> rw [e1, e2]
      · exact ⟨_, _, part_bool ((hat g 0).trans rfl), part_bool ((hat h 0).trans rfl), run_boolIn 9998 _ _ w⟩
      · exact hI 1 _ _ rfl rfl
      · exact hI 2 _ _ rfl rfl
      · exact ⟨_, _, part_arr, part_arr, by rw [extract_F, extract_F]; exact run_arrIn 9997 _ _ g.hF h.hF w⟩)
  rw [hF]
  congr 1
theorem run_wnEq (g h : WZ) (w : World) : (binOp .eql 40 (.agg (wc g).toArray) (.agg (wc h).toArray)).run Try.prog w = .ok (.bool (wnB g h)) w := by
  rw [run_eql_struct, run_wnIn g h]; rfl
end Go.Proofs.Ytnnfcbcjepbjiaa
