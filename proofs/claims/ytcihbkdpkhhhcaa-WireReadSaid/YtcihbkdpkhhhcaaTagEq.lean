/- Two tags are held against each other. -/
import Derived.Test.YtcihbkdpkhhhcaaRow8
import Derived.ChangeKeysEq
namespace Go.Proofs.Ytcihbkdpkhhhcaa
open Go.ChangeShapes Go.WideShapes Go.ChangeAt Go.RowKit
set_option linter.unusedVariables false
open Plain Sha
theorem run_part8 (a : List Int) (i : Nat) (hi : i < a.length) (w : World) : (part 5 (vals a).toArray (i * 1)).run Try.prog w = .ok (.int .u8 (a.getD i 0)) w := by
  have hx := vals_at a i hi
  simp [part, isAgg, run_underlying Try.underlying5, hx, go_sem]
theorem run_eqItems8 (d : Nat) (a b : List Int) (hl : a.length = b.length) (w : World) : ∀ (is : List Nat), (∀ i ∈ is, i < a.length) →
    (Op.eqItems (d + 1) 5 1 (vals a).toArray (vals b).toArray is).run Try.prog w = .ok (is.all fun i => a.getD i 0 == b.getD i 0) w
  | [], _ => by simp [Op.eqItems]
  | i :: is, h => by
    have hi := h i (by simp)
    simp only [Op.eqItems, Sem.run_bind, run_part8 a i hi w, run_part8 b i (by omega) w, Result.andThen_ok, run_equalIn_int w d 5 .u8 .u8 _ _ Try.underlying5, List.all_cons]
    have ih := run_eqItems8 d a b hl w is (fun j hj => h j (by simp [hj]))
    cases hc : (a.getD i 0 == b.getD i 0)
    · simp
    · simp only [Bool.not_true, Bool.false_eq_true, if_false, Bool.true_and]
      exact ih
theorem eqB_range (a b : List Int) (hl : a.length = b.length) : ((List.range a.length).all fun i => a.getD i 0 == b.getD i 0) = eqB a b := by
  rw [Bool.eq_iff_iff]
  simp only [List.all_eq_true, List.mem_range, beq_iff_eq, eqB, decide_eq_true_eq]
  exact ⟨fun h => list_ext_getD hl h, fun h _ _ => by rw [h]⟩
theorem u8_cells : Try.prog.cellsOf 5 = 1 := by kernel_rfl
theorem run_tagIn (a b : List Int) (ha : a.length = 32) (hb : b.length = 32) (w : World) : (Op.equalIn 10000 28 (.agg (vals a).toArray) (.agg (vals b).toArray)).run Try.prog w = .ok (eqB a b) w := by
  obtain ⟨i, z, hi, _⟩ := u8_info
  rw [run_equalIn_array w 9999 (vals a).toArray (vals b).toArray Try.underlying28 hi, u8_cells]
  have := run_eqItems8 9998 a b (by omega) w (List.range 32) (fun i hi => by rw [List.mem_range] at hi; omega)
  rw [this, ← eqB_range a b (by omega), ha]
theorem run_tagEq (a b : List Int) (ha : a.length = 32) (hb : b.length = 32) (w : World) : (binOp .eql 28 (.agg (vals a).toArray) (.agg (vals b).toArray)).run Try.prog w = .ok (.bool (eqB a b)) w := by
  rw [run_eql_struct, run_tagIn a b ha hb]; rfl
theorem run_tagNe (a b : List Int) (ha : a.length = 32) (hb : b.length = 32) (w : World) : (binOp .neq 28 (.agg (vals a).toArray) (.agg (vals b).toArray)).run Try.prog w = .ok (.bool (!eqB a b)) w := by
  rw [run_neq_struct, run_tagIn a b ha hb]; rfl
/-- A guarded load of a long array, whose guard holds. -/
theorem wpList_load_guard {P : Program} {ops : Array Oper} {rest : List Oper} {op : Oper} {a : Act} {w : World} {Q : Exit → Act → World → Prop} (hw : Region.wanted op (yielded ops a.tmps) = true) (ty : TypeId) (x : Operand) (ho : op.op = .load ty x)
    (b o : Nat) (hx : a.eval x = .pointer (some ⟨b, o, none⟩)) (cs : List Value) (d : TypeDesc) (hc : w.rangeAt b o cs)
    (hu : P.underlying ty = some d) (hd : d.isRow = true) (hi : (P.info? ty).map (·.size) = some cs.length)
    (h : wpList P ops Q rest (a.put op.dst (.agg cs.toArray)) w) : wpList P ops Q (op :: rest) a w := by
  simp only [wpList, hw, if_true]
  exact .inl (wp_load_mid ty x ho b o hx cs d hc hu hd hi h)
/-- A tag is stored into a new variable: what is known of the world behind it. -/
theorem stored_tag {w w' : World} {T : List Int} (hl : T.length = 32) (h : Hid (w' = (w.alloc (.cells (vals (List.replicate 32 0)).toArray 28)).setCells w.heap.size 0 (vals T).toArray.toList)) :
    w'.rangeAt w.heap.size 0 (vals T) ∧ Below w.heap.size w w' ∧ w.heap.size < w'.heap.size := by
  have e : (vals T).toArray.size = 32 := by rw [List.size_toArray, vals_len, hl]
  have ht : (w.alloc (.cells (vals (List.replicate 32 0)).toArray 28)).there w.heap.size 0 (vals T).toArray.size := by
    rw [e]; simpa using (Row8.new w (List.replicate 32 0) 28).there
  rw [h.out]
  refine ⟨World.rangeAt_setCells_same _ _ _ _ ht, ?_, ?_⟩
  · have : ∀ (vs : List Value) (o : Nat) (u : World), Below w.heap.size w u → Below w.heap.size w (u.setCells w.heap.size o vs) := by
      intro vs
      induction vs with
      | nil => intro o u hu; exact hu
      | cons v r ih => intro o u hu; rw [World.setCells]; exact ih _ _ (hu.setCell (Nat.le_refl _) _)
    exact this _ _ _ ((Below.refl _ _).alloc (Nat.le_refl _) _)
  · have : ∀ (vs : List Value) (o : Nat) (u : World), (u.setCells w.heap.size o vs).heap.size = u.heap.size := by
      intro vs
      induction vs with
      | nil => intro o u; rfl
      | cons v r ih => intro o u; rw [World.setCells, ih]; simp [World.setCell]
    rw [this]; simp
theorem tag_there (w : World) (T : List Int) (hl : T.length = 32) : (w.alloc (.cells (vals (List.replicate 32 0)).toArray 28)).there w.heap.size 0 (vals T).toArray.size := by
  have e : (vals T).toArray.size = 32 := by rw [List.size_toArray, vals_len, hl]
  rw [e]; simpa using (Row8.new w (List.replicate 32 0) 28).there
theorem tag_size (T : List Int) (hl : T.length = 32) : (Try.prog.info? 28).map (·.size) = some (vals T).length := by rw [vals_len, hl]; kernel_rfl
theorem shaZ_len (bs : List Int) : (shaZ bs).length = 32 := by unfold shaZ; exact tagZ_len _
end Go.Proofs.Ytcihbkdpkhhhcaa
