/- Literals: a link, a row of one link, none. -/
import Derived.Test.YtkaojhcmdichfaaDoorAuK
import Derived.Great.BuildSlice
namespace Go.Proofs.YtkaojhcmdichfaaDoor
open Go.ChangeShapes Go.WideShapes Go.ChangeAt Go.RowKit
set_option linter.unusedVariables false
set_option linter.unusedSimpArgs false
open Plain Sha Au
theorem list32 {T : List Int} (hT : T.length = 32) : T = (List.range 32).map fun i => T.getD i 0 := by
  refine list_ext_getD (by simp [hT]) (fun j hj => ?_)
  rw [hT] at hj
  simp [List.getD_eq_getElem?_getD, hj]
theorem build_bare (n st op tn a b c : Int) (T : List Int) (hT : T.length = 32) (W : World) :
    (Instr.build 26 #[(0, .int .i64 n), (1, .int .i64 st), (2, .int .u8 op), (3, .int .i64 tn), (4, .int .i64 a), (5, .int .i64 b), (6, .int .i64 c), (7, .agg (vals T).toArray)]).run Tryd.prog W = .ok (.agg (lc ⟨n, st, op, tn, a, b, c, T, zT, hT, rfl⟩).toArray) W := by
  obtain ⟨f, hf⟩ : ∃ f : Nat → Int, T = (List.range 32).map f := ⟨_, list32 hT⟩
  subst hf
  exact run_build W 26 _ _ (by kernel_rfl)
theorem build_zero (n st op tn a b c : Int) (W : World) :
    (Instr.build 26 #[(0, .int .i64 n), (1, .int .i64 st), (2, .int .u8 op), (3, .int .i64 tn), (4, .int .i64 a), (5, .int .i64 b), (6, .int .i64 c)]).run Tryd.prog W = .ok (.agg (lc ⟨n, st, op, tn, a, b, c, zT, zT, rfl, rfl⟩).toArray) W :=
  run_build W 26 _ _ (by kernel_rfl)
theorem build_seven (n : Int) (W : World) : (Instr.build 26 #[(0, .int .i64 n)]).run Tryd.prog W = .ok (.agg (lc ⟨n, 0, 0, 0, 0, 0, 0, zT, zT, rfl, rfl⟩).toArray) W :=
  run_build W 26 _ _ (by kernel_rfl)
theorem exec_build8 {P : Program} {a : Act} {op : Oper} {t : TypeId} {x0 x1 x2 x3 x4 x5 x6 x7 : Operand} {v0 v1 v2 v3 v4 v5 v6 v7 v : Value} {w : World} (ho : op.op = .build t #[(0, x0), (1, x1), (2, x2), (3, x3), (4, x4), (5, x5), (6, x6), (7, x7)]) (h0 : a.eval x0 = v0) (h1 : a.eval x1 = v1) (h2 : a.eval x2 = v2) (h3 : a.eval x3 = v3) (h4 : a.eval x4 = v4) (h5 : a.eval x5 = v5) (h6 : a.eval x6 = v6) (h7 : a.eval x7 = v7) (h : (Instr.build t #[(0, v0), (1, v1), (2, v2), (3, v3), (4, v4), (5, v5), (6, v6), (7, v7)]).run P w = .ok v w) : (execOp a.eval op).run P w = .ok (.value v) w := by
  subst h0 h1 h2 h3 h4 h5 h6 h7
  unfold execOp
  simp only [ho]
  simp [h]
theorem exec_build7 {P : Program} {a : Act} {op : Oper} {t : TypeId} {x0 x1 x2 x3 x4 x5 x6 : Operand} {v0 v1 v2 v3 v4 v5 v6 v : Value} {w : World} (ho : op.op = .build t #[(0, x0), (1, x1), (2, x2), (3, x3), (4, x4), (5, x5), (6, x6)]) (h0 : a.eval x0 = v0) (h1 : a.eval x1 = v1) (h2 : a.eval x2 = v2) (h3 : a.eval x3 = v3) (h4 : a.eval x4 = v4) (h5 : a.eval x5 = v5) (h6 : a.eval x6 = v6) (h : (Instr.build t #[(0, v0), (1, v1), (2, v2), (3, v3), (4, v4), (5, v5), (6, v6)]).run P w = .ok v w) : (execOp a.eval op).run P w = .ok (.value v) w := by
  subst h0 h1 h2 h3 h4 h5 h6
  unfold execOp
  simp only [ho]
  simp [h]
theorem slice_one (g : LinkZ) (W : World) : (Instr.buildSlice 22 1 #[(0, .agg (lc g).toArray)]).run Tryd.prog W = .ok (.slice (some ⟨W.heap.size, 0, none⟩) 1 1) (W.alloc (.cells (lc g).toArray 26)) := by
  obtain ⟨i, hi, hz, hs, hb⟩ := info_parts (show (Tryd.prog.info? 26).map (fun i => (i.zero, i.size, i.bytes)) = some (some (.agg (lc l0).toArray), 71, 120) by kernel_rfl)
  refine run_buildSlice W 22 26 1 _ _ i _ Tryd.underlying22 hi hz (by rw [hs]; omega) (by rw [hs]; omega) ?_
  rw [hs]
  have := Great.fill_whole (s := 71) (by omega) [Value.agg (lc g).toArray] ((Array.range (1 * 71)).map ((Value.agg (lc l0).toArray).cells[· % (Value.agg (lc l0).toArray).cells.size]!)) (fun v hv => by
    rw [List.mem_singleton] at hv; subst hv
    show (lc g).toArray.size = 71
    rw [List.size_toArray, lc_len]) (by simp)
  simpa [Value.cells] using this
theorem wp_slice1 {o : Oper} {a : Act} {w : World} {K : Act → World → Prop} {Q : Exit → Act → World → Prop} (x : Operand) (ho : o.op = .buildSlice 22 1 #[(0, x)]) (g : LinkZ) (hx : a.eval x = .agg (lc g).toArray)
    (h : K (a.put o.dst (.slice (some ⟨w.heap.size, 0, none⟩) 1 1)) (w.alloc (.cells (lc g).toArray 26))) : o.wp Tryd.prog a w K Q := by
  have e : (#[(0, x)] : Array (Nat × Operand)).map (fun (y : Nat × Operand) => (y.1, a.eval y.2)) = #[(0, .agg (lc g).toArray)] := by simp [hx]
  unfold Oper.wp execOp
  simp only [ho, Sem.run_bind]
  rw [show (Instr.buildSlice 22 1 ((#[(0, x)] : Array (Nat × Operand)).map fun (i, x) => (i, a.eval x))).run Tryd.prog w = _ from (congrArg (fun p => (Instr.buildSlice 22 1 p).run Tryd.prog w) e).trans (slice_one g w)]
  exact h
theorem wpList_slice1 {ops : Array Oper} {rest : List Oper} {o : Oper} {a : Act} {w : World} {Q : Exit → Act → World → Prop} (hgd : o.guard = none) (x : Operand) (ho : o.op = .buildSlice 22 1 #[(0, x)]) (g : LinkZ) (hx : a.eval x = .agg (lc g).toArray)
    (h : ∀ w', Hid (w' = w.alloc (.cells (lc g).toArray 26)) → wpList Tryd.prog ops Q rest (a.put o.dst (.slice (some ⟨w.heap.size, 0, none⟩) 1 1)) w') : wpList Tryd.prog ops Q (o :: rest) a w :=
  wpList_plain hgd fun _ hK => wp_slice1 x ho g hx (hK _ _ (h _ (Lib.hid rfl)))
theorem slice_none (W : World) : (Instr.buildSlice 22 0 #[]).run Tryd.prog W = .ok (.slice (some ⟨W.heap.size, 0, none⟩) 0 0) (W.alloc (.cells #[] 26)) := by
  kernel_rfl
/-- The new link's numbers and tags are in range. -/
theorem headZ_bytes {l : List LinkZ} (h : ∀ g, g ∈ l → LOk g) : IsBytes (headZ l) := by
  unfold headZ
  cases hl : l.getLast? with
  | none => exact rep_bytes 32 0 (by omega) (by omega)
  | some g => exact (h g (List.mem_of_getLast? hl)).S
theorem hashZ_bytes (g : LinkZ) : IsBytes (hashZ g) := shaZ_bytes _
structure ArgsOk (st op tn a b c : Int) : Prop where
  st : InA st
  op : 0 ≤ op ∧ op < 256
  tn : InA tn
  a : InA a
  b : InA b
  c : InA c
theorem bare_ok {l : List LinkZ} (h : ∀ g, g ∈ l → LOk g) (hn : l.length ≤ 100000) {st op tn a b c : Int} (ha : ArgsOk st op tn a b c) : LOk (bareL l st op tn a b c) :=
  ⟨by unfold InA bareL; dsimp only; omega, ha.st, ha.op, ha.tn, ha.a, ha.b, ha.c, headZ_bytes h, rep_bytes 32 0 (by omega) (by omega)⟩
theorem next_ok {l : List LinkZ} (h : ∀ g, g ∈ l → LOk g) (hn : l.length ≤ 100000) {st op tn a b c : Int} (ha : ArgsOk st op tn a b c) : LOk (nextL l st op tn a b c) :=
  ⟨by unfold InA nextL bareL; dsimp only; omega, ha.st, ha.op, ha.tn, ha.a, ha.b, ha.c, headZ_bytes h, hashZ_bytes _⟩
theorem add_ok {l : List LinkZ} (h : ∀ g, g ∈ l → LOk g) (hn : l.length ≤ 100000) {st op tn a b c : Int} (ha : ArgsOk st op tn a b c) : ∀ g, g ∈ addZ l st op tn a b c → LOk g := by
  intro g hg
  unfold addZ at hg
  rw [List.mem_append, List.mem_singleton] at hg
  rcases hg with hg | rfl
  · exact h g hg
  · exact next_ok h hn ha
theorem LBox.storeH {w w' : World} {b : Nat} {g u : LinkZ} (h : LBox w b g) (e : Hid (w' = w.setCells b 0 (lc u).toArray.toList)) : LBox w' b u := by rw [e.out]; exact h.store u
theorem below_storeA {B : Nat} {a w w' : World} {b o : Nat} {vs : List Value} (h : Below B a w) (hb : B ≤ b) (e : Hid (w' = w.setCells b o vs)) : Below B a w' := by rw [e.out]; exact below_setCells hb _ _ _ h
theorem tag_sizeA (T : List Int) (hT : T.length = 32) : (vals T).toArray.size = 32 := by rw [List.size_toArray, vals_len, hT]
theorem LBox.thereS {w : World} {b : Nat} {g : LinkZ} (h : LBox w b g) {T : List Int} (hT : T.length = 32) : w.there b 39 (vals T).toArray.size := by rw [tag_sizeA T hT]; exact there_sub h.there (by omega) (by omega)
theorem LBox.thereH {w : World} {b : Nat} {g : LinkZ} (h : LBox w b g) {T : List Int} (hT : T.length = 32) : w.there b 7 (vals T).toArray.size := by rw [tag_sizeA T hT]; exact there_sub h.there (by omega) (by omega)
end Go.Proofs.YtkaojhcmdichfaaDoor
