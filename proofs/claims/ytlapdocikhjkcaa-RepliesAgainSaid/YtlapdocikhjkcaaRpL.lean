/- Links: their cells; two links held against each other. -/
import Derived.Test.YtlapdocikhjkcaaB2
import Derived.Test.YtlapdocikhjkcaaB1
import Derived.Laws.StructEq
namespace Go.Proofs.Ytlapdocikhjkcaa
open Go.ChangeShapes Go.WideShapes Go.ChangeAt Go.RowKit
set_option linter.unusedVariables false
set_option linter.unusedSimpArgs false
open Plain Sha
namespace Au
/-- A link: its numbers, the tag ahead, its own. -/
structure LinkZ where
  n : Int
  st : Int
  op : Int
  tn : Int
  a : Int
  b : Int
  c : Int
  H : List Int
  S : List Int
  hH : H.length = 32
  hS : S.length = 32
def zT : List Int := List.replicate 32 0
theorem zT_len : zT.length = 32 := rfl
def l0 : LinkZ := ⟨0, 0, 0, 0, 0, 0, 0, zT, zT, rfl, rfl⟩
/-- Are two links the same, field by field? -/
def lkF (g h : LinkZ) (o : Nat) : Bool :=
  if o = 0 then g.n == h.n else if o = 1 then g.st == h.st else if o = 2 then g.op == h.op else if o = 3 then g.tn == h.tn else if o = 4 then g.a == h.a else if o = 5 then g.b == h.b else if o = 6 then g.c == h.c else if o = 7 then eqB g.H h.H else eqB g.S h.S
def lkB (g h : LinkZ) : Bool := [0, 1, 2, 3, 4, 5, 6, 7, 39].all (lkF g h)
end Au
open Au
def InA (x : Int) : Prop := -9223372036854775808 ≤ x ∧ x ≤ 9223372036854775807
structure LOk (g : LinkZ) : Prop where
  n : InA g.n
  st : InA g.st
  op : 0 ≤ g.op ∧ g.op < 256
  tn : InA g.tn
  a : InA g.a
  b : InA g.b
  c : InA g.c
  H : IsBytes g.H
  S : IsBytes g.S
/-- The cells of a link. -/
def lhead (g : LinkZ) : List Value := [.int .i64 g.n, .int .i64 g.st, .int .u8 g.op, .int .i64 g.tn, .int .i64 g.a, .int .i64 g.b, .int .i64 g.c]
def lc (g : LinkZ) : List Value := lhead g ++ (vals g.H ++ vals g.S)
theorem lc_len (g : LinkZ) : (lc g).length = 71 := by
  unfold lc lhead
  simp only [List.length_append, vals_len, g.hH, g.hS, List.length_cons, List.length_nil]
theorem lc_one (g : LinkZ) : ∀ u ∈ lc g, u.oneCell' = true := by
  intro u hu
  unfold lc lhead at hu
  rw [List.mem_append, List.mem_append] at hu
  rcases hu with hu | hu | hu
  · simp only [List.mem_cons, List.not_mem_nil, or_false] at hu
    rcases hu with rfl | rfl | rfl | rfl | rfl | rfl | rfl <;> rfl
  · exact vals_one _ u hu
  · exact vals_one _ u hu
theorem lc_num (g : LinkZ) (i : Nat) (hi : i < 7) : (lc g)[i]? = (lhead g)[i]? := by
  unfold lc
  rw [List.getElem?_append_left (by simpa [lhead] using hi)]
theorem lc_H (g : LinkZ) (j : Nat) (hj : j < 32) : (lc g)[7 + j]? = (vals g.H)[j]? := by
  unfold lc
  rw [List.getElem?_append_right (by simp [lhead]), List.getElem?_append_left (by rw [vals_len, g.hH]; simp [lhead]; omega)]
  simp [lhead]
theorem lc_S (g : LinkZ) (j : Nat) : (lc g)[39 + j]? = (vals g.S)[j]? := by
  unfold lc
  rw [List.getElem?_append_right (by simp [lhead]; omega), List.getElem?_append_right (by rw [vals_len, g.hH]; simp [lhead]; omega)]
  rw [vals_len, g.hH]
  simp [lhead]
  congr 1; omega
theorem lk_size (g : LinkZ) : (Try.prog.info? 31).map (·.size) = some (lc g).length := by rw [lc_len]; kernel_rfl
theorem lk_sizeA (g : LinkZ) : (Try.prog.info? 31).map (·.size) = some (lc g).toArray.size := by rw [List.size_toArray]; exact lk_size g
theorem lk_one (g : LinkZ) : (lc g).toArray.all (·.oneCell') = true := all_oneCell_toArray (lc_one g)
theorem link_info : ∃ i z, Try.prog.info? 31 = some i ∧ i.zero = some z ∧ i.size = 71 ∧ i.bytes = 120 ∧ z.cells.size = 71 := by
  obtain ⟨i, hi, hz, hs, hb⟩ := info_parts (show (Try.prog.info? 31).map (fun i => (i.zero, i.size, i.bytes)) = some (some (.agg (lc l0).toArray), 71, 120) by kernel_rfl)
  exact ⟨i, _, hi, hz, hs, hb, by show (lc l0).toArray.size = 71; rw [List.size_toArray, lc_len]⟩
theorem extract_H (g : LinkZ) : (lc g).toArray.extract 7 (7 + 32) = (vals g.H).toArray := by
  have e : ((lc g).drop 7).take 32 = vals g.H := by
    unfold lc
    rw [List.drop_append_of_le_length (by simp [lhead]), show (lhead g).drop 7 = [] from rfl, List.nil_append, List.take_append_of_le_length (by rw [vals_len, g.hH]; omega), List.take_of_length_le (by rw [vals_len, g.hH]; omega)]
  rw [List.extract_toArray, List.extract_eq_take_drop, show 7 + 32 - 7 = 32 from rfl, e]
theorem extract_S (g : LinkZ) : (lc g).toArray.extract 39 (39 + 32) = (vals g.S).toArray := by
  have e : ((lc g).drop 39).take 32 = vals g.S := by
    unfold lc
    rw [List.drop_append, show (lhead g).drop 39 = [] from rfl, List.nil_append, show 39 - (lhead g).length = 32 from rfl, List.drop_append_of_le_length (by rw [vals_len, g.hH]; omega), List.drop_of_length_le (by rw [vals_len, g.hH]; omega), List.nil_append, List.take_of_length_le (by rw [vals_len, g.hS]; omega)]
  rw [List.extract_toArray, List.extract_eq_take_drop, show 39 + 32 - 39 = 32 from rfl, e]
theorem eqFields_list {P : Program} (d : Nat) (xs ys : Array Value) (w : World) (q : Field → Bool) : ∀ fs : List Field, (∀ f ∈ fs, f.name ≠ "_" ∧ ∃ a b, (part f.type xs f.offset).run P w = .ok a w ∧ (part f.type ys f.offset).run P w = .ok b w ∧ (Op.equalIn d f.type a b).run P w = .ok (q f) w) →
    (Op.eqFields d xs ys fs).run P w = .ok (fs.all q) w
  | [], h => by simp [Op.eqFields]
  | f :: fs, h => by
    obtain ⟨hn, a, b, h1, h2, h3⟩ := h f (by simp)
    have ih := eqFields_list d xs ys w q fs (fun f hf => h f (by simp [hf]))
    simp only [Op.eqFields, if_pos hn, Sem.run_bind, h1, h2, h3, Result.andThen_ok, List.all_cons]
    cases q f
    · simp
    · simpa using ih
theorem link_fields : (Try.prog.fieldsOf 31).toList.map (fun f => (f.type, f.offset)) = [(3, 0), (3, 1), (5, 2), (3, 3), (3, 4), (3, 5), (3, 6), (29, 7), (29, 39)] := by kernel_rfl
theorem link_under : Try.prog.underlying 31 = some (.struct (Try.prog.fieldsOf 31)) := by kernel_rfl
theorem link_stood : Try.prog.stoodInHeld 31 = false := by kernel_rfl
theorem part_int {w : World} {cs : Array Value} {o : Nat} {v : Value} (h : cs[o]? = some v) : (part 3 cs o).run Try.prog w = .ok v w := by
  simp [part, isAgg, run_underlying Try.underlying3, h, go_sem]
theorem part_u8 {w : World} {cs : Array Value} {o : Nat} {v : Value} (h : cs[o]? = some v) : (part 5 cs o).run Try.prog w = .ok v w := by
  simp [part, isAgg, run_underlying Try.underlying5, h, go_sem]
theorem part_tag {w : World} {cs : Array Value} {o : Nat} : (part 29 cs o).run Try.prog w = .ok (.agg (cs.extract o (o + 32))) w := by
  obtain ⟨i, hi, hs⟩ : ∃ i, Try.prog.info? 29 = some i ∧ i.size = 32 := by
    obtain ⟨i, hi, _, hs, _⟩ := info_parts (show (Try.prog.info? 29).map (fun i => (i.zero, i.size, i.bytes)) = some (some (.agg (vals (List.replicate 32 0)).toArray), 32, 32) by kernel_rfl)
    exact ⟨i, hi, hs⟩
  simp [part, isAgg, run_underlying Try.underlying29, run_sizeOf w hi, hs, go_sem]
theorem link_names : (Try.prog.fieldsOf 31).toList.all (fun f => !(f.name == "_")) = true := by kernel_rfl
theorem run_linkIn (g h : LinkZ) (w : World) : (Op.equalIn 10000 31 (.agg (lc g).toArray) (.agg (lc h).toArray)).run Try.prog w = .ok (lkB g h) w := by
  rw [run_equalIn_struct w 9999 31 _ _ link_under link_stood]
  have hat : ∀ (x : LinkZ) (i : Nat), (lc x).toArray[i]? = (lc x)[i]? := fun x i => List.getElem?_toArray ..
  have hI : ∀ (i : Nat) (x y : Int), (lc g)[i]? = some (.int .i64 x) → (lc h)[i]? = some (.int .i64 y) → ∃ a b, (part 3 (lc g).toArray i).run Try.prog w = .ok a w ∧ (part 3 (lc h).toArray i).run Try.prog w = .ok b w ∧ (Op.equalIn 9999 3 a b).run Try.prog w = .ok (x == y) w := fun i x y h1 h2 =>
    ⟨_, _, part_int ((hat g i).trans h1), part_int ((hat h i).trans h2), by rw [run_equalIn_int w 9998 3 .i64 .i64 _ _ Try.underlying3]⟩
  have hB : ∀ (T U : List Int) (hT : T.length = 32) (hU : U.length = 32), (Op.equalIn 9999 29 (.agg (vals T).toArray) (.agg (vals U).toArray)).run Try.prog w = .ok (eqB T U) w := fun T U hT hU => by
    obtain ⟨i, z, hi, _⟩ := u8_info
    rw [run_equalIn_array w 9998 (vals T).toArray (vals U).toArray Try.underlying29 hi, u8_cells]
    have := run_eqItems8 9997 T U (by omega) w (List.range 32) (fun i hi => by rw [List.mem_range] at hi; omega)
    rw [this, ← eqB_range T U (by omega), hT]
  have hF := eqFields_list 9999 (lc g).toArray (lc h).toArray w (fun f => lkF g h f.offset) (Try.prog.fieldsOf 31).toList (fun f hf => by
    refine ⟨?_, ?_⟩
    · have := link_names
      rw [List.all_eq_true] at this
      have := this f hf
      simpa using this
    · have hm : (f.type, f.offset) ∈ (Try.prog.fieldsOf 31).toList.map (fun f => (f.type, f.offset)) := List.mem_map.2 ⟨f, hf, rfl⟩
      rw [link_fields] at hm
      simp only [List.mem_cons, Prod.mk.injEq, List.not_mem_nil, or_false] at hm
      rcases hm with ⟨e1, e2⟩ | ⟨e1, e2⟩ | ⟨e1, e2⟩ | ⟨e1, e2⟩ | ⟨e1, e2⟩ | ⟨e1, e2⟩ | ⟨e1, e2⟩ | ⟨e1, e2⟩ | ⟨e1, e2⟩ <;> rw [e1, e2]
      · exact hI 0 _ _ rfl rfl
      · exact hI 1 _ _ rfl rfl
      · exact ⟨_, _, part_u8 ((hat g 2).trans rfl), part_u8 ((hat h 2).trans rfl), by rw [run_equalIn_int w 9998 5 .u8 .u8 _ _ Try.underlying5]; rfl⟩
      · exact hI 3 _ _ rfl rfl
      · exact hI 4 _ _ rfl rfl
      · exact hI 5 _ _ rfl rfl
      · exact hI 6 _ _ rfl rfl
      · exact ⟨_, _, part_tag, part_tag, by rw [extract_H, extract_H]; exact hB _ _ g.hH h.hH⟩
      · exact ⟨_, _, part_tag, part_tag, by rw [extract_S, extract_S]; exact hB _ _ g.hS h.hS⟩)
  rw [hF]
  congr 1
theorem run_lkEq (g h : LinkZ) (w : World) : (binOp .eql 31 (.agg (lc g).toArray) (.agg (lc h).toArray)).run Try.prog w = .ok (.bool (lkB g h)) w := by
  rw [run_eql_struct, run_linkIn g h]; rfl
theorem run_lkNe (g h : LinkZ) (w : World) : (binOp .neq 31 (.agg (lc g).toArray) (.agg (lc h).toArray)).run Try.prog w = .ok (.bool (!lkB g h)) w := by
  rw [run_neq_struct, run_linkIn g h]; rfl
theorem lkB_refl (g : LinkZ) : lkB g g = true := by
  simp [lkB, lkF, eqB]
end Go.Proofs.Ytlapdocikhjkcaa
