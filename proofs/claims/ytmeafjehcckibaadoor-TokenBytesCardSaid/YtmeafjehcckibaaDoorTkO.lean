/- Tokens that came in. -/
import Derived.Test.YtmeafjehcckibaaDoorB8
import Derived.Test.YtmeafjehcckibaaDoorB5
namespace Go.Proofs.YtmeafjehcckibaaDoor
open Go.ChangeShapes Go.WideShapes Go.ChangeAt Go.RowKit Go.Deep
set_option linter.unusedVariables false
set_option maxRecDepth 100000
section
variable {H : Type} {enc : TypeId × Value → H} {W : World} {base : Nat} {sp : Nat → Bool} {held : Bool}
def numAt : Value → Int
  | .int _ n => n
  | _ => 0
theorem open_tag {fuel : Nat} {cs : List Value} {x : DataW H × List MemPlace} (hf : DataW.trod enc Tryd.prog W base sp held fuel 24 cs = some x) : ∃ a : List Int, cs = vals a ∧ a.length = 32 ∧ IsBytes a := by
  obtain ⟨xs, m, _, _, hlen, hn, hel⟩ := DataW.trod_array Tryd.underlying24 hf
  have c1 : Tryd.prog.cellsOf 5 = 1 := by kernel_rfl
  have cT : Tryd.prog.cellsOf 24 = 32 := by kernel_rfl
  rw [cT] at hlen
  have key : ∀ j, j < 32 → ∃ k, cs[j]? = some (.int .u8 k) ∧ 0 ≤ k ∧ k < 256 := fun j hj => by
    have h0 := hel j hj
    rw [c1, List.getElem?_eq_getElem (show j < xs.length by omega)] at h0
    obtain ⟨k, e1, _, e3⟩ := DataW.trod_int Tryd.underlying5 h0
    have h4 : (cs.drop (j * 1)).take 1 = [.int .u8 k] := e1
    refine ⟨k, ?_, wf_u8' e3⟩
    have := congrArg (·[0]?) h4
    simpa [List.getElem?_take, List.getElem?_drop] using this
  have e : cs = vals (cs.map numAt) := by
    apply List.ext_getElem?
    intro j
    by_cases hj : j < 32
    · obtain ⟨k, hk, _⟩ := key j hj
      simp only [vals, List.map_map, List.getElem?_map, hk, Option.map_some]
      rfl
    · rw [List.getElem?_eq_none (by omega), List.getElem?_eq_none (by rw [vals_len, List.length_map]; omega)]
  refine ⟨cs.map numAt, e, by rw [List.length_map, hlen], ?_⟩
  intro j hj
  rw [List.length_map, hlen] at hj
  obtain ⟨k, hk, h1⟩ := key j hj
  simpa [List.getD_eq_getElem?_getD, List.getElem?_map, hk, numAt] using h1
theorem tok_cells : Tryd.prog.cellsOf 26 = 34 := by kernel_rfl
theorem three_parts (cs : List Value) (h : cs.length = 34) : cs = (cs.drop 0).take 1 ++ ((cs.drop 1).take 1 ++ (cs.drop 2).take 32) := by
  have e1 : (cs.drop 2).take 32 = cs.drop 2 := List.take_of_length_le (by rw [List.length_drop]; omega)
  have e2 : cs.drop 2 = (cs.drop 1).drop 1 := by rw [List.drop_drop]
  rw [e1, e2, List.take_append_drop, List.drop_zero, List.take_append_drop]
/-- One token, by its cells. -/
theorem open_token {fuel : Nat} {cs : List Value} {x : DataW H × List MemPlace} (hf : DataW.trod enc Tryd.prog W base (fun _ => true) held fuel 26 cs = some x) :
    ∃ (t : TokZ) (l : List GrantZ), cs = tv t ∧ Tok W W.heap.size t l := by
  obtain ⟨xs, m, _, hx, hlen, hn, hel⟩ := DataW.trod_struct Tryd.underlying26 hf
  rw [tok_cells] at hlen
  have c3 : Tryd.prog.cellsOf 3 = 1 := by kernel_rfl
  have c26 : Tryd.prog.cellsOf 22 = 1 := by kernel_rfl
  have c28 : Tryd.prog.cellsOf 24 = 32 := by kernel_rfl
  have g0 : DataW.trod enc Tryd.prog W base (fun _ => true) held m 3 ((cs.drop 0).take (Tryd.prog.cellsOf 3)) = xs[0]? := hel 0 _ rfl
  have g1 : DataW.trod enc Tryd.prog W base (fun _ => true) held m 22 ((cs.drop 1).take (Tryd.prog.cellsOf 22)) = xs[1]? := hel 1 _ rfl
  have g2 : DataW.trod enc Tryd.prog W base (fun _ => true) held m 24 ((cs.drop 2).take (Tryd.prog.cellsOf 24)) = xs[2]? := hel 2 _ rfl
  have hn3 : xs.length = 3 := hn
  rw [c3] at g0
  rw [c26] at g1
  rw [c28] at g2
  match xs, hn3 with
  | [y0, y1, y2], _ =>
    obtain ⟨k, e0, _, w0⟩ := DataW.trod_int Tryd.underlying3 g0
    obtain ⟨T, e2, hT, hB⟩ := open_tag g2
    have hcs := three_parts cs hlen
    rw [e0, e2] at hcs
    obtain ⟨a, len, cap, e1⟩ : ∃ a len cap, (cs.drop 1).take 1 = [.slice a len cap] := by
      rcases open_slice Tryd.underlying22 g1 with ⟨e, _⟩ | ⟨a, len, cap, _, _, _, _, e, _⟩
      · exact ⟨_, _, _, e⟩
      · exact ⟨_, _, _, e⟩
    rw [e1] at g1 hcs
    obtain ⟨l, hl, hm, hc⟩ := open_grants g1
    exact ⟨⟨k, a, len, cap, T⟩, l, hcs, ⟨hT, hB, wf_i64' w0, hl, hm, hc⟩⟩
end
end Go.Proofs.YtmeafjehcckibaaDoor
