/- An array of bytes that came in: its cells are bytes. -/
import Derived.Test.YtcihbkdpkhhhcaaDoorRow8
import Derived.OpenShut
import Derived.Lib.SmallJoins
namespace Go.Proofs.YtcihbkdpkhhhcaaDoor
open Go.ChangeShapes Go.WideShapes Go.ChangeAt Go.RowKit
set_option linter.unusedVariables false
def numOf : Value → Int
  | .int _ n => n
  | _ => 0
theorem open_bytes {H : Type} {enc : TypeId × Value → H} {W : World} {r : Reach} {b0 : Nat} {base : Nat} {sp : Nat → Bool} {held : Bool} {t : TypeId} {n : Nat} {v : Value} {d : DataW H} {p : List MemPlace} (ht : Tryd.prog.underlying t = some (.array n 5)) (hC : Tryd.prog.cellsOf t = n)
    (hv : Value.okWide Tryd.prog W r b0 t v) (h : DataW.Trod enc Tryd.prog W base sp held t v d p) : ∃ a : List Int, v = .agg (vals a).toArray ∧ a.length = n ∧ IsBytes a := by
  obtain ⟨cs, rfl, hsz⟩ : ∃ cs, v = .agg cs ∧ cs.size = Tryd.prog.cellsOf t := by
    simp only [Value.okWide, ht] at hv
    obtain ⟨cs, h1, h2, _⟩ := hv
    exact ⟨cs, h1, h2⟩
  obtain ⟨fuel, hf⟩ := h
  obtain ⟨xs, m, _, _, hlen, hn, hel⟩ := DataW.trod_array ht hf
  have c1 : Tryd.prog.cellsOf 5 = 1 := by kernel_rfl
  have key : ∀ j, j < n → ∃ k, cs.toList[j]? = some (.int .u8 k) ∧ 0 ≤ k ∧ k < 256 := fun j hj => by
    have h0 := hel j hj
    rw [c1, List.getElem?_eq_getElem (show j < xs.length by omega)] at h0
    obtain ⟨k, e1, _, e3⟩ := DataW.trod_int Tryd.underlying5 h0
    have h4 : (cs.toList.drop (j * 1)).take 1 = [.int .u8 k] := e1
    refine ⟨k, ?_, wf_u8 e3⟩
    have := congrArg (·[0]?) h4
    simpa [List.getElem?_take, List.getElem?_drop] using this
  have hl : cs.toList.length = n := by rw [Array.length_toList, hsz, hC]
  have e : cs.toList = vals (cs.toList.map numOf) := by
    apply List.ext_getElem?
    intro j
    by_cases hj : j < n
    · obtain ⟨k, hk, _⟩ := key j hj
      simp only [vals, List.map_map, List.getElem?_map, hk, Option.map_some]
      rfl
    · rw [List.getElem?_eq_none (by omega), List.getElem?_eq_none (by rw [vals_len, List.length_map]; omega)]
  refine ⟨cs.toList.map numOf, by rw [← e], by rw [List.length_map, hl], ?_⟩
  intro j hj
  rw [List.length_map, hl] at hj
  obtain ⟨k, hk, h1⟩ := key j hj
  simpa [List.getD_eq_getElem?_getD, List.getElem?_map, hk, numOf] using h1
end Go.Proofs.YtcihbkdpkhhhcaaDoor
