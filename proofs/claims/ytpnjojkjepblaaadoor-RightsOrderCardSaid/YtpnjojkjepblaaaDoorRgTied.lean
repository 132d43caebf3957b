/- What the row's condition on the listed variable gives the walks; that the door's own heap meets it. -/
import Derived.Test.YtpnjojkjepblaaaDoorRgT
import Derived.Test.YtpnjojkjepblaaaDoorTie
import Derived.LaidMore
import Derived.OpenShut
import Derived.ProofKit
import Derived.Stop.Joined
namespace Go.Proofs.YtpnjojkjepblaaaDoor
open Go.ChangeShapes Go.WideShapes Go.ChangeAt Go.WideMaps Go.WideElems Go.RowKit
set_option linter.unusedVariables false
def laidRL : List (String × DataW Unit) := [("seneschal/rights.letters", Rows.laid_seneschal_rights_letters)]
theorem gLetters : Tryd.prog.globalNamed "seneschal/rights.letters" = some 0 := by kernel_rfl
theorem tLetters : (Tryd.prog.globals[0]?).map (·.type) = some 46 := by kernel_rfl
def bytesD (l : List Int) : DataW Unit := .agg (l.map fun (x : Int) => .lit (.int .u8 x))
theorem letters_is : (Rows.laid_seneschal_rights_letters : DataW Unit) = bytesD [114, 119, 108, 97] := by rfl
/-- An array of bytes that reads as the list has those numbers in its cells. -/
theorem bytes_of {W : World} {enc : TypeId × Value → Unit} {base : Nat} {sp : Nat → Bool} {held : Bool} {t : TypeId} {n f : Nat} {cs : List Value} {q : List MemPlace} (l : List Int) (hl : l.length = n) (ht : Tryd.prog.underlying t = some (.array n 5)) (hd : DataW.trod enc Tryd.prog W base sp held f t cs = some (bytesD l, q)) :
    ∀ j, j < n → cs[j]? = some (.int .u8 (l.getD j 0)) := by
  obtain ⟨xs, m1, rfl, hx1, hlen, hn3, hel⟩ := DataW.trod_array ht hd
  have c3 : Tryd.prog.cellsOf 5 = 1 := by kernel_rfl
  simp only [Prod.mk.injEq, bytesD, DataW.agg.injEq] at hx1
  intro j hj
  have h0 := hel j hj
  rw [c3] at h0
  have hxj : xs[j]? = some xs[j] := List.getElem?_eq_getElem (by omega)
  rw [hxj] at h0
  obtain ⟨k, e1, e2, _⟩ := DataW.trod_int Tryd.underlying5 h0
  have e3 : (l.map fun (x : Int) => (DataW.lit (.int .u8 x) : DataW Unit))[j]? = (xs.map (·.1))[j]? := by rw [hx1.1]
  rw [List.getElem?_map, List.getElem?_map, hxj, List.getElem?_eq_getElem (show j < l.length by omega)] at e3
  simp [e2] at e3
  have h4 : (cs.drop (j * 1)).take 1 = [.int .u8 k] := e1
  have h5 : cs[j]? = some (.int .u8 k) := by
    have := congrArg (·[0]?) h4
    simpa [List.getElem?_take, List.getElem?_drop] using this
  rw [h5, ← e3]
  simp [List.getD_eq_getElem?_getD, List.getElem?_eq_getElem (show j < l.length by omega)]
theorem l_of_laid {W : World} (h : laidMetH Tryd.prog laidRL W) : LaidL W := by
  rw [MakeChecks.laidMetH_plain _ _ _ (by kernel_rfl)] at h
  obtain ⟨ps, ⟨g1, t1, cs1, f1, p1, q1, hg1, ht1, hv1, hd1, _, _⟩, _, _⟩ := h
  obtain rfl := Option.some.inj (gLetters.symm.trans hg1)
  obtain rfl := Option.some.inj (tLetters.symm.trans ht1)
  rw [letters_is] at hd1
  have n1 := bytes_of [114, 119, 108, 97] rfl Tryd.underlying46 hd1
  intro j hj
  rw [World.var?_cell hg1 hv1 j]; simpa [letterZ] using n1 j hj
/-- The door's own heap meets the condition. -/
theorem door_metL (os : Os) (args : Array Value) : laidMetH Tryd.prog laidRL ((World.doorLaid Tryd.prog 400 os).forCall (fun _ _ => 0) ⟨#[], args, []⟩).memory :=
  laidMetH_of_parts3 (fuel := 8) (laidMet_of_run' 8 (by kernel_rfl) (by kernel_rfl)) (by kernel_rfl) (by kernel_rfl)
end Go.Proofs.YtpnjojkjepblaaaDoor
