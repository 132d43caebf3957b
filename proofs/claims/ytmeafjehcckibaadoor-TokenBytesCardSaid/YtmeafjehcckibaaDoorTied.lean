/- What the row's condition on the listed variables gives the walks; that the door's own heap meets it. -/
import Derived.Test.YtmeafjehcckibaaDoorB3
import Derived.Test.YtmeafjehcckibaaDoorTie
import Derived.LaidMore
import Derived.OpenShut
import Derived.ProofKit
import Derived.Stop.Joined
namespace Go.Proofs.YtmeafjehcckibaaDoor
open Go.ChangeShapes Go.WideShapes Go.ChangeAt Go.WideMaps Go.WideElems Go.RowKit
set_option linter.unusedVariables false
open Sha
def laidFK : List (String × DataW Unit) := [("seneschal/sha.first", Rows.laid_seneschal_sha_first), ("seneschal/sha.constants", Rows.laid_seneschal_sha_constants)]
def laidK1 : List (String × DataW Unit) := [("seneschal/sha.constants", Rows.laid_seneschal_sha_constants)]
theorem gFirst : Tryd.prog.globalNamed "seneschal/sha.first" = some 0 := by kernel_rfl
theorem gConst : Tryd.prog.globalNamed "seneschal/sha.constants" = some 2 := by kernel_rfl
theorem tFirst : (Tryd.prog.globals[0]?).map (·.type) = some 92 := by kernel_rfl
theorem tConst : (Tryd.prog.globals[2]?).map (·.type) = some 111 := by kernel_rfl
def numsD (l : List Nat) : DataW Unit := .agg (l.map fun (x : Nat) => .lit (.int .u32 (x : Int)))
theorem first_is : (Rows.laid_seneschal_sha_first : DataW Unit) = numsD h0.list := by rfl
theorem const_is : (Rows.laid_seneschal_sha_constants : DataW Unit) = numsD kTab := by rfl
/-- An array of numbers that reads as the list has those numbers in its cells. -/
theorem nums_of {W : World} {enc : TypeId × Value → Unit} {base : Nat} {sp : Nat → Bool} {held : Bool} {t : TypeId} {n f : Nat} {cs : List Value} {q : List MemPlace} (l : List Nat) (hl : l.length = n) (ht : Tryd.prog.underlying t = some (.array n 91)) (hd : DataW.trod enc Tryd.prog W base sp held f t cs = some (numsD l, q)) :
    ∀ j, j < n → cs[j]? = some (.int .u32 ((l.getD j 0 : Nat) : Int)) := by
  obtain ⟨xs, m1, rfl, hx1, hlen, hn3, hel⟩ := DataW.trod_array ht hd
  have c3 : Tryd.prog.cellsOf 91 = 1 := by kernel_rfl
  simp only [Prod.mk.injEq, numsD, DataW.agg.injEq] at hx1
  intro j hj
  have h0 := hel j hj
  rw [c3] at h0
  have hxj : xs[j]? = some xs[j] := List.getElem?_eq_getElem (by omega)
  rw [hxj] at h0
  obtain ⟨k, e1, e2, _⟩ := DataW.trod_int Tryd.underlying91 h0
  have e3 : (l.map fun (x : Nat) => (DataW.lit (.int .u32 (x : Int)) : DataW Unit))[j]? = (xs.map (·.1))[j]? := by rw [hx1.1]
  rw [List.getElem?_map, List.getElem?_map, hxj, List.getElem?_eq_getElem (show j < l.length by omega)] at e3
  simp [e2] at e3
  have h4 : (cs.drop (j * 1)).take 1 = [.int .u32 k] := e1
  have h5 : cs[j]? = some (.int .u32 k) := by
    have := congrArg (·[0]?) h4
    simpa [List.getElem?_take, List.getElem?_drop] using this
  rw [h5, ← e3]
  simp [List.getD_eq_getElem?_getD, List.getElem?_eq_getElem (show j < l.length by omega)]
theorem both_of_laid {W : World} (h : laidMetH Tryd.prog laidFK W) : LaidF W ∧ LaidK W := by
  rw [MakeChecks.laidMetH_plain _ _ _ (by kernel_rfl)] at h
  obtain ⟨ps, ⟨g0, t0, cs0, f0, p0, q0, hg0, ht0, hv0, hd0, ⟨g1, t1, cs1, f1, p1, q1, hg1, ht1, hv1, hd1, _, _⟩, _⟩, _, _⟩ := h
  obtain rfl := Option.some.inj (gFirst.symm.trans hg0)
  obtain rfl := Option.some.inj (gConst.symm.trans hg1)
  obtain rfl := Option.some.inj (tFirst.symm.trans ht0)
  obtain rfl := Option.some.inj (tConst.symm.trans ht1)
  rw [first_is] at hd0
  rw [const_is] at hd1
  have n0 := nums_of h0.list rfl Tryd.underlying92 hd0
  have n1 := nums_of kTab rfl Tryd.underlying111 hd1
  refine ⟨fun j hj => ?_, fun j hj => ?_⟩
  · rw [World.var?_cell hg0 hv0 j]; simpa using n0 j hj
  · rw [World.var?_cell hg1 hv1 j]; simpa using n1 j hj
theorem k_of_laid {W : World} (h : laidMetH Tryd.prog laidK1 W) : LaidK W := by
  rw [MakeChecks.laidMetH_plain _ _ _ (by kernel_rfl)] at h
  obtain ⟨ps, ⟨g1, t1, cs1, f1, p1, q1, hg1, ht1, hv1, hd1, _, _⟩, _, _⟩ := h
  obtain rfl := Option.some.inj (gConst.symm.trans hg1)
  obtain rfl := Option.some.inj (tConst.symm.trans ht1)
  rw [const_is] at hd1
  have n1 := nums_of kTab rfl Tryd.underlying111 hd1
  intro j hj
  rw [World.var?_cell hg1 hv1 j]; simpa using n1 j hj
/-- The door's own heap meets the condition. -/
theorem door_met (os : Os) (args : Array Value) : laidMetH Tryd.prog laidFK ((World.doorLaid Tryd.prog 400 os).forCall (fun _ _ => 0) ⟨#[], args, []⟩).memory :=
  laidMetH_of_parts3 (fuel := 8) (laidMet_of_run' 8 (by kernel_rfl) (by kernel_rfl)) (by kernel_rfl) (by kernel_rfl)
theorem door_metK (os : Os) (args : Array Value) : laidMetH Tryd.prog laidK1 ((World.doorLaid Tryd.prog 400 os).forCall (fun _ _ => 0) ⟨#[], args, []⟩).memory :=
  laidMetH_of_parts3 (fuel := 8) (laidMet_of_run' 8 (by kernel_rfl) (by kernel_rfl)) (by kernel_rfl) (by kernel_rfl)
end Go.Proofs.YtmeafjehcckibaaDoor
