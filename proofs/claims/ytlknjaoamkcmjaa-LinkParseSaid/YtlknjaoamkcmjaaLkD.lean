/- Right, Seal, Print: the program's. -/
import Derived.Test.YtlknjaoamkcmjaaLkC
namespace Go.Proofs.Ytlknjaoamkcmjaa
open Go.ChangeShapes Go.WideShapes Go.ChangeAt Go.RowKit
set_option linter.unusedVariables false
set_option maxRecDepth 100000
set_option linter.unusedSimpArgs false
open Plain Sha Wn Lk
/-- A new packet's cells. -/
def zPc : Array Value := (pc px0).toArray
theorem px0_tl : px0.z.tag.length = 32 := rfl
theorem zPc_size : zPc.size = 38 := by unfold zPc; rw [List.size_toArray, pc_len px0_tl]
theorem zPc_ne : ¬ zPc = #[] := fun h => by have := zPc_size; rw [h] at this; simp at this
theorem zPk (w : World) : (zeroValue 26).run Try.prog w = .ok (.agg zPc) w := by
  obtain ⟨i, hi, hz, hs, hb⟩ := info_parts (show (Try.prog.info? 26).map (fun i => (i.zero, i.size, i.bytes)) = some (some (.agg (pc px0).toArray), 38, 96) by kernel_rfl)
  simp [zeroValue, run_typeInfo w hi, hz, zPc]
theorem zbox_new (w : World) (y : TypeId) (g : Nat) (hg : w.heap.size = g) : VBox (w.alloc (.cells zPc y)) g 38 (pc px0) := vbox_new _ _ _ _ _ hg (pc_len px0_tl) (by omega)
theorem bs_drew {w : World} {B n : Nat} {A : Option Addr} {zs : List Int} (h : Bs w B A n zs) : Bs w.drew B A n zs := h.drew
theorem below_drewB {B : Nat} {a w : World} (h : Below B a w) : Below B a w.drew := h.drew
/-- What Right tells. -/
def RightT (w : World) (q : Bool) (e : Ending) (w' : World) : Prop := e = .returned (.bool q) ∧ Below w.heap.size w w'
/-- What Seal tells: the packet with its right tag, its body in new memory. -/
def SealT (w : World) (z : PkZ) (e : Ending) (w' : World) : Prop := ∃ x : PX, e = .returned (.agg (pc x).toArray) ∧ x.z = z ∧ PXOk w' w'.heap.size x ∧ w'.ownsRow w.heap.size 5 1 (.slice x.A x.n x.c) x.n (vals x.z.body) ∧ Below w.heap.size w w'
theorem pc_tag (x : PX) (T : List Int) (hx : x.z.tag.length = 32) (hT : T.length = 32) : (pc x).take 6 ++ vals T = pc { x with z := { x.z with tag := T } } := by
  unfold pc pnum
  rfl
theorem set_tagL (x : PX) (T : List Int) (hx : x.z.tag.length = 32) (hT : T.length = 32) {w w' : World} {g : Nat} (h : VBox w g 38 (pc x)) (hw : Hid (w' = w.setCells g 6 (vals T).toArray.toList)) : VBox w' g 38 (pc { x with z := { x.z with tag := T } }) := by
  refine ⟨fun j v hv => ?_, by rw [hw.out]; exact World.there_setCells h.there _ _ _, pc_len hT, by omega⟩
  have th : w.there g 6 (vals T).length := h.thereI (by rw [vals_len, hT]; omega)
  have r6 : w'.rangeAt g 6 (vals T) := by rw [hw.out]; exact World.rangeAt_setCells_same _ _ _ _ th
  rw [Nat.zero_add]
  by_cases hj : j < 6
  · have e : (pc { x with z := { x.z with tag := T } })[j]? = (pc x)[j]? := by
      have : j = 0 ∨ j = 1 ∨ j = 2 ∨ j = 3 ∨ j = 4 ∨ j = 5 := by omega
      rcases this with rfl | rfl | rfl | rfl | rfl | rfl <;> rfl
    rw [e] at hv
    have := h.range j v hv
    rw [Nat.zero_add] at this
    rw [hw.out]
    rw [show (vals T).toArray.toList = vals T from rfl, World.cell?_setCells_out g (vals T) 6 w ⟨g, j, none⟩ (fun _ _ => .inl hj)]
    exact this
  · have e : (pc { x with z := { x.z with tag := T } })[j]? = (vals T)[j - 6]? := by
      rw [show pc { x with z := { x.z with tag := T } } = (pnum x.z ++ [.slice x.A x.n x.c]) ++ vals T from by simp [pc, pnum]]
      rw [List.getElem?_append_right (by simp [pnum]; omega)]
      rfl
    rw [e] at hv
    have := r6 (j - 6) v hv
    rwa [show 6 + (j - 6) = j by omega] at this
theorem set_body (x : PX) (A : Option Addr) (n c : Nat) : (pc x).set 5 (.slice A n c) = pc { x with A := A, n := n, c := c } := rfl
/-- What Print tells. -/
def PrintT (w : World) (zs : List Int) (er : Int) (e : Ending) (w' : World) : Prop := ∃ u, e = .returned (.tuple #[u, .int .i64 er]) ∧ IsList u w' w.heap.size zs ∧ Below w.heap.size w w'
theorem isList_none (w : World) (b : Nat) : IsList (.slice none 0 0) w b [] := ⟨none, 0, rfl, World.ownsRow_nil _ _ _ _, Nat.le_refl _, by simp [maxLen]⟩
end Go.Proofs.Ytlknjaoamkcmjaa
