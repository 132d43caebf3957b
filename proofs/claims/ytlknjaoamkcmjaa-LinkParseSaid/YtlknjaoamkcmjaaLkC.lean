/- A packet's head, its right tag, sealed, its bytes: the program's. -/
import Derived.Test.YtlknjaoamkcmjaaLkB
namespace Go.Proofs.Ytlknjaoamkcmjaa
open Go.ChangeShapes Go.WideShapes Go.ChangeAt Go.RowKit
set_option linter.unusedVariables false
set_option maxRecDepth 100000
set_option linter.unusedSimpArgs false
open Plain Sha Wn Lk
/-- What a head's writer holds at last. -/
theorem st_head (p : PkZ) (h : p.body.length ≤ 65000) : wPut (wPut (wPut (wPut (wPut (wPut (some []) (n64 p.fr)) (n64 p.tw)) (n64 p.ep)) (n64 p.bo)) (n64 p.sq)) (bytesF p.body) = some (headF p) := by
  have hl := headF_len p
  unfold headF at hl ⊢
  simp only [List.length_append] at hl
  rw [wPut_yes [] (n64 p.fr) (by simp only [List.length_nil]; omega), List.nil_append]
  iterate 5 rw [wPut_yes _ _ (by (try simp only [List.length_append]); omega)]
/-- What head tells: a writer that holds it. -/
def HeadT (w : World) (zs : List Int) (e : Ending) (w' : World) : Prop := ∃ nb g, e = .returned (.pointer (some ⟨nb, 0, none⟩)) ∧ Wr w' nb g (some zs) ∧ Below w.heap.size w w' ∧ w.heap.size ≤ nb
theorem ns3 (w : World) (a b c : Int) (t : TypeId) (g : Nat) (hg : w.heap.size = g) (ha : InL a) (hb : InL b) (hc : InL c) : Ns (w.alloc (.cells #[.int .i64 a, .int .i64 b, .int .i64 c] t)) (g + 1) (some ⟨g, 0, none⟩) 3 [a, b, c] := by
  subst hg
  unfold InL at ha hb hc
  refine ⟨rfl, fun j hj => ?_, fun _ => ⟨w.heap.size, 0, rfl, by omega, fun j hj => ?_⟩⟩
  · have : j = 0 ∨ j = 1 ∨ j = 2 := by omega
    rcases this with rfl | rfl | rfl <;> assumption
  · rw [cell_of_row _ _ _ _ _ _ (heap_alloc_new w _), Nat.zero_add]
    have : j = 0 ∨ j = 1 ∨ j = 2 := by omega
    rcases this with rfl | rfl | rfl <;> rfl
/-- A new tag's cells. -/
def zTg : Array Value := (vals (List.replicate 32 0)).toArray
theorem zTg_size : zTg.size = 32 := by unfold zTg; rw [List.size_toArray, vals_len]; rfl
theorem zTg_ne : ¬ zTg = #[] := fun h => by have := zTg_size; rw [h] at this; simp at this
theorem zTk (w : World) : (zeroValue 24).run Try.prog w = .ok (.agg zTg) w := by
  obtain ⟨i, hi, hz, hs, hb⟩ := info_parts (show (Try.prog.info? 24).map (fun i => (i.zero, i.size, i.bytes)) = some (some (.agg (vals (List.replicate 32 0)).toArray), 32, 32) by kernel_rfl)
  simp [zeroValue, run_typeInfo w hi, hz, zTg]
/-- What tells a tag alone. -/
def TagT (w : World) (T : List Int) (e : Ending) (w' : World) : Prop := e = .returned (.agg (vals T).toArray) ∧ Below w.heap.size w w'
theorem z32_box (w : World) (g : Nat) (hg : w.heap.size = g) : VBox (w.alloc (.cells zTg 24)) g 32 (vals (List.replicate 32 0)) := vbox_new _ _ _ _ _ hg (by rw [vals_len]; rfl) (by omega)
end Go.Proofs.Ytlknjaoamkcmjaa
