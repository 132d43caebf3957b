/- The exclusive or of two lists: what the program's and the document's return. -/
import Derived.Test.YtpnjojkjepblaaaDoorApp
import Derived.Deep.OwnRows
import Derived.Lib.MinMax
namespace Go.Proofs.YtpnjojkjepblaaaDoor
open Go.ChangeShapes Go.WideShapes Go.ChangeAt Go.RowKit
set_option linter.unusedVariables false
theorem u8_row : (Tryd.prog.info? 5).map (fun i => (i.zero, i.size, i.bytes)) = some (some (.int .u8 0), 1, 1) := by kernel_rfl
theorem make_u8 (n : Nat) (hn : n ≤ 140737488355328) (w : World) : (Instr.makeSlice 45 (.int .i64 (n : Int)) (.int .i64 (n : Int))).run Tryd.prog w = .ok (.slice (some ⟨w.heap.size, 0, none⟩) n n) (w.alloc (.cells (madeCells #[.int .u8 0] n) 5)) :=
  run_make_row' (P := Tryd.prog) 45 5 (.int .u8 0) 1 Tryd.underlying45 u8_row rfl .i64 .i64 n (by omega) (by omega) w
def xorZ (a b : List Int) : List Int := List.zipWith (fun x y => bits .xor .u8 x y) a b
theorem xorZ_len (a b : List Int) : (xorZ a b).length = min a.length b.length := by simp [xorZ]
theorem xorZ_at (a b : List Int) (j : Nat) (h1 : j < a.length) (h2 : j < b.length) : (xorZ a b).getD j 0 = bits .xor .u8 (a.getD j 0) (b.getD j 0) := by
  simp [xorZ, List.getD_eq_getElem?_getD, List.getElem?_zipWith, List.getElem?_eq_getElem h1, List.getElem?_eq_getElem h2]
theorem xor_u8_range (x y : Int) (h1 : 0 ≤ x) (h2 : x < 256) (h3 : 0 ≤ y) (h4 : y < 256) : 0 ≤ bits .xor .u8 x y ∧ bits .xor .u8 x y < 256 := by
  rw [u8_xor x y h1 h2 h3 h4]
  have := Nat.xor_lt_two_pow (x := x.toNat) (y := y.toNat) (n := 8) (by omega) (by omega)
  omega
theorem xorZ_bytes {a b : List Int} (ha : IsBytes a) (hb : IsBytes b) : IsBytes (xorZ a b) := by
  intro j hj
  rw [xorZ_len] at hj
  rw [xorZ_at a b j (by omega) (by omega)]
  have h1 := ha j (by omega)
  have h2 := hb j (by omega)
  exact xor_u8_range _ _ h1.1 h1.2 h2.1 h2.2
theorem list_ext_getD {a b : List Int} (hl : a.length = b.length) (h : ∀ j, j < a.length → a.getD j 0 = b.getD j 0) : a = b := by
  apply List.ext_getElem hl
  intro j h1 h2
  have := h j h1
  simpa [List.getD_eq_getElem?_getD, List.getElem?_eq_getElem h1, List.getElem?_eq_getElem h2] using this
theorem getD_set (l : List Int) (k j : Nat) (x : Int) (hk : k < l.length) : (l.set k x).getD j 0 = if k = j then x else l.getD j 0 := by
  simp only [List.getD_eq_getElem?_getD, List.getElem?_set]
  split
  · simp
  · rfl
theorem vals_set (l : List Int) (k : Nat) (x : Int) : (vals l).toArray.setIfInBounds k (.int .u8 x) = (vals (l.set k x)).toArray := by
  simp [vals, List.map_set]
theorem madeCells_vals (n : Nat) : madeCells #[Value.int .u8 0] n = (vals (List.replicate n 0)).toArray := by
  unfold madeCells vals
  apply Array.ext
  · simp
  · intro i h1 h2
    simp [Nat.mod_one]
theorem take_snoc_getD (l : List Int) (k : Nat) (h : k < l.length) : l.take (k + 1) = l.take k ++ [l.getD k 0] := by
  rw [List.take_succ_eq_append_getElem h]
  simp [List.getD_eq_getElem?_getD, List.getElem?_eq_getElem h]
end Go.Proofs.YtpnjojkjepblaaaDoor
