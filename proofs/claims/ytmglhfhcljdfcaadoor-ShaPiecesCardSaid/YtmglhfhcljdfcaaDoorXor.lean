/- The exclusive or of two lists: what the program's and the document's return. -/
import Derived.Test.YtmglhfhcljdfcaaDoorApp
import Derived.Deep.OwnRows
import Derived.Lib.MinMax
namespace Go.Proofs.YtmglhfhcljdfcaaDoor
open Go.ChangeShapes Go.WideShapes Go.ChangeAt Go.RowKit
set_option linter.unusedVariables false
theorem u8_row : (Tryd.prog.info? 5).map (fun i => (i.zero, i.size, i.bytes)) = some (some (.int .u8 0), 1, 1) := by kernel_rfl
theorem make_u8 (n : Nat) (hn : n ≤ 140737488355328) (w : World) : (Instr.makeSlice 22 (.int .i64 (n : Int)) (.int .i64 (n : Int))).run Tryd.prog w = .ok (.slice (some ⟨w.heap.size, 0, none⟩) n n) (w.alloc (.cells (madeCells #[.int .u8 0] n) 5)) :=
  run_make_row' (P := Tryd.prog) 22 5 (.int .u8 0) 1 Tryd.underlying22 u8_row rfl .i64 .i64 n (by omega) (by omega) w
def xorZ (a b : List Int) : List Int := List.zipWith (fun x y => bits .xor .u8 x y) a b
theorem xorZ_len (a b : List Int) : (xorZ a b).length = min a.length b.length := by simp [xorZ]
theorem xorZ_at (a b : List Int) (j : Nat) (h1 : j < a.length) (h2 : j < b.length) : (xorZ a b).getD j 0 = bits .xor .u8 (a.getD j 0) (b.getD j 0) := by
  simp [xorZ, List.getD_eq_getElem?_getD, List.getElem?_zipWith, List.getElem?_eq_getElem h1, List.getElem?_eq_getElem h2]
theorem xor_u8_range (x y : Int) (h1 : 0 ≤ x) (h2 : x < 256) (h3 : 0 ≤ y) (h4 : y < 256) : 0 ≤ bits .xor .u8 x y ∧ bits .xor .u8 x y < 256 := by
  rw [u8_xor x y h1 h2 h3 h4]
  have := Nat.xor_lt_two_pow (x := x.toNat) (y := y.toNat) (n := 8) (by omega) (by omega)
  omega
theorem xorZ_bytes {a b : List Int} (ha : IsBytes a) (hb : IsBytes b) : IsBytes (xorZ a b) := by
  intro j hj
  rw [xorZ_len] at hj
  rw [xorZ_at a b j (by omega) (by omega)]
  have h1 := ha j (by omega)
  have h2 := hb j (by omega)
  exact xor_u8_range _ _ h1.1 h1.2 h2.1 h2.2
theorem list_ext_getD {a b : List Int} (hl : a.length = b.length) (h : ∀ j, j < a.length → a.getD j 0 = b.getD j 0) : a = b := by
  apply List.ext_getElem hl
  intro j h1 h2
  have := h j h1
  simpa [List.getD_eq_getElem?_getD, List.getElem?_eq_getElem h1, List.getElem?_eq_getElem h2] using this
theorem getD_set (l : List Int) (k j : Nat) (x : Int) (hk : k < l.length) : (l.set k x).getD j 0 = if k = j then x else l.getD j 0 := by
  simp only [List.getD_eq_getElem?_getD, List.getElem?_set]
  split
  · simp
  · rfl
theorem vals_set (l : List Int) (k : Nat) (x : Int) : (vals l).toArray.setIfInBounds k (.int .u8 x) = (vals (l.set k x)).toArray := by
  simp [vals, List.map_set]
theorem madeCells_vals (n : Nat) : madeCells #[Value.int .u8 0] n = (vals (List.replicate n 0)).toArray := by
  unfold madeCells vals
  apply Array.ext
  · simp
  · intro i h1 h2
    simp [Nat.mod_one]
theorem xor_any {B1 B2 : Nat} {A1 A2 : Option Addr} {n1 n2 : Nat} (c1 c2 : Nat) {zs1 zs2 : List Int} {w : World} (h1 : Bs w B1 A1 n1 zs1) (h2 : Bs w B2 A2 n2 zs2) (hB1 : B1 ≤ w.heap.size) (hB2 : B2 ≤ w.heap.size) (hn : n1 ≤ 140737488355328) (hn : n2 ≤ 140737488355328) :
    Calls Tryd.prog 53 #[.slice A1 n1 c1, .slice A2 n2 c2] w (Made w (xorZ zs1 zs2)) := by
  obtain ⟨N, hN⟩ : ∃ N, N = min n1 n2 := ⟨_, rfl⟩
  have e : min (n1 : Int) (n2 : Int) = (N : Int) := by omega
  have hmk := make_u8 N (by omega)
  rw [madeCells_vals] at hmk
  have HN := Lib.hid hN
  have hN1 : N ≤ n1 := by omega
  have hN2 : N ≤ n2 := by omega
  have L1 := Lib.hid h1.len
  have L2 := Lib.hid h2.len
  clear hN
  go_enter Tryd.func53, Tryd.ntmps53
  go_wp2
  clear hmk e
  go_loopw [15] (fun i wr => ∃ k m : Nat, k ≤ N ∧ i = .int .i64 k ∧ ∃ cs : List Int, Hid (cs.length = N) ∧ Hid (∀ j, j < k → cs.getD j 0 = (xorZ zs1 zs2).getD j 0) ∧ wr = (w.alloc (.cells (vals cs).toArray 5)).drewN m) (fun i _ => N - (intOf i).toNat)
  case atStart => exact ⟨0, 0, by omega, rfl, _, Lib.hid (List.length_replicate ..), Lib.hid (fun j hj => absurd hj (by omega)), rfl⟩
  case round =>
    obtain ⟨k, m, hk, rfl, cs, HC, HX, rfl⟩ := hrel
    by_cases hlt : k < N
    · obtain ⟨b1, o1, u1, rfl, hb1, HU1, hu1, hu1', hc1⟩ := h1.at_ (k := k) (by omega)
      obtain ⟨b2, o2, u2, rfl, hb2, HU2, hu2, hu2', hc2⟩ := h2.at_ (k := k) (by omega)
      have hb1' : b1 < w.heap.size := by omega
      have hb2' : b2 < w.heap.size := by omega
      obtain ⟨u3, hu3⟩ : ∃ u3, (vals cs)[k]? = some u3 := ⟨_, List.getElem?_eq_getElem (by rw [vals_len, HC.out]; exact hlt)⟩
      have HV := Lib.hid (vals_set cs k (bits .xor .u8 u1 u2))
      have HZ : Hid (∀ j, j < k + 1 → (cs.set k (bits .xor .u8 u1 u2)).getD j 0 = (xorZ zs1 zs2).getD j 0) := Lib.hid (fun j hj => by
        rw [getD_set _ _ _ _ (by rw [HC.out]; exact hlt)]
        split
        · next h => subst h; rw [xorZ_at _ _ _ (by rw [L1.out]; omega) (by rw [L2.out]; omega), HU1.out, HU2.out]
        · exact HX.out j (by omega))
      go_wp2
      go_region
      go_wp2
      go_roundw
      case rel => exact ⟨k + 1, m + 1, by omega, by go_num, _, Lib.hid (by rw [List.length_set]; exact HC.out), HZ, by rw [← HV.out]; exact congrArg (fun x => World.drewN x (m + 1)) (World.setCell_alloc_at _ _ _ _ _ rfl)⟩
      case measure => simp [intOf]; omega
    · have hkn : k = N := by omega
      have HE : Hid (cs = xorZ zs1 zs2) := Lib.hid (list_ext_getD (by rw [xorZ_len, L1.out, L2.out, HC.out]; exact HN.out) (fun j hj => HX.out j (by rw [HC.out] at hj; omega)))
      clear hkn
      go_wp2
      go_ret
      refine made_of (n := N) (by rw [← HE.out]; exact HC.out) ?_ (below_drewN ((Below.refl _ _).alloc (Nat.le_refl _) _) _)
      rw [← HE.out]
      have := World.ownsRow_lit (base := w.heap.size) (e := 5) (size := 1) w (vals cs).toArray N (Nat.le_refl _) (by unfold maxLen; omega) (by simp [vals_len, HC.out])
      exact this
theorem take_snoc_getD (l : List Int) (k : Nat) (h : k < l.length) : l.take (k + 1) = l.take k ++ [l.getD k 0] := by
  rw [List.take_succ_eq_append_getElem h]
  simp [List.getD_eq_getElem?_getD, List.getElem?_eq_getElem h]
end Go.Proofs.YtmglhfhcljdfcaaDoor
