/- Numbers as bytes: the program's numbers, the document's Number. -/
import Derived.Test.YtkaojhcmdichfaaDoorAuM
namespace Go.Proofs.YtkaojhcmdichfaaDoor
open Go.ChangeShapes Go.WideShapes Go.ChangeAt Go.RowKit
set_option linter.unusedVariables false
open Plain Au
/-- A row of bytes that has just been made is the call's own. -/
theorem own_made (w : World) (zs : List Int) (n : Nat) (hn : zs.length = n) (hm : n ≤ maxLen) : (w.alloc (.cells (vals zs).toArray 5)).ownsRow w.heap.size 5 1 (.slice (some ⟨w.heap.size, 0, none⟩) n n) n (vals zs) := by
  subst hn
  exact World.ownsRow_lit w (vals zs).toArray zs.length (Nat.le_refl _) hm (by rw [List.size_toArray, vals_len]; omega)
theorem vals_setN (l : List Int) (k : Nat) (x : Int) : (vals l).toArray.setIfInBounds k (.int .u8 x) = (vals (l.set k x)).toArray := by simp [vals, List.map_set]
theorem div_stepN (x : Int) (j : Nat) : x / 256 ^ j / 256 = x / 256 ^ (j + 1) := by
  rw [Int.ediv_ediv_of_nonneg (Int.le_of_lt (Int.pow_pos (by omega))), Int.pow_succ]
set_option maxRecDepth 100000 in
set_option maxHeartbeats 2000000 in
theorem refnumber_any (a : Int) (w : World) : Calls Tryd.prog 21 #[.int .i64 a] w (Made w (numB a)) := by
  obtain ⟨x, hx⟩ : ∃ x, IntKind.u64.wrap a = x := ⟨_, rfl⟩
  have hxe : x = a % 18446744073709551616 := by rw [← hx]; exact IntKind.wrap_u64 a
  have hx0 : 0 ≤ x := by omega
  have hx1 : x < 18446744073709551616 := by omega
  have HXE : Hid (putZ x 8 = numB a) := Lib.hid (by unfold numB; rw [hxe])
  have HX := Lib.hid hx
  have hmk : ∀ w : World, (Instr.makeSlice 45 (.int .i64 8) (.int .i64 8)).run Tryd.prog w = .ok (.slice (some ⟨w.heap.size, 0, none⟩) 8 8) (w.alloc (.cells (madeCells #[.int .u8 0] 8) 5)) := make_u8 8 (by omega)
  rw [madeCells_vals] at hmk
  generalize hZ : List.replicate 8 (0 : Int) = Z0 at hmk
  have HZ0 : Hid (Z0.length = 8) := Lib.hid (by rw [← hZ]; rfl)
  clear hZ hxe hx
  go_enter Tryd.func21, Tryd.ntmps21
  go_upto_region 4 with fail
  simp only [HX.out]
  clear hmk
  go_loopw [4, 5] (fun u i wr => ∃ j : Nat, j ≤ 8 ∧ i = .int .i64 (7 - (j : Int)) ∧ ∃ v : Int, 0 ≤ v ∧ v < 18446744073709551616 ∧ u = .int .u64 v ∧ Hid (x / 256 ^ j = v) ∧ ∃ cs : List Int, Hid (cs.length = 8) ∧ Hid (∀ t, t < 8 → 8 ≤ t + j → cs.getD t 0 = (putZ x 8).getD t 0) ∧ wr = w.alloc (.cells (vals cs).toArray 5)) (fun _ i _ => (intOf i + 1).toNat)
  case atStart => exact ⟨0, by omega, rfl, x, hx0, hx1, rfl, Lib.hid (by simp), Z0, HZ0, Lib.hid (fun t ht hj => by omega), rfl⟩
  case round =>
    obtain ⟨j, hj, rfl, v, hv0, hv1, rfl, HV, cs, HC, HT, rfl⟩ := hrel
    by_cases hlt : j < 8
    · have hI : 0 ≤ 7 - (j : Int) := by omega
      obtain ⟨k, hk⟩ : ∃ k : Nat, k = 7 - j := ⟨_, rfl⟩
      have hkI : 7 - (j : Int) = (k : Int) := by omega
      have hk8 : k < 8 := by omega
      obtain ⟨u3, hu3⟩ : ∃ u3, (vals cs)[k]? = some u3 := ⟨_, List.getElem?_eq_getElem (by rw [vals_len, HC.out]; exact hk8)⟩
      have HS := Lib.hid (vals_setN cs k (v % 256))
      simp only [List.setIfInBounds_toArray] at HS
      have hm0 : 0 ≤ v % 256 := by omega
      have hm1 : v % 256 < 256 := by omega
      have HN : Hid (∀ t, t < 8 → 8 ≤ t + (j + 1) → (cs.set k (v % 256)).getD t 0 = (putZ x 8).getD t 0) := Lib.hid (fun t ht htj => by
        rw [getD_set _ _ _ _ (by rw [HC.out]; exact hk8)]
        split
        · rw [putZ_at x 8 t ht, ← HV.out, show 8 - 1 - t = j by omega]
        · exact HT.out t ht (by omega))
      have HK := Lib.hid hk
      rw [hkI]
      clear hk
      go_wp2
      go_roundw
      case rel => exact ⟨j + 1, by omega, by have := HK.out; go_num, v / 256, by omega, by omega, rfl, Lib.hid (by rw [← HV.out, div_stepN]), cs.set k (v % 256), Lib.hid (by rw [List.length_set]; exact HC.out), HN, by rw [← HS.out]⟩
      case measure => have := HK.out; simp [intOf]
    · have hj8 : j = 8 := by omega
      have HE : Hid (cs = numB a) := Lib.hid (by
        rw [← HXE.out]
        exact list_ext_getD (by rw [HC.out, putZ_len]) (fun t ht => HT.out t (by rw [HC.out] at ht; exact ht) (by omega)))
      subst hj8
      go_wp2
      go_ret
      rw [← HE.out]
      refine made_of (n := 8) HC.out ?_ ((Below.refl _ _).alloc (Nat.le_refl _) _)
      exact own_made w cs 8 HC.out (by unfold maxLen; omega)
/-- The empty row of bytes that a call makes. -/
theorem own_nil8 (w : World) (base : Nat) (hb : base ≤ w.heap.size) : (w.alloc (.cells #[] 5)).ownsRow base 5 1 (.slice (some ⟨w.heap.size, 0, none⟩) 0 0) 0 (vals []) :=
  World.ownsRow_lit w #[] 0 hb (by simp [maxLen]) rfl
/-- Rows of numbers. -/
def iva (xs : List Int) : List Value := xs.map (Value.int .i64)
theorem in_getDA {xs : List Int} (h : ∀ x ∈ xs, InA x) (j : Nat) (hj : j < xs.length) : InA (xs.getD j 0) := by
  rw [List.getD_eq_getElem?_getD, List.getElem?_eq_getElem hj]
  exact h _ (List.getElem_mem ..)
theorem ns_newA (w : World) (xs : List Int) (n : Nat) (hn : xs.length = n) (h : ∀ x ∈ xs, InA x) (t : TypeId) (g : Nat) (hg : w.heap.size = g) : Ns (w.alloc (.cells (iva xs).toArray t)) (g + 1) (some ⟨g, 0, none⟩) n xs := by
  subst hg hn
  refine ⟨rfl, fun j hj => in_getDA h j hj, fun hn => ⟨w.heap.size, 0, rfl, by omega, fun j hj => ?_⟩⟩
  rw [cell_of_row _ _ _ _ _ _ (heap_alloc_new w _), Nat.zero_add, List.getElem?_toArray]
  simp [iva, List.getElem?_map, List.getElem?_eq_getElem hj, List.getD_eq_getElem?_getD]
theorem nums_in {g : LinkZ} (h : LOk g) : ∀ x ∈ nums g, InA x := by
  intro x hx
  simp only [nums, List.mem_cons, List.not_mem_nil, or_false] at hx
  rcases hx with rfl | rfl | rfl | rfl | rfl | rfl | rfl
  · exact h.n
  · exact h.st
  · have := h.op; unfold InA; omega
  · exact h.tn
  · exact h.a
  · exact h.b
  · exact h.c
set_option maxRecDepth 100000 in
set_option maxHeartbeats 1000000 in
theorem numbers_any {w : World} {B : Nat} {A : Option Addr} {n : Nat} (c : Nat) {xs : List Int} (h : Ns w B A n xs) (hB : B ≤ w.heap.size) (hn : n ≤ 1000) :
    Calls Tryd.prog 20 #[.slice A n c] w (Made w (numsB xs)) := by
  have HN := Lib.hid h
  have L := Lib.hid h.len
  have own0 := World.ownsRow_nil w w.heap.size 5 1
  clear h
  go_enter Tryd.func20, Tryd.ntmps20
  go_wp2
  go_loopw [3, 8] (fun v i wr => ∃ k : Nat, k ≤ n ∧ i = .int .i64 k ∧ wr.ownsRow w.heap.size 5 1 v (8 * k) (vals (numsB (xs.take k))) ∧ Below w.heap.size w wr) (fun _ i _ => n - (intOf i).toNat)
  case atStart => exact ⟨0, by omega, rfl, by simpa [numsB, vals] using own0, Below.refl _ _⟩
  case round =>
    obtain ⟨k, hk, rfl, hown, hbel⟩ := hrel
    by_cases hlt : k < n
    · obtain ⟨b1, o1, u1, rfl, hb1, HU1, hu1, hu1', hc1⟩ := (HN.out.below hbel hB).at_ (k := k) hlt
      have hlI : (k : Int) < n := by omega
      have HT : Hid (vals (numsB (xs.take (k + 1))) = vals (numsB (xs.take k)) ++ vals (numB u1)) := Lib.hid (by rw [take_snoc_getD _ _ (by rw [L.out]; exact hlt), numsB_snoc, vals_app, HU1.out])
      have OW := Lib.hid hown
      clear hown
      go_wp2_with fail
      refine (put64_any (u1 % 18446744073709551616) (by omega) (by omega) _).mono ?_
      intro e w3 hm3
      obtain ⟨D3, c3, rfl, ho3, hb3, _, _⟩ := hm3.n (n := 8) (putZ_len ..)
      have z3 := Lib.hid (Made.bs ho3 (putZ_bytes _ _))
      have own3 := Lib.hid (own_below OW.out hb3 (Nat.le_refl _))
      have q3 : Below w.heap.size w w3 := hbel.trans (hb3.mono hbel.size)
      have s3 := q3.size
      clear hm3 ho3 hb3 OW
      go_wp2_with (at_builtin; refine wpList_app _ rfl (.tmp 12) (.tmp 15) 45 rfl w.heap.size 5 1 1 Tryd.underlying45 u8_info (by omega) u3 (8 * k) (vals (numsB (xs.take k))) rfl own3.out D3 8 c3 (vals (numB u1)) rfl z3.out.lies.1 z3.out.lies.2 (vals_one _) (by unfold maxLen; omega) (by omega) s3 ?_; intro v4 w4 ho4 hg4)
      have q4 : Below w.heap.size w w4 := q3.grown hg4 s3 (fun j hj => (own3.out.lt j hj).1)
      have own4 : w4.ownsRow w.heap.size 5 1 v4 (8 * (k + 1)) (vals (numsB (xs.take (k + 1)))) := by rw [HT.out]; exact ho4
      clear ho4 hg4
      go_roundw
      case rel => exact ⟨k + 1, by omega, by go_num, own4, q4⟩
      case measure => simp [intOf]; omega
    · have hkn : k = n := by omega
      have HM : Made w (numsB xs) (.returned u3) wr := made_of (n := 8 * k) (by rw [numsB_len, L.out, hkn]) (by rw [hkn, List.take_of_length_le (by rw [L.out]; omega)] at hown; rw [hkn]; exact hown) hbel
      have HM' := Lib.hid HM
      clear HM hkn hown
      go_wp2
      go_ret
      exact HM'.out
end Go.Proofs.YtkaojhcmdichfaaDoor
