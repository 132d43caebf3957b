/- The document's own numbers, and a grant's. -/
import Derived.Test.YtmeafjehcckibaaDoorTkN2
namespace Go.Proofs.YtmeafjehcckibaaDoor
open Go.ChangeShapes Go.WideShapes Go.ChangeAt Go.RowKit
set_option linter.unusedVariables false
open Plain
/-- A row of bytes that has just been made is the call's own. -/
theorem own_made (w : World) (zs : List Int) (n : Nat) (hn : zs.length = n) (hm : n ≤ maxLen) : (w.alloc (.cells (vals zs).toArray 5)).ownsRow w.heap.size 5 1 (.slice (some ⟨w.heap.size, 0, none⟩) n n) n (vals zs) := by
  subst hn
  exact World.ownsRow_lit w (vals zs).toArray zs.length (Nat.le_refl _) hm (by rw [List.size_toArray, vals_len]; omega)
theorem vals_setN (l : List Int) (k : Nat) (x : Int) : (vals l).toArray.setIfInBounds k (.int .u8 x) = (vals (l.set k x)).toArray := by simp [vals, List.map_set]
theorem div_stepN (x : Int) (j : Nat) : x / 256 ^ j / 256 = x / 256 ^ (j + 1) := by
  rw [Int.ediv_ediv_of_nonneg (Int.le_of_lt (Int.pow_pos (by omega))), Int.pow_succ]
set_option maxRecDepth 100000 in
set_option maxHeartbeats 2000000 in
theorem refnumber_any (a : Int) (w : World) : Calls Tryd.prog 14 #[.int .i64 a] w (Made w (numB a)) := by
  obtain ⟨x, hx⟩ : ∃ x, IntKind.u64.wrap a = x := ⟨_, rfl⟩
  have hxe : x = a % 18446744073709551616 := by rw [← hx]; exact IntKind.wrap_u64 a
  have hx0 : 0 ≤ x := by omega
  have hx1 : x < 18446744073709551616 := by omega
  have HXE : Hid (putZ x 8 = numB a) := Lib.hid (by unfold numB; rw [hxe])
  have HX := Lib.hid hx
  have hmk : ∀ w : World, (Instr.makeSlice 27 (.int .i64 8) (.int .i64 8)).run Tryd.prog w = .ok (.slice (some ⟨w.heap.size, 0, none⟩) 8 8) (w.alloc (.cells (madeCells #[.int .u8 0] 8) 5)) := make_u8 8 (by omega)
  rw [madeCells_vals] at hmk
  generalize hZ : List.replicate 8 (0 : Int) = Z0 at hmk
  have HZ0 : Hid (Z0.length = 8) := Lib.hid (by rw [← hZ]; rfl)
  clear hZ hxe hx
  go_enter Tryd.func14, Tryd.ntmps14
  go_upto_region 4 with fail
  simp only [HX.out]
  clear hmk
  go_loopw [4, 5] (fun u i wr => ∃ j : Nat, j ≤ 8 ∧ i = .int .i64 (7 - (j : Int)) ∧ ∃ v : Int, 0 ≤ v ∧ v < 18446744073709551616 ∧ u = .int .u64 v ∧ Hid (x / 256 ^ j = v) ∧ ∃ cs : List Int, Hid (cs.length = 8) ∧ Hid (∀ t, t < 8 → 8 ≤ t + j → cs.getD t 0 = (putZ x 8).getD t 0) ∧ wr = w.alloc (.cells (vals cs).toArray 5)) (fun _ i _ => (intOf i + 1).toNat)
  case atStart => exact ⟨0, by omega, rfl, x, hx0, hx1, rfl, Lib.hid (by simp), Z0, HZ0, Lib.hid (fun t ht hj => by omega), rfl⟩
  case round =>
    obtain ⟨j, hj, rfl, v, hv0, hv1, rfl, HV, cs, HC, HT, rfl⟩ := hrel
    by_cases hlt : j < 8
    · have hI : 0 ≤ 7 - (j : Int) := by omega
      obtain ⟨k, hk⟩ : ∃ k : Nat, k = 7 - j := ⟨_, rfl⟩
      have hkI : 7 - (j : Int) = (k : Int) := by omega
      have hk8 : k < 8 := by omega
      obtain ⟨u3, hu3⟩ : ∃ u3, (vals cs)[k]? = some u3 := ⟨_, List.getElem?_eq_getElem (by rw [vals_len, HC.out]; exact hk8)⟩
      have HS := Lib.hid (vals_setN cs k (v % 256))
      simp only [List.setIfInBounds_toArray] at HS
      have hm0 : 0 ≤ v % 256 := by omega
      have hm1 : v % 256 < 256 := by omega
      have HN : Hid (∀ t, t < 8 → 8 ≤ t + (j + 1) → (cs.set k (v % 256)).getD t 0 = (putZ x 8).getD t 0) := Lib.hid (fun t ht htj => by
        rw [getD_set _ _ _ _ (by rw [HC.out]; exact hk8)]
        split
        · rw [putZ_at x 8 t ht, ← HV.out, show 8 - 1 - t = j by omega]
        · exact HT.out t ht (by omega))
      have HK := Lib.hid hk
      rw [hkI]
      clear hk
      go_wp2
      go_roundw
      case rel => exact ⟨j + 1, by omega, by have := HK.out; go_num, v / 256, by omega, by omega, rfl, Lib.hid (by rw [← HV.out, div_stepN]), cs.set k (v % 256), Lib.hid (by rw [List.length_set]; exact HC.out), HN, by rw [← HS.out]⟩
      case measure => have := HK.out; simp [intOf]
    · have hj8 : j = 8 := by omega
      have HE : Hid (cs = numB a) := Lib.hid (by
        rw [← HXE.out]
        exact list_ext_getD (by rw [HC.out, putZ_len]) (fun t ht => HT.out t (by rw [HC.out] at ht; exact ht) (by omega)))
      subst hj8
      go_wp2
      go_ret
      rw [← HE.out]
      refine made_of (n := 8) HC.out ?_ ((Below.refl _ _).alloc (Nat.le_refl _) _)
      exact own_made w cs 8 HC.out (by unfold maxLen; omega)
/-- The empty row of bytes that a call makes. -/
theorem own_nil8 (w : World) (base : Nat) (hb : base ≤ w.heap.size) : (w.alloc (.cells #[] 5)).ownsRow base 5 1 (.slice (some ⟨w.heap.size, 0, none⟩) 0 0) 0 (vals []) :=
  World.ownsRow_lit w #[] 0 hb (by simp [maxLen]) rfl
set_option maxRecDepth 100000 in
set_option maxHeartbeats 2000000 in
theorem refgrant_any (g : GrantZ) (hg : GOk g) (w : World) : Calls Tryd.prog 15 #[.agg #[.int .u8 g.r, .int .i64 g.x, .int .i64 g.s]] w (Made w (numsB (gN g))) := by
  have h0 := hg.r
  obtain ⟨W1, hW1⟩ : ∃ W, W = w.alloc (.cells #[.int .u8 g.r, .int .i64 g.x, .int .i64 g.s] 44) := ⟨_, rfl⟩
  have b1 : Below w.heap.size w W1 := by rw [hW1]; exact (Below.refl _ _).alloc (Nat.le_refl _) _
  have s1 : w.heap.size < W1.heap.size := by rw [hW1]; simp
  have G1 : Hid (GCell W1 w.heap.size g) := Lib.hid (by rw [hW1]; exact gcell_new w g _ _ rfl)
  have HB1 := Lib.hid b1
  have HW1 := Lib.hid hW1
  have O1 : Hid ((W1.alloc (.cells #[] 5)).ownsRow W1.heap.size 5 1 (.slice (some ⟨W1.heap.size, 0, none⟩) 0 0) 0 (vals [])) := Lib.hid (own_nil8 W1 _ (Nat.le_refl _))
  have B2 : Hid (Below W1.heap.size W1 (W1.alloc (.cells #[] 5))) := Lib.hid ((Below.refl _ _).alloc (Nat.le_refl _) _)
  have L8 : ∀ x, (numB x).length = 8 := fun x => numB_len x
  clear b1 hW1 hg
  go_enter Tryd.func15, Tryd.ntmps15
  go_upto_region 1 with fail
  rw [← HW1.out]
  obtain ⟨d0, d1, d2⟩ := G1.out
  go_upto_region 2 with (first
    | (go_at_call 14; refine (refnumber_any g.r _).mono ?_; intro e w3 hm3; obtain ⟨D3, c3, rfl, ho3, hb3, _, _⟩ := hm3.n (L8 _); have O3 := Lib.hid (own_below O1.out hb3 (Nat.le_refl _)); have B3 := Lib.hid (B2.out.trans (hb3.mono B2.out.size)); have Z3 := Lib.hid (Made.bs ho3 (numB_bytes _)); clear hm3 ho3 hb3)
    | (at_builtin; refine wpList_app _ rfl (.tmp 4) (.tmp 8) 27 rfl W1.heap.size 5 1 1 Tryd.underlying27 u8_info (by omega) _ 0 (vals []) rfl O3.out D3 8 c3 (vals (numB g.r)) rfl Z3.out.lies.1 Z3.out.lies.2 (vals_one _) (by unfold maxLen; omega) (by omega) B3.out.size ?_; intro v4 w4 ho4 hg4; have B4 := Lib.hid (B3.out.grown hg4 B3.out.size (fun k hk => (O3.out.lt k hk).1)); have O4 := Lib.hid ho4; clear ho4 hg4))
  clear d0 d1 d2
  obtain ⟨d0, d1, d2⟩ := G1.out.below B4.out s1
  go_upto_region 3 with (first
    | (go_at_call 14; refine (refnumber_any g.x _).mono ?_; intro e w5 hm5; obtain ⟨D5, c5, rfl, ho5, hb5, _, _⟩ := hm5.n (L8 _); have O5 := Lib.hid (own_below O4.out hb5 (Nat.le_refl _)); have B5 := Lib.hid (B4.out.trans (hb5.mono B4.out.size)); have Z5 := Lib.hid (Made.bs ho5 (numB_bytes _)); clear hm5 ho5 hb5)
    | (at_builtin; refine wpList_app _ rfl (.tmp 10) (.tmp 13) 27 rfl W1.heap.size 5 1 1 Tryd.underlying27 u8_info (by omega) v4 (0 + 8) (vals [] ++ vals (numB g.r)) rfl O5.out D5 8 c5 (vals (numB g.x)) rfl Z5.out.lies.1 Z5.out.lies.2 (vals_one _) (by unfold maxLen; omega) (by omega) B5.out.size ?_; intro v6 w6 ho6 hg6; have B6 := Lib.hid (B5.out.grown hg6 B5.out.size (fun k hk => (O5.out.lt k hk).1)); have O6 := Lib.hid ho6; clear ho6 hg6))
  clear d0 d1 d2
  obtain ⟨d0, d1, d2⟩ := G1.out.below B6.out s1
  go_wp2_with (first
    | (go_at_call 14; refine (refnumber_any g.s _).mono ?_; intro e w7 hm7; obtain ⟨D7, c7, rfl, ho7, hb7, _, _⟩ := hm7.n (L8 _); have O7 := Lib.hid (own_below O6.out hb7 (Nat.le_refl _)); have B7 := Lib.hid (B6.out.trans (hb7.mono B6.out.size)); have Z7 := Lib.hid (Made.bs ho7 (numB_bytes _)); clear hm7 ho7 hb7)
    | (at_builtin; refine wpList_app _ rfl (.tmp 15) (.tmp 18) 27 rfl W1.heap.size 5 1 1 Tryd.underlying27 u8_info (by omega) v6 (0 + 8 + 8) (vals [] ++ vals (numB g.r) ++ vals (numB g.x)) rfl O7.out D7 8 c7 (vals (numB g.s)) rfl Z7.out.lies.1 Z7.out.lies.2 (vals_one _) (by unfold maxLen; omega) (by omega) B7.out.size ?_; intro v8 w8 ho8 hg8; have B8 := Lib.hid (B7.out.grown hg8 B7.out.size (fun k hk => (O7.out.lt k hk).1)); have O8 := Lib.hid ho8; clear ho8 hg8))
  go_ret
  refine made_of (n := 0 + 8 + 8 + 8) (gN_num g) ?_ (HB1.out.trans (B8.out.mono HB1.out.size))
  have e : vals (numsB (gN g)) = vals [] ++ vals (numB g.r) ++ vals (numB g.x) ++ vals (numB g.s) := by
    rw [← vals_app, ← vals_app, ← vals_app]
    simp [gN, numsB]
  rw [e]
  exact own_base O8.out HB1.out.size
end Go.Proofs.YtmeafjehcckibaaDoor
