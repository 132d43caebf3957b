/- One byte, sixty-four times: what bytes.Repeat returns. -/
import Derived.Test.YtmglhfhcljdfcaaDoorRow8
import Derived.Lib.MakeNoZero
import Derived.Lib.SlBuf
import Derived.Test.YtmglhfhcljdfcaaDoorCuts
namespace Go.Proofs.YtmglhfhcljdfcaaDoor
open Go.ChangeShapes Go.WideShapes Go.ChangeAt Go.RowKit
set_option linter.unusedVariables false
set_option maxRecDepth 100000 in
theorem mul64_any (w : World) : Calls Tryd.prog 64 #[.int .u64 1, .int .u64 64] w fun e w' => e = .returned (.tuple #[.int .u64 0, .int .u64 64]) ∧ w = w' := by
  go_enter Tryd.func64, Tryd.ntmps64
  go_wp2
  go_ret2
  exact ⟨rfl, rfl⟩
theorem mul_any (w : World) : Calls Tryd.prog 59 #[.int .u64 1, .int .u64 64] w fun e w' => e = .returned (.tuple #[.int .u64 0, .int .u64 64]) ∧ w = w' := by
  go_enter Tryd.func59, Tryd.ntmps59
  go_wp2_with fail
  refine (mul64_any w).mono ?_
  rintro e w1 ⟨rfl, rfl⟩
  go_wp2
  go_ret2
  exact ⟨rfl, rfl⟩
theorem size_setCells (b : Nat) : ∀ (vs : List Value) (o : Nat) (w : World), (w.setCells b o vs).heap.size = w.heap.size
  | [], _, _ => rfl
  | v :: r, o, w => by rw [World.setCells, size_setCells b r]; simp [World.setCell]
theorem rep_at (n j : Nat) (x : Int) (h : j < n) : (List.replicate n x).getD j 0 = x := by
  rw [List.getD_eq_getElem?_getD, List.getElem?_replicate, if_pos h]; rfl
theorem rep_snoc (x : Int) (k m : Nat) : List.replicate k x ++ List.replicate m x = List.replicate (k + m) x := List.replicate_append_replicate
theorem range_grow {w : World} {g k m : Nat} {x : Int} (h : w.rangeAt g 0 (vals (List.replicate k x))) (ht : w.there g 0 64) (hkm : k + m ≤ 64) : (w.setCells g k (vals (List.replicate m x))).rangeAt g 0 (vals (List.replicate (k + m) x)) := by
  have h1 : (w.setCells g k (vals (List.replicate m x))).rangeAt g 0 (vals (List.replicate k x)) := World.rangeAt_setCells_apart h _ _ _ (by rw [vals_len, List.length_replicate]; right; left; omega)
  have h2 : (w.setCells g k (vals (List.replicate m x))).rangeAt g k (vals (List.replicate m x)) := World.rangeAt_setCells_same w g k _ (there_sub ht (by omega) (by rw [vals_len, List.length_replicate]; omega))
  intro j v hv
  rw [← List.replicate_append_replicate, vals_app] at hv
  by_cases hj : j < k
  · rw [List.getElem?_append_left (by rw [vals_len, List.length_replicate]; exact hj)] at hv
    exact h1 j v hv
  · rw [List.getElem?_append_right (by rw [vals_len, List.length_replicate]; omega), vals_len, List.length_replicate] at hv
    have := h2 (j - k) v hv
    rwa [show k + (j - k) = 0 + j from by omega] at this
theorem range_src {w : World} {g k m : Nat} {x : Int} (h : w.rangeAt g 0 (vals (List.replicate k x))) (hm : m ≤ k) (j : Nat) (v : Value) (hv : (vals (List.replicate m x))[j]? = some v) : w.cell? (({ block := g, off := 0 } : Addr).add j) = some v := by
  have hj : j < m := by have := (List.getElem?_eq_some_iff.1 hv).1; rwa [vals_len, List.length_replicate] at this
  have := h j v (by
    rw [← hv]
    simp [vals, hj, show j < k by omega])
  rwa [← Go.WideShapes.add_plain] at this
theorem there_arr {w : World} {b : Nat} {cs : Array Value} {t : TypeId} {fr : Nat × Nat} (h : w.heap[b]? = some (.cells cs t (0, 0))) (n : Nat) (hn : n ≤ cs.size) : w.there b 0 n := fun j hj => by
  rw [cell_of_row _ _ _ _ _ _ h]
  refine ⟨?_, frozen_of_row _ _ _ _ _ h⟩
  rw [Array.getElem?_eq_getElem (show 0 + j < cs.size by omega)]; rfl
theorem sizeOf_u8 (w : World) : (Go.sizeOf 5).run Tryd.prog w = .ok 1 w := by
  obtain ⟨i, z, hi, hz, hs, hb, _⟩ := u8_info
  simp [Go.sizeOf, typeInfo, hi, hs]
set_option maxRecDepth 100000 in
set_option maxHeartbeats 2000000 in
theorem repeat_any {B : Nat} {A : Option Addr} (c : Nat) (x : Int) {w : World} (h : Bs w B A 1 [x]) (hB : B ≤ w.heap.size) :
    Calls Tryd.prog 54 #[.slice A 1 c, .int .i64 64] w fun e w' => ∃ g, e = .returned (.slice (some ⟨g, 0, none⟩) 64 64) ∧ Bs w' (g + 1) (some ⟨g, 0, none⟩) 64 (List.replicate 64 x) ∧ w.heap.size ≤ g ∧ g < w'.heap.size ∧ Below w.heap.size w w' := by
  obtain ⟨cs, hrunM, hle, _⟩ := Lib.run_makeNoZero (P := Tryd.prog) w #[3] 22 5 Tryd.underlying22 64 (by omega)
  have hcall : (callFunc 60 #[.int .i64 64]).run Tryd.prog w = .ok (.value (.slice (some ⟨w.heap.size, 0, none⟩) 64 cs.size)) ((w.alloc (.cells cs 5)).drewN 2) := by
    rw [run_callFunc_extern Tryd.func60 (by kernel_rfl) (by kernel_rfl) (by kernel_rfl) (e := Extern.BytealgMakeNoZero.makeNoZero #[3] #[22]) (by kernel_rfl)]
    exact (show _ from by rw [show (Extern.BytealgMakeNoZero.makeNoZero #[3] #[22] #[.int .i64 64]).run Tryd.prog w = _ from hrunM]; rfl)
  clear hrunM
  obtain ⟨W0, hW0⟩ : ∃ W0, W0 = (w.alloc (.cells cs 5)).drewN 2 := ⟨_, rfl⟩
  have b0 : Below w.heap.size w W0 := by rw [hW0]; exact below_drewN ((Below.refl _ _).alloc (Nat.le_refl _) _) 2
  have t0 : W0.there w.heap.size 0 64 := by
    rw [hW0]
    exact there_arr (w := (w.alloc (.cells cs 5)).drewN 2) (fr := (0, 0)) (heap_alloc_new w (.cells cs 5)) 64 hle
  have s0 : w.heap.size < W0.heap.size := by rw [hW0]; show w.heap.size < (w.alloc (.cells cs 5)).heap.size; simp
  rw [← hW0] at hcall
  have i0 : (64 : Int) ≤ (cs.size : Int) := by omega
  have HU8 := Lib.hid (show (Tryd.prog.info? 5).map (·.size) = some 1 by kernel_rfl)
  have Z := Lib.hid (h.belowM b0 hB)
  have T0 := Lib.hid t0
  have B0 := Lib.hid b0
  clear hW0 t0 b0
  go_enter Tryd.func54, Tryd.ntmps54
  go_wp2_with fail
  refine (mul_any w).mono ?_
  rintro e w1 ⟨rfl, rfl⟩
  have G := B0
  go_wp2_with (have g := G; clear g; refine wpList_copy_as (o := ⟨some 60, _, _, _, _, _⟩) rfl (.tmp 58) (.tmp 59) 22 22 (by rfl) 5 Tryd.underlying22 HU8.out (some ⟨w.heap.size, 0, none⟩) A 64 64 1 c (by rfl) (by rfl) w.heap.size 0 (vals [x]) (by rfl) (there_sub T0.out (by omega) (by simp [vals])) (fun _ => ⟨rfl, by obtain ⟨b, o, e, _, _⟩ := Z.out.row (by omega); exact ⟨_, e, Z.out.lies.1.2 _ e⟩⟩) (vals_one _) ?_; intro w2 hw2; clear G)
  have t2 : w2.there w.heap.size 0 64 := by rw [hw2.out]; exact World.there_setCells T0.out _ _ _
  have r2 : w2.rangeAt w.heap.size 0 (vals (List.replicate 1 x)) := by rw [hw2.out]; exact World.rangeAt_setCells_same _ _ _ _ (there_sub T0.out (by omega) (by simp [vals]))
  have b2 : Below w.heap.size w w2 := by rw [hw2.out]; exact below_setCells (Nat.le_refl _) _ _ _ B0.out
  have s2 : w.heap.size < w2.heap.size := by rw [hw2.out, size_setCells]; exact s0
  have T2 := Lib.hid t2
  have R2 := Lib.hid r2
  clear hw2 t2 r2
  go_loopw [10] (fun i wr => ∃ k : Nat, 1 ≤ k ∧ k ≤ 64 ∧ i = .int .i64 k ∧ Hid (wr.rangeAt w.heap.size 0 (vals (List.replicate k x))) ∧ Hid (wr.there w.heap.size 0 64) ∧ Below w.heap.size w wr ∧ w.heap.size < wr.heap.size) (fun i _ => 64 - (intOf i).toNat)
  case atStart => exact ⟨1, by omega, by omega, rfl, R2, T2, b2, s2⟩
  case round =>
    obtain ⟨k, hk1, hk, rfl, HR, HT, hbel, hsz⟩ := hrel
    by_cases hlt : k < 64
    · obtain ⟨m, hm⟩ : ∃ m : Nat, min k (64 - k) = m := ⟨_, rfl⟩
      have hm1 : 1 ≤ m := by omega
      have hm2 : m ≤ k := by omega
      have hm3 : k + m ≤ 64 := by omega
      have hmin : min (k : Int) 64 = (k : Int) := by omega
      have hw5 : IntKind.i64.wrap ((k : Int) + (m : Int)) = ((k + m : Nat) : Int) := by rw [IntKind.wrap_i64]; omega
      have HM := Lib.hid hm
      have hsl : ∀ W, (Instr.slice 22 (.slice (some ⟨w.heap.size, 0, none⟩) 64 64) (some (.int .i64 (k : Int))) none none).run Tryd.prog W = .ok (.slice (some ⟨w.heap.size, k, none⟩) (64 - k) (64 - k)) W := fun W => by
        have := Lib.run_slice_tailV (P := Tryd.prog) W 22 5 Tryd.underlying22 (sizeOf_u8 ·) w.heap.size 64 k (by omega)
        rwa [show Lib.tailV w.heap.size 64 k = .slice (some ⟨w.heap.size, k, none⟩) (64 - k) (64 - k) by unfold Lib.tailV; rw [if_neg (by omega)]] at this
      have hsl2 := cut_h (some ⟨w.heap.size, 0, none⟩) 64 64 k (k : Int) rfl hk
      have hkI : (k : Int) ≤ 64 := by omega
      clear hm
      go_wp2
      go_region_held3 (fun _ => True) (exact trivial) ((first
        | (refine step_copy_as (by rfl) (.tmp 70) (.tmp 73) 22 22 (by rfl) 5 Tryd.underlying22 HU8.out (some ⟨w.heap.size, k, none⟩) (some ⟨w.heap.size, 0, none⟩) (64 - k) (64 - k) k 64 (by rfl) (by rfl) w.heap.size k (vals (List.replicate m x)) (by rw [vals_len, List.length_replicate, ← HM.out]) (there_sub HT.out (by omega) (by rw [vals_len, List.length_replicate]; omega)) (fun _ => ⟨rfl, _, rfl, fun j v hv => range_src (w := wr) HR.out hm2 j v hv⟩) (vals_one _) ?_; intro w6 hw6)))
      have r6 : w6.rangeAt w.heap.size 0 (vals (List.replicate (k + m) x)) := by rw [hw6.out]; exact range_grow (w := wr.drew) HR.out HT.out hm3
      have t6 : w6.there w.heap.size 0 64 := by rw [hw6.out]; exact World.there_setCells (w := wr.drew) HT.out _ _ _
      have b6 : Below w.heap.size w w6 := by rw [hw6.out]; exact below_setCells (Nat.le_refl _) _ _ _ hbel.drew
      have s6 : w.heap.size < w6.heap.size := by rw [hw6.out, size_setCells]; exact hsz
      have R6 := Lib.hid r6
      have T6 := Lib.hid t6
      clear r6 t6 hw6 hsl hsl2 hmin
      go_wp2
      go_roundw
      case rel => exact ⟨k + m, by omega, by omega, by first | rfl | (rw [hw5]) | (simp [vals_len, hw5]), R6, T6, b6, s6⟩
      case measure => simp [intOf, vals_len, hw5]; omega
    · have hk64 : k = 64 := by omega
      have hr : wr.rangeAt w.heap.size 0 (vals (List.replicate 64 x)) := by rw [← hk64]; exact HR.out
      have HB : Hid (Bs wr (w.heap.size + 1) (some ⟨w.heap.size, 0, none⟩) 64 (List.replicate 64 x)) := Lib.hid ⟨List.length_replicate .., fun j hj => by
        have e : (List.replicate 64 x).getD j 0 = x := rep_at 64 j x hj
        rw [e]; exact h.rng 0 (by omega), fun _ => ⟨_, 0, rfl, by omega, fun j hj => hr j _ (vals_at _ j (by rw [List.length_replicate]; exact hj))⟩⟩
      clear hk64 hr
      go_wp2
      go_ret
      exact ⟨w.heap.size, rfl, HB.out, Nat.le_refl _, hsz, hbel⟩
end Go.Proofs.YtmglhfhcljdfcaaDoor
