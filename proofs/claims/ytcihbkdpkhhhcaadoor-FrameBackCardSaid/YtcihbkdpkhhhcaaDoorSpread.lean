/- The numbers of a block's schedule, as the program makes them. -/
import Derived.Test.YtcihbkdpkhhhcaaDoorRow
namespace Go.Proofs.YtcihbkdpkhhhcaaDoor
open Go.ChangeShapes Go.WideShapes Go.ChangeAt Go.RowKit
set_option linter.unusedVariables false
open Plain Sha
theorem allW_replicate (n : Nat) : AllW (List.replicate n 0) := fun j => by
  rw [List.getD_eq_getElem?_getD, List.getElem?_replicate]
  split <;> decide
theorem wrap_sub (t k c : Nat) (ht : t = c + k) (hb : t ≤ 64) : IntKind.i64.wrap ((t : Int) - (c : Int)) = (k : Int) := by
  rw [IntKind.wrap_i64]; omega
theorem zero64 (w : World) (t : TypeId) : Row32 (w.alloc (.cells (u32s (List.replicate 64 0)).toArray t)) w.heap.size (List.replicate 64 0) := Row32.new w _ t
theorem sg0_bits (x : Nat) (h : x < 4294967296) : bits .xor .u32 (bits .xor .u32 (rotN x 7 : Nat) (rotN x 18 : Nat)) ((x : Int) / 8) = ((sg0 x : Nat) : Int) := by
  rw [show (x : Int) / 8 = ((x / 2 ^ 3 : Nat) : Int) from by omega, u32_xor_nat _ _ (rot_lt h (by omega)) (rot_lt h (by omega)), u32_xor_nat _ _ (xor_lt (rot_lt h (by omega)) (rot_lt h (by omega))) (div_lt 3 h)]
  rfl
theorem sg1_bits (x : Nat) (h : x < 4294967296) : bits .xor .u32 (bits .xor .u32 (rotN x 17 : Nat) (rotN x 19 : Nat)) ((x : Int) / 1024) = ((sg1 x : Nat) : Int) := by
  rw [show (x : Int) / 1024 = ((x / 2 ^ 10 : Nat) : Int) from by omega, u32_xor_nat _ _ (rot_lt h (by omega)) (rot_lt h (by omega)), u32_xor_nat _ _ (xor_lt (rot_lt h (by omega)) (rot_lt h (by omega))) (div_lt 10 h)]
  rfl
theorem spread_any (ws : List Nat) (hl : ws.length = 16) (hw : AllW ws) (w : World) :
    Calls Tryd.prog 52 #[.agg (u32s ws).toArray] w fun e w' => e = .returned (.agg (u32s (schedTo ws 48)).toArray) ∧ Below w.heap.size w w' := by
  have HL := Lib.hid hl
  have r0 : Row32 (((w.alloc (.cells (u32s ws).toArray 83)).alloc (.cells (u32s (List.replicate 64 0)).toArray 87)).alloc (.cells (u32s (List.replicate 64 0)).toArray 87)) w.heap.size ws :=
    ((Row32.new w ws 83).alloc (by omega) _).alloc (by omega) _
  have r1 : Row32 (((w.alloc (.cells (u32s ws).toArray 83)).alloc (.cells (u32s (List.replicate 64 0)).toArray 87)).alloc (.cells (u32s (List.replicate 64 0)).toArray 87)) (w.heap.size + 1) (List.replicate 64 0) := by
    have := (zero64 (w.alloc (.cells (u32s ws).toArray 83)) 87).alloc (by simp) (.cells (u32s (List.replicate 64 0)).toArray 87)
    simpa using this
  have r2 : Row32 (((w.alloc (.cells (u32s ws).toArray 83)).alloc (.cells (u32s (List.replicate 64 0)).toArray 87)).alloc (.cells (u32s (List.replicate 64 0)).toArray 87)) (w.heap.size + 1 + 1) (List.replicate 64 0) := by
    have := zero64 ((w.alloc (.cells (u32s ws).toArray 83)).alloc (.cells (u32s (List.replicate 64 0)).toArray 87)) 87
    simpa using this
  have hb : Below w.heap.size w (((w.alloc (.cells (u32s ws).toArray 83)).alloc (.cells (u32s (List.replicate 64 0)).toArray 87)).alloc (.cells (u32s (List.replicate 64 0)).toArray 87)) :=
    (((Below.refl _ _).alloc (Nat.le_refl _) _).alloc (by simp) _).alloc (by simp; omega) _
  have R0 := Lib.hid r0
  have R1 := Lib.hid r1
  have R2 := Lib.hid r2
  have HB := Lib.hid hb
  clear hl r0 r1 r2 hb
  go_enter Tryd.func52, Tryd.ntmps52
  go_wp2
  go_loopw [9] (fun i wr => ∃ t : Nat, t ≤ 64 ∧ i = .int .i64 t ∧ ∃ cs : List Nat, cs.length = 64 ∧ Hid (AllW cs) ∧ Hid (∀ j, j < t → cs.getD j 0 = wAt ws j) ∧ Hid (Row32 wr w.heap.size ws) ∧ Hid (Row32 wr (w.heap.size + 1) (List.replicate 64 0)) ∧ Hid (Row32 wr (w.heap.size + 1 + 1) cs) ∧ Below w.heap.size w wr) (fun i _ => 64 - (intOf i).toNat)
  case atStart => exact ⟨0, by omega, rfl, List.replicate 64 0, List.length_replicate, Lib.hid (allW_replicate 64), Lib.hid (fun j hj => absurd hj (by omega)), R0, R1, R2, HB.out⟩
  case round =>
    obtain ⟨t, ht, rfl, cs, hcs, HA, HX, K0, K1, K2, hbel⟩ := hrel
    have HCS := Lib.hid hcs
    by_cases hlt : t < 64
    · by_cases h16 : t < 16
      · have hc := K0.out.cells t (by rw [HL.out]; omega)
        have hd := K2.out.cells t (by rw [HCS.out]; omega)
        have hf := K2.out.free t (by rw [HCS.out]; omega)
        clear hcs
        have e1 := (wAt_lo ws HL.out t h16).symm
        have HE : Hid (∀ j, j < t + 1 → (cs.set t (ws.getD t 0)).getD j 0 = wAt ws j) := Lib.hid (fun j hj => by
          rw [getD_setN _ _ _ _ (by rw [HCS.out]; omega)]
          split
          · next h => subst h; exact e1
          · exact HX.out j (by omega))
        have HA' : Hid (AllW (cs.set t (ws.getD t 0))) := Lib.hid (fun j => by
          rw [getD_setN _ _ _ _ (by rw [HCS.out]; omega)]
          split
          · exact hw t
          · exact HA.out j)
        clear e1
        go_wp2
        go_roundw
        case rel => exact ⟨t + 1, by omega, by go_num, cs.set t (ws.getD t 0), by rw [List.length_set]; exact HCS.out, HA', HE, Lib.hid (K0.out.other (by simp; omega) _), Lib.hid (K1.out.other (by simp) _), Lib.hid (K2.out.set t _ (by rw [HCS.out]; exact hlt)), hbel.setCell (by simp; omega) _⟩
        case measure => simp [intOf]; omega
      · obtain ⟨k, hk⟩ := Nat.exists_eq_add_of_le (Nat.le_of_not_lt h16)
        have HK := Lib.hid hk
        have c15 := K2.out.cells (k + 1) (by rw [HCS.out]; omega)
        have c2 := K2.out.cells (k + 14) (by rw [HCS.out]; omega)
        have c7 := K2.out.cells (k + 9) (by rw [HCS.out]; omega)
        have c16 := K2.out.cells k (by rw [HCS.out]; omega)
        have hd := K2.out.cells t (by rw [HCS.out]; omega)
        have hf := K2.out.free t (by rw [HCS.out]; omega)
        have b15 := HA.out (k + 1)
        have b2 := HA.out (k + 14)
        have b7 := HA.out (k + 9)
        have b16 := HA.out k
        have E15 := Lib.hid (HX.out (k + 1) (by omega))
        have E2 := Lib.hid (HX.out (k + 14) (by omega))
        have E7 := Lib.hid (HX.out (k + 9) (by omega))
        have E16 := Lib.hid (HX.out k (by omega))
        generalize cs.getD (k + 1) 0 = x15 at *
        generalize cs.getD (k + 14) 0 = x2 at *
        generalize cs.getD (k + 9) 0 = x7 at *
        generalize cs.getD k 0 = x16 at *
        have i1 : (0 : Int) ≤ (t : Int) - 15 := by omega
        have i2 : (t : Int) - 15 < 64 := by omega
        have i3 : (0 : Int) ≤ (t : Int) - 2 := by omega
        have i4 : (t : Int) - 2 < 64 := by omega
        have i5 : (0 : Int) ≤ (t : Int) - 7 := by omega
        have i6 : (t : Int) - 7 < 64 := by omega
        have i7 : (0 : Int) ≤ (t : Int) - 16 := by omega
        have i8 : (t : Int) - 16 < 64 := by omega
        have n1 : ((t : Int) - 15).toNat = k + 1 := by omega
        have n2 : ((t : Int) - 2).toNat = k + 14 := by omega
        have n3 : ((t : Int) - 7).toNat = k + 9 := by omega
        have n4 : ((t : Int) - 16).toNat = k := by omega
        clear hcs hk
        have s0 := sg0_bits x15 b15
        have s1 := sg1_bits x2 b2
        go_wp2
        go_quiet (fail)
        go_wp2_with (first
          | (go_at_call 53; refine (rotrN_any _ (by omega) _ (by omega) (by omega) _).mono ?_; rintro e w' ⟨rfl, m, rfl⟩)
          | (go_at_call 54; refine (shrN_any _ (by omega) _ (by omega) (by omega) _).mono ?_; rintro e w' ⟨rfl, m, rfl⟩))
        obtain ⟨x, hx⟩ : ∃ x, wNext x2 x7 x15 x16 = x := ⟨_, rfl⟩
        have HX1 : Hid (x = wAt ws t) := Lib.hid (by rw [← hx, HK.out, wAt_hi ws HL.out, E2.out, E7.out, E15.out, E16.out])
        have HXlt : x < 4294967296 := by rw [← hx]; exact wNext_lt _ _ _ _
        have HVal : Hid (((sg1 x2 : Nat) + (x7 : Int) + (sg0 x15 : Nat) + (x16 : Int)) % 4294967296 = (x : Int)) := Lib.hid (by rw [← hx]; unfold wNext; omega)
        have HE : Hid (∀ j, j < t + 1 → (cs.set t x).getD j 0 = wAt ws j) := Lib.hid (fun j hj => by
          rw [getD_setN _ _ _ _ (by rw [HCS.out]; omega)]
          split
          · next h => subst h; exact HX1.out
          · exact HX.out j (by omega))
        have HA' : Hid (AllW (cs.set t x)) := Lib.hid (fun j => by
          rw [getD_setN _ _ _ _ (by rw [HCS.out]; omega)]
          split
          · exact HXlt
          · exact HA.out j)
        clear s0 s1 c15 c2 b15 b2 hx HXlt
        go_region
        go_wp2
        go_roundw
        case rel => exact ⟨t + 1, by omega, by go_num, cs.set t x, by rw [List.length_set]; exact HCS.out, HA', HE, Lib.hid ((K0.out.drewN _).other (by simp; omega) _), Lib.hid ((K1.out.drewN _).other (by simp) _), Lib.hid (by rw [HVal.out]; exact (K2.out.drewN _).set t x (by rw [HCS.out]; exact hlt)), (below_drewN hbel _).setCell (by simp; omega) _⟩
        case measure => simp [intOf]; omega
    · have htt : t = 64 := by omega
      have HF : Hid (cs = schedTo ws 48) := Lib.hid (list_ext_N (by rw [HCS.out, schedTo_len ws HL.out]) (fun j hj => by rw [sched_at ws HL.out 48 j (by omega)]; exact HX.out j (by omega)))
      have K3 := Lib.hid K2.out.range
      have T1 : Hid (wr.there (w.heap.size + 1) 0 (u32s cs).toArray.size) := Lib.hid (by have := K1.out.there; simpa [u32s_len, HCS.out] using this)
      have HI : Hid ((Tryd.prog.info? 87).map (·.size) = some (u32s cs).length) := Lib.hid (by rw [u32s_len, HCS.out]; kernel_rfl)
      have HI' : Hid ((Tryd.prog.info? 87).map (·.size) = some (u32s cs).toArray.size) := HI
      have H1 := Lib.hid (all_oneCell_toArray (u32s_one cs))
      clear hcs htt
      go_wp2_with (first
        | (refine wpList_load_mid rfl 87 (.tmp 3) rfl (w.heap.size + 1 + 1) 0 rfl (u32s cs) _ K3.out Tryd.underlying87 rfl HI.out ?_)
        | (refine wpList_store_mid rfl 87 (.tmp 2) (.tmp 59) rfl (w.heap.size + 1) 0 (u32s cs).toArray rfl rfl T1.out HI'.out H1.out ?_))
      have R5 : Row32 (wr.setCells (w.heap.size + 1) 0 (u32s cs)) (w.heap.size + 1) cs := K1.out.store (by rw [HCS.out]; rfl)
      exact bodyPost_ret (v := .agg (u32s cs).toArray) (results_mid (p := 2) (ty := 87) rfl _ _ (w.heap.size + 1) 0 (u32s cs) _ rfl R5.range Tryd.underlying87 rfl HI.out) rfl ⟨by rw [HF.out], below_setCells (by omega) _ _ _ hbel⟩
end Go.Proofs.YtcihbkdpkhhhcaaDoor
