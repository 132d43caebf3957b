/- The tag of eight numbers. -/
import Derived.Test.YtcihbkdpkhhhcaaDoorRow8
import Derived.Deep.DrawnRows
namespace Go.Proofs.YtcihbkdpkhhhcaaDoor
open Go.ChangeShapes Go.WideShapes Go.ChangeAt Go.RowKit
set_option linter.unusedVariables false
open Plain Sha
attribute [local go_sem ↓] Go.wp_at_zero Go.wp_at_succ
/-- The bytes of the first k of eight numbers. -/
def tagTo (v : H8) (k : Nat) : List Int := catTo (fun j => putZ ((v.list.getD j 0 : Nat) : Int) 4) k
theorem tagTo_len (v : H8) (k : Nat) : (tagTo v k).length = 4 * k := by
  unfold tagTo
  rw [catTo_len _ (fun _ => 4) k (fun j _ => putZ_len _ _)]
  have : ∀ k, sumTo (fun _ => 4) k = 4 * k := by
    intro k
    induction k with
    | zero => rfl
    | succ k ih => show sumTo (fun _ => 4) k + 4 = _; omega
  exact this k
theorem tagTo_8 (v : H8) : tagTo v 8 = tagZ v := rfl
theorem take_splice (l zs : List Int) (k : Nat) (h : k + zs.length ≤ l.length) : (splice l k zs).take (k + zs.length) = l.take k ++ zs := by
  unfold splice
  have e : (l.take k ++ zs).length = k + zs.length := by simp; omega
  rw [← List.append_assoc, ← e, List.take_left]
theorem Row8.below {w w' : World} {b o B : Nat} {l : List Int} (h : Row8 w b o l) (hb : Below B w w') (hB : b < B) : Row8 w' b o l := h.same (hb.block b hB)
theorem u32_row : (Tryd.prog.info? 53).map (fun i => (i.zero, i.size, i.bytes)) = some (some (.int .u32 0), 1, 4) := by kernel_rfl
theorem run_index8 (v : H8) (k : Nat) (hk : k < 8) (x : Nat) (hx : v.list.getD k 0 = x) (w : World) :
    (Instr.index 73 (.agg (u32s v.list).toArray) (.int .i64 (k : Int))).run Tryd.prog w = .ok (.int .u32 (x : Int)) w := by
  obtain ⟨i, hi, hz, hs, hb⟩ := info_parts u32_row
  have hx2 : (u32s v.list)[k]? = some (.int .u32 (x : Int)) := by rw [u32s_at v.list k (by simp [H8.list]; omega), hx]
  have h0 : (0 : Int) ≤ (k : Int) ∧ (k : Int) < 8 := by omega
  simp [Instr.index, run_underlying Tryd.underlying73, asIntOf, h0, sizeOf, typeInfo, hi, hs, part, isAgg, run_underlying Tryd.underlying53, hx2, go_sem]
  intro h; omega
theorem list_lt (v : H8) (hv : v.ok) (k : Nat) (hk : k < 8) : v.list.getD k 0 < 4294967296 := by
  match k, hk with
  | 0, _ => exact hv.a
  | 1, _ => exact hv.b
  | 2, _ => exact hv.c
  | 3, _ => exact hv.d
  | 4, _ => exact hv.e
  | 5, _ => exact hv.f
  | 6, _ => exact hv.g
  | 7, _ => exact hv.h
set_option maxRecDepth 100000 in
set_option maxHeartbeats 1000000 in
theorem tag_any (v : H8) (hv : v.ok) (w : World) :
    Calls Tryd.prog 45 #[.agg (u32s v.list).toArray] w fun e w' => e = .returned (.agg (vals (tagZ v)).toArray) ∧ Below w.heap.size w w' := by
  have r0 : Row32 (((w.alloc (.cells (u32s v.list).toArray 73)).alloc (.cells (vals (List.replicate 32 0)).toArray 50)).alloc (.cells (vals (List.replicate 32 0)).toArray 50)) w.heap.size v.list :=
    ((Row32.new w v.list 73).alloc (by simp [H8.list]) _).alloc (by simp [H8.list]) _
  have r1 : Row8 (((w.alloc (.cells (u32s v.list).toArray 73)).alloc (.cells (vals (List.replicate 32 0)).toArray 50)).alloc (.cells (vals (List.replicate 32 0)).toArray 50)) (w.heap.size + 1) 0 (List.replicate 32 0) := by
    have := (Row8.new (w.alloc (.cells (u32s v.list).toArray 73)) (List.replicate 32 0) 50)
    have := this.same (w' := ((w.alloc (.cells (u32s v.list).toArray 73)).alloc (.cells (vals (List.replicate 32 0)).toArray 50)).alloc (.cells (vals (List.replicate 32 0)).toArray 50)) (Below.heap_alloc _ _ _ (by simp))
    simpa using this
  have r2 : Row8 (((w.alloc (.cells (u32s v.list).toArray 73)).alloc (.cells (vals (List.replicate 32 0)).toArray 50)).alloc (.cells (vals (List.replicate 32 0)).toArray 50)) (w.heap.size + 1 + 1) 0 (List.replicate 32 0) := by
    have := Row8.new ((w.alloc (.cells (u32s v.list).toArray 73)).alloc (.cells (vals (List.replicate 32 0)).toArray 50)) (List.replicate 32 0) 50
    simpa using this
  have hb : Below w.heap.size w (((w.alloc (.cells (u32s v.list).toArray 73)).alloc (.cells (vals (List.replicate 32 0)).toArray 50)).alloc (.cells (vals (List.replicate 32 0)).toArray 50)) :=
    (((Below.refl _ _).alloc (Nat.le_refl _) _).alloc (by simp) _).alloc (by simp; omega) _
  have R0 := Lib.hid r0
  have R1 := Lib.hid r1
  have R2 := Lib.hid r2
  have HB := Lib.hid hb
  have HI8 := Lib.hid (show (Tryd.prog.info? 73).map (·.size) = some (u32s v.list).length by rw [u32s_len]; simp only [H8.list, List.length_cons, List.length_nil]; kernel_rfl)
  have HI32 : ∀ l : List Int, l.length = 32 → (Tryd.prog.info? 50).map (·.size) = some (vals l).length := fun l h => by rw [vals_len, h]; kernel_rfl
  have I32 := Lib.hid HI32
  have HU8 := Lib.hid (show (Tryd.prog.info? 5).map (·.size) = some 1 by kernel_rfl)
  clear r0 r1 r2 hb HI32
  go_enter Tryd.func45, Tryd.ntmps45
  go_wp2_with (refine wpList_load_mid (op := ⟨some 6, _, _, _, _, _⟩) rfl 73 (.tmp 1) rfl w.heap.size 0 rfl (u32s v.list) _ R0.out.range Tryd.underlying73 rfl HI8.out ?_)
  go_loopw [7] (fun i wr => ∃ k : Nat, k ≤ 8 ∧ i = .int .i64 k ∧ ∃ cs : List Int, Hid (cs.length = 32) ∧ Hid (cs.take (4 * k) = tagTo v k) ∧ Hid (Row8 wr (w.heap.size + 1) 0 (List.replicate 32 0)) ∧ Hid (Row8 wr (w.heap.size + 1 + 1) 0 cs) ∧ Below w.heap.size w wr ∧ w.heap.size + 1 + 1 < wr.heap.size) (fun i _ => 8 - (intOf i).toNat)
  case atStart => exact ⟨0, by omega, rfl, List.replicate 32 0, Lib.hid (List.length_replicate ..), Lib.hid rfl, R1, R2, HB.out, by simp⟩
  case round =>
    obtain ⟨k, hk, rfl, cs, HC, HT, K1, K2, hbel, hsz⟩ := hrel
    by_cases hlt : k < 8
    · have hxl := list_lt v hv k hlt
      obtain ⟨x, hx2⟩ : ∃ x, v.list.getD k 0 = x := ⟨_, rfl⟩
      have hx := run_index8 v k hlt x hx2
      rw [hx2] at hxl
      have hx3 : v.list.getD k 0 = x := hx2
      have HC' : Hid ((splice cs (4 * k) (putZ (x : Int) 4)).length = 32) := Lib.hid (by rw [splice_len (by rw [HC.out, putZ_len]; omega), HC.out])
      have HT' : Hid ((splice cs (4 * k) (putZ (x : Int) 4)).take (4 * (k + 1)) = tagTo v (k + 1)) := Lib.hid (by
        have := take_splice cs (putZ (x : Int) 4) (4 * k) (by rw [HC.out, putZ_len]; omega)
        rw [putZ_len] at this
        rw [show 4 * (k + 1) = 4 * k + 4 from by omega, this, HT.out, ← hx3]; rfl)
      have HF4 : Hid (4 * k + (putZ (x : Int) 4).length ≤ cs.length) := Lib.hid (by rw [HC.out, putZ_len]; omega)
      clear hx2 hx3
      have hkI : (k : Int) < 8 := by omega
      have hw4 : IntKind.i64.wrap (4 * (k : Int)) = 4 * (k : Int) := by rw [IntKind.wrap_i64]; omega
      have h40 : (0 : Int) ≤ 4 * (k : Int) := by omega
      have h41 : 4 * (k : Int) ≤ 32 := by omega
      have h42 : (4 * (k : Int)).toNat = 4 * k := by omega
      have hr : Hid (∀ w1, Below wr.heap.size wr.drew w1 → Row8 w1 (w.heap.size + 1 + 1) 0 cs) := Lib.hid (fun w1 hb1 => (K2.out.same (w' := wr.drew) rfl).below hb1 hsz)
      go_wp2
      clear hx
      go_region_held3 (fun _ => True) (exact trivial) ((first
        | (go_at_call 27; refine (put32_any _ (by omega) (by omega) _).mono ?_; intro e w1 hm; obtain ⟨A, c, rfl, ho, hb1, _, hc1⟩ := hm.n (n := 4) (putZ_len ..); have K3 := hr.out w1 hb1; have S3 : Bs w1 w1.heap.size A 4 (putZ (x : Int) 4) := Made.bs ho (putZ_bytes _ _))
        | (refine step_copy_as (by rfl) (.tmp 13) (.tmp 15) 22 22 (by rfl) 5 Tryd.underlying22 HU8.out (some ⟨w.heap.size + 1 + 1, 4 * k, none⟩) A (32 - 4 * k) (32 - 4 * k) 4 c (by rfl) (by rfl) (w.heap.size + 1 + 1) (4 * k) (vals (putZ (x : Int) 4)) (by rw [vals_len, putZ_len]; show 4 = min 4 (32 - 4 * k); omega) (there_sub K3.there (by omega) (by rw [HC.out, vals_len, putZ_len]; omega)) (fun _ => ⟨rfl, by obtain ⟨b, o, e, _, _⟩ := S3.row (by omega); exact ⟨_, e, S3.lies.1.2 _ e⟩⟩) (vals_one _) ?_; intro w6 hw6)))
      have b1 : Below w.heap.size w w1 := (hbel.drew).trans (hb1.mono hbel.size)
      have b6 : Below w.heap.size w w6 := by rw [hw6.out]; exact below_setCells (by omega) _ _ _ b1
      have L1 : Row8 w6 (w.heap.size + 1) 0 (List.replicate 32 0) := by
        rw [hw6.out]
        exact ((K1.out.same (w' := wr.drew) rfl).below hb1 (by simp; omega)).storeOther _ _ _ (.inl (by omega))
      have L2 : Row8 w6 (w.heap.size + 1 + 1) 0 (splice cs (4 * k) (putZ (x : Int) 4)) := by
        rw [hw6.out]
        have := K3.splice (4 * k) (putZ (x : Int) 4) HF4.out
        rwa [Nat.zero_add] at this
      have s6 : w.heap.size + 1 + 1 < w6.heap.size := Nat.lt_of_lt_of_le (Nat.lt_of_lt_of_le hsz hb1.size) (by rw [hw6.out]; exact (grown_setCells _ _ _ (World.grownBy.refl _ _)).size)
      clear hw6 hm ho hb1 K3 S3 hr
      go_wp2
      go_roundw
      case rel => exact ⟨k + 1, by omega, by go_num, _, HC', HT', Lib.hid L1, Lib.hid L2, b6, s6⟩
      case measure => simp [intOf]; omega
    · have h8 : k = 8 := by omega
      have HE : Hid (cs = tagZ v) := Lib.hid (by
        have := HT.out
        rw [h8, tagTo_8, List.take_of_length_le (by rw [HC.out]; omega)] at this
        exact this)
      have T32 : Hid (wr.there (w.heap.size + 1) 0 (vals cs).toArray.size) := Lib.hid (by
        have := K1.out.there
        have e : (vals cs).toArray.size = 32 := by rw [List.size_toArray, vals_len, HC.out]
        rw [e]; simpa using this)
      have A32 := Lib.hid (all_oneCell_toArray (vals_one cs))
      clear h8
      go_wp2_with (first
        | (refine wpList_load_mid (op := ⟨some 18, _, _, _, _, _⟩) rfl 50 (.tmp 3) rfl (w.heap.size + 1 + 1) 0 rfl (vals cs) _ K2.out.range Tryd.underlying50 rfl (I32.out _ HC.out) ?_)
        | (refine wpList_store_as (op := ⟨none, .store 50 (.tmp 2) (.tmp 18), _, _, _, _⟩) rfl 50 (.tmp 2) (.tmp 18) rfl (w.heap.size + 1) 0 (vals cs).toArray rfl rfl T32.out (I32.out _ HC.out) A32.out ?_; intro w6 hw6))
      have R6 : w6.rangeAt (w.heap.size + 1) 0 (vals cs) := by
        rw [hw6.out]
        exact World.rangeAt_setCells_same _ _ _ _ (by have := T32.out; simpa using this)
      have b6 : Below w.heap.size w w6 := by rw [hw6.out]; exact below_setCells (by omega) _ _ _ hbel
      exact bodyPost_ret (v := .agg (vals cs).toArray) (results_mid (p := 2) (ty := 50) rfl _ _ (w.heap.size + 1) 0 (vals cs) _ rfl R6 Tryd.underlying50 rfl (I32.out _ HC.out)) rfl ⟨by rw [HE.out], b6⟩
end Go.Proofs.YtcihbkdpkhhhcaaDoor
