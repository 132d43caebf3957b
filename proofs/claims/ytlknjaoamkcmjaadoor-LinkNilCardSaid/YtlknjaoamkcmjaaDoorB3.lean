/- Texts of the proof, one behind the other: Tag End Hash Write Sum ShaSumB TagEq Fast. -/
import Derived.Test.YtlknjaoamkcmjaaDoorB2
import Derived.Deep.DrawnRows
import Derived.Test.YtlknjaoamkcmjaaDoorB1
import Derived.ChangeKeysEq
/- The tag of eight numbers. -/
namespace Go.Proofs.YtlknjaoamkcmjaaDoor
open Go.ChangeShapes Go.WideShapes Go.ChangeAt Go.RowKit
set_option linter.unusedVariables false
open Plain Sha
attribute [local go_sem ↓] Go.wp_at_zero Go.wp_at_succ
/-- The bytes of the first k of eight numbers. -/
def tagTo (v : H8) (k : Nat) : List Int := catTo (fun j => putZ ((v.list.getD j 0 : Nat) : Int) 4) k
theorem tagTo_8 (v : H8) : tagTo v 8 = tagZ v := rfl
theorem take_splice (l zs : List Int) (k : Nat) (h : k + zs.length ≤ l.length) : (splice l k zs).take (k + zs.length) = l.take k ++ zs := by
  unfold splice
  have e : (l.take k ++ zs).length = k + zs.length := by simp; omega
  rw [← List.append_assoc, ← e, List.take_left]
theorem Row8.below {w w' : World} {b o B : Nat} {l : List Int} (h : Row8 w b o l) (hb : Below B w w') (hB : b < B) : Row8 w' b o l := h.same (hb.block b hB)
theorem u32_row : (Tryd.prog.info? 106).map (fun i => (i.zero, i.size, i.bytes)) = some (some (.int .u32 0), 1, 4) := by kernel_rfl
theorem run_index8 (v : H8) (k : Nat) (hk : k < 8) (x : Nat) (hx : v.list.getD k 0 = x) (w : World) :
    (Instr.index 134 (.agg (u32s v.list).toArray) (.int .i64 (k : Int))).run Tryd.prog w = .ok (.int .u32 (x : Int)) w := by
  obtain ⟨i, hi, hz, hs, hb⟩ := info_parts u32_row
  have hx2 : (u32s v.list)[k]? = some (.int .u32 (x : Int)) := by rw [u32s_at v.list k (by simp [H8.list]; omega), hx]
  have h0 : (0 : Int) ≤ (k : Int) ∧ (k : Int) < 8 := by omega
  simp [Instr.index, run_underlying Tryd.underlying134, asIntOf, h0, sizeOf, typeInfo, hi, hs, part, isAgg, run_underlying Tryd.underlying106, hx2, go_sem]
  intro h; omega
theorem list_lt (v : H8) (hv : v.ok) (k : Nat) (hk : k < 8) : v.list.getD k 0 < 4294967296 := by
  match k, hk with
  | 0, _ => exact hv.a
  | 1, _ => exact hv.b
  | 2, _ => exact hv.c
  | 3, _ => exact hv.d
  | 4, _ => exact hv.e
  | 5, _ => exact hv.f
  | 6, _ => exact hv.g
  | 7, _ => exact hv.h
set_option maxRecDepth 100000 in
set_option maxHeartbeats 1000000 in
theorem tag_any (v : H8) (hv : v.ok) (w : World) :
    Calls Tryd.prog 95 #[.agg (u32s v.list).toArray] w fun e w' => e = .returned (.agg (vals (tagZ v)).toArray) ∧ Below w.heap.size w w' := by
  have r0 : Row32 (((w.alloc (.cells (u32s v.list).toArray 134)).alloc (.cells (vals (List.replicate 32 0)).toArray 24)).alloc (.cells (vals (List.replicate 32 0)).toArray 24)) w.heap.size v.list :=
    ((Row32.new w v.list 134).alloc (by simp [H8.list]) _).alloc (by simp [H8.list]) _
  have r1 : Row8 (((w.alloc (.cells (u32s v.list).toArray 134)).alloc (.cells (vals (List.replicate 32 0)).toArray 24)).alloc (.cells (vals (List.replicate 32 0)).toArray 24)) (w.heap.size + 1) 0 (List.replicate 32 0) := by
    have := (Row8.new (w.alloc (.cells (u32s v.list).toArray 134)) (List.replicate 32 0) 24)
    have := this.same (w' := ((w.alloc (.cells (u32s v.list).toArray 134)).alloc (.cells (vals (List.replicate 32 0)).toArray 24)).alloc (.cells (vals (List.replicate 32 0)).toArray 24)) (Below.heap_alloc _ _ _ (by simp))
    simpa using this
  have r2 : Row8 (((w.alloc (.cells (u32s v.list).toArray 134)).alloc (.cells (vals (List.replicate 32 0)).toArray 24)).alloc (.cells (vals (List.replicate 32 0)).toArray 24)) (w.heap.size + 1 + 1) 0 (List.replicate 32 0) := by
    have := Row8.new ((w.alloc (.cells (u32s v.list).toArray 134)).alloc (.cells (vals (List.replicate 32 0)).toArray 24)) (List.replicate 32 0) 24
    simpa using this
  have hb : Below w.heap.size w (((w.alloc (.cells (u32s v.list).toArray 134)).alloc (.cells (vals (List.replicate 32 0)).toArray 24)).alloc (.cells (vals (List.replicate 32 0)).toArray 24)) :=
    (((Below.refl _ _).alloc (Nat.le_refl _) _).alloc (by simp) _).alloc (by simp; omega) _
  have R0 := Lib.hid r0
  have R1 := Lib.hid r1
  have R2 := Lib.hid r2
  have HB := Lib.hid hb
  have HI8 := Lib.hid (show (Tryd.prog.info? 134).map (·.size) = some (u32s v.list).length by rw [u32s_len]; simp only [H8.list, List.length_cons, List.length_nil]; kernel_rfl)
  have HI32 : ∀ l : List Int, l.length = 32 → (Tryd.prog.info? 24).map (·.size) = some (vals l).length := fun l h => by rw [vals_len, h]; kernel_rfl
  have I32 := Lib.hid HI32
  have HU8 := Lib.hid (show (Tryd.prog.info? 5).map (·.size) = some 1 by kernel_rfl)
  clear r0 r1 r2 hb HI32
  go_enter Tryd.func95, Tryd.ntmps95
  go_wp2_with (refine wpList_load_mid (op := ⟨some 6, _, _, _, _, _⟩) rfl 134 (.tmp 1) rfl w.heap.size 0 rfl (u32s v.list) _ R0.out.range Tryd.underlying134 rfl HI8.out ?_)
  go_loopw [7] (fun i wr => ∃ k : Nat, k ≤ 8 ∧ i = .int .i64 k ∧ ∃ cs : List Int, Hid (cs.length = 32) ∧ Hid (cs.take (4 * k) = tagTo v k) ∧ Hid (Row8 wr (w.heap.size + 1) 0 (List.replicate 32 0)) ∧ Hid (Row8 wr (w.heap.size + 1 + 1) 0 cs) ∧ Below w.heap.size w wr ∧ w.heap.size + 1 + 1 < wr.heap.size) (fun i _ => 8 - (intOf i).toNat)
  case atStart => exact ⟨0, by omega, rfl, List.replicate 32 0, Lib.hid (List.length_replicate ..), Lib.hid rfl, R1, R2, HB.out, by simp⟩
  case round =>
    obtain ⟨k, hk, rfl, cs, HC, HT, K1, K2, hbel, hsz⟩ := hrel
    by_cases hlt : k < 8
    · have hxl := list_lt v hv k hlt
      obtain ⟨x, hx2⟩ : ∃ x, v.list.getD k 0 = x := ⟨_, rfl⟩
      have hx := run_index8 v k hlt x hx2
      rw [hx2] at hxl
      have hx3 : v.list.getD k 0 = x := hx2
      have HC' : Hid ((splice cs (4 * k) (putZ (x : Int) 4)).length = 32) := Lib.hid (by rw [splice_len (by rw [HC.out, putZ_len]; omega), HC.out])
      have HT' : Hid ((splice cs (4 * k) (putZ (x : Int) 4)).take (4 * (k + 1)) = tagTo v (k + 1)) := Lib.hid (by
        have := take_splice cs (putZ (x : Int) 4) (4 * k) (by rw [HC.out, putZ_len]; omega)
        rw [putZ_len] at this
        rw [show 4 * (k + 1) = 4 * k + 4 from by omega, this, HT.out, ← hx3]; rfl)
      have HF4 : Hid (4 * k + (putZ (x : Int) 4).length ≤ cs.length) := Lib.hid (by rw [HC.out, putZ_len]; omega)
      clear hx2 hx3
      have hkI : (k : Int) < 8 := by omega
      have hw4 : IntKind.i64.wrap (4 * (k : Int)) = 4 * (k : Int) := by rw [IntKind.wrap_i64]; omega
      have h40 : (0 : Int) ≤ 4 * (k : Int) := by omega
      have h41 : 4 * (k : Int) ≤ 32 := by omega
      have h42 : (4 * (k : Int)).toNat = 4 * k := by omega
      have hr : Hid (∀ w1, Below wr.heap.size wr.drew w1 → Row8 w1 (w.heap.size + 1 + 1) 0 cs) := Lib.hid (fun w1 hb1 => (K2.out.same (w' := wr.drew) rfl).below hb1 hsz)
      go_wp2
      clear hx
      go_region_held3 (fun _ => True) (exact trivial) ((first
        | (go_at_call 79; refine (put32_any _ (by omega) (by omega) _).mono ?_; intro e w1 hm; obtain ⟨A, c, rfl, ho, hb1, _, hc1⟩ := hm.n (n := 4) (putZ_len ..); have K3 := hr.out w1 hb1; have S3 : Bs w1 w1.heap.size A 4 (putZ (x : Int) 4) := Made.bs ho (putZ_bytes _ _))
        | (refine step_copy_as (by rfl) (.tmp 13) (.tmp 15) 22 22 (by rfl) 5 Tryd.underlying22 HU8.out (some ⟨w.heap.size + 1 + 1, 4 * k, none⟩) A (32 - 4 * k) (32 - 4 * k) 4 c (by rfl) (by rfl) (w.heap.size + 1 + 1) (4 * k) (vals (putZ (x : Int) 4)) (by rw [vals_len, putZ_len]; show 4 = min 4 (32 - 4 * k); omega) (there_sub K3.there (by omega) (by rw [HC.out, vals_len, putZ_len]; omega)) (fun _ => ⟨rfl, by obtain ⟨b, o, e, _, _⟩ := S3.row (by omega); exact ⟨_, e, S3.lies.1.2 _ e⟩⟩) (vals_one _) ?_; intro w6 hw6)))
      have b1 : Below w.heap.size w w1 := (hbel.drew).trans (hb1.mono hbel.size)
      have b6 : Below w.heap.size w w6 := by rw [hw6.out]; exact below_setCells (by omega) _ _ _ b1
      have L1 : Row8 w6 (w.heap.size + 1) 0 (List.replicate 32 0) := by
        rw [hw6.out]
        exact ((K1.out.same (w' := wr.drew) rfl).below hb1 (by simp; omega)).storeOther _ _ _ (.inl (by omega))
      have L2 : Row8 w6 (w.heap.size + 1 + 1) 0 (splice cs (4 * k) (putZ (x : Int) 4)) := by
        rw [hw6.out]
        have := K3.splice (4 * k) (putZ (x : Int) 4) HF4.out
        rwa [Nat.zero_add] at this
      have s6 : w.heap.size + 1 + 1 < w6.heap.size := Nat.lt_of_lt_of_le (Nat.lt_of_lt_of_le hsz hb1.size) (by rw [hw6.out]; exact (grown_setCells _ _ _ (World.grownBy.refl _ _)).size)
      clear hw6 hm ho hb1 K3 S3 hr
      go_wp2
      go_roundw
      case rel => exact ⟨k + 1, by omega, by go_num, _, HC', HT', Lib.hid L1, Lib.hid L2, b6, s6⟩
      case measure => simp [intOf]; omega
    · have h8 : k = 8 := by omega
      have HE : Hid (cs = tagZ v) := Lib.hid (by
        have := HT.out
        rw [h8, tagTo_8, List.take_of_length_le (by rw [HC.out]; omega)] at this
        exact this)
      have T32 : Hid (wr.there (w.heap.size + 1) 0 (vals cs).toArray.size) := Lib.hid (by
        have := K1.out.there
        have e : (vals cs).toArray.size = 32 := by rw [List.size_toArray, vals_len, HC.out]
        rw [e]; simpa using this)
      have A32 := Lib.hid (all_oneCell_toArray (vals_one cs))
      clear h8
      go_wp2_with (first
        | (refine wpList_load_mid (op := ⟨some 18, _, _, _, _, _⟩) rfl 24 (.tmp 3) rfl (w.heap.size + 1 + 1) 0 rfl (vals cs) _ K2.out.range Tryd.underlying24 rfl (I32.out _ HC.out) ?_)
        | (refine wpList_store_as (op := ⟨none, .store 24 (.tmp 2) (.tmp 18), _, _, _, _⟩) rfl 24 (.tmp 2) (.tmp 18) rfl (w.heap.size + 1) 0 (vals cs).toArray rfl rfl T32.out (I32.out _ HC.out) A32.out ?_; intro w6 hw6))
      have R6 : w6.rangeAt (w.heap.size + 1) 0 (vals cs) := by
        rw [hw6.out]
        exact World.rangeAt_setCells_same _ _ _ _ (by have := T32.out; simpa using this)
      have b6 : Below w.heap.size w w6 := by rw [hw6.out]; exact below_setCells (by omega) _ _ _ hbel
      exact bodyPost_ret (v := .agg (vals cs).toArray) (results_mid (p := 2) (ty := 24) rfl _ _ (w.heap.size + 1) 0 (vals cs) _ rfl R6 Tryd.underlying24 rfl (I32.out _ HC.out)) rfl ⟨by rw [HE.out], b6⟩
end Go.Proofs.YtlknjaoamkcmjaaDoor
/- What stands behind a message. -/
namespace Go.Proofs.YtlknjaoamkcmjaaDoor
open Go.ChangeShapes Go.WideShapes Go.ChangeAt Go.RowKit
set_option linter.unusedVariables false
open Plain Sha
attribute [local go_sem ↓] Go.wp_at_zero Go.wp_at_succ
theorem noughts_bytes (k : Nat) : IsBytes (List.replicate k 0) := fun j hj => by
  simp [List.getD_eq_getElem?_getD, List.getElem?_replicate]
  split <;> decide
set_option maxRecDepth 100000 in
set_option maxHeartbeats 1000000 in
theorem end_any (n : Nat) (hn : n ≤ 1099511627776) (w : World) :
    Calls Tryd.prog 96 #[.int .i64 (n : Int)] w (Made w (padZ n)) := by
  obtain ⟨k, hk⟩ : ∃ k, (119 - n % 64) % 64 = k := ⟨_, rfl⟩
  have e1 : (119 - (n : Int) % 64) % 64 = (k : Int) := by omega
  have hk64 : k < 64 := by omega
  have hmk : ∀ w : World, _ := fun w => make_u8 k (by omega) w
  rw [madeCells_vals] at hmk
  have e2 : IntKind.u64.wrap (n : Int) = (n : Int) := by rw [IntKind.wrap_u64]; omega
  have e3 : IntKind.u64.wrap (8 * (n : Int)) = ((8 * n : Nat) : Int) := by rw [IntKind.wrap_u64]; omega
  have HK := Lib.hid hk
  have HF : Hid ([128] ++ List.replicate k 0 ++ putZ ((8 * n : Nat) : Int) 8 = padZ n) := Lib.hid (by unfold padZ; rw [hk]; simp)
  have HL : Hid (([128] ++ List.replicate k 0 ++ putZ ((8 * n : Nat) : Int) 8).length = 1 + k + 8) := Lib.hid (by simp [putZ_len]; omega)
  have H128 : Hid (IsBytes [128]) := Lib.hid (by unfold IsBytes; decide)
  have B1 := Lib.hid ((bs_new w [128] 1 rfl H128.out 5 w.heap.size rfl).alloc (by simp) (.cells (vals (List.replicate k 0)).toArray 5)).drew
  have B2 := Lib.hid (bs_new (w.alloc (.cells (vals [128]).toArray 5)) (List.replicate k 0) k (List.length_replicate ..) (noughts_bytes k) 5 (w.heap.size + 1) (by simp)).drew
  have C1 := Lib.hid (bs_new (w.alloc (.cells (vals (List.replicate k 0)).toArray 5)) [128] 1 rfl H128.out 5 (w.heap.size + 1) (by simp)).drew
  have C2 := Lib.hid ((bs_new w (List.replicate k 0) k (List.length_replicate ..) (noughts_bytes k) 5 w.heap.size rfl).alloc (by simp) (.cells (vals [128]).toArray 5)).drew
  have B3 := Lib.hid (bs_new w [128] 1 rfl H128.out 5 w.heap.size rfl).drew
  have C3 := Lib.hid (bs_new w (List.replicate k 0) k (List.length_replicate ..) (noughts_bytes k) 5 w.heap.size rfl).drew
  clear hk
  go_enter Tryd.func96, Tryd.ntmps96
  go_wp2
  go_region_held3 (fun _ => True) (exact trivial) ((first
    | (go_at_call 78; refine (put64_any ((8 * n : Nat) : Int) (by omega) (by omega) _).mono ?_; intro e w1 hm; obtain ⟨A, c, rfl, ho, hb1, _, hc1⟩ := hm.n (n := 8) (putZ_len ..); have S3 : Bs w1 w1.heap.size A 8 (putZ ((8 * n : Nat) : Int) 8) := Made.bs ho (putZ_bytes _ _); have s1 := hb1.size; simp at s1; have S1 := B1.out.belowM hb1 (by simp); have S2 := B2.out.belowM hb1 (by simp); have hw1 : Below w.heap.size w w1 := (((Below.refl _ _).alloc (Nat.le_refl _) _).alloc (by simp) _).drew.trans (hb1.mono (by simp <;> omega)))
    | (go_at_call 78; refine (put64_any ((8 * n : Nat) : Int) (by omega) (by omega) _).mono ?_; intro e w1 hm; obtain ⟨A, c, rfl, ho, hb1, _, hc1⟩ := hm.n (n := 8) (putZ_len ..); have S3 : Bs w1 w1.heap.size A 8 (putZ ((8 * n : Nat) : Int) 8) := Made.bs ho (putZ_bytes _ _); have s1 := hb1.size; simp at s1; have S1 := C1.out.belowM hb1 (by simp); have S2 := C2.out.belowM hb1 (by simp); have hw1 : Below w.heap.size w w1 := (((Below.refl _ _).alloc (Nat.le_refl _) _).alloc (by simp) _).drew.trans (hb1.mono (by simp <;> omega)))
    | (go_at_call 78; refine (put64_any ((8 * n : Nat) : Int) (by omega) (by omega) _).mono ?_; intro e w1 hm; obtain ⟨A, c, rfl, ho, hb1, _, hc1⟩ := hm.n (n := 8) (putZ_len ..); have S3 : Bs w1 w1.heap.size A 8 (putZ ((8 * n : Nat) : Int) 8) := Made.bs ho (putZ_bytes _ _); have s1 := hb1.size; simp at s1; have S1 := B3.out.belowM hb1 (by simp); have hw1 : Below w.heap.size w w1 := ((Below.refl _ _).alloc (Nat.le_refl _) _).drew.trans (hb1.mono (by simp <;> omega)))
    | (go_at_call 78; refine (put64_any ((8 * n : Nat) : Int) (by omega) (by omega) _).mono ?_; intro e w1 hm; obtain ⟨A, c, rfl, ho, hb1, _, hc1⟩ := hm.n (n := 8) (putZ_len ..); have S3 : Bs w1 w1.heap.size A 8 (putZ ((8 * n : Nat) : Int) 8) := Made.bs ho (putZ_bytes _ _); have s1 := hb1.size; simp at s1; have S2 := C3.out.belowM hb1 (by simp); have hw1 : Below w.heap.size w w1 := ((Below.refl _ _).alloc (Nat.le_refl _) _).drew.trans (hb1.mono (by simp <;> omega)))
    | (go_at_call 78; refine (put64_any ((8 * n : Nat) : Int) (by omega) (by omega) _).mono ?_; intro e w1 hm; obtain ⟨A, c, rfl, ho, hb1, _, hc1⟩ := hm.n (n := 8) (putZ_len ..); have S3 : Bs w1 w1.heap.size A 8 (putZ ((8 * n : Nat) : Int) 8) := Made.bs ho (putZ_bytes _ _); have s1 := hb1.size; simp at s1; have hw1 : Below w.heap.size w w1 := (Below.refl w.heap.size w).drew.trans (hb1.mono (by simp)))
    | (go_at_call 25; refine (cat3_any 1 k c 22 S1 S2 S3 (by omega) (by omega) (Nat.le_refl _) (by omega) 3 _ rfl).mono ?_; intro e w2 hm2; obtain ⟨A5, c5, rfl, ho5, hb5, _, _⟩ := hm2.n HL.out; have hb6 : Below w.heap.size w w2 := (hw1.alloc (by omega) _).trans (hb5.mono (by simp <;> omega)); have ho6 := own_base (base' := w.heap.size) ho5 (by simp <;> omega))
    | (go_at_call 25; refine (cat3_any 1 k c 22 (S1.alloc (by omega) _) (bs_new w1 (List.replicate k 0) k (List.length_replicate ..) (noughts_bytes k) 5 w1.heap.size rfl) (S3.alloc (Nat.le_refl _) _) (by simp <;> omega) (by simp <;> omega) (by simp <;> omega) (by omega) 3 _ (by simp)).mono ?_; intro e w2 hm2; obtain ⟨A5, c5, rfl, ho5, hb5, _, _⟩ := hm2.n HL.out; have hb6 : Below w.heap.size w w2 := ((hw1.alloc (by omega) _).alloc (by simp <;> omega) _).trans (hb5.mono (by simp <;> omega)); have ho6 := own_base (base' := w.heap.size) ho5 (by simp <;> omega))
    | (go_at_call 25; refine (cat3_any 1 k c 22 (bs_new w1 [128] 1 rfl H128.out 5 w1.heap.size rfl) (S2.alloc (by omega) _) (S3.alloc (Nat.le_refl _) _) (by simp <;> omega) (by simp <;> omega) (by simp <;> omega) (by omega) 3 _ (by simp)).mono ?_; intro e w2 hm2; obtain ⟨A5, c5, rfl, ho5, hb5, _, _⟩ := hm2.n HL.out; have hb6 : Below w.heap.size w w2 := ((hw1.alloc (by omega) _).alloc (by simp <;> omega) _).trans (hb5.mono (by simp <;> omega)); have ho6 := own_base (base' := w.heap.size) ho5 (by simp <;> omega))
    | (go_at_call 25; refine (cat3_any 1 k c 22 ((bs_new w1 [128] 1 rfl H128.out 5 w1.heap.size rfl).alloc (by simp) _) (bs_new (w1.alloc (.cells (vals [128]).toArray 5)) (List.replicate k 0) k (List.length_replicate ..) (noughts_bytes k) 5 (w1.heap.size + 1) (by simp)) ((S3.alloc (Nat.le_refl _) _).alloc (by simp) _) (by simp <;> omega) (by simp <;> omega) (by simp <;> omega) (by omega) 3 _ (by simp)).mono ?_; intro e w2 hm2; obtain ⟨A5, c5, rfl, ho5, hb5, _, _⟩ := hm2.n HL.out; have hb6 : Below w.heap.size w w2 := (((hw1.alloc (by omega) _).alloc (by simp <;> omega) _).alloc (by simp <;> omega) _).trans (hb5.mono (by simp <;> omega)); have ho6 := own_base (base' := w.heap.size) ho5 (by simp <;> omega))
    | (go_at_call 25; refine (cat3_any 1 k c 22 (bs_new (w1.alloc (.cells (vals (List.replicate k 0)).toArray 5)) [128] 1 rfl H128.out 5 (w1.heap.size + 1) (by simp)) ((bs_new w1 (List.replicate k 0) k (List.length_replicate ..) (noughts_bytes k) 5 w1.heap.size rfl).alloc (by simp) _) ((S3.alloc (Nat.le_refl _) _).alloc (by simp) _) (by simp <;> omega) (by simp <;> omega) (by simp <;> omega) (by omega) 3 _ (by simp)).mono ?_; intro e w2 hm2; obtain ⟨A5, c5, rfl, ho5, hb5, _, _⟩ := hm2.n HL.out; have hb6 : Below w.heap.size w w2 := (((hw1.alloc (by omega) _).alloc (by simp <;> omega) _).alloc (by simp <;> omega) _).trans (hb5.mono (by simp <;> omega)); have ho6 := own_base (base' := w.heap.size) ho5 (by simp <;> omega))))
  all_goals
    clear hb5 hb1 ho ho5 hm hm2 S3
    go_wp2
    go_ret
    rw [HF.out] at ho6
    exact made_of (n := 1 + k + 8) (by rw [← HF.out]; exact HL.out) ho6 hb6
end Go.Proofs.YtlknjaoamkcmjaaDoor
/- A hash as it lies in memory; New, Len. -/
namespace Go.Proofs.YtlknjaoamkcmjaaDoor
open Go.ChangeShapes Go.WideShapes Go.ChangeAt Go.RowKit
set_option linter.unusedVariables false
open Plain Sha
attribute [local go_sem ↓] Go.wp_at_zero Go.wp_at_succ
/-- The first numbers lie in their variable. -/
def LaidF (w : World) : Prop := ∀ j, j < 8 → w.cell? ⟨0, j, none⟩ = some (.int .u32 ((h0.list.getD j 0 : Nat) : Int))
theorem LaidF.lt {w : World} (h : LaidF w) : 0 < w.heap.size := World.block_lt_of_cell? _ _ (h 0 (by omega))
theorem LaidF.below {w w' : World} {B : Nat} (h : LaidF w) (hb : Below B w w') (hB : 0 < B) : LaidF w' := fun j hj => (hb.cell (p := ⟨0, j, none⟩) hB).trans (h j hj)
structure HashIs (w : World) (b : Nat) (v : H8) (rest : List Int) (n : Nat) : Prop where
  made : w.cell? ⟨b, 0, none⟩ = some (.bool true)
  now : w.rangeAt b 1 (u32s v.list)
  buf : w.rangeAt b 9 (vals rest)
  n : w.cell? ⟨b, 73, none⟩ = some (.int .i64 (n : Int))
  there : w.there b 0 74
  len : rest.length = 64
theorem HashIs.same {w w' : World} {b : Nat} {v : H8} {rest : List Int} {n : Nat} (h : HashIs w b v rest n) (e : w'.heap[b]? = w.heap[b]?) : HashIs w' b v rest n :=
  ⟨(World.cell?_of_block (a := ⟨b, 0, none⟩) e).trans h.made, rangeAt_same h.now e, rangeAt_same h.buf e, (World.cell?_of_block (a := ⟨b, 73, none⟩) e).trans h.n, there_same h.there e, h.len⟩
theorem HashIs.lt {w : World} {b : Nat} {v : H8} {rest : List Int} {n : Nat} (h : HashIs w b v rest n) : b < w.heap.size := World.block_lt_of_cell? _ _ h.made
def pad64 (l : List Int) : List Int := l ++ List.replicate (64 - l.length) 0
theorem pad64_len (l : List Int) (h : l.length ≤ 64) : (pad64 l).length = 64 := by simp [pad64]; omega
/-- Block b holds a hash of the bytes bs. -/
def HashOf (w : World) (b : Nat) (bs : List Int) : Prop := HashIs w b (Sha.behind h0 bs) (pad64 (restZ bs)) bs.length
theorem HashOf.same {w w' : World} {b : Nat} {bs : List Int} (h : HashOf w b bs) (e : w'.heap[b]? = w.heap[b]?) : HashOf w' b bs := HashIs.same h e
theorem HashOf.lt {w : World} {b : Nat} {bs : List Int} (h : HashOf w b bs) : b < w.heap.size := HashIs.lt h
theorem HashOf.below {w w' : World} {b B : Nat} {bs : List Int} (h : HashOf w b bs) (hb : Below B w w') (hB : b < B) : HashOf w' b bs := h.same (hb.block b hB)
theorem HashOf.grown {w w' : World} {b c : Nat} {bs : List Int} (h : HashOf w b bs) (hg : w.grownBy w' (some c)) (hne : b ≠ c) : HashOf w' b bs := h.same (hg.block b h.lt (fun e => hne (by injection e)))
theorem rangeAt_block {w : World} {b : Nat} {cs : List Value} {t : TypeId} (h : w.heap[b]? = some (.cells cs.toArray t (0, 0))) (o : Nat) (l : List Value) (hl : ∀ j v, l[j]? = some v → cs[o + j]? = some v) : w.rangeAt b o l := fun j v hv => by
  rw [cell_of_row _ _ _ _ _ _ h]; simpa using hl j v hv
theorem there_block {w : World} {b : Nat} {cs : List Value} {t : TypeId} (h : w.heap[b]? = some (.cells cs.toArray t (0, 0))) : w.there b 0 cs.length := fun j hj => by
  rw [cell_of_row _ _ _ _ _ _ h]
  refine ⟨?_, frozen_of_row _ _ _ _ _ h⟩
  simp [List.getElem?_eq_getElem hj]
theorem nought_at (n j : Nat) : (List.replicate n (0 : Int)).getD j 0 = 0 := by
  rw [List.getD_eq_getElem?_getD, List.getElem?_replicate]
  split <;> rfl
def newCells : List Value := .bool true :: (u32s h0.list ++ (vals (List.replicate 64 0) ++ [.int .i64 0]))
theorem hash_new {w : World} {b : Nat} {t : TypeId} (h : w.heap[b]? = some (.cells newCells.toArray t (0, 0))) : HashOf w b [] := by
  refine ⟨?_, ?_, ?_, ?_, ?_, by decide⟩
  · rw [cell_of_row _ _ _ _ _ _ h]; rfl
  · exact rangeAt_block h 1 _ (fun j v hv => by
      have hj : j < 8 := by have := (List.getElem?_eq_some_iff.1 hv).1; simpa [u32s_len, H8.list] using this
      rw [← hv]
      match j, hj with
      | 0, _ => rfl
      | 1, _ => rfl
      | 2, _ => rfl
      | 3, _ => rfl
      | 4, _ => rfl
      | 5, _ => rfl
      | 6, _ => rfl
      | 7, _ => rfl)
  · exact rangeAt_block h 9 _ (fun j v hv => by
      have hj : j < 64 := by have := (List.getElem?_eq_some_iff.1 hv).1; rw [vals_len] at this; exact this
      have e : (vals (pad64 (restZ [])))[j]? = some (.int .u8 0) := by
        rw [vals_at (pad64 (restZ [])) j (by rw [pad64_len _ (by decide)]; exact hj)]
        congr 2
        exact nought_at 64 j
      rw [e] at hv
      injection hv with hv
      subst hv
      show (Value.bool true :: (u32s h0.list ++ (vals (List.replicate 64 0) ++ [.int .i64 0])))[9 + j]? = _
      rw [show 9 + j = (8 + j) + 1 from by omega, List.getElem?_cons_succ, List.getElem?_append_right (by simp [u32s_len, H8.list]), List.getElem?_append_left (by simp [u32s_len, H8.list, vals_len]; omega)]
      have : (u32s h0.list).length = 8 := rfl
      rw [this, show 8 + j - 8 = j from by omega, vals_at _ j (by simpa using hj)]
      rw [nought_at])
  · rw [cell_of_row _ _ _ _ _ _ h]; rfl
  · exact there_block h
/-- An operation whose run is known. -/
theorem wpList_exec {P : Program} {ops : Array Oper} {rest : List Oper} {op : Oper} {a : Act} {w : World} {Q : Exit → Act → World → Prop} (hgd : op.guard = none) (v : Value)
    (hrun : (execOp a.eval op).run P w = .ok (.value v) w) (h : wpList P ops Q rest (a.put op.dst v) w) : wpList P ops Q (op :: rest) a w :=
  wpList_plain hgd fun K hK => by
    unfold Oper.wp
    simp only [hrun]
    exact hK _ _ h
set_option maxRecDepth 100000 in
theorem new_any (w : World) (hF : LaidF w) :
    Calls Tryd.prog 86 #[] w fun e w' => e = .returned (.pointer (some ⟨w.heap.size, 0, none⟩)) ∧ HashOf w' w.heap.size [] ∧ Below w.heap.size w w' ∧ w.heap.size < w'.heap.size := by
  have hr : w.rangeAt 0 0 (u32s h0.list) := fun j v hv => by
    have hj : j < 8 := by have := (List.getElem?_eq_some_iff.1 hv).1; simpa [u32s_len, H8.list] using this
    rw [u32s_at h0.list j hj] at hv
    rw [Nat.zero_add, hF j hj, hv]
  have HR := Lib.hid hr
  have HI8 := Lib.hid (show (Tryd.prog.info? 134).map (·.size) = some (u32s h0.list).length by rw [u32s_len]; simp only [H8.list, List.length_cons, List.length_nil]; kernel_rfl)
  have HH : Hid (HashOf (w.alloc (.cells newCells.toArray 137)) w.heap.size []) := Lib.hid (hash_new (heap_alloc_new w _))
  have HB : Hid (Below w.heap.size w (w.alloc (.cells newCells.toArray 137))) := Lib.hid ((Below.refl _ _).alloc (Nat.le_refl _) _)
  clear hr hF
  go_enter Tryd.func86, Tryd.ntmps86
  go_wp2_with (first
    | (refine wpList_load_mid (op := ⟨some 1, _, _, _, _, _⟩) rfl 134 (.global 0) rfl 0 0 rfl (u32s h0.list) _ HR.out Tryd.underlying134 rfl HI8.out ?_)
    | (refine wpList_exec (op := ⟨some 2, _, _, _, _, _⟩) rfl (.agg newCells.toArray) (by kernel_rfl) ?_))
  go_ret
  exact ⟨rfl, HH.out, HB.out, by simp⟩
end Go.Proofs.YtlknjaoamkcmjaaDoor
/- A hash is written to. -/
namespace Go.Proofs.YtlknjaoamkcmjaaDoor
open Go.ChangeShapes Go.WideShapes Go.ChangeAt Go.RowKit
set_option linter.unusedVariables false
open Plain Sha
attribute [local go_sem ↓] Go.wp_at_zero Go.wp_at_succ
theorem restZ_lt (bs : List Int) : (restZ bs).length < 64 := by rw [restZ_len]; omega
/-- The bytes that wait, as a slice of the hash's own. -/
theorem HashIs.bs {w : World} {b : Nat} {v : H8} {bs : List Int} {n : Nat} (h : HashIs w b v (pad64 (restZ bs)) n) (hb : IsBytes bs) (m : Nat) (hm : m = bs.length % 64) : Bs w (b + 1) (some ⟨b, 9, none⟩) m (restZ bs) := by
  have hl := restZ_len bs
  refine ⟨by rw [hl, hm], fun j hj => restZ_bytes hb j (by omega), fun _ => ⟨b, 9, rfl, by omega, fun j hj => ?_⟩⟩
  have hp := pad64_len (restZ bs) (by have := restZ_lt bs; omega)
  rw [h.buf j _ (vals_at _ j (by rw [hp]; omega))]
  unfold pad64
  rw [List.getD_eq_getElem?_getD, List.getElem?_append_left (by omega), ← List.getD_eq_getElem?_getD]
theorem tmod_nat (n k : Nat) : ((n : Int)).tmod (k : Int) = ((n % k : Nat) : Int) := by
  rw [Int.tmod_eq_emod_of_nonneg (by omega)]; omega
theorem splice_zero (r : List Int) (h : r.length ≤ 64) : splice (List.replicate 64 (0 : Int)) 0 r = pad64 r := by
  unfold splice pad64
  rw [List.take_zero, List.nil_append, List.drop_replicate, Nat.zero_add]
theorem drew_setCells (b : Nat) : ∀ (vs : List Value) (o : Nat) (w : World), w.drew.setCells b o vs = (w.setCells b o vs).drew
  | [], _, _ => rfl
  | v :: r, o, w => by rw [World.setCells, World.setCells, ← drew_setCells b r (o + 1)]; rfl
theorem write_end {w2 w3 w4 w5 : World} {b : Nat} {bs zs : List Int} (H : HashOf w2 b bs) (hw3 : w3 = w2.setCells b 1 (u32s (Sha.behind h0 (bs ++ zs)).list)) (hw4 : w4 = w3.setCells b 9 (vals (List.replicate 64 0)))
    (hw5 : w5 = w4.setCells b 9 (vals (restZ (bs ++ zs)))) (x : Int) (hx : x = ((bs ++ zs).length : Nat)) :
    HashOf (w5.setCell ⟨b, 73, none⟩ (.int .i64 x)) b (bs ++ zs) := by
  have hl : (vals (restZ (bs ++ zs))).length < 64 := by rw [vals_len]; exact restZ_lt _
  have hu : (u32s (Sha.behind h0 (bs ++ zs)).list).length = 8 := by rw [u32s_len, H8.len]
  have hz : (vals (List.replicate 64 0)).length = 64 := by rw [vals_len, List.length_replicate]
  have T2 : w2.there b 0 74 := H.there
  have T3 : w3.there b 0 74 := by rw [hw3]; exact World.there_setCells T2 _ _ _
  have T4 : w4.there b 0 74 := by rw [hw4]; exact World.there_setCells T3 _ _ _
  have T5 : w5.there b 0 74 := by rw [hw5]; exact World.there_setCells T4 _ _ _
  have R4 : Row8 w4 b 9 (List.replicate 64 0) := by
    rw [hw4]
    exact ⟨World.rangeAt_setCells_same _ _ _ _ (there_sub T3 (by omega) (by omega)), World.there_setCells (there_sub T3 (by omega) (by rw [List.length_replicate]; omega)) _ _ _⟩
  have R5 : Row8 w5 b 9 (pad64 (restZ (bs ++ zs))) := by
    rw [hw5, ← splice_zero _ (by rw [vals_len] at hl; omega)]
    exact R4.splice 0 _ (by rw [vals_len] at hl; rw [List.length_replicate]; omega)
  have N5 : w5.rangeAt b 1 (u32s (Sha.behind h0 (bs ++ zs)).list) := by
    rw [hw5, hw4]
    refine World.rangeAt_setCells_apart (World.rangeAt_setCells_apart ?_ _ _ _ (.inr (.inl (by omega)))) _ _ _ (.inr (.inl (by omega)))
    rw [hw3]
    exact World.rangeAt_setCells_same _ _ _ _ (there_sub T2 (by omega) (by omega))
  have M5 : w5.cell? ⟨b, 0, none⟩ = some (.bool true) := by
    rw [hw5, World.cell?_setCells_out b _ _ _ _ (fun _ _ => .inl (by show (0 : Nat) < _; omega)), hw4, World.cell?_setCells_out b _ _ _ _ (fun _ _ => .inl (by show (0 : Nat) < _; omega)), hw3, World.cell?_setCells_out b _ _ _ _ (fun _ _ => .inl (by show (0 : Nat) < _; omega))]
    exact H.made
  have e73 : w5.setCell ⟨b, 73, none⟩ (.int .i64 x) = w5.setCells b 73 [.int .i64 x] := rfl
  have hp := pad64_len (restZ (bs ++ zs)) (by have := restZ_lt (bs ++ zs); omega)
  refine ⟨?_, ?_, ?_, ?_, ?_, hp⟩
  · rw [World.cell?_setCell_other _ _ _ _ (fun e => by injection e with _ e2; cases e2)]; exact M5
  · rw [e73]; exact World.rangeAt_setCells_apart N5 _ _ _ (.inr (.inl (by omega)))
  · rw [e73]; exact World.rangeAt_setCells_apart R5.range _ _ _ (.inr (.inl (by rw [vals_len, hp]; omega)))
  · obtain ⟨u, hu⟩ := Option.isSome_iff_exists.1 (T5 73 (by omega)).1
    rw [World.cell?_setCell_same _ _ _ (by simpa using hu), hx]
  · rw [e73]; exact World.there_setCells T5 _ _ _
set_option maxRecDepth 100000 in
set_option maxHeartbeats 2000000 in
theorem write_any {w : World} {b : Nat} {bs : List Int} (h : HashOf w b bs) (hbs : IsBytes bs) {B : Nat} {A : Option Addr} {n : Nat} (c : Nat) {zs : List Int} (hz : Bs w B A n zs) (hB : B ≤ w.heap.size)
    (hlen : bs.length + n ≤ 1099511627776) (hK : LaidK w) (hkb : 2 ≠ b) :
    Calls Tryd.prog 87 #[.pointer (some ⟨b, 0, none⟩), .slice A n c] w fun e w' => e = .returned (.int .i64 0) ∧ HashOf w' b (bs ++ zs) ∧ w.grownBy w' (some b) := by
  obtain ⟨m, hm⟩ : ∃ m, bs.length % 64 = m := ⟨_, rfl⟩
  obtain ⟨N, hN⟩ : ∃ N, bs.length = N := ⟨_, rfl⟩
  have c0 := h.made
  have c73 := h.n
  rw [hN] at c73 hlen hm
  have t1 : ((N : Int)).tmod 64 = ((m : Nat) : Int) := by rw [← hm]; exact tmod_nat N 64
  have hm64 : m < 64 := by omega
  have hmI : (m : Int) ≤ 64 := by omega
  have hblt := h.lt
  have BR := Lib.hid (HashIs.bs h hbs m (by rw [hN, hm]))
  have HH := Lib.hid h
  have HM := Lib.hid hm
  have HN := Lib.hid hN
  have HZL := Lib.hid hz.len
  obtain ⟨L, hL⟩ : ∃ L, m + n = L := ⟨_, rfl⟩
  have HRL : Hid ((restZ bs ++ zs).length = L) := Lib.hid (by rw [List.length_append, restZ_len, hz.len, hN, hm, hL])
  have hLb : L ≤ 1099511627840 := by omega
  have HLL := Lib.hid hL
  clear hm hN hL
  go_enter Tryd.func87, Tryd.ntmps87
  go_wp2
  have HI8 := Lib.hid (fun v : H8 => show (Tryd.prog.info? 134).map (·.size) = some (u32s v.list).length by rw [u32s_len, H8.len]; kernel_rfl)
  have HI64 := Lib.hid (show (Tryd.prog.info? 135).map (·.size) = some (vals (List.replicate 64 0)).toArray.size by rw [List.size_toArray, vals_len, List.length_replicate]; kernel_rfl)
  have HU8 := Lib.hid (show (Tryd.prog.info? 5).map (·.size) = some 1 by kernel_rfl)
  go_region_held3 (fun w' => w'.cell? ⟨b, 73, none⟩ = some (.int .i64 (N : Int))) (go_keep) ((go_at_call 25; refine (cat2_any (w := w.drew) 64 c 22 BR.out.drew hz.drew (by simp; omega) hB (by omega) 2 _ rfl).mono ?_; intro e w1 hm; obtain ⟨D, cd, rfl, ho, hb1, hd1, hd2⟩ := hm.n HRL.out; have q73 : w1.cell? ⟨b, 73, none⟩ = some (.int .i64 (N : Int)) := (World.cell?_of_block (a := ⟨b, 73, none⟩) ((hb1.block b (by simp <;> omega)).trans (Below.heap_alloc w.drew _ b hblt))).trans c73))
  have hs1 := hb1.size
  simp at hs1
  have bH1 : w1.heap[b]? = w.heap[b]? := (hb1.block b (by simp; omega)).trans (Below.heap_alloc w.drew _ b hblt)
  have hw1 : Below w.heap.size w w1 := (((Below.refl _ _).drew).alloc (Nat.le_refl _) _).trans (hb1.mono (by simp))
  have S1 : Bs w1 w1.heap.size D L (restZ bs ++ zs) := Made.bs ho ((restZ_bytes hbs).app hz.isBytes)
  have H1 := HH.out.same bH1
  have HH1 := Lib.hid H1
  have K1 := Lib.hid (hK.below hw1 hK.lt)
  have R0 := Lib.hid H1.now
  have hg0 : 0 < L → ∃ g, D = some ⟨g, 0, none⟩ ∧ g ≠ b ∧ g < w1.heap.size ∧ ∀ j, j < L → w1.cell? ⟨g, j, none⟩ = some (.int .u8 ((restZ bs ++ zs).getD j 0)) := fun h0 => by
    obtain ⟨g, cap, hv, hg, hlt⟩ := ho.form h0
    have hD : D = some ⟨g, 0, none⟩ := by injection hv
    subst hD
    obtain ⟨b', o', e', _, hc⟩ := S1.row h0
    injection e' with e'
    injection e' with e1 e2
    subst e1; subst e2
    refine ⟨g, rfl, by simp at hg; omega, hlt, fun j hj => by simpa using hc j hj⟩
  have hD0 : (D = none ∧ L = 0 ∧ cd = 0) ∨ ∃ g, D = some ⟨g, 0, none⟩ := by
    rcases ho.2 with ⟨e, e2⟩ | ⟨g, cap, cur, e, _⟩
    · injection e with e1 e2 e3; exact .inl ⟨e1, e2, e3⟩
    · injection e with e1 e2 e3; exact .inr ⟨g, e1⟩
  have HD := Lib.hid hD0
  clear hD0
  have HG := Lib.hid hg0
  have hbw1 : b < w1.heap.size := by omega
  clear H1 c0 c73 q73 hm ho hb1 h hK t1 hs1 hg0
  go_wp2_with (refine wpList_load_mid (op := ⟨some 31, _, _, _, _, _⟩) rfl 134 (.tmp 30) rfl b 1 rfl (u32s (Sha.behind h0 bs).list) _ R0.out Tryd.underlying134 rfl (HI8.out _) ?_)
  refine (behind_any (Sha.behind h0 bs) (behind_ok h0_ok _) cd S1 (Nat.le_refl _) (by omega) K1.out).mono ?_
  rintro e w2 ⟨rfl, hb2⟩
  rw [behind_more]
  have H2 := HH1.out.below hb2 (by omega)
  have T1 := Lib.hid (there_sub (o' := 1) (n' := (u32s (Sha.behind h0 (bs ++ zs)).list).toArray.size) H2.there (by omega) (by rw [List.size_toArray, u32s_len, H8.len]; omega))
  have HH2 := Lib.hid H2
  clear H2 S1 R0 HH1 K1
  have t2 : ∀ w3, Hid (w3 = w2.setCells b 1 (u32s (Sha.behind h0 (bs ++ zs)).list).toArray.toList) → w3.there b 9 (vals (List.replicate 64 0)).toArray.size := fun w3 hw3 => by
    rw [hw3.out]
    exact World.there_setCells (there_sub (o' := 9) (n' := (vals (List.replicate 64 0)).toArray.size) HH2.out.there (by omega) (by rw [List.size_toArray, vals_len, List.length_replicate]; omega)) b 1 (u32s (Sha.behind h0 (bs ++ zs)).list)
  have T2 := Lib.hid t2
  have A64 := Lib.hid (all_oneCell_toArray (vals_one (List.replicate 64 0)))
  clear t2
  go_wp2_with (first
    | (refine wpList_store_as (op := ⟨none, .store 134 (.tmp 35) (.tmp 33), _, _, _, _⟩) rfl 134 (.tmp 35) (.tmp 33) rfl b 1 (u32s (Sha.behind h0 (bs ++ zs)).list).toArray rfl rfl T1.out (HI8.out _) (u32s_all _) ?_; intro w3 hw3)
    | (refine wpList_store_as (op := ⟨none, .store 135 (.tmp 39) (.tmp 37), _, _, _, _⟩) rfl 135 (.tmp 39) (.tmp 37) rfl b 9 (vals (List.replicate 64 0)).toArray rfl rfl (T2.out _ hw3) HI64.out A64.out ?_; intro w4 hw4))
  obtain ⟨p, hq⟩ : ∃ p, 64 * (L / 64) = p := ⟨_, rfl⟩
  obtain ⟨r, hr⟩ : ∃ r, L % 64 = r := ⟨_, rfl⟩
  have hZ : restZ (bs ++ zs) = (restZ bs ++ zs).drop (p) := by rw [restZ_more, HRL.out, hq]
  have hZl : (restZ (bs ++ zs)).length = r := by rw [hZ, List.length_drop, HRL.out]; omega
  have hsrc : 0 < r → ∃ g, D = some ⟨g, 0, none⟩ ∧ ∀ j v, (vals (restZ (bs ++ zs)))[j]? = some v → w4.cell? ⟨g, p + j, none⟩ = some v := fun h0 => by
    obtain ⟨g, e, hgb, hg1, hc⟩ := HG.out (by omega)
    refine ⟨g, e, fun j v hv => ?_⟩
    have hj : j < r := by have := (List.getElem?_eq_some_iff.1 hv).1; rwa [vals_len, hZl] at this
    rw [vals_at _ j (by rw [hZl]; exact hj)] at hv
    injection hv with hv
    subst hv
    have h4 : w4.heap[g]? = w1.heap[g]? := by rw [hw4.out, heap_setCells _ _ hgb, hw3.out, heap_setCells _ _ hgb]; exact hb2.block g hg1
    rw [World.cell?_of_block (a := ⟨g, p + j, none⟩) h4, hc _ (by omega), hZ]
    simp [List.getD_eq_getElem?_getD]
  have t4 : w4.there b 9 (vals (restZ (bs ++ zs))).length := by
    rw [hw4.out, hw3.out, vals_len, hZl]
    exact World.there_setCells (World.there_setCells (there_sub (o' := 9) (n' := r) HH2.out.there (by omega) (by omega)) _ _ _) _ _ _
  have T4 := Lib.hid t4
  have HS := Lib.hid hsrc
  have HZ := Lib.hid hZl
  have c73 : w4.cell? ⟨b, 73, none⟩ = some (.int .i64 (N : Int)) := by
    rw [hw4.out, World.cell?_setCells_out b _ _ _ _ (fun _ _ => by rw [vals_len, List.length_replicate]; show (73 : Nat) < 9 ∨ 9 + 64 ≤ 73; omega), hw3.out, World.cell?_setCells_out b _ _ _ _ (fun _ _ => by rw [u32s_len, H8.len]; show (73 : Nat) < 1 ∨ 1 + 8 ≤ 73; omega)]
    have := HH2.out.n
    rwa [HN.out] at this
  have hq64 : p + r = L := by omega
  have hr64 : r < 64 := by omega
  have tL : ((L : Int)).tmod 64 = (r : Int) := by rw [← hr]; exact tmod_nat L 64
  have tw : IntKind.i64.wrap ((L : Int) - (r : Int)) = ((p : Nat) : Int) := by rw [IntKind.wrap_i64]; omega
  have u0 : (0 : Int) ≤ ((p : Nat) : Int) := by omega
  have u1 : ((p : Nat) : Int) ≤ (L : Int) := by omega
  have u2 : ((p : Nat) : Int) ≤ (cd : Int) := by omega
  have HQ := Lib.hid hq64
  have hgw : w.grownBy w4 (some b) := by
    rw [hw4.out, hw3.out]
    have h1 : w.grownBy w2 (some b) := by
      have := hw1.trans (hb2.mono hw1.size)
      exact ⟨this.os, this.tape, this.output, this.size, fun i hi _ => this.block i hi⟩
    exact grown_setCells _ _ _ (grown_setCells _ _ _ h1)
  have HGW := Lib.hid hgw
  have hfin : ∀ w5, Hid (w5 = w4.drew.setCells b 9 (vals (restZ (bs ++ zs)))) → Hid (w5.cell? ⟨b, 73, none⟩ = some (.int .i64 (N : Int)) ∧ w5.frozen? ⟨b, 73, none⟩ = false ∧ HashOf (w5.setCell ⟨b, 73, none⟩ (.int .i64 ((N : Int) + n))) b (bs ++ zs) ∧ w.grownBy (w5.setCell ⟨b, 73, none⟩ (.int .i64 ((N : Int) + n))) (some b)) := fun w5 hw5 => Lib.hid (by
    have g5 : w.grownBy w5 (some b) := by
      rw [hw5.out]
      exact grown_setCells _ _ _ ⟨hgw.os, hgw.tape, hgw.output, hgw.size, hgw.block⟩
    refine ⟨?_, ?_, (write_end HH2.out hw3.out hw4.out rfl _ (by rw [List.length_append, HN.out, HZL.out])).same (by rw [hw5.out, drew_setCells]; rfl), ?_⟩
    · rw [hw5.out, drew_setCells]
      show (w4.setCells b 9 _).cell? _ = _
      rw [World.cell?_setCells_out b _ _ _ _ (fun _ _ => .inr (by rw [vals_len, hZl]; show 9 + r ≤ 73; omega))]; exact c73
    · rw [hw5.out, World.frozen?_setCells]
      show w4.frozen? _ = _
      rw [hw4.out, World.frozen?_setCells, hw3.out, World.frozen?_setCells]
      have := (HH2.out.there 73 (by omega)).2
      simpa using this
    · exact grown_setCells [.int .i64 ((N : Int) + n)] 73 _ g5)
  have HFin := Lib.hid hfin
  clear hfin hgw
  clear hsrc t4 hZl hZ hq hr
  by_cases hr0 : r = 0
  · have hcs0 : Hid (vals (restZ (bs ++ zs)) = []) := Lib.hid (List.eq_nil_of_length_eq_zero (by rw [vals_len, HZ.out, hr0]))
    subst hr0
    have tL0 : ((L : Int)).tmod 64 = 0 := tL
    have pL : L = p := by omega
    subst pL
    have tw0 : IntKind.i64.wrap (L : Int) = (L : Int) := by rw [IntKind.wrap_i64]; omega
    have u3 : (L : Int) ≤ (L : Int) := by omega
    clear tL tw u1
    rcases HD.out with ⟨rfl, h1, h2⟩ | ⟨g, rfl⟩
    · subst h1; subst h2
      have tz : IntKind.i64.wrap 0 = 0 := by decide
      have tz2 : (0 : Int).tmod 64 = 0 := by decide
      clear tw0 tL0 u3 u0 u2
      go_region_held3 (fun _ => True) (exact trivial) ((refine step_copy_as (by rfl) (.tmp 43) (.tmp 51) 22 22 (by rfl) 5 Tryd.underlying22 HU8.out (some ⟨b, 9, none⟩) _ 64 64 _ _ (by rfl) (by rfl) b 9 (vals (restZ (bs ++ zs))) (by rw [hcs0.out]; simp) T4.out (fun h => by rw [hcs0.out] at h; simp at h) (vals_one _) ?_; intro w5 hw5))
      obtain ⟨k1, k2, k3, k4⟩ := (HFin.out w5 hw5).out
      have K3 := Lib.hid k3
      have K4 := Lib.hid k4
      clear k3 k4 c73 hw5
      go_wp2
      go_ret
      exact ⟨rfl, K3.out, K4.out⟩
    · by_cases hcd : L = cd
      · subst hcd
        go_region_held3 (fun _ => True) (exact trivial) ((refine step_copy_as (by rfl) (.tmp 43) (.tmp 51) 22 22 (by rfl) 5 Tryd.underlying22 HU8.out (some ⟨b, 9, none⟩) _ 64 64 _ _ (by rfl) (by rfl) b 9 (vals (restZ (bs ++ zs))) (by rw [hcs0.out]; simp) T4.out (fun h => by rw [hcs0.out] at h; simp at h) (vals_one _) ?_; intro w5 hw5))
        obtain ⟨k1, k2, k3, k4⟩ := (HFin.out w5 hw5).out
        have K3 := Lib.hid k3
        have K4 := Lib.hid k4
        clear k3 k4 c73 hw5
        go_wp2
        go_ret
        exact ⟨rfl, K3.out, K4.out⟩
      · have hnI : ¬ cd = L := by omega
        go_region_held3 (fun _ => True) (exact trivial) ((refine step_copy_as (by rfl) (.tmp 43) (.tmp 51) 22 22 (by rfl) 5 Tryd.underlying22 HU8.out (some ⟨b, 9, none⟩) _ 64 64 _ _ (by rfl) (by rfl) b 9 (vals (restZ (bs ++ zs))) (by rw [hcs0.out]; simp) T4.out (fun h => by rw [hcs0.out] at h; simp at h) (vals_one _) ?_; intro w5 hw5))
        obtain ⟨k1, k2, k3, k4⟩ := (HFin.out w5 hw5).out
        have K3 := Lib.hid k3
        have K4 := Lib.hid k4
        clear k3 k4 c73 hw5
        go_wp2
        go_ret
        exact ⟨rfl, K3.out, K4.out⟩
  · have hne : ¬ cd = p := by omega
    obtain ⟨g, rfl, HSR⟩ := HS.out (by omega)
    have HSR := Lib.hid HSR
    go_region_held3 (fun _ => True) (exact trivial) ((refine step_copy_as (by rfl) (.tmp 43) (.tmp 51) 22 22 (by rfl) 5 Tryd.underlying22 HU8.out (some ⟨b, 9, none⟩) (some ⟨g, p, none⟩) 64 64 (L - p) (cd - p) (by rfl) (by rfl) b 9 (vals (restZ (bs ++ zs))) (by rw [vals_len, HZ.out]; show r = min (L - p) 64; omega) T4.out (fun _ => ⟨rfl, _, rfl, fun j v hv => by rw [Go.WideShapes.add_plain]; exact HSR.out j v hv⟩) (vals_one _) ?_; intro w5 hw5))
    obtain ⟨k1, k2, k3, k4⟩ := (HFin.out w5 hw5).out
    have K3 := Lib.hid k3
    have K4 := Lib.hid k4
    clear k3 k4 c73 hw5
    go_wp2
    go_ret
    exact ⟨rfl, K3.out, K4.out⟩
end Go.Proofs.YtlknjaoamkcmjaaDoor
/- A hash is asked for its tag, and for its length; the tag of bytes. -/
namespace Go.Proofs.YtlknjaoamkcmjaaDoor
open Go.ChangeShapes Go.WideShapes Go.ChangeAt Go.RowKit
set_option linter.unusedVariables false
open Plain Sha
attribute [local go_sem ↓] Go.wp_at_zero Go.wp_at_succ
set_option maxRecDepth 100000 in
set_option maxHeartbeats 4000000 in
theorem sum_any {w : World} {b : Nat} {bs : List Int} (h : HashOf w b bs) (hbs : IsBytes bs) (hlen : bs.length ≤ 1099511627776) (hK : LaidK w) :
    Calls Tryd.prog 88 #[.pointer (some ⟨b, 0, none⟩)] w fun e w' => e = .returned (.tuple #[.agg (vals (shaZ bs)).toArray, .int .i64 0]) ∧ Below w.heap.size w w' := by
  obtain ⟨m, hm⟩ : ∃ m, bs.length % 64 = m := ⟨_, rfl⟩
  obtain ⟨N, hN⟩ : ∃ N, bs.length = N := ⟨_, rfl⟩
  obtain ⟨P, hP⟩ : ∃ P, (padZ N).length = P := ⟨_, rfl⟩
  obtain ⟨L, hL⟩ : ∃ L, m + P = L := ⟨_, rfl⟩
  have hP2 := padZ_len N
  rw [hP] at hP2
  have c0 := h.made
  have hblt := h.lt
  rw [hN] at hlen hm
  have t1 : ((N : Int)).tmod 64 = ((m : Nat) : Int) := by rw [← hm]; exact tmod_nat N 64
  have hm64 : m < 64 := by omega
  have hmI : (m : Int) ≤ 64 := by omega
  have hP3 : P < 200 := by omega
  have hrl : (restZ bs ++ padZ N).length = L := by rw [List.length_append, restZ_len, hP, hN, hm, hL]
  obtain ⟨W0, hW0⟩ : ∃ W0, W0 = w.alloc (.cells (vals (List.replicate 32 0)).toArray 24) := ⟨_, rfl⟩
  have e0 : W0.heap[b]? = w.heap[b]? := by rw [hW0]; exact Below.heap_alloc _ _ _ hblt
  have b0 : Below w.heap.size w W0 := by rw [hW0]; exact (Below.refl _ _).alloc (Nat.le_refl _) _
  have s0 : W0.heap.size = w.heap.size + 1 := by rw [hW0]; simp
  have g0 : W0.there w.heap.size 0 32 := by rw [hW0]; simpa using (Row8.new w (List.replicate 32 0) 24).there
  obtain ⟨V, hV⟩ : ∃ V, Sha.behind h0 bs = V := ⟨_, rfl⟩
  have hVok : V.ok := by rw [← hV]; exact behind_ok h0_ok _
  obtain ⟨V2, hV2⟩ : ∃ V2, Sha.behind V (restZ bs ++ padZ N) = V2 := ⟨_, rfl⟩
  have hV2ok : V2.ok := by rw [← hV2]; exact behind_ok hVok _
  obtain ⟨T, hT⟩ : ∃ T, shaZ bs = T := ⟨_, rfl⟩
  have hTV : tagZ V2 = T := by rw [← hV2, ← hV, ← hN, ← hT]; exact shaZ_of bs
  have hTl : T.length = 32 := by rw [← hTV]; exact tagZ_len _
  have hcells : ∀ w' : World, w'.heap[b]? = w.heap[b]? → w'.cell? ⟨b, 1, none⟩ = some (.int .u32 (V.a : Nat)) ∧ w'.cell? ⟨b, 2, none⟩ = some (.int .u32 (V.b : Nat)) ∧ w'.cell? ⟨b, 3, none⟩ = some (.int .u32 (V.c : Nat)) ∧ w'.cell? ⟨b, 4, none⟩ = some (.int .u32 (V.d : Nat)) ∧ w'.cell? ⟨b, 5, none⟩ = some (.int .u32 (V.e : Nat)) ∧ w'.cell? ⟨b, 6, none⟩ = some (.int .u32 (V.f : Nat)) ∧ w'.cell? ⟨b, 7, none⟩ = some (.int .u32 (V.g : Nat)) ∧ w'.cell? ⟨b, 8, none⟩ = some (.int .u32 (V.h : Nat)) ∧ w'.cell? ⟨b, 73, none⟩ = some (.int .i64 (N : Int)) := fun w' e => by
    have h' := h.same e
    unfold HashOf at h'
    rw [hV] at h'
    refine ⟨h'.now 0 _ rfl, h'.now 1 _ rfl, h'.now 2 _ rfl, h'.now 3 _ rfl, h'.now 4 _ rfl, h'.now 5 _ rfl, h'.now 6 _ rfl, h'.now 7 _ rfl, ?_⟩
    rw [← hN]; exact h'.n
  have hbr : ∀ w' : World, w'.heap[b]? = w.heap[b]? → Bs w' (b + 1) (some ⟨b, 9, none⟩) m (restZ bs) := fun w' e => HashIs.bs (h.same e) hbs m (by rw [hN, hm])
  have CB := Lib.hid hcells
  have VOK := Lib.hid hVok
  have V2OK := Lib.hid hV2ok
  have HV2 := Lib.hid hV2
  have HTV := Lib.hid hTV
  have HT := Lib.hid hT
  have BR := Lib.hid hbr
  have HM := Lib.hid hm
  have HN := Lib.hid hN
  have HP := Lib.hid hP
  have HL := Lib.hid hL
  have HRL := Lib.hid hrl
  have HW0 := Lib.hid hW0
  have G0 := Lib.hid g0
  have E0 := Lib.hid e0
  have S0 := Lib.hid s0
  have HKl := Lib.hid hK.lt
  have HKK := Lib.hid hK
  have hLb : L < 300 := by omega
  clear hVok hV2ok hV2 hTV hT hV hcells hbr hm hN hP hL hrl g0 e0 hP2 h hK hW0
  go_enter Tryd.func88, Tryd.ntmps88
  go_wp2
  refine (show Code.wp Tryd.prog _ _ _ (w.alloc (.cells (vals (List.replicate 32 0)).toArray 24)) from ?_)
  rw [← HW0.out]
  have hu := Tryd.underlying24
  have hi : (Tryd.prog.info? 24).map (·.size) = some (vals T).length := by rw [vals_len, hTl]; kernel_rfl
  have hl32 : (vals T).length = 32 := by rw [vals_len, hTl]
  have h1c := vals_one T
  go_region_held3 (fun w' => (w'.cell? ⟨b, 1, none⟩ = some (.int .u32 (V.a : Nat)) ∧ w'.cell? ⟨b, 2, none⟩ = some (.int .u32 (V.b : Nat)) ∧ w'.cell? ⟨b, 3, none⟩ = some (.int .u32 (V.c : Nat)) ∧ w'.cell? ⟨b, 4, none⟩ = some (.int .u32 (V.d : Nat)) ∧ w'.cell? ⟨b, 5, none⟩ = some (.int .u32 (V.e : Nat)) ∧ w'.cell? ⟨b, 6, none⟩ = some (.int .u32 (V.f : Nat)) ∧ w'.cell? ⟨b, 7, none⟩ = some (.int .u32 (V.g : Nat)) ∧ w'.cell? ⟨b, 8, none⟩ = some (.int .u32 (V.h : Nat)) ∧ w'.cell? ⟨b, 73, none⟩ = some (.int .i64 (N : Int))) ∧ w'.there w.heap.size 0 32)
    (first
      | (exact ⟨CB.out _ E0.out, G0.out⟩)
      | (exact ⟨CB.out _ ((heap_setCells _ _ (by omega) _ _ _).trans eb4), World.there_setCells g4 _ _ _⟩)
      | (exact ⟨CB.out _ eb4, g4⟩)
      | (exact ⟨CB.out _ eb3, g3⟩)
      | (exact ⟨CB.out _ eb2, g2⟩)
      | (exact ⟨CB.out _ ((Below.heap_alloc _ _ _ (by omega)).trans eb1), there_same g1 (Below.heap_alloc _ _ _ (by omega))⟩)
      | (exact ⟨CB.out _ eb1, g1⟩))
    ((first
      | (go_at_call 96; refine (end_any N (by omega) _).mono ?_; intro e w1 hm; obtain ⟨D1, c1, rfl, ho1, hb1, _, _⟩ := hm.n HP.out; have eb1 : w1.heap[b]? = w.heap[b]? := (hb1.block b (by show b < W0.heap.size; omega)).trans E0.out; have g1 : w1.there w.heap.size 0 32 := there_same G0.out (hb1.block _ (by show w.heap.size < W0.heap.size; omega)); have s1 : w.heap.size < w1.heap.size := Nat.lt_of_lt_of_le (by show w.heap.size < W0.heap.size; omega) hb1.size; have S1 : Bs w1 w1.heap.size D1 P (padZ N) := Made.bs ho1 (padZ_bytes N); have B1 := BR.out w1 eb1; have q1 : Below w.heap.size w w1 := b0.drew.trans (hb1.mono (by show w.heap.size ≤ W0.heap.size; omega)))
      | (go_at_call 25; refine (cat2_any (w := w1) 64 c1 22 B1 S1 (by omega) (Nat.le_refl _) (by omega) 2 _ rfl).mono ?_; intro e w2 hm2; obtain ⟨D2, c2, rfl, ho2, hb2, _, _⟩ := hm2.n HRL.out; have eb2 : w2.heap[b]? = w.heap[b]? := (hb2.block b (by simp <;> omega)).trans ((Below.heap_alloc _ _ _ (by omega)).trans eb1); have g2 : w2.there w.heap.size 0 32 := there_same g1 ((hb2.block _ (by simp <;> omega)).trans (Below.heap_alloc _ _ _ (by omega))); have s2 : w.heap.size < w2.heap.size := Nat.lt_of_lt_of_le s1 (Nat.le_trans (by simp) hb2.size); have S2 : Bs w2 w2.heap.size D2 L (restZ bs ++ padZ N) := Made.bs ho2 ((restZ_bytes hbs).app (padZ_bytes N)); have q2 : Below w.heap.size w w2 := (q1.alloc (by omega) _).trans (hb2.mono (by simp <;> omega)))
      | (go_at_call 94; refine (behind_any V VOK.out c2 S2 (Nat.le_refl _) (by omega) (HKK.out.below q2 HKl.out)).mono ?_; rw [HV2.out]; rintro e w3 ⟨rfl, hb3⟩; have eb3 : w3.heap[b]? = w.heap[b]? := (hb3.block b (by omega)).trans eb2; have g3 : w3.there w.heap.size 0 32 := there_same g2 (hb3.block _ (by omega)); have s3 : w.heap.size < w3.heap.size := Nat.lt_of_lt_of_le s2 hb3.size; have q3 : Below w.heap.size w w3 := q2.trans (hb3.mono (by omega)))
      | (go_at_call 95; refine (tag_any V2 V2OK.out _).mono ?_; rw [HTV.out]; rintro e w4 ⟨rfl, hb4⟩; have eb4 : w4.heap[b]? = w.heap[b]? := (hb4.block b (by omega)).trans eb3; have g4 : w4.there w.heap.size 0 32 := there_same g3 (hb4.block _ (by omega)); have s4 : w.heap.size < w4.heap.size := Nat.lt_of_lt_of_le s3 hb4.size; have q4 : Below w.heap.size w w4 := q3.trans (hb4.mono (by omega)))))
  have R5 := World.rangeAt_setCells_same w4 w.heap.size 0 (vals T) (by rw [hl32]; exact g4)
  have q5 : Below w.heap.size w (w4.setCells w.heap.size 0 (vals T)) := below_setCells (Nat.le_refl _) _ _ _ q4
  have HQ5 := Lib.hid q5
  have HR5 := Lib.hid R5
  have HI := Lib.hid hi
  have HU := Lib.hid hu
  clear q5 R5 hi hu hl32 h1c q1 q2 q3 q4 eb1 eb2 eb3 eb4 g1 g2 g3 g4 S1 S2 B1 hm hm2 ho1 ho2 hb1 hb2 hb3 hb4
  go_wp2
  exact bodyPost_ret (v := .tuple #[.agg (vals T).toArray, .int .i64 0]) (results_mid_tmp (p := 2) (u := 3) (ty := 24) rfl _ _ w.heap.size 0 (vals T) _ rfl HR5.out HU.out rfl HI.out) rfl ⟨by rw [HT.out], HQ5.out⟩
end Go.Proofs.YtlknjaoamkcmjaaDoor
/- The tag of bytes, as the program's Sum tells it. -/
namespace Go.Proofs.YtlknjaoamkcmjaaDoor
open Go.ChangeShapes Go.WideShapes Go.ChangeAt Go.RowKit
set_option linter.unusedVariables false
open Plain Sha
theorem below_hash {w w' : World} {b : Nat} (h : w.grownBy w' (some b)) {B : Nat} (hb : B ≤ b) {a : World} (ha : Below B a w) (hB : B ≤ w.heap.size) : Below B a w' := ha.grown h hB (fun k e => by injection e with e; omega)
set_option maxRecDepth 100000 in
set_option maxHeartbeats 1000000 in
theorem sumB_any {w : World} {B : Nat} {A : Option Addr} {n : Nat} (c : Nat) {zs : List Int} (hz : Bs w B A n zs) (hB : B ≤ w.heap.size) (hn : n ≤ 1000000000) (hF : LaidF w) (hK : LaidK w) :
    Calls Tryd.prog 71 #[.slice A n c] w fun e w' => e = .returned (.agg (vals (shaZ zs)).toArray) ∧ Below w.heap.size w w' := by
  obtain ⟨T, hT⟩ : ∃ T, shaZ zs = T := ⟨_, rfl⟩
  have hTl : T.length = 32 := by rw [← hT]; unfold shaZ; exact tagZ_len _
  obtain ⟨W0, hW0⟩ : ∃ W0, W0 = w.alloc (.cells (vals (List.replicate 32 0)).toArray 24) := ⟨_, rfl⟩
  have b0 : Below w.heap.size w W0 := by rw [hW0]; exact (Below.refl _ _).alloc (Nat.le_refl _) _
  have s0 : W0.heap.size = w.heap.size + 1 := by rw [hW0]; simp
  have g0 : W0.there w.heap.size 0 32 := by rw [hW0]; simpa using (Row8.new w (List.replicate 32 0) 24).there
  have HFl := Lib.hid hF.lt
  have HKl := Lib.hid hK.lt
  have HW0 := Lib.hid hW0
  have HI := Lib.hid (show (Tryd.prog.info? 24).map (·.size) = some (vals T).length by rw [vals_len, hTl]; kernel_rfl)
  have HT := Lib.hid hT
  have HTl := Lib.hid hTl
  have A32 := Lib.hid (all_oneCell_toArray (vals_one T))
  clear hW0 hT hTl
  go_enter Tryd.func71, Tryd.ntmps71
  go_wp2_with fail
  refine (show Calls Tryd.prog _ _ (w.alloc (.cells (vals (List.replicate 32 0)).toArray 24)) _ from ?_)
  rw [← HW0.out]
  refine (new_any W0 (hF.below b0 HFl.out)).mono ?_
  rintro e w1 ⟨rfl, h1, b1, s1⟩
  rw [s0] at h1 s1
  have q1 : Below w.heap.size w w1 := b0.trans (b1.mono (by omega))
  have g1 : w1.there w.heap.size 0 32 := there_same g0 (b1.block _ (by omega))
  have K1 := Lib.hid (hK.below q1 HKl.out)
  have z1 : Bs w1 B A n zs := (hz.belowM q1 hB)
  have H1 := Lib.hid h1
  clear h1 b1 g0
  go_wp2_with fail
  refine (write_any H1.out IsBytes.nil c z1 (by omega) (by simp; omega) K1.out (by have := HKl.out; omega)).mono ?_
  rintro e w2 ⟨rfl, h2, g2⟩
  rw [List.nil_append] at h2
  have q2 : Below w.heap.size w w2 := below_hash g2 (by omega) q1 (by omega)
  have t2 : w2.there w.heap.size 0 32 := there_same g1 (g2.block _ (by omega) (by simp <;> omega))
  have s2 := g2.size
  have K2 := Lib.hid (hK.below q2 HKl.out)
  have H2 := Lib.hid h2
  clear h2 g2 g1 z1 K1 H1
  go_wp2_with fail
  refine (sum_any H2.out hz.isBytes (by rw [hz.len]; omega) K2.out).mono ?_
  rw [HT.out]
  rintro e w3 ⟨rfl, b3⟩
  have q3 : Below w.heap.size w w3 := q2.trans (b3.mono (by omega))
  have t3 : w3.there w.heap.size 0 32 := there_same t2 (b3.block _ (by omega))
  have s3 := b3.size
  have T4 : Hid ((w3.alloc (.cells (vals (List.replicate 32 0)).toArray 24)).there w3.heap.size 0 (vals T).toArray.size) := Lib.hid (by
    have e : (vals T).toArray.size = 32 := by rw [List.size_toArray, vals_len, HTl.out]
    rw [e]; simpa using (Row8.new w3 (List.replicate 32 0) 24).there)
  have T3 := Lib.hid (t3)
  have hX : ∀ w4, Hid (w4 = (w3.alloc (.cells (vals (List.replicate 32 0)).toArray 24)).setCells w3.heap.size 0 (vals T).toArray.toList) → w4.rangeAt w3.heap.size 0 (vals T) ∧ w4.there w.heap.size 0 (vals T).toArray.size ∧ Below w.heap.size w w4 := fun w4 hw4 => by
    have e : (vals T).toArray.size = 32 := by rw [List.size_toArray, vals_len, HTl.out]
    rw [hw4.out]
    refine ⟨World.rangeAt_setCells_same _ _ _ _ T4.out, ?_, below_setCells (by omega) _ _ _ (q3.alloc (by omega) _)⟩
    rw [e]
    exact World.there_setCells (World.there_alloc T3.out _) _ _ _
  have HX := Lib.hid hX
  clear b3 t3 t2 K2 H2 hX
  go_wp2_with (first
    | (have g := T4; clear g; refine wpList_store_as (op := ⟨none, .store 24 (.tmp 4) (.tmp 13), _, _, _, _⟩) rfl 24 (.tmp 4) (.tmp 13) rfl w3.heap.size 0 (vals T).toArray rfl rfl T4.out HI.out A32.out ?_; intro w4 hw4; have X4 := Lib.hid (HX.out w4 hw4); clear T4; have G2 := X4)
    | (have g := G2; clear g G2; refine wpList_load_mid (op := ⟨some 15, _, _, _, _, _⟩) rfl 24 (.tmp 4) rfl w3.heap.size 0 rfl (vals T) _ X4.out.1 Tryd.underlying24 rfl HI.out ?_; have G3 := X4)
    | (have g := G3; clear g G3; refine wpList_store_as (op := ⟨none, .store 24 (.tmp 2) (.tmp 15), _, _, _, _⟩) rfl 24 (.tmp 2) (.tmp 15) rfl w.heap.size 0 (vals T).toArray rfl rfl X4.out.2.1 HI.out A32.out ?_; intro w5 hw5))
  have R5 : w5.rangeAt w.heap.size 0 (vals T) := by
    rw [hw5.out]
    exact World.rangeAt_setCells_same _ _ _ _ X4.out.2.1
  have b5 : Below w.heap.size w w5 := by rw [hw5.out]; exact below_setCells (Nat.le_refl _) _ _ _ X4.out.2.2
  exact bodyPost_ret (v := .agg (vals T).toArray) (results_mid (p := 2) (ty := 24) rfl _ _ w.heap.size 0 (vals T) _ rfl R5 Tryd.underlying24 rfl HI.out) rfl ⟨by rw [HT.out], b5⟩
end Go.Proofs.YtlknjaoamkcmjaaDoor
/- Two tags are held against each other. -/
namespace Go.Proofs.YtlknjaoamkcmjaaDoor
open Go.ChangeShapes Go.WideShapes Go.ChangeAt Go.RowKit
set_option linter.unusedVariables false
open Plain Sha
/-- A tag is stored into a new variable: what is known of the world behind it. -/
theorem stored_tag {w w' : World} {T : List Int} (hl : T.length = 32) (h : Hid (w' = (w.alloc (.cells (vals (List.replicate 32 0)).toArray 24)).setCells w.heap.size 0 (vals T).toArray.toList)) :
    w'.rangeAt w.heap.size 0 (vals T) ∧ Below w.heap.size w w' ∧ w.heap.size < w'.heap.size := by
  have e : (vals T).toArray.size = 32 := by rw [List.size_toArray, vals_len, hl]
  have ht : (w.alloc (.cells (vals (List.replicate 32 0)).toArray 24)).there w.heap.size 0 (vals T).toArray.size := by
    rw [e]; simpa using (Row8.new w (List.replicate 32 0) 24).there
  rw [h.out]
  refine ⟨World.rangeAt_setCells_same _ _ _ _ ht, ?_, ?_⟩
  · have : ∀ (vs : List Value) (o : Nat) (u : World), Below w.heap.size w u → Below w.heap.size w (u.setCells w.heap.size o vs) := by
      intro vs
      induction vs with
      | nil => intro o u hu; exact hu
      | cons v r ih => intro o u hu; rw [World.setCells]; exact ih _ _ (hu.setCell (Nat.le_refl _) _)
    exact this _ _ _ ((Below.refl _ _).alloc (Nat.le_refl _) _)
  · have : ∀ (vs : List Value) (o : Nat) (u : World), (u.setCells w.heap.size o vs).heap.size = u.heap.size := by
      intro vs
      induction vs with
      | nil => intro o u; rfl
      | cons v r ih => intro o u; rw [World.setCells, ih]; simp [World.setCell]
    rw [this]; simp
theorem tag_there (w : World) (T : List Int) (hl : T.length = 32) : (w.alloc (.cells (vals (List.replicate 32 0)).toArray 24)).there w.heap.size 0 (vals T).toArray.size := by
  have e : (vals T).toArray.size = 32 := by rw [List.size_toArray, vals_len, hl]
  rw [e]; simpa using (Row8.new w (List.replicate 32 0) 24).there
theorem tag_size (T : List Int) (hl : T.length = 32) : (Tryd.prog.info? 24).map (·.size) = some (vals T).length := by rw [vals_len, hl]; kernel_rfl
end Go.Proofs.YtlknjaoamkcmjaaDoor
/- The hash, reckoned fast: for the kernel; it is the same. The tags of the examples; of up to 200 noughts all are unlike. -/
namespace Go.Proofs.YtlknjaoamkcmjaaDoor.Sha
open Go.Proofs.YtlknjaoamkcmjaaDoor.Plain
set_option linter.unusedVariables false
end Go.Proofs.YtlknjaoamkcmjaaDoor.Sha
