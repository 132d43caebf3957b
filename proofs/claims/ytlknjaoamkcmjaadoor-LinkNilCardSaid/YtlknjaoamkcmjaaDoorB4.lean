/- Texts of the proof, one behind the other: HmacZ Repeat HSame HBlk HSum Str HDer. -/
import Derived.Test.YtlknjaoamkcmjaaDoorB2
import Derived.Test.YtlknjaoamkcmjaaDoorB1
import Derived.Lib.MakeNoZero
import Derived.Lib.SlBuf
import Derived.Test.YtlknjaoamkcmjaaDoorB3
import Derived.Deep.Cut
import Derived.Lib.ConvBytes
/- The HMAC of a key and bytes, plainly. -/
namespace Go.Proofs.YtlknjaoamkcmjaaDoor
open Go.ChangeShapes Go.WideShapes Go.ChangeAt Go.RowKit
set_option linter.unusedVariables false
open Plain
namespace Sha
/-- A key as the block takes it: a long one as its tag. -/
def shortZ (key : List Int) : List Int := if 64 < key.length then shaZ key else key
def keyZ (key : List Int) : List Int := shortZ key ++ List.replicate (64 - (shortZ key).length) 0
def blockZ (key : List Int) (x : Int) : List Int := xorZ (keyZ key) (List.replicate 64 x)
def hmacZ (key b : List Int) : List Int := shaZ (blockZ key 92 ++ shaZ (blockZ key 54 ++ b))
theorem shaZ_len32 (bs : List Int) : (shaZ bs).length = 32 := by unfold shaZ; exact tagZ_len _
theorem shaZ_bytes (bs : List Int) : IsBytes (shaZ bs) := by unfold shaZ; exact tagZ_bytes _
theorem shortZ_le (key : List Int) : (shortZ key).length ≤ 64 := by
  unfold shortZ
  split
  · rw [shaZ_len32]; omega
  · omega
theorem keyZ_len (key : List Int) : (keyZ key).length = 64 := by
  unfold keyZ
  have := shortZ_le key
  rw [List.length_append, List.length_replicate]; omega
theorem shortZ_bytes {key : List Int} (h : IsBytes key) : IsBytes (shortZ key) := by
  unfold shortZ
  split
  · exact shaZ_bytes _
  · exact h
theorem keyZ_bytes {key : List Int} (h : IsBytes key) : IsBytes (keyZ key) := (shortZ_bytes h).app (rep_bytes _ _ (by omega) (by omega))
theorem blockZ_len (key : List Int) (x : Int) : (blockZ key x).length = 64 := by unfold blockZ; rw [xorZ_len, keyZ_len, List.length_replicate]; omega
theorem blockZ_bytes {key : List Int} (h : IsBytes key) (x : Int) (h0 : 0 ≤ x) (h1 : x < 256) : IsBytes (blockZ key x) := xorZ_bytes (keyZ_bytes h) (rep_bytes _ _ h0 h1)
theorem hmacZ_len (key b : List Int) : (hmacZ key b).length = 32 := shaZ_len32 _
theorem hmacZ_bytes (key b : List Int) : IsBytes (hmacZ key b) := shaZ_bytes _
theorem shortZ_of {key : List Int} (h : key.length ≤ 64) : shortZ key = key := by unfold shortZ; rw [if_neg (by omega)]
theorem shortZ_long {key : List Int} (h : 64 < key.length) : shortZ key = shaZ key := by unfold shortZ; rw [if_pos h]
end Sha
end Go.Proofs.YtlknjaoamkcmjaaDoor
/- One byte, sixty-four times: what bytes.Repeat returns. -/
namespace Go.Proofs.YtlknjaoamkcmjaaDoor
open Go.ChangeShapes Go.WideShapes Go.ChangeAt Go.RowKit
set_option linter.unusedVariables false
set_option maxRecDepth 100000 in
theorem mul64_any (w : World) : Calls Tryd.prog 98 #[.int .u64 1, .int .u64 64] w fun e w' => e = .returned (.tuple #[.int .u64 0, .int .u64 64]) ∧ w = w' := by
  go_enter Tryd.func98, Tryd.ntmps98
  go_wp2
  go_ret2
  exact ⟨rfl, rfl⟩
set_option maxRecDepth 100000 in
theorem mul_any (w : World) : Calls Tryd.prog 92 #[.int .u64 1, .int .u64 64] w fun e w' => e = .returned (.tuple #[.int .u64 0, .int .u64 64]) ∧ w = w' := by
  go_enter Tryd.func92, Tryd.ntmps92
  go_wp2_with fail
  refine (mul64_any w).mono ?_
  rintro e w1 ⟨rfl, rfl⟩
  go_wp2
  go_ret2
  exact ⟨rfl, rfl⟩
theorem size_setCells (b : Nat) : ∀ (vs : List Value) (o : Nat) (w : World), (w.setCells b o vs).heap.size = w.heap.size
  | [], _, _ => rfl
  | v :: r, o, w => by rw [World.setCells, size_setCells b r]; simp [World.setCell]
theorem rep_at (n j : Nat) (x : Int) (h : j < n) : (List.replicate n x).getD j 0 = x := by
  rw [List.getD_eq_getElem?_getD, List.getElem?_replicate, if_pos h]; rfl
theorem range_grow {w : World} {g k m : Nat} {x : Int} (h : w.rangeAt g 0 (vals (List.replicate k x))) (ht : w.there g 0 64) (hkm : k + m ≤ 64) : (w.setCells g k (vals (List.replicate m x))).rangeAt g 0 (vals (List.replicate (k + m) x)) := by
  have h1 : (w.setCells g k (vals (List.replicate m x))).rangeAt g 0 (vals (List.replicate k x)) := World.rangeAt_setCells_apart h _ _ _ (by rw [vals_len, List.length_replicate]; right; left; omega)
  have h2 : (w.setCells g k (vals (List.replicate m x))).rangeAt g k (vals (List.replicate m x)) := World.rangeAt_setCells_same w g k _ (there_sub ht (by omega) (by rw [vals_len, List.length_replicate]; omega))
  intro j v hv
  rw [← List.replicate_append_replicate, vals_app] at hv
  by_cases hj : j < k
  · rw [List.getElem?_append_left (by rw [vals_len, List.length_replicate]; exact hj)] at hv
    exact h1 j v hv
  · rw [List.getElem?_append_right (by rw [vals_len, List.length_replicate]; omega), vals_len, List.length_replicate] at hv
    have := h2 (j - k) v hv
    rwa [show k + (j - k) = 0 + j from by omega] at this
theorem range_src {w : World} {g k m : Nat} {x : Int} (h : w.rangeAt g 0 (vals (List.replicate k x))) (hm : m ≤ k) (j : Nat) (v : Value) (hv : (vals (List.replicate m x))[j]? = some v) : w.cell? (({ block := g, off := 0 } : Addr).add j) = some v := by
  have hj : j < m := by have := (List.getElem?_eq_some_iff.1 hv).1; rwa [vals_len, List.length_replicate] at this
  have := h j v (by
    rw [← hv]
    simp [vals, hj, show j < k by omega])
  rwa [← Go.WideShapes.add_plain] at this
theorem there_arr {w : World} {b : Nat} {cs : Array Value} {t : TypeId} {fr : Nat × Nat} (h : w.heap[b]? = some (.cells cs t (0, 0))) (n : Nat) (hn : n ≤ cs.size) : w.there b 0 n := fun j hj => by
  rw [cell_of_row _ _ _ _ _ _ h]
  refine ⟨?_, frozen_of_row _ _ _ _ _ h⟩
  rw [Array.getElem?_eq_getElem (show 0 + j < cs.size by omega)]; rfl
theorem sizeOf_u8 (w : World) : (Go.sizeOf 5).run Tryd.prog w = .ok 1 w := by
  obtain ⟨i, z, hi, hz, hs, hb, _⟩ := u8_info
  simp [Go.sizeOf, typeInfo, hi, hs]
set_option maxRecDepth 100000 in
set_option maxHeartbeats 2000000 in
theorem repeat_any {B : Nat} {A : Option Addr} (c : Nat) (x : Int) {w : World} (h : Bs w B A 1 [x]) (hB : B ≤ w.heap.size) :
    Calls Tryd.prog 85 #[.slice A 1 c, .int .i64 64] w fun e w' => ∃ g, e = .returned (.slice (some ⟨g, 0, none⟩) 64 64) ∧ Bs w' (g + 1) (some ⟨g, 0, none⟩) 64 (List.replicate 64 x) ∧ w.heap.size ≤ g ∧ g < w'.heap.size ∧ Below w.heap.size w w' := by
  obtain ⟨cs, hrunM, hle, _⟩ := Lib.run_makeNoZero (P := Tryd.prog) w #[3] 22 5 Tryd.underlying22 64 (by omega)
  have hcall : (callFunc 93 #[.int .i64 64]).run Tryd.prog w = .ok (.value (.slice (some ⟨w.heap.size, 0, none⟩) 64 cs.size)) ((w.alloc (.cells cs 5)).drewN 2) := by
    rw [run_callFunc_extern Tryd.func93 (by kernel_rfl) (by kernel_rfl) (by kernel_rfl) (e := Extern.BytealgMakeNoZero.makeNoZero #[3] #[22]) (by kernel_rfl)]
    exact (show _ from by rw [show (Extern.BytealgMakeNoZero.makeNoZero #[3] #[22] #[.int .i64 64]).run Tryd.prog w = _ from hrunM]; rfl)
  clear hrunM
  obtain ⟨W0, hW0⟩ : ∃ W0, W0 = (w.alloc (.cells cs 5)).drewN 2 := ⟨_, rfl⟩
  have b0 : Below w.heap.size w W0 := by rw [hW0]; exact below_drewN ((Below.refl _ _).alloc (Nat.le_refl _) _) 2
  have t0 : W0.there w.heap.size 0 64 := by
    rw [hW0]
    exact there_arr (w := (w.alloc (.cells cs 5)).drewN 2) (fr := (0, 0)) (heap_alloc_new w (.cells cs 5)) 64 hle
  have s0 : w.heap.size < W0.heap.size := by rw [hW0]; show w.heap.size < (w.alloc (.cells cs 5)).heap.size; simp
  rw [← hW0] at hcall
  have i0 : (64 : Int) ≤ (cs.size : Int) := by omega
  have HU8 := Lib.hid (show (Tryd.prog.info? 5).map (·.size) = some 1 by kernel_rfl)
  have Z := Lib.hid (h.belowM b0 hB)
  have T0 := Lib.hid t0
  have B0 := Lib.hid b0
  clear hW0 t0 b0
  go_enter Tryd.func85, Tryd.ntmps85
  go_wp2_with fail
  refine (mul_any w).mono ?_
  rintro e w1 ⟨rfl, rfl⟩
  have G := B0
  go_wp2_with (have g := G; clear g; refine wpList_copy_as (o := ⟨some 60, _, _, _, _, _⟩) rfl (.tmp 58) (.tmp 59) 22 22 (by rfl) 5 Tryd.underlying22 HU8.out (some ⟨w.heap.size, 0, none⟩) A 64 64 1 c (by rfl) (by rfl) w.heap.size 0 (vals [x]) (by rfl) (there_sub T0.out (by omega) (by simp [vals])) (fun _ => ⟨rfl, by obtain ⟨b, o, e, _, _⟩ := Z.out.row (by omega); exact ⟨_, e, Z.out.lies.1.2 _ e⟩⟩) (vals_one _) ?_; intro w2 hw2; clear G)
  have t2 : w2.there w.heap.size 0 64 := by rw [hw2.out]; exact World.there_setCells T0.out _ _ _
  have r2 : w2.rangeAt w.heap.size 0 (vals (List.replicate 1 x)) := by rw [hw2.out]; exact World.rangeAt_setCells_same _ _ _ _ (there_sub T0.out (by omega) (by simp [vals]))
  have b2 : Below w.heap.size w w2 := by rw [hw2.out]; exact below_setCells (Nat.le_refl _) _ _ _ B0.out
  have s2 : w.heap.size < w2.heap.size := by rw [hw2.out, size_setCells]; exact s0
  have T2 := Lib.hid t2
  have R2 := Lib.hid r2
  clear hw2 t2 r2
  go_loopw [10] (fun i wr => ∃ k : Nat, 1 ≤ k ∧ k ≤ 64 ∧ i = .int .i64 k ∧ Hid (wr.rangeAt w.heap.size 0 (vals (List.replicate k x))) ∧ Hid (wr.there w.heap.size 0 64) ∧ Below w.heap.size w wr ∧ w.heap.size < wr.heap.size) (fun i _ => 64 - (intOf i).toNat)
  case atStart => exact ⟨1, by omega, by omega, rfl, R2, T2, b2, s2⟩
  case round =>
    obtain ⟨k, hk1, hk, rfl, HR, HT, hbel, hsz⟩ := hrel
    by_cases hlt : k < 64
    · obtain ⟨m, hm⟩ : ∃ m : Nat, min k (64 - k) = m := ⟨_, rfl⟩
      have hm1 : 1 ≤ m := by omega
      have hm2 : m ≤ k := by omega
      have hm3 : k + m ≤ 64 := by omega
      have hmin : min (k : Int) 64 = (k : Int) := by omega
      have hw5 : IntKind.i64.wrap ((k : Int) + (m : Int)) = ((k + m : Nat) : Int) := by rw [IntKind.wrap_i64]; omega
      have HM := Lib.hid hm
      have hsl : ∀ W, (Instr.slice 22 (.slice (some ⟨w.heap.size, 0, none⟩) 64 64) (some (.int .i64 (k : Int))) none none).run Tryd.prog W = .ok (.slice (some ⟨w.heap.size, k, none⟩) (64 - k) (64 - k)) W := fun W => by
        have := Lib.run_slice_tailV (P := Tryd.prog) W 22 5 Tryd.underlying22 (sizeOf_u8 ·) w.heap.size 64 k (by omega)
        rwa [show Lib.tailV w.heap.size 64 k = .slice (some ⟨w.heap.size, k, none⟩) (64 - k) (64 - k) by unfold Lib.tailV; rw [if_neg (by omega)]] at this
      have hsl2 := cut_h (some ⟨w.heap.size, 0, none⟩) 64 64 k (k : Int) rfl hk
      have hkI : (k : Int) ≤ 64 := by omega
      clear hm
      go_wp2
      go_region_held3 (fun _ => True) (exact trivial) ((first
        | (refine step_copy_as (by rfl) (.tmp 70) (.tmp 73) 22 22 (by rfl) 5 Tryd.underlying22 HU8.out (some ⟨w.heap.size, k, none⟩) (some ⟨w.heap.size, 0, none⟩) (64 - k) (64 - k) k 64 (by rfl) (by rfl) w.heap.size k (vals (List.replicate m x)) (by rw [vals_len, List.length_replicate, ← HM.out]) (there_sub HT.out (by omega) (by rw [vals_len, List.length_replicate]; omega)) (fun _ => ⟨rfl, _, rfl, fun j v hv => range_src (w := wr) HR.out hm2 j v hv⟩) (vals_one _) ?_; intro w6 hw6)))
      have r6 : w6.rangeAt w.heap.size 0 (vals (List.replicate (k + m) x)) := by rw [hw6.out]; exact range_grow (w := wr.drew) HR.out HT.out hm3
      have t6 : w6.there w.heap.size 0 64 := by rw [hw6.out]; exact World.there_setCells (w := wr.drew) HT.out _ _ _
      have b6 : Below w.heap.size w w6 := by rw [hw6.out]; exact below_setCells (Nat.le_refl _) _ _ _ hbel.drew
      have s6 : w.heap.size < w6.heap.size := by rw [hw6.out, size_setCells]; exact hsz
      have R6 := Lib.hid r6
      have T6 := Lib.hid t6
      clear r6 t6 hw6 hsl hsl2 hmin
      go_wp2
      go_roundw
      case rel => exact ⟨k + m, by omega, by omega, by first | rfl | (rw [hw5]) | (simp [vals_len, hw5]), R6, T6, b6, s6⟩
      case measure => simp [intOf, vals_len, hw5]; omega
    · have hk64 : k = 64 := by omega
      have hr : wr.rangeAt w.heap.size 0 (vals (List.replicate 64 x)) := by rw [← hk64]; exact HR.out
      have HB : Hid (Bs wr (w.heap.size + 1) (some ⟨w.heap.size, 0, none⟩) 64 (List.replicate 64 x)) := Lib.hid ⟨List.length_replicate .., fun j hj => by
        have e : (List.replicate 64 x).getD j 0 = x := rep_at 64 j x hj
        rw [e]; exact h.rng 0 (by omega), fun _ => ⟨_, 0, rfl, by omega, fun j hj => hr j _ (vals_at _ j (by rw [List.length_replicate]; exact hj))⟩⟩
      clear hk64 hr
      go_wp2
      go_ret
      exact ⟨w.heap.size, rfl, HB.out, Nat.le_refl _, hsz, hbel⟩
end Go.Proofs.YtlknjaoamkcmjaaDoor
/- Two tags are held against each other byte by byte, to the end: what hmac.Same returns. -/
namespace Go.Proofs.YtlknjaoamkcmjaaDoor
open Go.ChangeShapes Go.WideShapes Go.ChangeAt Go.RowKit
set_option linter.unusedVariables false
theorem bs_new' (w : World) (zs : List Int) (n : Nat) (hn : zs.length = n) (h : IsBytes zs) (t : TypeId) (g : Nat) (hg : w.heap.size = g) : Bs (w.alloc (.cells (vals zs).toArray t)) (g + 1) (some ⟨g, 0, none⟩) n zs := by
  subst hg hn
  refine ⟨rfl, h, fun hn => ⟨w.heap.size, 0, rfl, by omega, fun j hj => ?_⟩⟩
  have e := heap_alloc_new w (.cells (vals zs).toArray t)
  rw [cell_of_row _ _ _ _ _ _ e]
  simp [vals, List.getElem?_map, List.getElem?_eq_getElem hj, List.getD_eq_getElem?_getD]
theorem or_u8 (x y : Int) (h1 : 0 ≤ x) (h2 : x < 256) (h3 : 0 ≤ y) (h4 : y < 256) : 0 ≤ bits .or .u8 x y ∧ bits .or .u8 x y < 256 ∧ (bits .or .u8 x y = 0 ↔ x = 0 ∧ y = 0) := by
  obtain ⟨a, rfl⟩ := Int.eq_ofNat_of_zero_le h1
  obtain ⟨b, rfl⟩ := Int.eq_ofNat_of_zero_le h3
  rw [u8_or _ _ h1 h2 h3 h4]
  have := Nat.or_lt_two_pow (x := a) (y := b) (n := 8) (by omega) (by omega)
  simp only [Int.toNat_natCast]
  refine ⟨by omega, by omega, ?_⟩
  constructor
  · intro h
    have h5 : a ||| b = 0 := by omega
    rw [Nat.or_eq_zero_iff] at h5
    omega
  · rintro ⟨h5, h6⟩
    have e1 : a = 0 := by omega
    have e2 : b = 0 := by omega
    subst e1 e2
    rfl
theorem xor_zero (x y : Int) (h1 : 0 ≤ x) (h2 : x < 256) (h3 : 0 ≤ y) (h4 : y < 256) : bits .xor .u8 x y = 0 ↔ x = y := by
  obtain ⟨a, rfl⟩ := Int.eq_ofNat_of_zero_le h1
  obtain ⟨b, rfl⟩ := Int.eq_ofNat_of_zero_le h3
  rw [u8_xor _ _ h1 h2 h3 h4]
  simp only [Int.toNat_natCast]
  constructor
  · intro h
    have h5 : a ^^^ b = 0 := by omega
    have h6 : a ^^^ b ^^^ b = 0 ^^^ b := by rw [h5]
    rw [Nat.xor_assoc, Nat.xor_self, Nat.xor_zero, Nat.zero_xor] at h6
    omega
  · intro h
    have : a = b := by omega
    subst this
    simp
set_option maxRecDepth 100000 in
set_option maxHeartbeats 1000000 in
theorem hsame_any (a b : List Int) (ha : a.length = 32) (hb : b.length = 32) (ba : IsBytes a) (bb : IsBytes b) (w : World) :
    Calls Tryd.prog 32 #[.agg (vals a).toArray, .agg (vals b).toArray] w fun e w' => e = .returned (.bool (eqB a b)) ∧ Below w.heap.size w w' := by
  have z1 : Bs ((w.alloc (.cells (vals a).toArray 24)).alloc (.cells (vals b).toArray 24)).drew (w.heap.size + 1) (some ⟨w.heap.size, 0, none⟩) 32 a := ((bs_new' w a 32 ha ba 24 _ rfl).alloc (by simp) _).drew
  have z2 : Bs ((w.alloc (.cells (vals a).toArray 24)).alloc (.cells (vals b).toArray 24)).drew (w.heap.size + 1 + 1) (some ⟨w.heap.size + 1, 0, none⟩) 32 b := (bs_new' (w.alloc (.cells (vals a).toArray 24)) b 32 hb bb 24 _ (by simp)).drew
  have q0 : Below w.heap.size w ((w.alloc (.cells (vals a).toArray 24)).alloc (.cells (vals b).toArray 24)).drew := (((Below.refl _ _).alloc (Nat.le_refl _) _).alloc (by simp) _).drew
  have s0 : ((w.alloc (.cells (vals a).toArray 24)).alloc (.cells (vals b).toArray 24)).drew.heap.size = w.heap.size + 1 + 1 := by show ((w.alloc (.cells (vals a).toArray 24)).alloc (.cells (vals b).toArray 24)).heap.size = _; simp
  have XX := Lib.hid (xor_any 32 32 z1 z2 (by rw [s0]; omega) (by rw [s0]; omega) (by omega) (by omega))
  have HL : Hid ((xorZ a b).length = 32) := Lib.hid (by rw [xorZ_len]; omega)
  have HA := Lib.hid ha
  have HB := Lib.hid hb
  have Q0 := Lib.hid q0
  have S0 := Lib.hid s0
  have BA := Lib.hid ba
  have BB := Lib.hid bb
  clear z1 z2 q0 s0 ha hb ba bb
  go_enter Tryd.func32, Tryd.ntmps32
  go_wp2
  go_region_held3 (fun _ => True) (exact trivial) ((go_at_call 53; refine XX.out.mono ?_; intro e w1 hm; obtain ⟨A, c, rfl, ho, hb1, _, hc1⟩ := hm.n HL.out))
  have q1 : Below w.heap.size w w1 := Q0.out.trans (hb1.mono (by rw [S0.out]; omega))
  have Z := Lib.hid (Made.bs ho (xorZ_bytes BA.out BB.out))
  clear hm ho hb1
  have HX : ∀ k, k < 32 → 0 ≤ a.getD k 0 ∧ a.getD k 0 < 256 ∧ 0 ≤ b.getD k 0 ∧ b.getD k 0 < 256 ∧ (xorZ a b).getD k 0 = bits .xor .u8 (a.getD k 0) (b.getD k 0) := fun k hk =>
    ⟨(BA.out k (by rw [HA.out]; omega)).1, (BA.out k (by rw [HA.out]; omega)).2, (BB.out k (by rw [HB.out]; omega)).1, (BB.out k (by rw [HB.out]; omega)).2, xorZ_at a b k (by rw [HA.out]; omega) (by rw [HB.out]; omega)⟩
  have HXX := Lib.hid HX
  clear HX
  go_wp2
  go_loop [5, 12] (fun v i => ∃ k : Nat, k ≤ 32 ∧ i = .int .i64 k ∧ ∃ u : Int, 0 ≤ u ∧ u < 256 ∧ v = .int .u8 u ∧ Hid (u = 0 ↔ ∀ j, j < k → a.getD j 0 = b.getD j 0)) (fun _ i => 32 - (intOf i).toNat)
  case atStart => exact ⟨0, by omega, rfl, 0, by omega, by omega, rfl, Lib.hid ⟨fun _ j hj => absurd hj (by omega), fun _ => rfl⟩⟩
  case round =>
    obtain ⟨k, hk, rfl, u, hu0, hu1, rfl, HU⟩ := hrel
    by_cases hlt : k < 32
    · obtain ⟨b1, o1, u1, rfl, hb1, HU1, hu1, hu1', hc1⟩ := Z.out.at_ (k := k) (by omega)
      obtain ⟨h1, h2, h3, h4, h5⟩ := HXX.out k hlt
      rw [HU1.out] at h5
      have h6 := or_u8 u u1 hu0 (by omega) hu1 hu1'
      have HN : Hid (bits .or .u8 u u1 = 0 ↔ ∀ j, j < k + 1 → a.getD j 0 = b.getD j 0) := Lib.hid (by
        rw [h6.2.2, HU.out, h5, xor_zero _ _ h1 h2 h3 h4]
        constructor
        · rintro ⟨h, e⟩ j hj
          by_cases hjk : j = k
          · rw [hjk]; exact e
          · exact h j (by omega)
        · exact fun h => ⟨fun j hj => h j (by omega), h k (by omega)⟩)
      obtain ⟨h7, h8, _⟩ := h6
      clear h1 h2 h3 h4 h5
      go_wp2
      go_round
      case rel => exact ⟨k + 1, by omega, by go_num, _, h7, h8, rfl, HN⟩
      case measure => simp [intOf]; omega
    · have hk32 : k = 32 := by omega
      have HE : Hid ((u == 0) = eqB a b) := Lib.hid (by
        rw [Bool.eq_iff_iff, eqB, decide_eq_true_eq, beq_iff_eq, HU.out, hk32]
        exact ⟨fun h => list_ext_getD (by rw [HA.out, HB.out]) (fun j hj => h j (by rw [HA.out] at hj; exact hj)), fun h j _ => by rw [h]⟩)
      clear hk32
      go_wp2
      go_ret
      exact ⟨ret_bool (by rw [← HE.out]), q1⟩
end Go.Proofs.YtlknjaoamkcmjaaDoor
/- The block of a key: what makes it. -/
namespace Go.Proofs.YtlknjaoamkcmjaaDoor
open Go.ChangeShapes Go.WideShapes Go.ChangeAt Go.RowKit
set_option linter.unusedVariables false
open Plain Sha
/-- Block g is the variable that holds a key's block. -/
structure KeyVar (w : World) (g : Nat) (ks : List Int) : Prop where
  lt : g < w.heap.size
  row : ∃ D c, w.cell? ⟨g, 0, none⟩ = some (.slice D 64 c) ∧ Bs w g D 64 ks
theorem KeyVar.below {w w' : World} {g B : Nat} {ks : List Int} (h : KeyVar w g ks) (hb : Below B w w') (hB : g < B) : KeyVar w' g ks := by
  obtain ⟨D, c, h1, h2⟩ := h.row
  exact ⟨Nat.lt_of_lt_of_le h.lt hb.size, D, c, (hb.cell (p := ⟨g, 0, none⟩) hB).trans h1, h2.belowM hb (by omega)⟩
theorem keyVar_new {w : World} {D : Option Addr} {c : Nat} {ks : List Int} (h : Bs w w.heap.size D 64 ks) : KeyVar (w.alloc (.cells #[.slice D 64 c] 22)) w.heap.size ks :=
  ⟨by simp, D, c, by rw [cell_of_row _ _ _ _ _ _ (heap_alloc_new w _)]; rfl, h.alloc (Nat.le_refl _) _⟩
def ClosedOver (w : World) (ks : List Int) (e : Ending) (w' : World) : Prop :=
  ∃ g, e = .returned (.func (.func 84) #[] #[.pointer (some ⟨g, 0, none⟩)]) ∧ KeyVar w' g ks ∧ w.heap.size ≤ g ∧ Below w.heap.size w w'
set_option maxRecDepth 100000 in
set_option maxHeartbeats 1000000 in
theorem hblocks_short {B n : Nat} {A : Option Addr} (c : Nat) {zs : List Int} {w : World} (h : Bs w B A n zs) (hB : B ≤ w.heap.size) (hn : n ≤ 64) :
    Calls Tryd.prog 70 #[.slice A n c] w (ClosedOver w (keyZ zs)) := by
  obtain ⟨m, hm⟩ : ∃ m : Nat, 64 - n = m := ⟨_, rfl⟩
  have e : (64 : Int) - (n : Int) = (m : Int) := by omega
  have hmk := make_u8 m (by omega)
  rw [madeCells_vals] at hmk
  have g1 : ¬ 64 < (n : Int) := by omega
  have HK : Hid (zs ++ List.replicate m 0 = keyZ zs) := Lib.hid (by unfold keyZ; rw [shortZ_of (by rw [h.len]; exact hn), h.len, hm])
  have HL : Hid ((zs ++ List.replicate m 0).length = 64) := Lib.hid (by rw [HK.out, keyZ_len])
  have C2 := Lib.hid (cat2_any (w := w.alloc (.cells (vals (List.replicate m 0)).toArray 5)) c m 22 (h.alloc hB _) (bs_new w _ m (List.length_replicate ..) (rep_bytes _ _ (by omega) (by omega)) 5 _ rfl) (by simp; omega) (by simp) (by omega) 2 (w.heap.size + 1) (by simp))
  have HZ := Lib.hid (h.isBytes.app (rep_bytes m 0 (by omega) (by omega)))
  have HB0 : Hid (Below w.heap.size w ((w.alloc (.cells (vals (List.replicate m 0)).toArray 5)).alloc (.cells #[.slice A n c, .slice (some ⟨w.heap.size, 0, none⟩) m m] 22))) := Lib.hid (((Below.refl _ _).alloc (Nat.le_refl _) _).alloc (by simp) _)
  clear hm h
  go_enter Tryd.func70, Tryd.ntmps70
  have G := HL
  go_wp2_with (have g := G; clear g; with_reducible refine C2.out.mono ?_; intro e w5 hm5; obtain ⟨D, c5, rfl, ho5, hb5, _, _⟩ := hm5.n HL.out; clear G hm5)
  have q5 : Below w.heap.size w w5 := HB0.out.trans (hb5.mono (by simp; omega))
  have z5 := Made.bs ho5 HZ.out
  rw [HK.out] at z5
  have k5 := keyVar_new (c := c5) z5
  go_ret
  exact ⟨_, rfl, k5, q5.size, q5.alloc q5.size _⟩
theorem bs_range {w : World} {g n : Nat} {zs : List Int} (h : w.rangeAt g 0 (vals zs)) (hl : zs.length = n) (hb : IsBytes zs) : Bs w (g + 1) (some ⟨g, 0, none⟩) n zs := by
  subst hl
  exact ⟨rfl, hb, fun _ => ⟨g, 0, rfl, by omega, fun j hj => h j _ (vals_at zs j hj)⟩⟩
set_option maxRecDepth 100000 in
set_option maxHeartbeats 1000000 in
theorem hblocks_long {B n : Nat} {A : Option Addr} (c : Nat) {zs : List Int} {w : World} (h : Bs w B A n zs) (hB : B ≤ w.heap.size) (hn : 64 < n) (hn2 : n ≤ 1000000) (hF : LaidF w) (hK : LaidK w) :
    Calls Tryd.prog 70 #[.slice A n c] w (ClosedOver w (keyZ zs)) := by
  obtain ⟨T, hT⟩ : ∃ T, shaZ zs = T := ⟨_, rfl⟩
  have hTl : T.length = 32 := by rw [← hT]; exact shaZ_len32 _
  have hTb : IsBytes T := by rw [← hT]; exact shaZ_bytes _
  have hmk : ∀ w : World, (Instr.makeSlice 22 (.int .i64 32) (.int .i64 32)).run Tryd.prog w = .ok (.slice (some ⟨w.heap.size, 0, none⟩) 32 32) (w.alloc (.cells (madeCells #[.int .u8 0] 32) 5)) := make_u8 32 (by omega)
  rw [madeCells_vals] at hmk
  have g1 : 64 < (n : Int) := by omega
  have HK : Hid (T ++ List.replicate 32 0 = keyZ zs) := Lib.hid (by unfold keyZ; rw [shortZ_long (by rw [h.len]; exact hn), hT, hTl])
  have HL : Hid ((T ++ List.replicate 32 0).length = 64) := Lib.hid (by rw [HK.out, keyZ_len])
  have C1 := Lib.hid (sumB_any c h hB (by omega) hF hK)
  have HT := Lib.hid hT
  have LT := Lib.hid hTl
  have HTB := Lib.hid hTb
  have HZ := Lib.hid (hTb.app (rep_bytes 32 0 (by omega) (by omega)))
  clear hT hTl hTb h
  generalize hR : List.replicate 32 (0 : Int) = R at hmk
  have HR := Lib.hid hR
  clear hR
  go_enter Tryd.func70, Tryd.ntmps70
  go_wp2_with fail
  refine C1.out.mono ?_
  rw [HT.out]
  rintro e w1 ⟨rfl, b1⟩
  have G := LT
  go_upto_region 4 with (have g := G; clear g; refine wpList_store_as (op := ⟨none, .store 24 (.tmp 3) (.tmp 9), _, _, _, _⟩) rfl 24 (.tmp 3) (.tmp 9) rfl w1.heap.size 0 (vals T).toArray rfl rfl (tag_there w1 T LT.out) (tag_size T LT.out) (all_oneCell_toArray (vals_one T)) ?_; intro w2 hw2; clear G)
  obtain ⟨r2, b2, s2⟩ := stored_tag LT.out hw2
  have q2 := Lib.hid (b1.trans (b2.mono b1.size))
  have z2 := bs_range r2 LT.out HTB.out
  have C2 := Lib.hid (cat2_any (w := w2.alloc (.cells (vals R).toArray 5)) 32 32 22 (z2.alloc (by omega) _) (bs_new w2 R 32 (by rw [← HR.out]; exact List.length_replicate ..) (by rw [← HR.out]; exact rep_bytes _ _ (by omega) (by omega)) 5 _ rfl) (by simp; omega) (by simp) (by omega) 2 (w2.heap.size + 1) (by simp))
  have q3 : Hid (Below w.heap.size w ((w2.alloc (.cells (vals R).toArray 5)).alloc (.cells #[.slice (some ⟨w1.heap.size, 0, none⟩) 32 32, .slice (some ⟨w2.heap.size, 0, none⟩) 32 32] 22))) := Lib.hid ((q2.out.alloc q2.out.size _).alloc (by have := q2.out.size; simp; omega) _)
  have s3 := q2.out.size
  clear hw2 r2 z2 b2 b1
  have HLR : Hid ((T ++ R).length = 64) := Lib.hid (by rw [← HR.out]; exact HL.out)
  have G := HL
  go_wp2_with (have g := G; clear g; with_reducible refine C2.out.mono ?_; intro e w5 hm5; obtain ⟨D, c5, rfl, ho5, hb5, _, _⟩ := hm5.n HLR.out; clear G hm5)
  have q5 : Below w.heap.size w w5 := q3.out.trans (hb5.mono (by simp; omega))
  have z5 := Made.bs ho5 (by rw [← HR.out]; exact HZ.out)
  rw [← HR.out, HK.out] at z5
  have k5 := keyVar_new (c := c5) z5
  go_ret
  exact ⟨_, rfl, k5, q5.size, q5.alloc q5.size _⟩
theorem hblocks_any {B n : Nat} {A : Option Addr} (c : Nat) {zs : List Int} {w : World} (h : Bs w B A n zs) (hB : B ≤ w.heap.size) (hn2 : n ≤ 1000000) (hF : LaidF w) (hK : LaidK w) :
    Calls Tryd.prog 70 #[.slice A n c] w (ClosedOver w (keyZ zs)) := by
  by_cases hn : 64 < n
  · exact hblocks_long c h hB hn hn2 hF hK
  · exact hblocks_short c h hB (by omega)
/-- A key's block, each byte exclusive-or one. -/
def Block64 (w : World) (zs : List Int) (e : Ending) (w' : World) : Prop :=
  ∃ D c, e = .returned (.slice D 64 c) ∧ Bs w' w'.heap.size D 64 zs ∧ Below w.heap.size w w'
set_option maxRecDepth 100000 in
set_option maxHeartbeats 1000000 in
theorem hblk_any (x : Int) (hx0 : 0 ≤ x) (hx1 : x < 256) {g : Nat} {ks : List Int} {w : World} (h : KeyVar w g ks) :
    Calls Tryd.prog 84 #[.int .u8 x, .pointer (some ⟨g, 0, none⟩)] w (Block64 w (xorZ ks (List.replicate 64 x))) := by
  obtain ⟨D, c, hc, hz⟩ := h.row
  have hlt := h.lt
  have L1 : Hid ((xorZ ks (List.replicate 64 x)).length = 64) := Lib.hid (by rw [xorZ_len, hz.len, List.length_replicate]; rfl)
  have HB1 := Lib.hid (xorZ_bytes hz.isBytes (rep_bytes 64 x hx0 hx1))
  have HZ := Lib.hid hz
  have z1 : Hid (Bs (w.drew.alloc (.cells #[.int .u8 x] 5)) (w.heap.size + 1) (some ⟨w.heap.size, 0, none⟩) 1 [x]) := Lib.hid (by
    have := bs_new w.drew [x] 1 rfl (by unfold IsBytes; intro j hj; have : j = 0 := by simpa using hj
                                        subst this; exact ⟨hx0, hx1⟩) 5 w.heap.size rfl
    exact this)
  have HC := Lib.hid hc
  clear hz h
  go_enter Tryd.func84, Tryd.ntmps84
  go_wp2
  go_region_held3 (fun w' => w'.cell? ⟨g, 0, none⟩ = some (.slice D 64 c))
    (first
      | (exact HC.out)
      | (exact c2)
      | (exact c1)
      | (exact (World.cell?_alloc_lt _ _ _ hlt).trans HC.out))
    ((first
      | (go_at_call 85; refine (repeat_any _ x z1.out (by show w.heap.size + 1 ≤ (w.drew.alloc _).heap.size; simp)).mono ?_; rintro e w1 ⟨rg, rfl, zr, hr1, hr2, hb1⟩; have q1 : Below w.heap.size w w1 := ((Below.refl w.heap.size w).drew.alloc (Nat.le_refl _) _).trans (hb1.mono (by show w.heap.size ≤ (w.drew.alloc _).heap.size; simp)); have c1 : w1.cell? ⟨g, 0, none⟩ = some (.slice D 64 c) := (q1.cell (p := ⟨g, 0, none⟩) hlt).trans HC.out; have zk : Bs w1 g D 64 ks := HZ.out.belowM q1 (by omega))
      | (go_at_call 53; refine (xor_any c 64 zk zr (by have := q1.size; omega) (by omega) (by omega) (by omega)).mono ?_; intro e w2 hm2; obtain ⟨D2, c2', rfl, ho2, hb2, _, _⟩ := hm2.n L1.out; have q2 : Below w.heap.size w w2 := q1.trans (hb2.mono q1.size); have c2 : w2.cell? ⟨g, 0, none⟩ = some (.slice D 64 c) := (q2.cell (p := ⟨g, 0, none⟩) hlt).trans HC.out)))
  have z2 := Lib.hid (Made.bs ho2 HB1.out)
  clear ho2 hb2 hm2 zk zr
  go_wp2
  go_ret
  exact ⟨D2, c2', rfl, z2.out, q2⟩
end Go.Proofs.YtlknjaoamkcmjaaDoor
/- The HMAC of a key and bytes, as the program's Sum tells it. -/
namespace Go.Proofs.YtlknjaoamkcmjaaDoor
open Go.ChangeShapes Go.WideShapes Go.ChangeAt Go.RowKit
set_option linter.unusedVariables false
open Plain Sha
set_option maxRecDepth 100000 in
set_option maxHeartbeats 4000000 in
theorem hsum_any {w : World} {B1 B2 : Nat} {A1 A2 : Option Addr} {n1 n2 : Nat} (c1 c2 : Nat) {ks zs : List Int} (hk : Bs w B1 A1 n1 ks) (hz : Bs w B2 A2 n2 zs) (hB1 : B1 ≤ w.heap.size) (hB2 : B2 ≤ w.heap.size) (hn1 : n1 ≤ 1000000) (hn2 : n2 ≤ 1000000) (hF : LaidF w) (hK : LaidK w) :
    Calls Tryd.prog 45 #[.slice A1 n1 c1, .slice A2 n2 c2] w fun e w' => e = .returned (.agg (vals (hmacZ ks zs)).toArray) ∧ Below w.heap.size w w' := by
  obtain ⟨I, hI⟩ : ∃ I, shaZ (xorZ (keyZ ks) (List.replicate 64 54) ++ zs) = I := ⟨_, rfl⟩
  obtain ⟨T, hT⟩ : ∃ T, hmacZ ks zs = T := ⟨_, rfl⟩
  have hT2 : shaZ (xorZ (keyZ ks) (List.replicate 64 92) ++ I) = T := by rw [← hT, ← hI]; rfl
  have lI : I.length = 32 := by rw [← hI]; exact shaZ_len32 _
  have lT : T.length = 32 := by rw [← hT]; exact hmacZ_len _ _
  have bI : IsBytes I := by rw [← hI]; exact shaZ_bytes _
  have kb := keyZ_bytes hk.isBytes
  have X1 := Lib.hid (xorZ_bytes kb (rep_bytes 64 54 (by omega) (by omega)))
  have X2 := Lib.hid (xorZ_bytes kb (rep_bytes 64 92 (by omega) (by omega)))
  have L1 : Hid ((xorZ (keyZ ks) (List.replicate 64 54) ++ zs).length = 64 + n2) := Lib.hid (by rw [List.length_append, xorZ_len, keyZ_len, List.length_replicate, hz.len]; rfl)
  have L2 : Hid ((xorZ (keyZ ks) (List.replicate 64 92) ++ I).length = 96) := Lib.hid (by rw [List.length_append, xorZ_len, keyZ_len, List.length_replicate, lI]; rfl)
  have ZB := Lib.hid hz.isBytes
  obtain ⟨W0, hW0⟩ : ∃ W0, W0 = w.alloc (.cells (vals (List.replicate 32 0)).toArray 24) := ⟨_, rfl⟩
  have b0 : Below w.heap.size w W0 := by rw [hW0]; exact (Below.refl _ _).alloc (Nat.le_refl _) _
  have s0 : W0.heap.size = w.heap.size + 1 := by rw [hW0]; simp
  have g0 : W0.there w.heap.size 0 32 := by rw [hW0]; simpa using (Row8.new w (List.replicate 32 0) 24).there
  have HFl := Lib.hid hF.lt
  have HKl := Lib.hid hK.lt
  have HW0 := Lib.hid hW0
  have HI := Lib.hid hI
  have HT := Lib.hid hT
  have HT2 := Lib.hid hT2
  have LI := Lib.hid lI
  have LT := Lib.hid lT
  have HBI := Lib.hid bI
  have HKEY := Lib.hid hk
  have HZ := Lib.hid hz
  have HF := Lib.hid hF
  have HK := Lib.hid hK
  clear hI hT hT2 lI lT bI kb hW0 hk hz hF hK
  go_enter Tryd.func45, Tryd.ntmps45
  go_wp2_with fail
  refine (show Calls Tryd.prog _ _ (w.alloc (.cells (vals (List.replicate 32 0)).toArray 24)) _ from ?_)
  rw [← HW0.out]
  refine (hblocks_any c1 (HKEY.out.belowM b0 hB1) (by omega) (by omega) (HF.out.below b0 HFl.out) (HK.out.below b0 HKl.out)).mono ?_
  rintro e w1 ⟨g, rfl, k1, hg1, b1⟩
  have q1 := Lib.hid (b0.trans (b1.mono (by omega)))
  have g1 := Lib.hid (there_same g0 (b1.block _ (by omega)))
  have K1 := Lib.hid k1
  have s1 := k1.lt
  clear b1 k1 g0 b0
  go_wp2_with fail
  refine (hblk_any 54 (by omega) (by omega) K1.out).mono ?_
  rintro e w2 ⟨D2, c2', rfl, z2, b2⟩
  have q2 := Lib.hid (q1.out.trans (b2.mono q1.out.size))
  have g2 := Lib.hid (there_same g1.out (b2.block _ (by omega)))
  have K2 := Lib.hid (K1.out.below b2 s1)
  have s2 := b2.size
  have C2 := Lib.hid (cat2_any (w := w2) c2' c2 22 z2 (HZ.out.belowM q2.out hB2) (Nat.le_refl _) (Nat.le_trans hB2 q2.out.size) (by omega) 2 w2.heap.size rfl)
  clear b2 z2 K1 g1 q1
  go_wp2_with fail
  refine C2.out.mono ?_
  intro e w3 hm3
  obtain ⟨D3, c3, rfl, ho3, hb3, _, _⟩ := hm3.n L1.out
  have q3 := Lib.hid ((q2.out.alloc q2.out.size _).trans (hb3.mono (by have := q2.out.size; simp; omega)))
  have g3 := Lib.hid (there_same g2.out ((hb3.block _ (by simp; omega)).trans (Below.heap_alloc _ _ _ (by omega))))
  have K3 := Lib.hid ((K2.out.below ((Below.refl _ _).alloc (Nat.le_refl _) _) (by omega)).below hb3 (by simp; omega))
  have z3 := Made.bs ho3 (X1.out.app ZB.out)
  have s3 : w2.heap.size < w3.heap.size := Nat.lt_of_lt_of_le (by simp) hb3.size
  clear hm3 ho3 hb3 C2 K2 g2 q2
  go_wp2_with fail
  refine (sumB_any c3 z3 (Nat.le_refl _) (by omega) (HF.out.below q3.out HFl.out) (HK.out.below q3.out HKl.out)).mono ?_
  rw [HI.out]
  rintro e w4 ⟨rfl, b4⟩
  have q4 := Lib.hid (q3.out.trans (b4.mono q3.out.size))
  have g4 := Lib.hid (there_same g3.out (b4.block _ (by omega)))
  have K4 := Lib.hid (K3.out.below b4 (by omega))
  have s4 := b4.size
  clear b4 z3 K3 g3 q3
  have G := LI
  go_upto_region 3 with (have g := G; clear g; refine wpList_store_as (op := ⟨none, .store 24 (.tmp 6) (.tmp 14), _, _, _, _⟩) rfl 24 (.tmp 6) (.tmp 14) rfl w4.heap.size 0 (vals I).toArray rfl rfl (tag_there w4 I LI.out) (tag_size I LI.out) (all_oneCell_toArray (vals_one I)) ?_; intro w5 hw5; clear G)
  obtain ⟨r5, b5, s5⟩ := stored_tag LI.out hw5
  have q5 := Lib.hid (q4.out.trans (b5.mono q4.out.size))
  have g5 := Lib.hid (there_same g4.out (b5.block _ (by omega)))
  have K5 := Lib.hid (K4.out.below b5 (by omega))
  have z5 := Lib.hid (bs_range r5 LI.out HBI.out)
  obtain ⟨ib, hib⟩ : ∃ g, w4.heap.size = g := ⟨_, rfl⟩
  rw [hib] at s5 s4 z5
  simp only [hib]
  clear hw5 hib r5 b5 K4 g4 q4
  have hu := Tryd.underlying24
  have hi := tag_size T LT.out
  have hl32 : (vals T).length = 32 := by rw [vals_len, LT.out]
  have h1c := vals_one T
  have B92 := Lib.hid (hblk_any 92 (by omega) (by omega) (w := w5.drew) (g := g) (ks := keyZ ks) (K5.out.below (Below.refl w5.heap.size w5).drew K5.out.lt))
  go_region_held3 (fun w' => w'.there w.heap.size 0 32)
    (first
      | (exact g5.out)
      | (exact World.there_setCells g8 _ _ _)
      | (exact g8)
      | (exact g7)
      | (exact there_same g6 (Below.heap_alloc _ _ _ (by omega)))
      | (exact g6))
    ((first
      | (go_at_call 84; refine B92.out.mono ?_; rintro e w6 ⟨D6, c6, rfl, z6, b6⟩; have q6 : Below w.heap.size w w6 := q5.out.drew.trans (b6.mono q5.out.size); have g6 : w6.there w.heap.size 0 32 := there_same g5.out (b6.block _ (by show w.heap.size < w5.heap.size; omega)); have s6 : w5.heap.size ≤ w6.heap.size := b6.size; have z56 : Bs w6 (ib + 1) (some ⟨ib, 0, none⟩) 32 I := (z5.out.drew).belowM b6 (by show ib + 1 ≤ w5.heap.size; omega))
      | (go_at_call 25; refine (cat2_any (w := w6) c6 32 22 z6 z56 (Nat.le_refl _) (by omega) (by omega) 2 _ rfl).mono ?_; intro e w7 hm7; obtain ⟨D7, c7, rfl, ho7, hb7, _, _⟩ := hm7.n L2.out; have q7 : Below w.heap.size w w7 := (q6.alloc q6.size _).trans (hb7.mono (by have := q6.size; simp; omega)); have g7 : w7.there w.heap.size 0 32 := there_same g6 ((hb7.block _ (by simp; omega)).trans (Below.heap_alloc _ _ _ (by omega))); have z7 := Made.bs ho7 (X2.out.app HBI.out); have s7 : w6.heap.size < w7.heap.size := Nat.lt_of_lt_of_le (by simp) hb7.size)
      | (go_at_call 71; refine (sumB_any c7 z7 (Nat.le_refl _) (by omega) (HF.out.below q7 HFl.out) (HK.out.below q7 HKl.out)).mono ?_; rw [HT2.out]; rintro e w8 ⟨rfl, b8⟩; have q8 : Below w.heap.size w w8 := q7.trans (b8.mono q7.size); have g8 : w8.there w.heap.size 0 32 := there_same g7 (b8.block _ (by omega)))))
  have R9 := World.rangeAt_setCells_same w8 w.heap.size 0 (vals T) (by rw [hl32]; exact g8)
  have q9 : Below w.heap.size w (w8.setCells w.heap.size 0 (vals T)) := below_setCells (Nat.le_refl _) _ _ _ q8
  have R9' := Lib.hid R9
  have q9' := Lib.hid q9
  have hi' := Lib.hid hi
  clear R9 q9 hi hu hl32 h1c q6 q7 q8 g6 g7 g8 z6 z56 z7 ho7 hb7 hm7
  go_wp2
  exact bodyPost_ret (v := .agg (vals T).toArray) (results_mid (p := 4) (ty := 24) rfl _ _ w.heap.size 0 (vals T) _ rfl R9'.out Tryd.underlying24 rfl hi'.out) rfl ⟨by rw [HT.out], q9'.out⟩
end Go.Proofs.YtlknjaoamkcmjaaDoor
/- A string's bytes; the slice that a string is turned into. -/
namespace Go.Proofs.YtlknjaoamkcmjaaDoor
open Go.ChangeShapes Go.WideShapes Go.ChangeAt Go.RowKit
set_option linter.unusedVariables false
open Plain
/-- A string's bytes as numbers. -/
def strZ (s : ByteArray) : List Int := s.data.toList.map fun c => (c.toNat : Int)
theorem strZ_len (s : ByteArray) : (strZ s).length = s.size := by unfold strZ; rw [List.length_map]; rfl
theorem strZ_bytes (s : ByteArray) : IsBytes (strZ s) := by
  rw [isBytes_iff]
  intro z hz
  simp only [strZ, List.mem_map] at hz
  obtain ⟨c, _, rfl⟩ := hz
  have := c.toNat_lt
  omega
theorem bytesW_below (w : World) (s : ByteArray) : Below w.heap.size w (Go.Lib.bytesWorld w 5 s) :=
  ⟨rfl, rfl, rfl, by rw [Go.Lib.bytesWorld_size]; omega, fun k hk => Go.Lib.bytesWorld_at_old w _ s k hk⟩
theorem bytesW_bs (w : World) (s : ByteArray) : Bs (Go.Lib.bytesWorld w 5 s) (w.heap.size + 1) (some ⟨w.heap.size, 0, none⟩) s.size (strZ s) := by
  refine ⟨strZ_len s, fun j hj => strZ_bytes s j (by rw [strZ_len]; exact hj), fun _ => ⟨w.heap.size, 0, rfl, by omega, fun j hj => ?_⟩⟩
  rw [Nat.zero_add, Go.Lib.bytesWorld_cell w _ s j hj]
  have hj' : j < s.data.toList.length := hj
  simp [strZ, List.getD_eq_getElem?_getD, List.getElem?_map, List.getElem?_eq_getElem hj']
theorem run_toBytes (w : World) (s : ByteArray) : (convert 9 22 (.string s)).run Tryd.prog w = .ok (.slice (some ⟨w.heap.size, 0, none⟩) s.size (grownCap w s.size 0 5)) (Go.Lib.bytesWorld w 5 s) :=
  Go.Lib.run_convert_string_bytes w _ _ 5 s Tryd.underlying9 Tryd.underlying22 Tryd.underlying5
end Go.Proofs.YtlknjaoamkcmjaaDoor
/- Derived keys: what the program's named and Derive return. -/
namespace Go.Proofs.YtlknjaoamkcmjaaDoor
open Go.ChangeShapes Go.WideShapes Go.ChangeAt Go.RowKit
set_option linter.unusedVariables false
open Plain Sha
/-- A slice of ints that is read. -/
structure Ns (w : World) (B : Nat) (A : Option Addr) (n : Nat) (xs : List Int) : Prop where
  len : xs.length = n
  rng : ∀ j, j < n → -9223372036854775808 ≤ xs.getD j 0 ∧ xs.getD j 0 ≤ 9223372036854775807
  row : 0 < n → ∃ b off, A = some ⟨b, off, none⟩ ∧ b < B ∧ ∀ j, j < n → w.cell? ⟨b, off + j, none⟩ = some (.int .i64 (xs.getD j 0))
theorem Ns.below {w w' : World} {B B' n : Nat} {A : Option Addr} {xs : List Int} (h : Ns w B A n xs) (hb : Below B' w w') (hB : B ≤ B') : Ns w' B A n xs :=
  ⟨h.len, h.rng, fun hn => by
    obtain ⟨b, off, rfl, hlt, hc⟩ := h.row hn
    exact ⟨b, off, rfl, hlt, fun j hj => (hb.cell (p := ⟨b, off + j, none⟩) (by show b < B'; omega)).trans (hc j hj)⟩⟩
theorem Ns.at_ {w : World} {B n : Nat} {A : Option Addr} {xs : List Int} (h : Ns w B A n xs) {k : Nat} (hk : k < n) :
    ∃ b off u, A = some ⟨b, off, none⟩ ∧ b < B ∧ Hid (xs.getD k 0 = u) ∧ -9223372036854775808 ≤ u ∧ u ≤ 9223372036854775807 ∧ w.cell? ⟨b, off + k, none⟩ = some (.int .i64 u) := by
  obtain ⟨b, off, rfl, hb, hc⟩ := h.row (by omega)
  exact ⟨b, off, _, rfl, hb, rfl, (h.rng k hk).1, (h.rng k hk).2, hc k hk⟩
/-- A number's eight bytes, below 0 as 2^64 more. -/
def numB (x : Int) : List Int := putZ (x % 18446744073709551616) 8
theorem numB_len (x : Int) : (numB x).length = 8 := putZ_len _ _
theorem numB_bytes (x : Int) : IsBytes (numB x) := putZ_bytes _ _
def numsB : List Int → List Int
  | [] => []
  | x :: l => numB x ++ numsB l
theorem numsB_snoc (l : List Int) (x : Int) : numsB (l ++ [x]) = numsB l ++ numB x := by
  induction l with
  | nil => simp [numsB]
  | cons y r ih => simp [numsB, ih]
theorem numsB_len (l : List Int) : (numsB l).length = 8 * l.length := by
  induction l with
  | nil => rfl
  | cons y r ih => simp only [numsB, List.length_append, numB_len, ih, List.length_cons]; omega
theorem numsB_bytes (l : List Int) : IsBytes (numsB l) := by
  induction l with
  | nil => exact IsBytes.nil
  | cons y r ih => exact (numB_bytes y).app ih
/-- What is summed up to derive a key. -/
def formZ (s : ByteArray) (xs : List Int) : List Int := strZ s ++ [0] ++ numsB xs
theorem formZ_len (s : ByteArray) (xs : List Int) : (formZ s xs).length = s.size + 1 + 8 * xs.length := by
  unfold formZ; rw [List.length_append, List.length_append, strZ_len, numsB_len]; rfl
theorem zero_bytes : IsBytes [0] := by unfold IsBytes; decide
theorem formZ_bytes (s : ByteArray) (xs : List Int) : IsBytes (formZ s xs) := ((strZ_bytes s).app zero_bytes).app (numsB_bytes xs)
theorem formZ_snoc (s : ByteArray) (xs : List Int) (k : Nat) (h : k < xs.length) : formZ s (xs.take (k + 1)) = formZ s (xs.take k) ++ numB (xs.getD k 0) := by
  unfold formZ
  rw [take_snoc_getD _ _ h, numsB_snoc]
  simp only [List.append_assoc]
set_option maxRecDepth 100000 in
set_option maxHeartbeats 2000000 in
theorem named_any {w : World} {B : Nat} {A : Option Addr} {n : Nat} (c : Nat) (s : ByteArray) {xs : List Int} (h : Ns w B A n xs) (hB : B ≤ w.heap.size) (hs : s.size ≤ 1000) (hn : n ≤ 1000) :
    Calls Tryd.prog 72 #[.string s, .slice A n c] w (Made w (formZ s xs)) := by
  have hcv : ∀ W : World, (convert 9 22 (.string s)).run Tryd.prog W = .ok (.slice (some ⟨W.heap.size, 0, none⟩) s.size (grownCap W s.size 0 5)) (Go.Lib.bytesWorld W 5 s) := fun W =>
    Go.Lib.run_convert_string_bytes W 9 22 5 s Tryd.underlying9 Tryd.underlying22 Tryd.underlying5
  have HN := Lib.hid h
  have L := Lib.hid h.len
  clear h
  have B1 := Lib.hid (bytesW_below w s)
  have Z1 := Lib.hid (bytesW_bs w s)
  have S1 := Lib.hid (Go.Lib.bytesWorld_size w 5 s)
  go_enter Tryd.func72, Tryd.ntmps72
  go_wp2_with fail
  clear hcv
  obtain ⟨W1, hW1⟩ : ∃ W1, Go.Lib.bytesWorld w 5 s = W1 := ⟨_, rfl⟩
  rw [hW1] at B1 Z1 S1
  rw [hW1]
  clear hW1
  have s1 : w.heap.size + 1 ≤ W1.heap.size := by rw [S1.out]; omega
  refine (cat2_any (w := W1.alloc (.cells (vals [0]).toArray 5)) _ 1 22 (Z1.out.alloc s1 _) (bs_new W1 [0] 1 rfl zero_bytes 5 _ rfl) (by simp; omega) (by simp) (by omega) 2 _ (by simp)).mono ?_
  intro e w2 hm2
  obtain ⟨D2, c2, rfl, ho2, hb2, _, _⟩ := hm2.n (n := s.size + 1) (by rw [List.length_append, strZ_len]; rfl)
  have q2 : Below w.heap.size w w2 := ((B1.out.alloc (by omega) _).alloc (by simp; omega) _).trans (hb2.mono (by simp; omega))
  have own2 := own_base ho2 (base' := w.heap.size) (by simp; omega)
  clear hm2 ho2 hb2 S1 Z1 B1
  go_wp2
  go_loopw [5, 15] (fun v i wr => ∃ k : Nat, k ≤ n ∧ i = .int .i64 k ∧ wr.ownsRow w.heap.size 5 1 v (s.size + 1 + 8 * k) (vals (formZ s (xs.take k))) ∧ Below w.heap.size w wr) (fun _ i _ => n - (intOf i).toNat)
  case atStart => exact ⟨0, by omega, rfl, by simpa [formZ, numsB] using own2, q2⟩
  case round =>
    obtain ⟨k, hk, rfl, hown, hbel⟩ := hrel
    by_cases hlt : k < n
    · obtain ⟨b1, o1, u1, rfl, hb1, HU1, hu1, hu1', hc1⟩ := (HN.out.below hbel hB).at_ (k := k) hlt
      have hlI : (k : Int) < n := by omega
      have HT : Hid (vals (formZ s (xs.take (k + 1))) = vals (formZ s (xs.take k)) ++ vals (numB u1)) := Lib.hid (by rw [formZ_snoc s xs k (by rw [L.out]; exact hlt), vals_app, HU1.out])
      have OW := Lib.hid hown
      clear hown
      go_wp2_with fail
      refine (put64_any (u1 % 18446744073709551616) (by omega) (by omega) _).mono ?_
      intro e w3 hm3
      obtain ⟨D3, c3, rfl, ho3, hb3, _, _⟩ := hm3.n (n := 8) (putZ_len ..)
      have z3 := Lib.hid (Made.bs ho3 (putZ_bytes _ _))
      have own3 := Lib.hid (own_below OW.out hb3 (Nat.le_refl _))
      have q3 : Below w.heap.size w w3 := hbel.trans (hb3.mono hbel.size)
      have s3 := q3.size
      clear hm3 ho3 hb3 OW
      go_wp2_with (at_builtin; refine wpList_app _ rfl (.tmp 19) (.tmp 22) 22 rfl w.heap.size 5 1 1 Tryd.underlying22 u8_info (by omega) u5 (s.size + 1 + 8 * k) (vals (formZ s (xs.take k))) rfl own3.out D3 8 c3 (vals (numB u1)) rfl z3.out.lies.1 z3.out.lies.2 (vals_one _) (by unfold maxLen; omega) (by omega) s3 ?_; intro v4 w4 ho4 hg4)
      have q4 : Below w.heap.size w w4 := q3.grown hg4 s3 (fun j hj => (own3.out.lt j hj).1)
      have own4 : w4.ownsRow w.heap.size 5 1 v4 (s.size + 1 + 8 * (k + 1)) (vals (formZ s (xs.take (k + 1)))) := by rw [HT.out]; exact ho4
      clear ho4 hg4
      go_roundw
      case rel => exact ⟨k + 1, by omega, by go_num, own4, q4⟩
      case measure => simp [intOf]; omega
    · have hkn : k = n := by omega
      have HM : Made w (formZ s xs) (.returned u5) wr := made_of (n := s.size + 1 + 8 * k) (by rw [formZ_len, L.out, hkn]) (by rw [hkn, List.take_of_length_le (by rw [L.out]; omega)] at hown; rw [hkn]; exact hown) hbel
      have HM' := Lib.hid HM
      clear HM hkn hown
      go_wp2
      go_ret
      exact HM'.out
/-- What a call hands back that makes a derived key. -/
def Key32 (w : World) (zs : List Int) (e : Ending) (w' : World) : Prop :=
  ∃ g, e = .returned (.slice (some ⟨g, 0, none⟩) 32 32) ∧ Row8 w' g 0 zs ∧ w.heap.size ≤ g ∧ g < w'.heap.size ∧ Below w.heap.size w w'
def deriveZ (key : List Int) (s : ByteArray) (xs : List Int) : List Int := hmacZ key (formZ s xs)
theorem deriveZ_len (key : List Int) (s : ByteArray) (xs : List Int) : (deriveZ key s xs).length = 32 := hmacZ_len _ _
theorem deriveZ_bytes (key : List Int) (s : ByteArray) (xs : List Int) : IsBytes (deriveZ key s xs) := hmacZ_bytes _ _
set_option maxRecDepth 100000 in
set_option maxHeartbeats 2000000 in
theorem hderive_any {w : World} {B1 B2 : Nat} {A1 A2 : Option Addr} {n1 n2 : Nat} (c1 c2 : Nat) {ks xs : List Int} (s : ByteArray) (hk : Bs w B1 A1 n1 ks) (hx : Ns w B2 A2 n2 xs) (hB1 : B1 ≤ w.heap.size) (hB2 : B2 ≤ w.heap.size) (hn1 : n1 ≤ 1000000) (hs : s.size ≤ 1000) (hn2 : n2 ≤ 1000) (hF : LaidF w) (hK : LaidK w) :
    Calls Tryd.prog 46 #[.slice A1 n1 c1, .string s, .slice A2 n2 c2] w (Key32 w (deriveZ ks s xs)) := by
  have LX : Hid ((formZ s xs).length = s.size + 1 + 8 * n2) := Lib.hid (by rw [formZ_len, hx.len])
  obtain ⟨T, hT⟩ : ∃ T, hmacZ ks (formZ s xs) = T := ⟨_, rfl⟩
  have lT : Hid (T.length = 32) := Lib.hid (by rw [← hT]; exact hmacZ_len _ _)
  have C1 := Lib.hid (named_any c2 s hx hB2 hs hn2)
  have HT := Lib.hid hT
  have HKEY := Lib.hid hk
  have HF := Lib.hid hF
  have HK := Lib.hid hK
  have HFl := Lib.hid hF.lt
  have HKl := Lib.hid hK.lt
  clear hT hk hx hF hK
  go_enter Tryd.func46, Tryd.ntmps46
  go_wp2_with fail
  refine C1.out.mono ?_
  intro e w1 hm1
  obtain ⟨D1, d1, rfl, ho1, q1, _, _⟩ := hm1.n LX.out
  have z1 := Made.bs ho1 (formZ_bytes s xs)
  clear hm1 ho1
  go_wp2_with fail
  refine (hsum_any c1 d1 (HKEY.out.belowM q1 hB1) z1 (Nat.le_trans hB1 q1.size) (Nat.le_refl _) hn1 (by omega) (HF.out.below q1 HFl.out) (HK.out.below q1 HKl.out)).mono ?_
  rw [HT.out]
  rintro e w2 ⟨rfl, b2⟩
  have q2 := Lib.hid (q1.trans (b2.mono q1.size))
  clear b2 z1 q1
  have G := lT
  go_wp2_with (have g := G; clear g; refine wpList_store_as (op := ⟨none, .store 24 (.tmp 7) (.tmp 12), _, _, _, _⟩) rfl 24 (.tmp 7) (.tmp 12) rfl w2.heap.size 0 (vals T).toArray rfl rfl (tag_there w2 T lT.out) (tag_size T lT.out) (all_oneCell_toArray (vals_one T)) ?_; intro w3 hw3; clear G)
  obtain ⟨r3, b3, s3⟩ := stored_tag lT.out hw3
  have t3 : w3.there w2.heap.size 0 T.length := by
    have h : (w2.alloc (.cells (vals (List.replicate 32 0)).toArray 24)).there w2.heap.size 0 T.length := by
      have h0 := tag_there w2 T lT.out
      rwa [show (vals T).toArray.size = T.length by rw [List.size_toArray, vals_len]] at h0
    rw [hw3.out]
    exact World.there_setCells h _ _ _
  have q3 := q2.out.trans (b3.mono q2.out.size)
  go_ret
  exact ⟨w2.heap.size, rfl, by unfold deriveZ; rw [HT.out]; exact ⟨r3, t3⟩, q2.out.size, s3, q3⟩
end Go.Proofs.YtlknjaoamkcmjaaDoor
