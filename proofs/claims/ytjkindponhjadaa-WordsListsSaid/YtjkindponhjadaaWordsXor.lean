/- The walk of WordsXor: the exclusive or leads back. -/
import Derived.Test.YtjkindponhjadaaOwn
import Derived.Test.YtjkindponhjadaaAwake
namespace Go.Proofs.Ytjkindponhjadaa
open Go.ChangeShapes Go.WideShapes Go.ChangeAt Go.RowKit
set_option linter.unusedVariables false
open Plain
theorem xor_comm_u8 (x y : Int) (h1 : 0 ≤ x) (h2 : x < 256) (h3 : 0 ≤ y) (h4 : y < 256) : bits .xor .u8 x y = bits .xor .u8 y x := by
  rw [u8_xor x y h1 h2 h3 h4, u8_xor y x h3 h4 h1 h2, Nat.xor_comm]
theorem xor_back_u8 (x y : Int) (h1 : 0 ≤ x) (h2 : x < 256) (h3 : 0 ≤ y) (h4 : y < 256) : bits .xor .u8 (bits .xor .u8 x y) y = x := by
  have hr := xor_u8_range x y h1 h2 h3 h4
  rw [u8_xor _ y hr.1 hr.2 h3 h4, u8_xor x y h1 h2 h3 h4]
  simp [Nat.xor_assoc]; omega
theorem xor_self_u8 (x : Int) (h1 : 0 ≤ x) (h2 : x < 256) : bits .xor .u8 x x = 0 := by
  rw [u8_xor x x h1 h2 h1 h2]; simp
theorem xorZ_comm {a b : List Int} (ha : IsBytes a) (hb : IsBytes b) : xorZ a b = xorZ b a := by
  refine list_ext_getD (by rw [xorZ_len, xorZ_len]; omega) (fun j hj => ?_)
  rw [xorZ_len] at hj
  rw [xorZ_at a b j (by omega) (by omega), xorZ_at b a j (by omega) (by omega)]
  have h1 := ha j (by omega)
  have h2 := hb j (by omega)
  exact xor_comm_u8 _ _ h1.1 h1.2 h2.1 h2.2
theorem xorZ_back {a b : List Int} (ha : IsBytes a) (hb : IsBytes b) (n : Nat) (hn : n = min a.length b.length) : xorZ (xorZ a b) b = a.take n := by
  refine list_ext_getD (by rw [xorZ_len, xorZ_len, List.length_take]; omega) (fun j hj => ?_)
  rw [xorZ_len, xorZ_len] at hj
  rw [xorZ_at _ b j (by rw [xorZ_len]; omega) (by omega), xorZ_at a b j (by omega) (by omega)]
  have h1 := ha j (by omega)
  have h2 := hb j (by omega)
  rw [xor_back_u8 _ _ h1.1 h1.2 h2.1 h2.2]
  simp [List.getD_eq_getElem?_getD, show j < n by omega]
theorem xorZ_self {a : List Int} (ha : IsBytes a) (j : Nat) (hj : j < a.length) : (xorZ a a).getD j 0 = 0 := by
  have h1 := ha j hj
  rw [xorZ_at a a j hj hj, xor_self_u8 _ h1.1 h1.2]
theorem Bs.first {w : World} {B n : Nat} {A : Option Addr} {zs : List Int} (h : Bs w B A n zs) {m : Nat} (hm : m ≤ n) : Bs w B A m (zs.take m) := by
  have := h.cut (k := 0) (m := m) (by omega) A (fun b off e _ => by simpa using e)
  simpa using this
set_option maxHeartbeats 1000000 in
theorem wordsXor_walk (a0 : Option Addr) (len0 cap0 : Nat) (z0 : List Int) (a1 : Option Addr) (len1 cap1 : Nat) (z1 : List Int) (w : World) (w0 : IsRow .u8 w a0 len0 cap0 z0) (w1 : IsRow .u8 w a1 len1 cap1 z1) :
    Calls Try.prog 9 #[.slice a0 len0 cap0, .slice a1 len1 cap1] w fun e w' => e = .returned (.bool true) ∧ Below w.heap.size w w' := by
  obtain ⟨hb0, hm0, hc0⟩ := w0.bs
  obtain ⟨hb1, hm1, hc1⟩ := w1.bs
  generalize z0.take len0 = zs0 at *
  generalize z1.take len1 = zs1 at *
  have hm0' : len0 ≤ 9223372036854775807 := by unfold maxLen at hm0; omega
  have hm1' : len1 ≤ 9223372036854775807 := by unfold maxLen at hm1; omega
  have HM0 := Lib.hid hm0
  have HM1 := Lib.hid hm1
  clear hm0 hm1 w0 w1
  by_cases hlen : 3000 < len0
  · have : (3000 : Int) < len0 := by omega
    go_enter Try.func9, Try.ntmps9
    go_wp2_with (go_at_call 28; refine (awake_any w).mono ?_; rintro e w1 ⟨rfl, hb⟩)
    go_ret
    exact ⟨rfl, hb⟩
  by_cases hlen1 : 3000 < len1
  · have h3 : (3000 : Int) < len1 := by omega
    go_enter Try.func9, Try.ntmps9
    go_wp2_with (go_at_call 28; refine (awake_any w).mono ?_; rintro e w1 ⟨rfl, hb⟩)
    go_ret
    exact ⟨rfl, hb⟩
  have HZ := Lib.hid hb0.isBytes
  have HY := Lib.hid hb1.isBytes
  have HX := Lib.hid (xorZ_bytes hb0.isBytes hb1.isBytes)
  have HXX := Lib.hid (xorZ_bytes hb0.isBytes hb0.isBytes)
  have L0 := Lib.hid hb0.len
  have L1 := Lib.hid hb1.len
  have e1 : eqB (xorZ zs0 zs1) (xorZ zs1 zs0) = true := by rw [xorZ_comm HZ.out HY.out, eqB_self]
  have E1 := Lib.hid e1
  clear e1
  by_cases hlt : len1 < len0
  · have e2 : eqB (xorZ (xorZ zs0 zs1) zs1) (zs0.take len1) = true := by rw [xorZ_back HZ.out HY.out len1 (by rw [L0.out, L1.out]; omega), eqB_self]
    have E2 := Lib.hid e2
    have N1 : Hid ((xorZ zs0 zs1).length = len1) := Lib.hid (by rw [xorZ_len, L0.out, L1.out]; omega)
    have N0 : Hid ((xorZ zs0 zs0).length = len0) := Lib.hid (by rw [xorZ_len, L0.out]; omega)
    clear e2
    go_enter Try.func9, Try.ntmps9
    go_wp2_with (go_at_call 28; refine (awake_any w).mono ?_; rintro e w1 ⟨rfl, hb⟩)
    refine (xor_any cap0 cap1 (hb0.below hb) (hb1.below hb) hb.size hb.size (by omega) (by omega)).mono ?_
    intro e w2 hm
    obtain ⟨X, cx, rfl, hox, hb2, _, hcx⟩ := hm.n N1.out
    have hbw2 : Below w.heap.size w w2 := hb.trans (hb2.mono hb.size)
    have RX2 : Bs w2 w2.heap.size X len1 (xorZ zs0 zs1) := bs_of_own hox HX.out
    clear hm hox hb2 hb
    go_wp2_with fail
    refine (xor_any cap0 cap0 (hb0.below hbw2) (hb0.below hbw2) hbw2.size hbw2.size (by omega) (by omega)).mono ?_
    intro e w3 hm
    obtain ⟨Z, cz, rfl, hoz, hb3, _, hcz⟩ := hm.n N0.out
    have hbw3 : Below w.heap.size w w3 := hbw2.trans (hb3.mono hbw2.size)
    have RX3 : Bs w3 w2.heap.size X len1 (xorZ zs0 zs1) := RX2.below hb3
    have RZ3 : Bs w3 w3.heap.size Z len0 (xorZ zs0 zs0) := bs_of_own hoz HXX.out
    have hs2 := hbw2.size
    have hs3 := hb3.size
    have RA := hb0.below hbw3
    have RB := hb1.below hbw3
    have hi1 : (0 : Int) ≤ (len1 : Int) := by omega
    have hi2 : (len1 : Int) ≤ (cap0 : Int) := by omega
    clear hm hoz hb3 hbw2 RX2 hb0 hb1
    go_wp2_with fail
    go_region_held3 (fun _ => True) (exact trivial) ((first
      | (go_at_call_of 27 (Value.slice X len1 cx); refine (same_any cx cy (by exact RX4) (by exact RY4) (by unfold maxLen; omega) (by unfold maxLen; omega)).mono ?_; rw [E1.out]; rintro e w5 ⟨rfl, m5, rfl⟩)
      | (go_at_call 27; refine (same_any cy2 cap0 (by exact RY6) (by exact RA6) (by unfold maxLen; omega) (by unfold maxLen; omega)).mono ?_; rw [E2.out]; rintro e w7 ⟨rfl, m7, rfl⟩)
      | (go_at_call_of 24 (Value.slice X len1 cx); refine (xor_any cx cap1 (by exact (RX4.drewN _)) (by exact (RB4.drewN _)) (by simp; omega) (by simp; omega) (by omega) (by omega)).mono ?_; intro e w6 hm; obtain ⟨Y2, cy2, rfl, hoy2, hb6, _, hcy2⟩ := hm.n (n := len1) (by rw [xorZ_len, N1.out, L1.out]; omega); have RA6 := ((RA4.drewN m5).belowM hb6 (by simp; omega)).first (m := len1) (by omega); have RY6 : Bs w6 w6.heap.size Y2 len1 (xorZ (xorZ zs0 zs1) zs1) := bs_of_own hoy2 (xorZ_bytes HX.out HY.out))
      | (go_at_call 24; refine (xor_any cap1 cap0 (by exact RB.drew) (by exact RA.drew) (by simp; omega) (by simp; omega) (by omega) (by omega)).mono ?_; intro e w4 hm; obtain ⟨Y, cy, rfl, hoy, hb4, _, hcy⟩ := hm.n (n := len1) (by rw [xorZ_len, L0.out, L1.out]; omega); have RX4 := RX3.drew.belowM hb4 (by simp; omega); have RA4 := RA.drew.belowM hb4 (by simp; omega); have RB4 := RB.drew.belowM hb4 (by simp; omega); have RY4 : Bs w4 w4.heap.size Y len1 (xorZ zs1 zs0) := bs_of_own hoy (xorZ_bytes HY.out HZ.out); have hs4 := hb4.size; simp at hs4)))
    go_wp2
    have RZ6 := ((((RZ3.drew.belowM hb4 (by simp)).drewN m5).belowM hb6 (by simp; omega)).drewN m7)
    have hbw6 : Below w.heap.size w (w6.drewN m7) := below_drewN ((below_drewN (hbw3.drew.trans (hb4.mono (by have := hbw3.size; simpa using this))) m5).trans (hb6.mono (by have := hbw3.size; simp; omega))) m7
    have HU : Hid (∀ j, j < len0 → (xorZ zs0 zs0).getD j 0 = 0) := Lib.hid (fun j hj => xorZ_self HZ.out j (by rw [L0.out]; exact hj))
    have BW := Lib.hid hbw6
    clear hbw6 hb4 hb6 hm RX3 RX4 RA RA4 RA6 RB RB4 RY4 RY6 RZ3 hbw3 hoy hoy2 hs2 hs3 hs4
    generalize w6.drewN m7 = wl at *
    go_loop [8] (fun i => ∃ k : Nat, k ≤ len0 ∧ i = .int .i64 k) (fun i => len0 - (intOf i).toNat)
    case atStart => exact ⟨0, by omega, rfl⟩
    case round =>
      obtain ⟨k, hk, rfl⟩ := hrel
      by_cases hlk : k < len0
      · obtain ⟨b, o, u, rfl, _, HV, hu0, hu1, hc⟩ := RZ6.at_ hlk
        obtain rfl : u = 0 := by rw [← HV.out]; exact HU.out k hlk
        go_wp2
        go_round
        case rel => exact ⟨k + 1, by omega, by go_num⟩
        case measure => simp [intOf]; omega
      · go_wp2
        go_ret
        exact ⟨rfl, BW.out⟩
  · have e2 : eqB (xorZ (xorZ zs0 zs1) zs1) (zs0.take len0) = true := by rw [xorZ_back HZ.out HY.out len0 (by rw [L0.out, L1.out]; omega), eqB_self]
    have E2 := Lib.hid e2
    have N1 : Hid ((xorZ zs0 zs1).length = len0) := Lib.hid (by rw [xorZ_len, L0.out, L1.out]; omega)
    have N0 : Hid ((xorZ zs0 zs0).length = len0) := Lib.hid (by rw [xorZ_len, L0.out]; omega)
    clear e2
    go_enter Try.func9, Try.ntmps9
    go_wp2_with (go_at_call 28; refine (awake_any w).mono ?_; rintro e w1 ⟨rfl, hb⟩)
    refine (xor_any cap0 cap1 (hb0.below hb) (hb1.below hb) hb.size hb.size (by omega) (by omega)).mono ?_
    intro e w2 hm
    obtain ⟨X, cx, rfl, hox, hb2, _, hcx⟩ := hm.n N1.out
    have hbw2 : Below w.heap.size w w2 := hb.trans (hb2.mono hb.size)
    have RX2 : Bs w2 w2.heap.size X len0 (xorZ zs0 zs1) := bs_of_own hox HX.out
    clear hm hox hb2 hb
    go_wp2_with fail
    refine (xor_any cap0 cap0 (hb0.below hbw2) (hb0.below hbw2) hbw2.size hbw2.size (by omega) (by omega)).mono ?_
    intro e w3 hm
    obtain ⟨Z, cz, rfl, hoz, hb3, _, hcz⟩ := hm.n N0.out
    have hbw3 : Below w.heap.size w w3 := hbw2.trans (hb3.mono hbw2.size)
    have RX3 : Bs w3 w2.heap.size X len0 (xorZ zs0 zs1) := RX2.below hb3
    have RZ3 : Bs w3 w3.heap.size Z len0 (xorZ zs0 zs0) := bs_of_own hoz HXX.out
    have hs2 := hbw2.size
    have hs3 := hb3.size
    have RA := hb0.below hbw3
    have RB := hb1.below hbw3
    have hi1 : (0 : Int) ≤ (len0 : Int) := by omega
    have hi2 : (len0 : Int) ≤ (cap0 : Int) := by omega
    clear hm hoz hb3 hbw2 RX2 hb0 hb1
    go_wp2_with fail
    go_region_held3 (fun _ => True) (exact trivial) ((first
      | (go_at_call_of 27 (Value.slice X len0 cx); refine (same_any cx cy (by exact RX4) (by exact RY4) (by unfold maxLen; omega) (by unfold maxLen; omega)).mono ?_; rw [E1.out]; rintro e w5 ⟨rfl, m5, rfl⟩)
      | (go_at_call 27; refine (same_any cy2 cap0 (by exact RY6) (by exact RA6) (by unfold maxLen; omega) (by unfold maxLen; omega)).mono ?_; rw [E2.out]; rintro e w7 ⟨rfl, m7, rfl⟩)
      | (go_at_call_of 24 (Value.slice X len0 cx); refine (xor_any cx cap1 (by exact (RX4.drewN _)) (by exact (RB4.drewN _)) (by simp; omega) (by simp; omega) (by omega) (by omega)).mono ?_; intro e w6 hm; obtain ⟨Y2, cy2, rfl, hoy2, hb6, _, hcy2⟩ := hm.n (n := len0) (by rw [xorZ_len, N1.out, L1.out]; omega); have RA6 := ((RA4.drewN m5).belowM hb6 (by simp; omega)).first (m := len0) (by omega); have RY6 : Bs w6 w6.heap.size Y2 len0 (xorZ (xorZ zs0 zs1) zs1) := bs_of_own hoy2 (xorZ_bytes HX.out HY.out))
      | (go_at_call 24; refine (xor_any cap1 cap0 (by exact RB.drew) (by exact RA.drew) (by simp; omega) (by simp; omega) (by omega) (by omega)).mono ?_; intro e w4 hm; obtain ⟨Y, cy, rfl, hoy, hb4, _, hcy⟩ := hm.n (n := len0) (by rw [xorZ_len, L0.out, L1.out]; omega); have RX4 := RX3.drew.belowM hb4 (by simp; omega); have RA4 := RA.drew.belowM hb4 (by simp; omega); have RB4 := RB.drew.belowM hb4 (by simp; omega); have RY4 : Bs w4 w4.heap.size Y len0 (xorZ zs1 zs0) := bs_of_own hoy (xorZ_bytes HY.out HZ.out); have hs4 := hb4.size; simp at hs4)))
    go_wp2
    have RZ6 := ((((RZ3.drew.belowM hb4 (by simp)).drewN m5).belowM hb6 (by simp; omega)).drewN m7)
    have hbw6 : Below w.heap.size w (w6.drewN m7) := below_drewN ((below_drewN (hbw3.drew.trans (hb4.mono (by have := hbw3.size; simpa using this))) m5).trans (hb6.mono (by have := hbw3.size; simp; omega))) m7
    have HU : Hid (∀ j, j < len0 → (xorZ zs0 zs0).getD j 0 = 0) := Lib.hid (fun j hj => xorZ_self HZ.out j (by rw [L0.out]; exact hj))
    have BW := Lib.hid hbw6
    clear hbw6 hb4 hb6 hm RX3 RX4 RA RA4 RA6 RB RB4 RY4 RY6 RZ3 hbw3 hoy hoy2 hs2 hs3 hs4
    generalize w6.drewN m7 = wl at *
    go_loop [8] (fun i => ∃ k : Nat, k ≤ len0 ∧ i = .int .i64 k) (fun i => len0 - (intOf i).toNat)
    case atStart => exact ⟨0, by omega, rfl⟩
    case round =>
      obtain ⟨k, hk, rfl⟩ := hrel
      by_cases hlk : k < len0
      · obtain ⟨b, o, u, rfl, _, HV, hu0, hu1, hc⟩ := RZ6.at_ hlk
        obtain rfl : u = 0 := by rw [← HV.out]; exact HU.out k hlk
        go_wp2
        go_round
        case rel => exact ⟨k + 1, by omega, by go_num⟩
        case measure => simp [intOf]; omega
      · go_wp2
        go_ret
        exact ⟨rfl, BW.out⟩
end Go.Proofs.Ytjkindponhjadaa
