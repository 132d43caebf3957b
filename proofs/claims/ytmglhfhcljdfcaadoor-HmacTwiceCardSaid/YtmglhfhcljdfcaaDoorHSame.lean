/- Two tags are held against each other byte by byte, to the end: what hmac.Same returns. -/
import Derived.Test.YtmglhfhcljdfcaaDoorWords
namespace Go.Proofs.YtmglhfhcljdfcaaDoor
open Go.ChangeShapes Go.WideShapes Go.ChangeAt Go.RowKit
set_option linter.unusedVariables false
theorem bs_new' (w : World) (zs : List Int) (n : Nat) (hn : zs.length = n) (h : IsBytes zs) (t : TypeId) (g : Nat) (hg : w.heap.size = g) : Bs (w.alloc (.cells (vals zs).toArray t)) (g + 1) (some ⟨g, 0, none⟩) n zs := by
  subst hg hn
  refine ⟨rfl, h, fun hn => ⟨w.heap.size, 0, rfl, by omega, fun j hj => ?_⟩⟩
  have e := heap_alloc_new w (.cells (vals zs).toArray t)
  rw [cell_of_row _ _ _ _ _ _ e]
  simp [vals, List.getElem?_map, List.getElem?_eq_getElem hj, List.getD_eq_getElem?_getD]
theorem or_u8 (x y : Int) (h1 : 0 ≤ x) (h2 : x < 256) (h3 : 0 ≤ y) (h4 : y < 256) : 0 ≤ bits .or .u8 x y ∧ bits .or .u8 x y < 256 ∧ (bits .or .u8 x y = 0 ↔ x = 0 ∧ y = 0) := by
  obtain ⟨a, rfl⟩ := Int.eq_ofNat_of_zero_le h1
  obtain ⟨b, rfl⟩ := Int.eq_ofNat_of_zero_le h3
  rw [u8_or _ _ h1 h2 h3 h4]
  have := Nat.or_lt_two_pow (x := a) (y := b) (n := 8) (by omega) (by omega)
  simp only [Int.toNat_natCast]
  refine ⟨by omega, by omega, ?_⟩
  constructor
  · intro h
    have h5 : a ||| b = 0 := by omega
    rw [Nat.or_eq_zero_iff] at h5
    omega
  · rintro ⟨h5, h6⟩
    have e1 : a = 0 := by omega
    have e2 : b = 0 := by omega
    subst e1 e2
    rfl
theorem xor_zero (x y : Int) (h1 : 0 ≤ x) (h2 : x < 256) (h3 : 0 ≤ y) (h4 : y < 256) : bits .xor .u8 x y = 0 ↔ x = y := by
  obtain ⟨a, rfl⟩ := Int.eq_ofNat_of_zero_le h1
  obtain ⟨b, rfl⟩ := Int.eq_ofNat_of_zero_le h3
  rw [u8_xor _ _ h1 h2 h3 h4]
  simp only [Int.toNat_natCast]
  constructor
  · intro h
    have h5 : a ^^^ b = 0 := by omega
    have h6 : a ^^^ b ^^^ b = 0 ^^^ b := by rw [h5]
    rw [Nat.xor_assoc, Nat.xor_self, Nat.xor_zero, Nat.zero_xor] at h6
    omega
  · intro h
    have : a = b := by omega
    subst this
    simp
set_option maxRecDepth 100000 in
set_option maxHeartbeats 1000000 in
theorem hsame_any (a b : List Int) (ha : a.length = 32) (hb : b.length = 32) (ba : IsBytes a) (bb : IsBytes b) (w : World) :
    Calls Tryd.prog 46 #[.agg (vals a).toArray, .agg (vals b).toArray] w fun e w' => e = .returned (.bool (eqB a b)) ∧ Below w.heap.size w w' := by
  have z1 : Bs ((w.alloc (.cells (vals a).toArray 25)).alloc (.cells (vals b).toArray 25)).drew (w.heap.size + 1) (some ⟨w.heap.size, 0, none⟩) 32 a := ((bs_new' w a 32 ha ba 25 _ rfl).alloc (by simp) _).drew
  have z2 : Bs ((w.alloc (.cells (vals a).toArray 25)).alloc (.cells (vals b).toArray 25)).drew (w.heap.size + 1 + 1) (some ⟨w.heap.size + 1, 0, none⟩) 32 b := (bs_new' (w.alloc (.cells (vals a).toArray 25)) b 32 hb bb 25 _ (by simp)).drew
  have q0 : Below w.heap.size w ((w.alloc (.cells (vals a).toArray 25)).alloc (.cells (vals b).toArray 25)).drew := (((Below.refl _ _).alloc (Nat.le_refl _) _).alloc (by simp) _).drew
  have s0 : ((w.alloc (.cells (vals a).toArray 25)).alloc (.cells (vals b).toArray 25)).drew.heap.size = w.heap.size + 1 + 1 := by show ((w.alloc (.cells (vals a).toArray 25)).alloc (.cells (vals b).toArray 25)).heap.size = _; simp
  have XX := Lib.hid (xor_any 32 32 z1 z2 (by rw [s0]; omega) (by rw [s0]; omega) (by omega) (by omega))
  have HL : Hid ((xorZ a b).length = 32) := Lib.hid (by rw [xorZ_len]; omega)
  have HA := Lib.hid ha
  have HB := Lib.hid hb
  have Q0 := Lib.hid q0
  have S0 := Lib.hid s0
  have BA := Lib.hid ba
  have BB := Lib.hid bb
  clear z1 z2 q0 s0 ha hb ba bb
  go_enter Tryd.func46, Tryd.ntmps46
  go_wp2
  go_region_held3 (fun _ => True) (exact trivial) ((go_at_call 53; refine XX.out.mono ?_; intro e w1 hm; obtain ⟨A, c, rfl, ho, hb1, _, hc1⟩ := hm.n HL.out))
  have q1 : Below w.heap.size w w1 := Q0.out.trans (hb1.mono (by rw [S0.out]; omega))
  have Z := Lib.hid (Made.bs ho (xorZ_bytes BA.out BB.out))
  clear hm ho hb1
  have HX : ∀ k, k < 32 → 0 ≤ a.getD k 0 ∧ a.getD k 0 < 256 ∧ 0 ≤ b.getD k 0 ∧ b.getD k 0 < 256 ∧ (xorZ a b).getD k 0 = bits .xor .u8 (a.getD k 0) (b.getD k 0) := fun k hk =>
    ⟨(BA.out k (by rw [HA.out]; omega)).1, (BA.out k (by rw [HA.out]; omega)).2, (BB.out k (by rw [HB.out]; omega)).1, (BB.out k (by rw [HB.out]; omega)).2, xorZ_at a b k (by rw [HA.out]; omega) (by rw [HB.out]; omega)⟩
  have HXX := Lib.hid HX
  clear HX
  go_wp2
  go_loop [5, 12] (fun v i => ∃ k : Nat, k ≤ 32 ∧ i = .int .i64 k ∧ ∃ u : Int, 0 ≤ u ∧ u < 256 ∧ v = .int .u8 u ∧ Hid (u = 0 ↔ ∀ j, j < k → a.getD j 0 = b.getD j 0)) (fun _ i => 32 - (intOf i).toNat)
  case atStart => exact ⟨0, by omega, rfl, 0, by omega, by omega, rfl, Lib.hid ⟨fun _ j hj => absurd hj (by omega), fun _ => rfl⟩⟩
  case round =>
    obtain ⟨k, hk, rfl, u, hu0, hu1, rfl, HU⟩ := hrel
    by_cases hlt : k < 32
    · obtain ⟨b1, o1, u1, rfl, hb1, HU1, hu1, hu1', hc1⟩ := Z.out.at_ (k := k) (by omega)
      obtain ⟨h1, h2, h3, h4, h5⟩ := HXX.out k hlt
      rw [HU1.out] at h5
      have h6 := or_u8 u u1 hu0 (by omega) hu1 hu1'
      have HN : Hid (bits .or .u8 u u1 = 0 ↔ ∀ j, j < k + 1 → a.getD j 0 = b.getD j 0) := Lib.hid (by
        rw [h6.2.2, HU.out, h5, xor_zero _ _ h1 h2 h3 h4]
        constructor
        · rintro ⟨h, e⟩ j hj
          by_cases hjk : j = k
          · rw [hjk]; exact e
          · exact h j (by omega)
        · exact fun h => ⟨fun j hj => h j (by omega), h k (by omega)⟩)
      obtain ⟨h7, h8, _⟩ := h6
      clear h1 h2 h3 h4 h5
      go_wp2
      go_round
      case rel => exact ⟨k + 1, by omega, by go_num, _, h7, h8, rfl, HN⟩
      case measure => simp [intOf]; omega
    · have hk32 : k = 32 := by omega
      have HE : Hid ((u == 0) = eqB a b) := Lib.hid (by
        rw [Bool.eq_iff_iff, eqB, decide_eq_true_eq, beq_iff_eq, HU.out, hk32]
        exact ⟨fun h => list_ext_getD (by rw [HA.out, HB.out]) (fun j hj => h j (by rw [HA.out] at hj; exact hj)), fun h j _ => by rw [h]⟩)
      clear hk32
      go_wp2
      go_ret
      exact ⟨ret_bool (by rw [← HE.out]), q1⟩
end Go.Proofs.YtmglhfhcljdfcaaDoor
