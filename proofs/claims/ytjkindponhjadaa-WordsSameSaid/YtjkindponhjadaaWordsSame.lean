/- The walk of WordsSame: a list is the same as itself; with one byte otherwise, or one more, it isn't. -/
import Derived.Test.YtjkindponhjadaaWordsXor
namespace Go.Proofs.Ytjkindponhjadaa
open Go.ChangeShapes Go.WideShapes Go.ChangeAt Go.RowKit
set_option linter.unusedVariables false
open Plain
theorem xor_zero_iff (x y : Int) (h1 : 0 ≤ x) (h2 : x < 256) (h3 : 0 ≤ y) (h4 : y < 256) : bits .xor .u8 x y = x ↔ y = 0 := by
  constructor
  · intro h
    have hb := xor_back_u8 y x h3 h4 h1 h2
    rw [xor_comm_u8 y x h3 h4 h1 h2, h, xor_self_u8 x h1 h2] at hb
    exact hb.symm
  · rintro rfl
    rw [u8_xor x 0 h1 h2 (by omega) (by omega)]; simp; omega
theorem eqB_set (zs : List Int) (k : Nat) (hk : k < zs.length) (x : Int) (h0 : 0 ≤ x) (h1 : x < 256) (hz : IsBytes zs) :
    eqB zs (zs.set k (bits .xor .u8 (zs.getD k 0) x)) = (x == 0) ∧ eqB (zs.set k (bits .xor .u8 (zs.getD k 0) x)) zs = (x == 0) := by
  have hu := hz k hk
  by_cases hx : x = 0
  · have e : bits .xor .u8 (zs.getD k 0) x = zs.getD k 0 := (xor_zero_iff _ _ hu.1 hu.2 h0 h1).2 hx
    have e2 : zs.set k (zs.getD k 0) = zs := by
      refine list_ext_getD (by simp) (fun j hj => ?_)
      rw [getD_set _ _ _ _ hk]
      split
      · next h => rw [h]
      · rfl
    rw [e, e2, eqB_self, hx]; exact ⟨rfl, rfl⟩
  · have e : ¬ bits .xor .u8 (zs.getD k 0) x = zs.getD k 0 := fun h => hx ((xor_zero_iff _ _ hu.1 hu.2 h0 h1).1 h)
    have hg : (zs.set k (bits .xor .u8 (zs.getD k 0) x)).getD k 0 = bits .xor .u8 (zs.getD k 0) x := by rw [getD_set _ _ _ _ hk, if_pos rfl]
    have hx' : (x == 0) = false := by simpa using hx
    rw [hx']
    exact ⟨eqB_no_at (k := k) (by rw [hg]; exact fun h => e h.symm), eqB_no_at (k := k) (by rw [hg]; exact e)⟩
set_option maxHeartbeats 1000000 in
theorem wordsSame_walk (a0 : Option Addr) (len0 cap0 : Nat) (z0 : List Int) (a1 : Int) (a2 : Int) (w : World) (w0 : IsRow .u8 w a0 len0 cap0 z0) (w1 : (Lit.int .i64 a1).wf = true) (w2 : (Lit.int .u8 a2).wf = true) :
    Calls Try.prog 10 #[.slice a0 len0 cap0, .int .i64 a1, .int .u8 a2] w fun e w' => e = .returned (.bool true) ∧ Below w.heap.size w w' := by
  obtain ⟨hb0, hm0, hc0⟩ := w0.bs
  obtain ⟨hx0, hx1⟩ := wf_u8 w2
  generalize z0.take len0 = zs0 at *
  have hm0' : len0 ≤ 9223372036854775807 := by unfold maxLen at hm0; omega
  have HM0 := Lib.hid hm0
  clear hm0 w0 w1 w2
  by_cases hlen : 3000 < len0
  · have : (3000 : Int) < len0 := by omega
    go_enter Try.func10, Try.ntmps10
    go_wp2_with (go_at_call 28; refine (awake_any w).mono ?_; rintro e w1 ⟨rfl, hb⟩)
    go_ret
    exact ⟨rfl, hb⟩
  have HZ := Lib.hid hb0.isBytes
  have hX1 : IsBytes [a2] := by
    intro j hj
    have : j = 0 := by simp at hj; omega
    subst this
    exact ⟨hx0, hx1⟩
  have L0 := Lib.hid hb0.len
  have e1 : eqB zs0 (zs0 ++ [a2]) = false := eqB_no_len (by simp)
  have e2 : eqB (zs0 ++ [a2]) zs0 = false := eqB_no_len (by simp)
  have E1 := Lib.hid e1
  have E2 := Lib.hid e2
  have HX1 := Lib.hid hX1
  have NN : Hid ((zs0 ++ [a2]).length = len0 + 1) := Lib.hid (by simp [L0.out])
  clear e1 e2 hX1
  go_enter Try.func10, Try.ntmps10
  go_wp2_with (go_at_call 28; refine (awake_any w).mono ?_; rintro e w1 ⟨rfl, hb⟩)
  refine (cat1_any cap0 25 (hb0.below hb) hb.size (by omega) 1 w1.heap.size rfl).mono ?_
  intro e w2 hm
  obtain ⟨X, cx, rfl, hox, hb2, _, hcx⟩ := hm.n L0.out
  have hs1 := hb.size
  have hbw2 : Below w.heap.size w w2 := (hb.alloc hs1 _).trans (hb2.mono (by simp; omega))
  have RX2 : Bs w2 w2.heap.size X len0 zs0 := bs_of_own hox HZ.out
  have RA2 := hb0.below hbw2
  have hs2 := hbw2.size
  clear hm hb2 hb
  go_wp2_with fail
  refine (same_any cap0 cx RA2 RX2 (by unfold maxLen; omega) (by unfold maxLen; omega)).mono ?_
  rw [eqB_self]
  rintro e w3 ⟨rfl, hq⟩
  have RA3 : Bs w3 w.heap.size a0 len0 zs0 := by obtain ⟨m, rfl⟩ := hq; exact RA2.drewN m
  have ho3 : w3.ownsRow (w1.alloc (.cells #[.slice a0 len0 cap0] 25)).heap.size 5 1 (.slice X len0 cx) len0 (vals zs0) := by obtain ⟨m, rfl⟩ := hq; exact hox
  have hbw3 : Below w.heap.size w w3 := by obtain ⟨m, rfl⟩ := hq; exact below_drewN hbw2 m
  have hs3 := hbw3.size
  clear hq RA2 RX2 hox hbw2
  go_wp2_with fail
  refine (cat2_any cap0 1 25 (RA3.alloc hs3 _) (bs_new w3 [a2] 1 rfl HX1.out 5 w3.heap.size rfl) (by simp; omega) (by simp) (by omega) 2 (w3.heap.size + 1) (by simp)).mono ?_
  intro e w4 hm
  obtain ⟨Y, cy, rfl, hoy, hb4, _, hcy⟩ := hm.n NN.out
  have hbA : Below w3.heap.size w3 w4 := (((Below.refl _ _).alloc (Nat.le_refl _) _).alloc (by simp) _).trans (hb4.mono (by simp; omega))
  have RA4 := RA3.belowM hbA hs3
  have ho4 := own_below ho3 hbA (Nat.le_refl _)
  have RY4 : Bs w4 w4.heap.size Y (len0 + 1) (zs0 ++ [a2]) := bs_of_own hoy (HZ.out.app HX1.out)
  have hbw4 : Below w.heap.size w w4 := hbw3.trans (hbA.mono hs3)
  have hs4 := hbw4.size
  clear hm hb4 hbA hoy RA3 ho3 hbw3
  go_wp2_with fail
  refine (same_any cap0 cy RA4 RY4 (by unfold maxLen; omega) (by unfold maxLen; omega)).mono ?_
  rw [E1.out]
  rintro e w5 ⟨rfl, hq⟩
  have RA5 : Bs w5 w.heap.size a0 len0 zs0 := by obtain ⟨m, rfl⟩ := hq; exact RA4.drewN m
  have ho5 : w5.ownsRow (w1.alloc (.cells #[.slice a0 len0 cap0] 25)).heap.size 5 1 (.slice X len0 cx) len0 (vals zs0) := by obtain ⟨m, rfl⟩ := hq; exact ho4
  have hbw5 : Below w.heap.size w w5 := by obtain ⟨m, rfl⟩ := hq; exact below_drewN hbw4 m
  have hs5 := hbw5.size
  clear hq RA4 RY4 ho4 hbw4
  go_wp2_with fail
  refine (cat2_any cap0 1 25 (RA5.alloc hs5 _) (bs_new w5 [a2] 1 rfl HX1.out 5 w5.heap.size rfl) (by simp; omega) (by simp) (by omega) 2 (w5.heap.size + 1) (by simp)).mono ?_
  intro e w6 hm
  obtain ⟨Y2, cy2, rfl, hoy, hb6, _, hcy2⟩ := hm.n NN.out
  have hbA : Below w5.heap.size w5 w6 := (((Below.refl _ _).alloc (Nat.le_refl _) _).alloc (by simp) _).trans (hb6.mono (by simp; omega))
  have RA6 := RA5.belowM hbA hs5
  have ho6 := own_below ho5 hbA (Nat.le_refl _)
  have RY6 : Bs w6 w6.heap.size Y2 (len0 + 1) (zs0 ++ [a2]) := bs_of_own hoy (HZ.out.app HX1.out)
  have hbw6 : Below w.heap.size w w6 := hbw5.trans (hbA.mono hs5)
  clear hm hb6 hbA hoy RA5 ho5 hbw5
  go_wp2_with fail
  refine (same_any cy2 cap0 RY6 RA6 (by unfold maxLen; omega) (by unfold maxLen; omega)).mono ?_
  rw [E2.out]
  rintro e w7 ⟨rfl, hq⟩
  have RA7 : Bs w7 w.heap.size a0 len0 zs0 := by obtain ⟨m, rfl⟩ := hq; exact RA6.drewN m
  have ho7 : w7.ownsRow (w1.alloc (.cells #[.slice a0 len0 cap0] 25)).heap.size 5 1 (.slice X len0 cx) len0 (vals zs0) := by obtain ⟨m, rfl⟩ := hq; exact ho6
  have hbw7 : Below w.heap.size w w7 := by obtain ⟨m, rfl⟩ := hq; exact below_drewN hbw6 m
  have hs7 := hbw7.size
  clear hq RA6 RY6 ho6 hbw6
  by_cases hat : a1 < 0
  · go_wp2
    go_ret
    exact ⟨rfl, hbw7⟩
  by_cases hat2 : (len0 : Int) ≤ a1
  · go_wp2
    go_ret
    exact ⟨rfl, hbw7⟩
  obtain ⟨k, rfl⟩ := Int.eq_ofNat_of_zero_le (Int.not_lt.1 hat)
  have hk : k < len0 := by omega
  obtain ⟨g, cap, hv, hg, hlt⟩ := ho7.form (by omega)
  injection hv with q1 q2 q3
  subst q1
  subst q3
  clear q2
  have hc : w7.cell? ⟨g, k, none⟩ = some (.int .u8 (zs0.getD k 0)) := by
    rw [ho7.cellAt k (by omega)]
    simp [vals, List.getElem?_map, List.getD_eq_getElem?_getD, List.getElem?_eq_getElem (show k < zs0.length by rw [L0.out]; exact hk)]
  have hf := ho7.frozenAt k
  have hst := (ho7.stored k (.int .u8 (bits .xor .u8 (zs0.getD k 0) a2))).1
  have hu := HZ.out k (by rw [L0.out]; exact hk)
  have hE := eqB_set zs0 k (by rw [L0.out]; exact hk) a2 hx0 hx1 HZ.out
  have hxr := xor_u8_range _ _ hu.1 hu.2 hx0 hx1
  have HSt : Hid (IsBytes (zs0.set k (bits .xor .u8 (zs0.getD k 0) a2))) := Lib.hid (fun j hj => by
    rw [getD_set _ _ _ _ (by rw [L0.out]; exact hk)]
    split
    · exact hxr
    · exact HZ.out j (by simpa using hj))
  have hst' : (w7.setCell ⟨g, k, none⟩ (.int .u8 (bits .xor .u8 (zs0.getD k 0) a2))).ownsRow (w1.alloc (.cells #[.slice a0 len0 cap0] 25)).heap.size 5 1 (.slice (some ⟨g, 0, none⟩) len0 cx) len0 (vals (zs0.set k (bits .xor .u8 (zs0.getD k 0) a2))) := by
    simpa [vals, List.map_set] using hst
  have HO := Lib.hid hst'
  have HE := Lib.hid hE
  have RA8 := RA7.setCell (p := ⟨g, k, none⟩) (by simp at hg; simp; omega) (.int .u8 (bits .xor .u8 (zs0.getD k 0) a2))
  have hbw8 := hbw7.setCell (p := ⟨g, k, none⟩) (by simp at hg; simp; omega) (.int .u8 (bits .xor .u8 (zs0.getD k 0) a2))
  have HR := Lib.hid RA8
  have HB := Lib.hid hbw8
  generalize hzs : zs0.set k (bits .xor .u8 (zs0.getD k 0) a2) = zs1 at *
  generalize zs0.getD k 0 = u at *
  have hl1 : Hid (zs1.length = len0) := Lib.hid (by rw [← hzs, List.length_set, L0.out])
  clear hst hst' hE RA8 hbw8 hzs RA7 hbw7 ho7 hat hat2 hxr hu
  go_wp2_with fail
  refine (same_any cap0 cx HR.out (bs_of_own HO.out HSt.out) (by unfold maxLen; omega) (by unfold maxLen; omega)).mono ?_
  rw [HE.out.1]
  rintro e w9 ⟨rfl, m9, rfl⟩
  go_wp2_with fail
  refine (same_any cx cap0 ((bs_of_own HO.out HSt.out).drewN m9) (HR.out.drewN m9) (by unfold maxLen; omega) (by unfold maxLen; omega)).mono ?_
  rw [HE.out.2]
  rintro e w9 ⟨rfl, m10, rfl⟩
  go_wp2
  go_ret
  exact ⟨rfl, below_drewN HB.out _⟩
end Go.Proofs.Ytjkindponhjadaa
