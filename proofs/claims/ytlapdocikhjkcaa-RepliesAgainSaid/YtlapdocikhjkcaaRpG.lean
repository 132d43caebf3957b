/- Two tables held against each other: the program's. -/
import Derived.Test.YtlapdocikhjkcaaRpE
namespace Go.Proofs.Ytlapdocikhjkcaa
open Go.ChangeShapes Go.WideShapes Go.ChangeAt Go.RowKit
set_option linter.unusedVariables false
set_option linter.unusedSimpArgs false
open Plain Sha Au Rp
theorem pthere_new (w : World) (x : LX) (y : TypeId) (k : Nat) (hk : w.heap.size = k) : (w.alloc (.cells zX y)).there k 0 (xc x).toArray.size := vthere (vbox_new w (xc x0) y k 77 hk (xc_len _) (by omega)) (xc_len _)
theorem pbox_stored {w w' : World} {x : LX} {g : Nat} {y : TypeId} (hg : w.heap.size = g) (h : Hid (w' = (w.alloc (.cells zX y)).setCells g 0 (xc x).toArray.toList)) : VBox w' g 77 (xc x) ∧ Below w.heap.size w w' := by
  subst hg
  exact vstored (vbox_new w (xc x0) y _ 77 rfl (xc_len _) (by omega)) (xc_len x) h (Nat.le_refl _) (below_one _ _)
theorem rthere_new (w : World) (x : RX) (y : TypeId) (k : Nat) (hk : w.heap.size = k) : (w.alloc (.cells zR y)).there k 0 (rc x).toArray.size := vthere (vbox_new w (rc r0) y k 75 hk (rc_len _) (by omega)) (rc_len _)
theorem rbox_stored {w w' : World} {x : RX} {g : Nat} {y : TypeId} (hg : w.heap.size = g) (h : Hid (w' = (w.alloc (.cells zR y)).setCells g 0 (rc x).toArray.toList)) : VBox w' g 75 (rc x) ∧ Below w.heap.size w w' := by
  subst hg
  exact vstored (vbox_new w (rc r0) y _ 75 rfl (rc_len _) (by omega)) (rc_len x) h (Nat.le_refl _) (below_one _ _)
set_option maxRecDepth 100000 in
set_option maxHeartbeats 4000000 in
theorem same1_any {w : World} {B1 B2 : Nat} {x y : LX} (q : Bool) (h1 : XOk w B1 x) (h2 : XOk w B2 y) (hB1 : B1 ≤ w.heap.size) (hB2 : B2 ≤ w.heap.size) (hq : lastB x.z y.z = q) :
    Calls Try.prog 34 #[.agg (xc x).toArray, .agg (xc y).toArray] w (fun e w' => e = .returned (.bool q) ∧ Below w.heap.size w w') := by
  obtain ⟨W1, hW1⟩ : ∃ W, W = (w.alloc (.cells (xc x).toArray 53)).alloc (.cells (xc y).toArray 53) := ⟨_, rfl⟩
  have b1 := Lib.hid (show Below w.heap.size w W1 by rw [hW1]; exact ((Below.refl _ _).alloc (Nat.le_refl _) _).alloc (by simp) _)
  have V1 : Hid (VBox W1 w.heap.size 77 (xc x)) := Lib.hid (by rw [hW1]; exact (vbox_new w (xc x) _ _ 77 rfl (xc_len _) (by omega)).grow (below_one _ _))
  have V2 : Hid (VBox W1 (w.heap.size + 1) 77 (xc y)) := Lib.hid (by rw [hW1]; exact vbox_new _ _ _ _ _ (by simp) (xc_len _) (by omega))
  obtain ⟨c0, c1, c2⟩ := rng_x V1.out.range
  obtain ⟨d0, d1, d2⟩ := rng_x V2.out.range
  simp only [Nat.zero_add] at c0 c1 c2 d0 d1 d2
  have C2 := Lib.hid c2
  have D2 := Lib.hid d2
  have HW1 := Lib.hid hW1
  have HQ : Hid ((x.c == y.c && x.id == y.id && repB x.r.z y.r.z) = q) := Lib.hid hq
  obtain ⟨rq, hrq⟩ : ∃ z, repB x.r.z y.r.z = z := ⟨_, rfl⟩
  have SM := Lib.hid (srep_any (w := W1) rq (h1.below b1.out hB1).r (h2.below b1.out hB2).r (Nat.le_trans hB1 b1.out.size) (Nat.le_trans hB2 b1.out.size) hrq)
  clear hW1 h1 h2 hq c2 d2
  by_cases e1 : x.c = y.c
  · have r1 : (x.c == y.c) = true := by simpa using e1
    by_cases e2 : x.id = y.id
    · have r2 : (x.id == y.id) = true := by simpa using e2
      obtain rfl : rq = q := by rw [← HQ.out, hrq]; simp [e1, e2]
      have G1 := V1
      have G2 := V1
      clear e1 e2 hrq
      go_enter Try.func34, Try.ntmps34
      go_upto_region 1 with fail
      rw [← HW1.out]
      go_wp2_with (first
        | (have g := G1; clear g; refine wpList_load_guard (op := ⟨some 19, .load 33 (.tmp 18), _, _, _, some (12, true)⟩) (by rfl) 33 (.tmp 18) rfl (w.heap.size) (2) rfl (rc x.r) _ (C2.out) Try.underlying33 rfl (r_size x.r) ?_; clear G1)
        | (have g := G2; clear g; refine wpList_load_guard (op := ⟨some 21, .load 33 (.tmp 20), _, _, _, some (12, true)⟩) (by rfl) 33 (.tmp 20) rfl (w.heap.size + 1) (2) rfl (rc y.r) _ (D2.out) Try.underlying33 rfl (r_size y.r) ?_; clear G2)
        | (go_at_call 23; refine SM.out.mono ?_; rintro e5 w5 ⟨rfl, b5⟩; have B5 := Lib.hid (b1.out.trans (b5.mono b1.out.size)); clear b5))
      go_ret
      exact ⟨rfl, B5.out⟩
    · have r2 : (x.id == y.id) = false := by simpa using e2
      have e : q = false := by rw [← HQ.out]; simp [e2]
      subst e
      clear e1 e2 hrq
      go_enter Try.func34, Try.ntmps34
      go_upto_region 1 with fail
      rw [← HW1.out]
      go_wp2
      go_ret
      exact ⟨rfl, b1.out⟩
  · have r1 : (x.c == y.c) = false := by simpa using e1
    have e : q = false := by rw [← HQ.out]; simp [e1]
    subst e
    clear e1 hrq
    go_enter Try.func34, Try.ntmps34
    go_upto_region 1 with fail
    rw [← HW1.out]
    go_wp2
    go_ret
    exact ⟨rfl, b1.out⟩
set_option maxRecDepth 100000 in
set_option maxHeartbeats 4000000 in
theorem eqfunc_any {w : World} {B1 B2 n1 n2 : Nat} {A1 A2 : Option Addr} {l1 l2 : List LX} (c1 c2 : Nat) (q : Bool) (h1 : Las w B1 A1 n1 l1) (h2 : Las w B2 A2 n2 l2) (hB1 : B1 ≤ w.heap.size) (hB2 : B2 ≤ w.heap.size) (hn : n1 ≤ 9223372036854775807) (hq : tabB (l1.map LX.z) (l2.map LX.z) = q) :
    Calls Try.prog 33 #[.slice A1 n1 c1, .slice A2 n2 c2, .func (.func 34) #[] #[]] w (fun e w' => e = .returned (.bool q) ∧ Below w.heap.size w w') := by
  have H1 := Lib.hid h1
  have H2 := Lib.hid h2
  have HQ := Lib.hid hq
  have HB1 := Lib.hid hB1
  have HB2 := Lib.hid hB2
  clear h1 h2 hq hB1 hB2
  by_cases hl : n1 = n2
  · subst hl
    go_enter Try.func33, Try.ntmps33
    go_wp2
    go_loopw [17] (fun i wr => ∃ k : Nat, k ≤ n1 ∧ i = .int .i64 k ∧ Hid (Below w.heap.size w wr) ∧ Hid (∀ j x y, j < k → l1[j]? = some x → l2[j]? = some y → lastB x.z y.z = true)) (fun i _ => n1 - (intOf i).toNat)
    case atStart => exact ⟨0, by omega, rfl, Lib.hid (Below.refl _ _), Lib.hid (fun j x y h => by omega)⟩
    case round =>
      obtain ⟨k, hk, rfl, HW, HY⟩ := hrel
      by_cases hlt : k < n1
      · obtain ⟨b1, o1, x, rfl, hb1, HX, ox, hr1⟩ := (H1.out.below HW.out HB1.out).at_ hlt
        obtain ⟨b2, o2, y, rfl, hb2, HZ, oy, hr2⟩ := (H2.out.below HW.out HB2.out).at_ hlt
        have HR1 := Lib.hid hr1
        have HR2 := Lib.hid hr2
        have OX := Lib.hid ox
        have OY := Lib.hid oy
        have hbw : b2 < wr.heap.size := by have := HW.out.size; have := HB2.out; omega
        have hkI : (k : Int) < (n1 : Int) := by omega
        have HS := Lib.hid HW.out.size
        clear hr1 hr2 ox oy
        have zk := zPk
        have zs := zX_size
        have zn := zX_ne
        have T0 := Lib.hid (pthere_new wr x 53 _ rfl)
        have G1 := HW
        have G2 := HW
        go_upto_region 6 with (first
          | (have g := G1; clear g; refine wpList_load_mid (op := ⟨some 21, .load 53 (.tmp 20), _, _, _, _⟩) rfl 53 (.tmp 20) rfl (b1) (o1 + k * 77) rfl (xc x) _ (HR1.out) Try.underlying53 rfl (p_size x) ?_; clear G1)
          | (have g := G2; clear g; refine wpList_store_as (op := ⟨none, .store 53 (.tmp 8) (.tmp 21), _, _, _, _⟩) rfl 53 (.tmp 8) (.tmp 21) rfl (wr.heap.size) 0 (xc x).toArray rfl rfl (T0.out) (p_sizeA x) (x_oneA x) ?_; intro w5 hw5; clear G2))
        obtain ⟨V5, b5⟩ := pbox_stored rfl hw5
        have V5 := Lib.hid V5
        have b5 := Lib.hid b5
        have T5 := Lib.hid (pthere_new w5 y 53 _ rfl)
        clear hw5
        have G1 := HW
        have G2 := HW
        go_upto_region 7 with (first
          | (have g := G1; clear g; refine wpList_load_mid (op := ⟨some 25, .load 53 (.tmp 24), _, _, _, _⟩) rfl 53 (.tmp 24) rfl (b2) (o2 + k * 77) rfl (xc y) _ (rangeAt_same HR2.out (b5.out.block _ hbw)) Try.underlying53 rfl (p_size y) ?_; clear G1)
          | (have g := G2; clear g; refine wpList_store_as (op := ⟨none, .store 53 (.tmp 9) (.tmp 25), _, _, _, _⟩) rfl 53 (.tmp 9) (.tmp 25) rfl (w5.heap.size) 0 (xc y).toArray rfl rfl (T5.out) (p_sizeA y) (x_oneA y) ?_; intro w6 hw6; clear G2))
        obtain ⟨V6, b6⟩ := pbox_stored rfl hw6
        have V56 := Lib.hid (V5.out.grow b6)
        have V6 := Lib.hid V6
        have B6 := Lib.hid (b5.out.trans (b6.mono b5.out.size))
        clear hw6 zk zs zn V5 b6
        obtain ⟨s, hs⟩ : ∃ s, lastB x.z y.z = s := ⟨_, rfl⟩
        have CM := Lib.hid (same1_any (w := w6) s (OX.out.below B6.out (Nat.le_trans HB1.out HS.out)) (OY.out.below B6.out (Nat.le_trans HB2.out HS.out)) (Nat.le_trans HB1.out (Nat.le_trans HS.out B6.out.size)) (Nat.le_trans HB2.out (Nat.le_trans HS.out B6.out.size)) hs)
        have HS2 := Lib.hid hs
        clear hs
        have G1 := HW
        have G2 := HW
        cases s
        · have e : q = false := by
            rw [← HQ.out]
            exact tabB_no (k := k) (x := x.z) (y := y.z) (by rw [List.getElem?_map, HX.out]; rfl) (by rw [List.getElem?_map, HZ.out]; rfl) HS2.out
          subst e
          go_wp2_with (first
          | (have g := G1; clear g; refine wpList_load_mid (op := ⟨some 27, .load 53 (.tmp 8), _, _, _, _⟩) rfl 53 (.tmp 8) rfl (wr.heap.size) (0) rfl (xc x) _ (V56.out.range) Try.underlying53 rfl (p_size x) ?_; clear G1)
          | (have g := G2; clear g; refine wpList_load_mid (op := ⟨some 28, .load 53 (.tmp 9), _, _, _, _⟩) rfl 53 (.tmp 9) rfl (w5.heap.size) (0) rfl (xc y) _ (V6.out.range) Try.underlying53 rfl (p_size y) ?_; clear G2)
          | (refine CM.out.mono ?_; rintro e7 w7 ⟨rfl, b7⟩; have HW7 := Lib.hid (HW.out.trans ((B6.out.trans (b7.mono B6.out.size)).mono HW.out.size)); clear b7))
          go_ret
          exact ⟨rfl, HW7.out⟩
        · have HY2 : Hid (∀ j x y, j < k + 1 → l1[j]? = some x → l2[j]? = some y → lastB x.z y.z = true) := Lib.hid (fun j x' y' h1 h2 h3 => by
            rcases Nat.lt_or_ge j k with h | h
            · exact HY.out j x' y' h h2 h3
            · obtain rfl : j = k := by omega
              rw [HX.out] at h2
              rw [HZ.out] at h3
              injection h2 with h2
              injection h3 with h3
              subst h2 h3
              exact HS2.out)
          go_wp2_with (first
          | (have g := G1; clear g; refine wpList_load_mid (op := ⟨some 27, .load 53 (.tmp 8), _, _, _, _⟩) rfl 53 (.tmp 8) rfl (wr.heap.size) (0) rfl (xc x) _ (V56.out.range) Try.underlying53 rfl (p_size x) ?_; clear G1)
          | (have g := G2; clear g; refine wpList_load_mid (op := ⟨some 28, .load 53 (.tmp 9), _, _, _, _⟩) rfl 53 (.tmp 9) rfl (w5.heap.size) (0) rfl (xc y) _ (V6.out.range) Try.underlying53 rfl (p_size y) ?_; clear G2)
          | (refine CM.out.mono ?_; rintro e7 w7 ⟨rfl, b7⟩; have HW7 := Lib.hid (HW.out.trans ((B6.out.trans (b7.mono B6.out.size)).mono HW.out.size)); clear b7))
          go_roundw
          case rel => exact ⟨k + 1, by omega, by go_num, HW7, HY2⟩
          case measure => simp [intOf]; omega
      · have e : q = true := by
          rw [← HQ.out]
          refine tabB_yes (by simp [H1.out.len, H2.out.len]) (fun j x y h1 h2 => ?_)
          rw [List.getElem?_map] at h1 h2
          cases g1 : l1[j]? with
          | none => rw [g1] at h1; cases h1
          | some x' =>
            cases g2 : l2[j]? with
            | none => rw [g2] at h2; cases h2
            | some y' =>
              rw [g1] at h1
              rw [g2] at h2
              injection h1 with h1
              injection h2 with h2
              subst h1 h2
              exact HY.out j x' y' (by have := (List.getElem?_eq_some_iff.1 g1).1; rw [H1.out.len] at this; omega) g1 g2
        subst e
        go_wp2
        go_ret
        exact ⟨rfl, HW.out⟩
  · have e : q = false := by
      rw [← HQ.out]
      exact tabB_len (by simpa [H1.out.len, H2.out.len] using hl)
    subst e
    have hl2 : ¬ ((n1 : Int) = (n2 : Int)) := by omega
    go_enter Try.func33, Try.ntmps33
    go_wp2
    go_ret
    exact ⟨rfl, Below.refl _ _⟩
set_option maxRecDepth 100000 in
theorem psame_any {w : World} {B1 B2 n1 n2 : Nat} {A1 A2 : Option Addr} {l1 l2 : List LX} (c1 c2 : Nat) (q : Bool) (h1 : Las w B1 A1 n1 l1) (h2 : Las w B2 A2 n2 l2) (hB1 : B1 ≤ w.heap.size) (hB2 : B2 ≤ w.heap.size) (hn : n1 ≤ 9223372036854775807) (hq : tabB (l1.map LX.z) (l2.map LX.z) = q) :
    Calls Try.prog 22 #[.slice A1 n1 c1, .slice A2 n2 c2] w (fun e w' => e = .returned (.bool q) ∧ Below w.heap.size w w') := by
  have EM := Lib.hid (eqfunc_any c1 c2 q h1 h2 hB1 hB2 hn hq)
  clear h1 h2 hq
  go_enter Try.func22, Try.ntmps22
  go_wp2_with (go_at_call 33; refine EM.out.mono ?_; rintro e5 w5 ⟨rfl, b5⟩; have B5 := Lib.hid b5; clear b5)
  go_ret
  exact ⟨rfl, B5.out⟩
end Go.Proofs.Ytlapdocikhjkcaa
