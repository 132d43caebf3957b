/- Which entries, configurations may be: the document's. Printed by gen_mss.py. -/
import Derived.Test.YtfihiandifnkpaaMsD
namespace Go.Proofs.Ytfihiandifnkpaa
open Go.ChangeShapes Go.WideShapes Go.ChangeAt Go.RowKit
set_option linter.unusedVariables false
set_option maxRecDepth 100000
set_option linter.unusedSimpArgs false
open Plain Sha Ms
set_option maxHeartbeats 4000000 in
theorem rmayentry_any {w : World} {B : Nat} {x : EX} (q : Bool) (h : EOk w B x) (hq : entB x.z = q) : Calls Try.prog 27 #[.agg (ec x).toArray] w (fun e w' => e = .returned (.bool q) ∧ Below w.heap.size w w') := by
  obtain ⟨cv, hcv⟩ : ∃ c, cliB x.client x.id = c := ⟨_, rfl⟩
  have HQ : Hid ((decide (1 ≤ x.pos) && decide (0 ≤ x.stamp) && cv && decide (x.n ≤ 1024)) = q) := Lib.hid (by rw [← hq, ← hcv, ← h.body.len]; rfl)
  have HC := Lib.hid (rclient_any x.client x.id cv hcv)
  clear hq hcv h
  obtain ⟨W1, hW1⟩ : ∃ W, W = w.alloc (.cells (ec x).toArray 42) := ⟨_, rfl⟩
  have b1 := Lib.hid (show Below w.heap.size w W1 by rw [hW1]; exact below_one _ _)
  obtain ⟨g, hg⟩ : ∃ g, w.heap.size = g := ⟨_, rfl⟩
  have Hg := Lib.hid hg
  have V1 := Lib.hid (show VBox W1 g 5 (ec x) by rw [hW1]; exact vbox_new _ _ _ _ _ hg rfl (by omega))
  have z1 := Lib.hid (show W1.heap.size = g + 1 by rw [hW1]; simp [hg])
  have HW1 := Lib.hid hW1
  obtain ⟨q0, q1, q2, q3, q4⟩ := V1.out.e
  clear hW1 hg
  by_cases h0 : 1 ≤ x.pos
  · by_cases h1 : 0 ≤ x.stamp
    · by_cases h2 : cv = true
      · subst h2
        have hi3 : (x.n ≤ 1024) ↔ ((x.n : Int) ≤ 1024) := by omega
        have e : decide ((x.n : Int) ≤ 1024) = q := by rw [← HQ.out]; simp [h0, h1, hi3]
        clear HQ
        go_enter Try.func27, Try.ntmps27
        go_upto_region 1 with fail
        rw [← HW1.out, Hg.out]
        go_wp2_with (go_at_call 40; refine (HC.out _).mono ?_; rintro e w5 ⟨rfl, rfl⟩)
        go_ret
        exact ⟨(by rw [← e] <;> rfl), b1.out⟩
      · have h2 : cv = false := by simpa using h2
        subst h2
        have e : false = q := by rw [← HQ.out]; simp [h0, h1]
        subst e
        clear HQ
        go_enter Try.func27, Try.ntmps27
        go_upto_region 1 with fail
        rw [← HW1.out, Hg.out]
        go_wp2_with (go_at_call 40; refine (HC.out _).mono ?_; rintro e w5 ⟨rfl, rfl⟩)
        go_ret
        exact ⟨rfl, b1.out⟩
    · have e : false = q := by rw [← HQ.out]; simp [h0, h1]
      subst e
      clear HQ
      go_enter Try.func27, Try.ntmps27
      go_upto_region 1 with fail
      rw [← HW1.out, Hg.out]
      go_wp2_with (go_at_call 40; refine (HC.out _).mono ?_; rintro e w5 ⟨rfl, rfl⟩)
      go_ret
      exact ⟨rfl, b1.out⟩
  · have e : false = q := by rw [← HQ.out]; simp [h0]
    subst e
    clear HQ
    go_enter Try.func27, Try.ntmps27
    go_upto_region 1 with fail
    rw [← HW1.out, Hg.out]
    go_wp2_with (go_at_call 40; refine (HC.out _).mono ?_; rintro e w5 ⟨rfl, rfl⟩)
    go_ret
    exact ⟨rfl, b1.out⟩
set_option maxHeartbeats 16000000 in
theorem rmayconf_any {w : World} {B n : Nat} {A : Option Addr} {ms : List MemZ} (c : Nat) (ep : Int) (q : Bool) (h : Mems w B A n ms) (hB : B ≤ w.heap.size) (hq : confB ep ms = q) :
    Calls Try.prog 29 #[.agg (gc ep A n c).toArray] w (fun e w' => e = .returned (.bool q) ∧ Below w.heap.size w w') := by
  have HQ : Hid ((decide (1 ≤ ep) && decide (n ≤ 5) && allT (memB ep ms) n) = q) := Lib.hid (by rw [← hq]; unfold confB; rw [h.row.len])
  obtain ⟨W1, hW1⟩ : ∃ W, W = w.alloc (.cells (gc ep A n c).toArray 26) := ⟨_, rfl⟩
  have b1 := Lib.hid (show Below w.heap.size w W1 by rw [hW1]; exact below_one _ _)
  obtain ⟨g, hg⟩ : ∃ g, w.heap.size = g := ⟨_, rfl⟩
  have Hg := Lib.hid hg
  have V1 := Lib.hid (show VBox W1 g 2 (gc ep A n c) by rw [hW1]; exact vbox_new _ _ _ _ _ hg rfl (by omega))
  have z1 := Lib.hid (show W1.heap.size = g + 1 by rw [hW1]; simp [hg])
  have HW1 := Lib.hid hW1
  obtain ⟨q0, q1⟩ := V1.out.g
  clear hW1 hg
  have HM := Lib.hid (h.below b1.out hB)
  clear hq h
  by_cases e0 : 1 ≤ ep
  · by_cases e1 : n ≤ 5
    · have i1 : (n : Int) ≤ 5 := by omega
      have i2 : ¬ 5 < (n : Int) := by omega
      have HQ2 : Hid (allT (memB ep ms) n = q) := Lib.hid (by rw [← HQ.out]; simp [e0, e1])
      clear HQ
      go_enter Try.func29, Try.ntmps29
      go_upto_region 1 with fail
      rw [← HW1.out, Hg.out]
      go_wp2
      go_loopw [3] (fun i wr => ∃ (k : Nat), k ≤ n ∧ i = .int .i64 k ∧ Hid (Below w.heap.size w wr) ∧ Hid (VBox wr g 2 (gc ep A n c) ∧ Below W1.heap.size W1 wr) ∧ Hid (allT (memB ep ms) k = true)) (fun i _ => n - (intOf i).toNat)
      case atStart => exact ⟨0, by omega, rfl, b1, Lib.hid ⟨V1.out, Below.refl _ _⟩, Lib.hid rfl⟩
      case round =>
        obtain ⟨k, hk, rfl, BR, VR, PR⟩ := hrel
        clear q0 q1
        obtain ⟨q0, q1⟩ := VR.out.1.g
        by_cases hlt : k < n
        · have hki : (k : Int) < (n : Int) := by omega
          have HMk := Lib.hid (HM.out.below VR.out.2 (Nat.le_trans hB b1.out.size))
          obtain ⟨bb, off, x, hA, hb, hx, hm, hr⟩ := HMk.out.row.at_ bc_len hlt
          obtain ⟨c0, c1, c2⟩ := rng_b hr
          obtain ⟨W2, hW2⟩ : ∃ W, W = wr.alloc (.cells #[.int .i64 x.node, .int .i64 x.since, .bool x.whole] 91) := ⟨_, rfl⟩
          obtain ⟨gx, hgx⟩ : ∃ g, wr.heap.size = g := ⟨_, rfl⟩
          have b2 := Lib.hid (show Below wr.heap.size wr W2 by rw [hW2]; exact below_one _ _)
          have B2 := Lib.hid (BR.out.trans (b2.out.mono BR.out.size))
          have B2d := Lib.hid (fun m => below_drewN B2.out m)
          have V2d := Lib.hid (fun m => (⟨(VR.out.1.grow b2.out).grow (below_drewN (Below.refl _ _) m), below_drewN (VR.out.2.trans (b2.out.mono VR.out.2.size)) m⟩ : VBox (W2.drewN m) g 2 (gc ep A n c) ∧ Below W1.heap.size W1 (W2.drewN m)))
          have VX := Lib.hid (show VBox W2 gx 3 (bc x) by rw [hW2]; exact vbox_new wr (bc x) _ _ _ hgx rfl (by omega))
          have HM2 := Lib.hid (HMk.out.below b2.out (Nat.le_trans hB BR.out.size))
          have HW2 := Lib.hid hW2
          have Hgx := Lib.hid hgx
          have VG := Lib.hid (VR.out.1.grow b2.out)
          subst hA
          clear hr hm hW2 hgx
          go_upto_region 7 with fail
          rw [← HW2.out, Hgx.out]
          clear c0 c1 c2 q0 q1
          obtain ⟨q0, q1⟩ := VG.out.g
          obtain ⟨d0, d1, d2⟩ := VX.out.mb
          by_cases h0 : 0 ≤ x.node
          · by_cases h1 : x.node < 5
            · have i1 : x.node ≤ 4 := by omega
              by_cases h2 : 1 ≤ x.since
              · by_cases h3 : x.since ≤ ep
                · have HMB : Hid (memB ep ms k = allT (fun j => !decide ((ms.getD j mm0).node = x.node)) k) := Lib.hid (by unfold memB; rw [getD_at hx.out]; simp [h0, h1, h2, h3])
                  go_wp2
                  go_loopw [5] (fun t5 wr2 => ∃ (j m : Nat), j ≤ k ∧ t5 = .int .i64 j ∧ wr2 = W2.drewN m ∧ Hid (allT (fun j => !decide ((ms.getD j mm0).node = x.node)) j = true)) (fun t5 _ => k - (intOf t5).toNat)
                  case atStart => exact ⟨0, 0, by omega, rfl, rfl, Lib.hid rfl⟩
                  case round =>
                    obtain ⟨j, m, hj, rfl, rfl, QR⟩ := hrel
                    by_cases hjl : j < k
                    · have hji : (j : Int) < (k : Int) := by omega
                      have hjn : (j : Int) < (n : Int) := by omega
                      obtain ⟨bb2, off2, y, hA2, hb2, hy, hm2, hr2⟩ := HM2.out.row.at_ bc_len (show j < n by omega)
                      obtain ⟨f0, f1, f2⟩ := rng_b hr2
                      obtain ⟨rfl, rfl⟩ : bb = bb2 ∧ off = off2 := by simpa using hA2
                      clear hr2 hA2
                      by_cases hyn : y.node = x.node
                      · have hv : memB ep ms k = false := by
                          rw [HMB.out]
                          exact allT_no hjl (by rw [getD_at hy.out, hyn]; simp)
                        have e : false = q := by rw [← HQ2.out]; exact (allT_no hlt hv).symm
                        subst e
                        clear hv
                        go_upto_region 12 with fail
                        go_quiet (fail)
                        go_wp2
                        go_ret
                        exact ⟨rfl, by first | exact B2d.out _ | exact below_drewN (B2d.out _) _⟩
                      · have hyb : (y.node == x.node) = false := by simpa using hyn
                        have QR2 : Hid (allT (fun j => !decide ((ms.getD j mm0).node = x.node)) (j + 1) = true) := Lib.hid (by show (allT _ j && !decide ((ms.getD j mm0).node = x.node)) = true; rw [QR.out, getD_at hy.out]; simp [hyn])
                        go_upto_region 12 with fail
                        go_quiet (fail)
                        go_wp2
                        go_roundw
                        case rel => exact ⟨j + 1, _, by omega, by go_num, rfl, QR2⟩
                        case measure => simp [intOf]; omega
                    · have hji : ¬ (j : Int) < (k : Int) := by omega
                      obtain rfl : j = k := by omega
                      have PR2 : Hid (allT (memB ep ms) (j + 1) = true) := Lib.hid (by show (allT _ j && _) = true; rw [PR.out, HMB.out, QR.out]; rfl)
                      go_wp2
                      go_roundw
                      case rel => exact ⟨j + 1, by omega, by go_num, Lib.hid (B2d.out _), Lib.hid (V2d.out _), PR2⟩
                      case measure => simp [intOf]; omega
                · have hv : memB ep ms k = false := by unfold memB; rw [getD_at hx.out]; simp [h0, h1, h2, h3]
                  have e : false = q := by rw [← HQ2.out]; exact (allT_no hlt hv).symm
                  subst e
                  clear hv
                  go_wp2
                  go_ret
                  exact ⟨rfl, B2.out⟩
              · have hv : memB ep ms k = false := by unfold memB; rw [getD_at hx.out]; simp [h0, h1, h2]
                have e : false = q := by rw [← HQ2.out]; exact (allT_no hlt hv).symm
                subst e
                clear hv
                go_wp2
                go_ret
                exact ⟨rfl, B2.out⟩
            · have i1 : ¬ x.node ≤ 4 := by omega
              have hv : memB ep ms k = false := by unfold memB; rw [getD_at hx.out]; simp [h0, h1]
              have e : false = q := by rw [← HQ2.out]; exact (allT_no hlt hv).symm
              subst e
              clear hv
              go_wp2
              go_ret
              exact ⟨rfl, B2.out⟩
          · have hv : memB ep ms k = false := by unfold memB; rw [getD_at hx.out]; simp [h0]
            have e : false = q := by rw [← HQ2.out]; exact (allT_no hlt hv).symm
            subst e
            clear hv
            go_wp2
            go_ret
            exact ⟨rfl, B2.out⟩
        · have hki : ¬ (k : Int) < (n : Int) := by omega
          have hkn : k = n := by omega
          have e : true = q := by rw [← HQ2.out, ← hkn, PR.out]
          subst e
          go_wp2
          go_ret
          exact ⟨rfl, BR.out⟩
    · have i1 : ¬ (n : Int) ≤ 5 := by omega
      have i2 : 5 < (n : Int) := by omega
      have e : false = q := by rw [← HQ.out]; simp [e1]
      subst e
      go_enter Try.func29, Try.ntmps29
      go_upto_region 1 with fail
      rw [← HW1.out, Hg.out]
      go_wp2
      go_ret
      exact ⟨rfl, b1.out⟩
  · have e : false = q := by rw [← HQ.out]; simp [e0]
    subst e
    go_enter Try.func29, Try.ntmps29
    go_upto_region 1 with fail
    rw [← HW1.out, Hg.out]
    go_wp2
    go_ret
    exact ⟨rfl, b1.out⟩
end Go.Proofs.Ytfihiandifnkpaa
