/- The statement FrameSeal: the walk. -/
import Derived.Test.YtcihbkdpkhhhcaaDoorFLists
namespace Go.Proofs.YtcihbkdpkhhhcaaDoor
open Go.ChangeShapes Go.WideShapes Go.ChangeAt Go.RowKit
set_option linter.unusedVariables false
open Plain Sha
set_option maxRecDepth 100000 in
set_option maxHeartbeats 4000000 in
theorem frameSeal_in {A0 : Option Addr} {n : Nat} (c0 : Nat) {xs : List Int} (w : World) (hx : Bs w w.heap.size A0 n xs) (h0 : n ≤ 3000) (hF : LaidF w) (hK : LaidK w) :
    Calls Tryd.prog 3 #[.slice A0 n c0] w fun e w' => e = .returned (.bool true) ∧ Below w.heap.size w w' := by
  have g0 : ¬ 3000 < (n : Int) := by omega
  have HX := Lib.hid hx
  have HFl := Lib.hid hF.lt
  have HKl := Lib.hid hK.lt
  have HF := Lib.hid hF
  have HK := Lib.hid hK
  have LX := Lib.hid hx.len
  have BX := Lib.hid hx.isBytes
  have BZ : Hid (IsBytes (frameZ xs)) := Lib.hid (frameZ_bytes hx.isBytes)
  have LZ : Hid ((frameZ xs).length = n + 12) := Lib.hid (by rw [frameZ_len, hx.len])
  have C1 := Lib.hid (refcopy_any c0 hx (Nat.le_refl _) (by omega))
  clear hx hF hK
  go_enter Tryd.func3, Tryd.ntmps3
  go_wp2_with fail
  refine C1.out.mono ?_
  intro e w1 hm1
  obtain ⟨A1, c1, rfl, o1, b1, _, h1⟩ := hm1.n LX.out
  have q1 := Lib.hid b1
  have z1 := Lib.hid (bs_of_own o1 BX.out)
  clear hm1 o1 b1 C1
  go_wp2_with fail
  refine (refseal_any c0 (HX.out.belowM q1.out (Nat.le_refl _)) q1.out.size (by omega)).mono ?_
  intro e w2 hm2
  obtain ⟨A2, c2, rfl, o2, b2, _, h2⟩ := hm2.n LZ.out
  have q2 := Lib.hid (q1.out.trans (b2.mono q1.out.size))
  have z2 := Lib.hid (bs_of_own o2 BZ.out)
  have y2 := Lib.hid (z1.out.belowM b2 (Nat.le_refl _))
  have s2 := b2.size
  have HM : Hid (n ≤ maxLen ∧ n + 12 ≤ maxLen) := Lib.hid (by unfold maxLen; omega)
  clear hm2 o2 b2 q1 z1 h1 h2
  go_wp2
  go_loopw [5] (fun t wr => ∃ k : Nat, k ≤ 2 ∧ t = .int .i64 (k : Int) ∧ Hid (Below w2.heap.size w2 wr)) (fun t _ => 2 - (intOf t).toNat)
  case atStart => exact ⟨0, by omega, rfl, Lib.hid (Below.refl _ _)⟩
  case round =>
    obtain ⟨k, hk, rfl, HB⟩ := hrel
    by_cases hlt : k < 2
    · have hkI : (k : Int) < 2 := by omega
      have qr := Lib.hid (q2.out.trans (HB.out.mono q2.out.size))
      have sr := HB.out.size
      have C3 := Lib.hid (fseal_any c1 (y2.out.belowM HB.out s2) (Nat.le_trans s2 sr) (by omega) (HF.out.below qr.out HFl.out) (HK.out.below qr.out HKl.out))
      go_wp2_with fail
      refine C3.out.mono ?_
      rintro e w3 ⟨A3, c3, rfl, o3, b3, h3, h3'⟩
      have B3 := Lib.hid (HB.out.trans (b3.mono sr))
      have s3 := B3.out.size
      have z3 := Lib.hid (bs_of_own o3 BZ.out)
      have O3 := Lib.hid (Own.of o3 BZ.out)
      have bW : Hid (Below wr.heap.size wr w3) := Lib.hid b3
      have S1 := Lib.hid (refsame_any c3 c2 z3.out (z2.out.belowM B3.out (Nat.le_refl _)) HM.out.2 HM.out.2)
      rw [eqB_self] at S1
      have q3 := Lib.hid (qr.out.trans (b3.mono qr.out.size))
      have S2 : Hid (∀ m, Calls Tryd.prog 12 #[.slice A1 n c1, .slice A0 n c0] (w3.drewN m) (Quiet (.bool true) (w3.drewN m))) := Lib.hid (fun m => by
        have := refsame_any c1 c0 ((y2.out.belowM B3.out s2).drewN m) ((HX.out.belowM q3.out (Nat.le_refl _)).drewN m) HM.out.1 HM.out.1
        rwa [eqB_self] at this)
      clear o3 b3 C3 z3 h3'
      go_wp2_with (first
        | (go_at_call 12; have g := S1; clear g; refine S1.out.mono ?_; clear S1; rintro e w4 ⟨rfl, m4, rfl⟩)
        | (go_at_call 12; refine (S2.out _).mono ?_; rintro e w4 ⟨rfl, m5, rfl⟩))
      have B5 : Hid (Below w2.heap.size w2 ((w3.drewN m4).drewN m5)) := Lib.hid (below_drewN (below_drewN B3.out _) _)
      have O5 : Hid (Own ((w3.drewN m4).drewN m5) wr.heap.size A3 (n + 12) c3) := Lib.hid O3.out
      obtain ⟨w5, hw5⟩ : ∃ w5, (w3.drewN m4).drewN m5 = w5 := ⟨_, rfl⟩
      rw [hw5] at B5 O5
      simp only [World.drewN_drewN] at hw5 ⊢
      try rw [hw5]
      clear hw5 S2 B3 O3 bW q3
      go_loopw [8] (fun i wx => ∃ j : Nat, j ≤ n + 12 ∧ i = .int .i64 (j : Int) ∧ Hid (Own wx wr.heap.size A3 (n + 12) c3) ∧ Hid (Below w2.heap.size w2 wx)) (fun i _ => n + 12 - (intOf i).toNat)
      case atStart => exact ⟨0, by omega, rfl, O5, B5⟩
      case round =>
        clear O5 B5
        obtain ⟨j, hj, rfl, O1, hbx⟩ := hrel
        by_cases hltj : j < n + 12
        · obtain ⟨g, u, rfl, hg1, hg2, hu0, hu1, hc, hf, HS⟩ := O1.out.at_ hltj
          have hjI : (j : Int) < (n : Int) + 12 := by omega
          go_wp2
          go_roundw
          case rel => exact ⟨j + 1, by omega, by go_num, Lib.hid (HS.out _ (by omega) (by omega)), Lib.hid (hbx.out.setCell (by simp; omega) _)⟩
          case measure => simp [intOf]; omega
        · obtain rfl : j = n + 12 := by omega
          go_wp2
          go_roundw
          case rel => exact ⟨k + 1, by omega, by go_num, hbx⟩
          case measure => simp [intOf]; omega
    · obtain rfl : k = 2 := by omega
      have qr := Lib.hid (q2.out.trans (HB.out.mono q2.out.size))
      go_wp2
      go_ret
      exact ⟨rfl, qr.out⟩
theorem frameSeal_any (a0 : Option Addr) (len0 cap0 : Nat) (z0 : List Int) (w : World) (w0 : IsRow .u8 w a0 len0 cap0 z0) (hF : LaidF w) (hK : LaidK w) :
    Calls Tryd.prog 3 #[.slice a0 len0 cap0] w fun e w' => e = .returned (.bool true) ∧ Below w.heap.size w w' := by
  by_cases h : len0 ≤ 3000
  · exact frameSeal_in cap0 w w0.bs.1 h hF hK
  · have g0 : 3000 < (len0 : Int) := by omega
    clear w0
    go_enter Tryd.func3, Tryd.ntmps3
    go_wp2
    go_ret
    exact ⟨rfl, Below.refl _ _⟩
end Go.Proofs.YtcihbkdpkhhhcaaDoor
