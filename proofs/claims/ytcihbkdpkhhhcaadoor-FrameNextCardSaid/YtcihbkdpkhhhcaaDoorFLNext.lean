/- The statement FrameNext: the walk. -/
import Derived.Test.YtcihbkdpkhhhcaaDoorFLists
import Derived.Test.YtcihbkdpkhhhcaaDoorFAwake
namespace Go.Proofs.YtcihbkdpkhhhcaaDoor
open Go.ChangeShapes Go.WideShapes Go.ChangeAt Go.RowKit
set_option linter.unusedVariables false
open Plain Sha
set_option maxRecDepth 100000 in
set_option maxHeartbeats 4000000 in
theorem frameNext_in {A0 : Option Addr} {n : Nat} (c0 : Nat) {xs : List Int} (w : World) (hx : Bs w w.heap.size A0 n xs) (hc : n ≤ c0) (h0 : n ≤ 3000) (hF : LaidF w) (hK : LaidK w) :
    Calls Tryd.prog 4 #[.slice A0 n c0] w fun e w' => e = .returned (.bool true) ∧ Below w.heap.size w w' := by
  have g0 : ¬ 3000 < (n : Int) := by omega
  have HX := Lib.hid hx
  have HFl := Lib.hid hF.lt
  have HKl := Lib.hid hK.lt
  have HF := Lib.hid hF
  have HK := Lib.hid hK
  have LX := Lib.hid hx.len
  have BX := Lib.hid hx.isBytes
  have C1 := Lib.hid (refcopy_any c0 hx (Nat.le_refl _) (by omega))
  have HM : Hid (n ≤ maxLen) := Lib.hid (by unfold maxLen; omega)
  clear hx hF hK
  go_enter Tryd.func4, Tryd.ntmps4
  go_wp2_with fail
  refine C1.out.mono ?_
  intro e w1 hm1
  obtain ⟨A1, c1, rfl, o1, b1, k1, h1⟩ := hm1.n LX.out
  have q1 := Lib.hid b1
  have z1 := Lib.hid (bs_of_own o1 BX.out)
  clear hm1 o1 b1 C1
  have N1 := Lib.hid (next_any c1 z1.out (Nat.le_refl _) (by omega) k1 (HF.out.below q1.out HFl.out) (HK.out.below q1.out HKl.out))
  go_wp2_with fail
  refine N1.out.mono ?_
  rintro e w2 ⟨b2, hE⟩
  have q2 := Lib.hid (q1.out.trans (b2.mono q1.out.size))
  have y2 := Lib.hid (z1.out.belowM b2 (Nat.le_refl _))
  have s2 := b2.size
  have N2 := Lib.hid (refnext_any c0 (HX.out.belowM q2.out (Nat.le_refl _)) q2.out.size (by omega) hc)
  obtain ⟨fz, hfz⟩ : ∃ fz, firstZ xs = fz := ⟨_, rfl⟩
  cases fz with
  | none =>
    rw [hfz] at hE
    have hE : e = .returned (.tuple #[.slice none 0 0, .int .i64 0, .int .i64 50]) := hE
    subst hE
    have N3 : Hid (∀ e w', NextSays w2 xs e w' → e = .returned (.tuple #[.slice none 0 0, .int .i64 0, .int .i64 50]) ∧ Below w2.heap.size w2 w') := Lib.hid (fun e w' h => by obtain ⟨h1, h2⟩ := h; rw [hfz] at h2; exact ⟨h2, h1⟩)
    clear b2 N1 hfz
    go_wp2_with fail
    refine N2.out.mono ?_
    intro e w3 h3
    obtain ⟨rfl, b3⟩ := N3.out e w3 h3
    have q3 := Lib.hid (q2.out.trans (b3.mono q2.out.size))
    have S1 : Hid (Calls Tryd.prog 12 #[.slice none 0 0, .slice none 0 0] w3 (Quiet (.bool true) w3)) := Lib.hid (by
      have := refsame_any (w := w3) (B1 := 0) (B2 := 0) (A1 := none) (A2 := none) (n1 := 0) (n2 := 0) 0 0 (zs1 := []) (zs2 := []) Bs.nil Bs.nil (by unfold maxLen; omega) (by unfold maxLen; omega)
      rwa [eqB_self] at this)
    have S2 : Hid (∀ m, Calls Tryd.prog 12 #[.slice A1 n c1, .slice A0 n c0] (w3.drewN m) (Quiet (.bool true) (w3.drewN m))) := Lib.hid (fun m => by
      have := refsame_any c1 c0 ((y2.out.belowM b3 s2).drewN m) ((HX.out.belowM q3.out (Nat.le_refl _)).drewN m) HM.out HM.out
      rwa [eqB_self] at this)
    clear h3 b3 N2 N3
    go_wp2_with (first
      | (go_at_call 12; have g := S1; clear g; refine S1.out.mono ?_; clear S1; rintro e w4 ⟨rfl, m4, rfl⟩)
      | (go_at_call 12; refine (S2.out _).mono ?_; rintro e w4 ⟨rfl, m5, rfl⟩))
    go_ret
    exact ⟨rfl, below_drewN q3.out _⟩
  | some m =>
    rw [hfz] at hE
    obtain ⟨A3, c3, rfl, o3, k3, k3'⟩ := hE
    obtain ⟨P, hP⟩ : ∃ P, (xs.drop 4).take m = P := ⟨_, rfl⟩
    rw [hP] at o3
    have BP : Hid (IsBytes P) := Lib.hid (by rw [← hP]; exact (BX.out.drop 4).take m)
    have z3 := Lib.hid (bs_of_own o3 BP.out)
    have N3 : Hid (∀ e w', NextSays w2 xs e w' → ∃ D d, e = .returned (.tuple #[.slice D m d, .int .i64 ((m : Int) + 12), .int .i64 0]) ∧ w'.ownsRow w2.heap.size 5 1 (.slice D m d) m (vals P) ∧ m ≤ d ∧ d ≤ maxLen ∧ Below w2.heap.size w2 w') := Lib.hid (fun e w' h => by
      obtain ⟨h1, h2⟩ := h
      rw [hfz] at h2
      obtain ⟨D, d, h3, h4, h5, h6⟩ := h2
      exact ⟨D, d, h3, by rw [← hP]; exact h4, h5, h6, h1⟩)
    have HM3 : Hid (m ≤ maxLen) := Lib.hid (Nat.le_trans k3 k3')
    clear b2 N1 hfz hP o3 k3'
    go_wp2_with fail
    refine N2.out.mono ?_
    intro e w3 h3
    obtain ⟨D, d, rfl, o4, k4, k4', b3⟩ := N3.out e w3 h3
    have q3 := Lib.hid (q2.out.trans (b3.mono q2.out.size))
    have z4 := Lib.hid (bs_of_own o4 BP.out)
    have S1 := Lib.hid (refsame_any c3 d (z3.out.belowM b3 (Nat.le_refl _)) z4.out HM3.out HM3.out)
    rw [eqB_self] at S1
    have S2 : Hid (∀ m, Calls Tryd.prog 12 #[.slice A1 n c1, .slice A0 n c0] (w3.drewN m) (Quiet (.bool true) (w3.drewN m))) := Lib.hid (fun m => by
      have := refsame_any c1 c0 ((y2.out.belowM b3 s2).drewN m) ((HX.out.belowM q3.out (Nat.le_refl _)).drewN m) HM.out HM.out
      rwa [eqB_self] at this)
    clear h3 b3 N2 N3 o4 z3 z4 k4'
    go_wp2_with (first
      | (go_at_call 12; have g := S1; clear g; refine S1.out.mono ?_; clear S1; rintro e w4 ⟨rfl, m4, rfl⟩)
      | (go_at_call 12; refine (S2.out _).mono ?_; rintro e w4 ⟨rfl, m5, rfl⟩))
    go_ret
    exact ⟨rfl, below_drewN q3.out _⟩
theorem frameNext_any (a0 : Option Addr) (len0 cap0 : Nat) (z0 : List Int) (w : World) (w0 : IsRow .u8 w a0 len0 cap0 z0) (hF : LaidF w) (hK : LaidK w) :
    Calls Tryd.prog 4 #[.slice a0 len0 cap0] w fun e w' => e = .returned (.bool true) ∧ Below w.heap.size w w' := by
  by_cases h : len0 ≤ 3000
  · exact frameNext_in cap0 w w0.bs.1 w0.bs.2.2 h hF hK
  · have g0 : 3000 < (len0 : Int) := by omega
    clear w0
    go_enter Tryd.func4, Tryd.ntmps4
    go_wp2
    go_ret
    exact ⟨rfl, Below.refl _ _⟩
end Go.Proofs.YtcihbkdpkhhhcaaDoor
