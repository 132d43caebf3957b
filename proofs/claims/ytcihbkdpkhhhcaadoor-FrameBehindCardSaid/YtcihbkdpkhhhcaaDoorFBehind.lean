/- The statement FrameBehind: the walk. -/
import Derived.Test.YtcihbkdpkhhhcaaDoorFAwake
namespace Go.Proofs.YtcihbkdpkhhhcaaDoor
open Go.ChangeShapes Go.WideShapes Go.ChangeAt Go.RowKit
set_option linter.unusedVariables false
open Plain Sha
set_option maxRecDepth 100000 in
set_option maxHeartbeats 4000000 in
theorem frameBehind_in {A0 A1 : Option Addr} {n0 n1 : Nat} (c0 c1 : Nat) {xs ys : List Int} (w : World) (hx : Bs w w.heap.size A0 n0 xs) (hy : Bs w w.heap.size A1 n1 ys) (h0 : n0 ≤ 500) (h1 : n1 ≤ 500) (hF : LaidF w) (hK : LaidK w) :
    Calls Tryd.prog 8 #[.slice A0 n0 c0, .slice A1 n1 c1] w fun e w' => e = .returned (.bool true) ∧ Below w.heap.size w w' := by
  have g0 : ¬ 500 < (n0 : Int) := by omega
  have g1 : ¬ 500 < (n1 : Int) := by omega
  have HX := Lib.hid hx
  have HY := Lib.hid hy
  have HFl := Lib.hid hF.lt
  have HKl := Lib.hid hK.lt
  have HF := Lib.hid hF
  have HK := Lib.hid hK
  have LX := Lib.hid hx.len
  have BX := Lib.hid hx.isBytes
  have BF : Hid (IsBytes (frameZ xs ++ ys)) := Lib.hid ((frameZ_bytes hx.isBytes).app hy.isBytes)
  have LF : Hid ((frameZ xs ++ ys).length = n0 + 12 + n1) := Lib.hid (by rw [List.length_append, frameZ_len, hx.len, hy.len])
  have N1 : Hid (firstZ (frameZ xs ++ ys) = some n0) := Lib.hid (by rw [← hx.len]; exact first_frame (by rw [hx.len]; omega) _)
  have P1 : Hid (((frameZ xs ++ ys).drop 4).take n0 = xs) := Lib.hid (by have := pay_frame xs ys; rwa [hx.len] at this)
  have BZ : Hid (IsBytes (frameZ xs)) := Lib.hid (frameZ_bytes hx.isBytes)
  clear hx hy hF hK
  go_enter Tryd.func8, Tryd.ntmps8
  go_wp2_with fail
  refine (fawake_any w HF.out HK.out).mono ?_
  rintro e w1 ⟨rfl, b1⟩
  have q1 := Lib.hid b1
  clear b1
  go_wp2_with fail
  refine (fseal_any c0 (HX.out.belowM q1.out (Nat.le_refl _)) q1.out.size (by omega) (HF.out.below q1.out HFl.out) (HK.out.below q1.out HKl.out)).mono ?_
  rintro e w2 ⟨A2, c2, rfl, o2, b2, h2, h2'⟩
  have q2 := Lib.hid (q1.out.trans (b2.mono q1.out.size))
  have z2 : Bs w2 w2.heap.size A2 (n0 + 12) (frameZ xs) := bs_of_own o2 BZ.out
  have C3 := Lib.hid (cat2_any (w := w2) c2 c1 22 z2 (HY.out.belowM q2.out (Nat.le_refl _)) (Nat.le_refl _) q2.out.size (by omega) 2 w2.heap.size rfl)
  clear o2 b2 z2 q1
  go_wp2_with fail
  refine C3.out.mono ?_
  intro e w3 hm3
  obtain ⟨A3, c3, rfl, o3, b3, h3, h3'⟩ := hm3.n LF.out
  have q3 := Lib.hid ((q2.out.alloc q2.out.size _).trans (b3.mono (by have := q2.out.size; simp; omega)))
  have z3 := Lib.hid (Made.bs o3 BF.out)
  clear hm3 o3 b3 C3 q2
  have C4 := Lib.hid (next_yes c3 (k := (n0 : Int) + 12) z3.out (Nat.le_refl _) (by omega) h3 (HF.out.below q3.out HFl.out) (HK.out.below q3.out HKl.out) N1.out P1.out rfl)
  go_wp2_with fail
  refine C4.out.mono ?_
  rintro e w4 ⟨A4, c4, rfl, o4, b4, _, _⟩
  have q4 := Lib.hid (q3.out.trans (b4.mono q3.out.size))
  have z4 := Lib.hid (bs_of_own o4 BX.out)
  have hM : Hid (n0 ≤ maxLen) := Lib.hid (by unfold maxLen; omega)
  have S5 := Lib.hid (same_any c4 c0 z4.out (HX.out.belowM q4.out (Nat.le_refl _)) hM.out hM.out)
  rw [eqB_self] at S5
  clear o4 b4 C4 z3 q3
  go_wp2_with (go_at_call 21; refine S5.out.mono ?_; rintro e w5 ⟨rfl, m5, rfl⟩)
  go_ret
  exact ⟨rfl, below_drewN q4.out _⟩
set_option maxRecDepth 100000 in
set_option maxHeartbeats 2000000 in
theorem frameBehind_out (A0 A1 : Option Addr) (na nb c0 c1 : Nat) (w : World) (hF : LaidF w) (hK : LaidK w) (h : 500 < (na : Int) ∨ (¬ 500 < (na : Int) ∧ 500 < (nb : Int))) :
    Calls Tryd.prog 8 #[.slice A0 na c0, .slice A1 nb c1] w fun e w' => e = .returned (.bool true) ∧ Below w.heap.size w w' := by
  rcases h with h | ⟨h1, h2⟩
  all_goals
    go_enter Tryd.func8, Tryd.ntmps8
    go_wp2_with fail
    refine (fawake_any w hF hK).mono ?_
    rintro e w1 ⟨rfl, b1⟩
    go_wp2
    go_ret
    exact ⟨rfl, b1⟩
theorem frameBehind_any (a0 : Option Addr) (len0 cap0 : Nat) (z0 : List Int) (a1 : Option Addr) (len1 cap1 : Nat) (z1 : List Int) (w : World)
    (w0 : IsRow .u8 w a0 len0 cap0 z0) (w1 : IsRow .u8 w a1 len1 cap1 z1) (hF : LaidF w) (hK : LaidK w) :
    Calls Tryd.prog 8 #[.slice a0 len0 cap0, .slice a1 len1 cap1] w fun e w' => e = .returned (.bool true) ∧ Below w.heap.size w w' := by
  by_cases h : 500 < (len0 : Int) ∨ (¬ 500 < (len0 : Int) ∧ 500 < (len1 : Int))
  · exact frameBehind_out a0 a1 len0 len1 cap0 cap1 w hF hK h
  · exact frameBehind_in cap0 cap1 w w0.bs.1 w1.bs.1 (by omega) (by omega) hF hK
end Go.Proofs.YtcihbkdpkhhhcaaDoor
