/- The chapter's examples come out. -/
import Derived.Test.YtcihbkdpkhhhcaaMore
namespace Go.Proofs.Ytcihbkdpkhhhcaa
open Go.ChangeShapes Go.WideShapes Go.ChangeAt Go.RowKit
set_option linter.unusedVariables false
open Plain
def exA : List Int := [7, 0, 0, 0, 0, 0, 0, 1, 2, 1]
def exB : List Int := [0, 0, 0, 2, 97, 98, 0, 0, 0, 0]
theorem exA_is : wPut (wPut (wPut (some []) [7]) (n64 258)) [1] = some exA := by decide
theorem exB_is : wPut (wPut (some []) (bytesF (strZ ⟨#[97, 98]⟩))) (bytesF []) = some exB := by decide
set_option maxHeartbeats 4000000 in
theorem wawake_any (w : World) : Calls Try.prog 29 #[] w (fun e w' => e = .returned (.bool true) ∧ Below w.heap.size w w') := by
  go_enter Try.func29, Try.ntmps29
  go_wp2_with fail
  refine (newwriter_any w).mono ?_
  rintro e w1 ⟨rfl, r1, b1, _⟩
  go_wp2_with fail
  refine (byte_wr r1 7 (by omega) (by omega)).mono ?_
  intro e w2 hk
  obtain ⟨rfl, g2, r2, b2⟩ := Puts.under r1 hk (Nat.le_refl _)
  replace b2 := b1.trans b2
  clear hk r1 b1
  go_wp2_with fail
  refine (int_wr r2 258 (by omega) (by omega)).mono ?_
  intro e w3 hk
  obtain ⟨rfl, g3, r3, b3⟩ := Puts.under r2 hk (Nat.le_refl _)
  replace b3 := b2.trans b3
  clear hk r2 b2
  go_wp2_with fail
  refine (flag_wr r3 true).mono ?_
  intro e w4 hk
  obtain ⟨rfl, g4, r4, b4⟩ := Puts.under r3 hk (Nat.le_refl _)
  replace b4 := b3.trans b4
  clear hk r3 b3
  rw [show wPut (wPut (wPut (some []) [7]) (n64 258)) [if true = true then 1 else 0] = some exA from exA_is] at r4
  go_wp2_with fail
  refine (done_ok r4).mono ?_
  rintro e w5 ⟨x5, rfl, l5, b5⟩
  replace b5 := b4.trans (b5.mono b4.size)
  obtain ⟨A5, c5, rfl, z5, _, _⟩ := l5.bs (bytes_ok _ (by decide))
  have Z5 := Lib.hid z5
  have Q5 := Lib.hid b5
  clear z5 b5 l5 r4 b4
  go_wp2_with fail
  refine (newwriter_any w5).mono ?_
  rintro e w6 ⟨rfl, r6, b6, _⟩
  go_wp2_with fail
  refine (text_wr r6 _ (by decide)).mono ?_
  intro e w7 hk
  obtain ⟨rfl, g7, r7, b7⟩ := Puts.under r6 hk (Nat.le_refl _)
  replace b7 := b6.trans b7
  clear hk r6 b6
  go_wp2_with fail
  refine (bytes_wr r7 0 (zs := []) (B := 0) (A := none) (n := 0) Bs.nil (by omega) (by omega) (fun h => absurd h (by omega))).mono ?_
  intro e w8 hk
  obtain ⟨rfl, g8, r8, b8⟩ := Puts.under r7 hk (Nat.le_refl _)
  replace b8 := b7.trans b8
  clear hk r7 b7
  rw [show wPut (wPut (some []) (bytesF (strZ ⟨#[97, 98]⟩))) (bytesF []) = some exB from exB_is] at r8
  go_wp2_with fail
  refine (done_ok r8).mono ?_
  rintro e w9 ⟨x9, rfl, l9, b9⟩
  replace b9 := b8.trans (b9.mono b8.size)
  obtain ⟨A9, c9, rfl, z9, _, _⟩ := l9.bs (bytes_ok _ (by decide))
  have Z9 := Lib.hid z9
  have Y9 := Lib.hid (Z5.out.below b9)
  have Q9 := Lib.hid (Q5.out.trans (b9.mono Q5.out.size))
  have s9 := b9.size
  clear z9 b9 l9 r8 b8 Z5 Q5
  rw [show (exB.length : Nat) = 10 from rfl] at *
  rw [show (exA.length : Nat) = 10 from rfl] at *
  go_wp2_with fail
  refine (same_any c5 10 (zs2 := exA) (B2 := w9.heap.size + 1) (Y9.out.alloc s9 _) (bs_new w9 exA 10 rfl (bytes_ok _ (by decide)) 5 _ rfl) (by simp [maxLen]) (by simp [maxLen])).mono ?_
  rw [eqB_self]
  rintro e w10 ⟨rfl, hq⟩
  have b10 : Below w9.heap.size w9 w10 := by
    obtain ⟨m, rfl⟩ := hq
    exact below_drewN ((Below.refl _ _).alloc (Nat.le_refl _) _) m
  have s10 := b10.size
  have Z10 := Lib.hid (Z9.out.below b10)
  have Q10 := Lib.hid (Q9.out.trans (b10.mono Q9.out.size))
  clear hq b10 Z9 Q9 Y9
  go_wp2_with fail
  refine (same_any c9 10 (zs2 := exB) (B2 := w10.heap.size + 1) (Z10.out.alloc s10 _) (bs_new w10 exB 10 rfl (bytes_ok _ (by decide)) 5 _ rfl) (by simp [maxLen]) (by simp [maxLen])).mono ?_
  rw [eqB_self]
  rintro e w11 ⟨rfl, hq⟩
  have b11 : Below w10.heap.size w10 w11 := by
    obtain ⟨m, rfl⟩ := hq
    exact below_drewN ((Below.refl _ _).alloc (Nat.le_refl _) _) m
  have Q11 := Lib.hid (Q10.out.trans (b11.mono Q10.out.size))
  have s0 : w.heap.size ≤ w11.heap.size := Q11.out.size
  clear hq b11 Z10 Q10
  go_wp2_with fail
  refine (newreader_any 5 (bs_new w11 [0, 0, 0, 2, 97] 5 rfl (bytes_ok _ (by decide)) 5 _ rfl) (by simp) (by omega)).mono ?_
  rw [show newWhy [0, 0, 0, 2, 97] = (0, [0, 0, 0, 2, 97]) from by decide]
  rintro e w12 ⟨x, rfl, rx, hx, b12⟩
  have Q12 := Lib.hid (Q11.out.trans (((Below.refl _ _).alloc (Nat.le_refl _) _).trans (b12.mono (by simp)) |>.mono Q11.out.size))
  have lx := rx.lt
  have kx : w11.heap.size < x := by have := hx; simp at this; omega
  have RX := Lib.hid rx
  clear b12 hx Q11 rx
  go_wp2_with fail
  refine (newreader_any 2 (bs_new w12 [1, 9] 2 rfl (bytes_ok _ (by decide)) 5 _ rfl) (by simp) (by omega)).mono ?_
  rw [show newWhy [1, 9] = (0, [1, 9]) from by decide]
  rintro e w13 ⟨y, rfl, ry, hy, b13⟩
  have b13' : Below w12.heap.size w12 w13 := ((Below.refl _ _).alloc (Nat.le_refl _) _).trans (b13.mono (by simp))
  have Q13 := Lib.hid (Q12.out.trans (b13'.mono Q12.out.size))
  have RX2 := Lib.hid (RX.out.below b13' lx)
  have ly := ry.lt
  have ky : w12.heap.size < y := by have := hy; simp at this; omega
  have RY := Lib.hid ry
  have s13 := b13'.size
  clear b13 b13' hy Q12 RX ry
  go_wp2_with fail
  refine (newreader_any 2 (bs_new w13 [1, 2] 2 rfl (bytes_ok _ (by decide)) 5 _ rfl) (by simp) (by omega)).mono ?_
  rw [show newWhy [1, 2] = (0, [1, 2]) from by decide]
  rintro e w14 ⟨z, rfl, rz, hz, b14⟩
  have b14' : Below w13.heap.size w13 w14 := ((Below.refl _ _).alloc (Nat.le_refl _) _).trans (b14.mono (by simp))
  have Q14 := Lib.hid (Q13.out.trans (b14'.mono Q13.out.size))
  have RX3 := Lib.hid (RX2.out.below b14' (by omega))
  have RY3 := Lib.hid (RY.out.below b14' (by omega))
  have kz : w13.heap.size < z := by have := hz; simp at this; omega
  have RZ := Lib.hid rz
  clear b14 b14' hz Q13 RX2 RY rz
  go_wp2_with fail
  refine (text_rd RX3.out).mono ?_
  rw [show rBytes (0, [0, 0, 0, 2, 97]) = ([], 40, []) from by decide, show strOfNums [] = ⟨#[]⟩ from rfl]
  rintro e w15 ⟨rfl, rx, gx⟩
  have RX4 : Hid (Rd w15 x _ 40 []) := Lib.hid rx
  have RY4 := Lib.hid (RY3.out.grown gx (fun k hk => by injection hk with hk; subst hk; exact ⟨by omega, .inr (.inl (by simp; omega))⟩))
  have RZ4 := Lib.hid (RZ.out.grown gx (fun k hk => by injection hk with hk; subst hk; exact ⟨by omega, .inr (.inl (by simp; omega))⟩))
  have Q15 := Lib.hid (Q14.out.grown gx Q14.out.size (fun k hk => by injection hk with hk; omega))
  clear rx gx RX3 RY3 RZ Q14
  go_wp2_with fail
  refine (err_any RX4.out).mono ?_
  rintro e w16 ⟨rfl, rfl⟩
  go_wp2_with fail
  refine (end_rd RX4.out).mono ?_
  rw [show endZ 40 [] = 40 from by decide]
  rintro e w16 ⟨rfl, rfl⟩
  clear RX4
  go_wp2_with fail
  refine (flag_rd RY4.out).mono ?_
  rw [show rFlag (0, [1, 9]) = (true, 0, [9]) from by decide]
  rintro e w16 ⟨rfl, ry, gy⟩
  have RY5 : Hid (Rd w16 y _ 0 [9]) := Lib.hid ry
  have RZ5 := Lib.hid (RZ4.out.grown gy (fun k hk => by injection hk with hk; subst hk; exact ⟨by omega, .inr (.inl (by simp; omega))⟩))
  have Q16 := Lib.hid (Q15.out.grown gy Q15.out.size (fun k hk => by injection hk with hk; omega))
  clear ry gy RY4 RZ4 Q15
  go_wp2_with fail
  refine (flag_rd RY5.out).mono ?_
  rw [show rFlag (0, [9]) = (false, 40, []) from by decide]
  rintro e w17 ⟨rfl, ry, gy⟩
  have RY6 : Hid (Rd w17 y _ 40 []) := Lib.hid ry
  have RZ6 := Lib.hid (RZ5.out.grown gy (fun k hk => by injection hk with hk; subst hk; exact ⟨by omega, .inr (.inl (by simp; omega))⟩))
  have Q17 := Lib.hid (Q16.out.grown gy Q16.out.size (fun k hk => by injection hk with hk; omega))
  clear ry gy RY5 RZ5 Q16
  go_wp2_with fail
  refine (err_any RY6.out).mono ?_
  rintro e w18 ⟨rfl, rfl⟩
  clear RY6
  go_wp2_with fail
  refine (byte_rd RZ6.out).mono ?_
  rw [show rByte (0, [1, 2]) = (1, 0, [2]) from by decide]
  rintro e w18 ⟨rfl, rz, gz⟩
  have RZ7 : Hid (Rd w18 z _ 0 [2]) := Lib.hid rz
  have Q18 := Lib.hid (Q17.out.grown gz Q17.out.size (fun k hk => by injection hk with hk; omega))
  clear rz gz RZ6 Q17
  go_wp2_with fail
  refine (end_rd RZ7.out).mono ?_
  rw [show endZ 0 [2] = 40 from by decide]
  rintro e w19 ⟨rfl, rfl⟩
  go_wp2_with fail
  refine (err_any RZ7.out).mono ?_
  rintro e w19 ⟨rfl, rfl⟩
  go_wp2_with fail
  refine (left_any RZ7.out).mono ?_
  rintro e w19 ⟨rfl, rfl⟩
  go_wp2_with fail
  go_ret
  exact ⟨rfl, Q18.out⟩
end Go.Proofs.Ytcihbkdpkhhhcaa
