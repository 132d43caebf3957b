/- The chapter's examples. -/
import Derived.Test.YtmeafjehcckibaaRvF
import Derived.Test.YtmeafjehcckibaaB2
namespace Go.Proofs.Ytmeafjehcckibaa
open Go.ChangeShapes Go.WideShapes Go.ChangeAt Go.RowKit
set_option linter.unusedVariables false
set_option linter.unusedSimpArgs false
open Plain
theorem ex_add5 : addP [3, 7] 5 = ([3, 5, 7], 0) := by simp [addP, setB, riseB, serB, mrg]
theorem ex_add7 : addP [3, 7] 7 = ([3, 7], 0) := by simp [addP, setB, riseB, serB, mrg]
theorem ex_add0 : addP [3, 7] 0 = ([], 2) := by simp [addP, setB, riseB, serB, mrg]
theorem ex_adds : addP [7, 3] 5 = ([], 2) := by simp [addP, setB, riseB, serB, mrg]
theorem lit_row (w : World) (xs : List Int) (n : Nat) (hn : xs.length = n) (h0 : n ≤ 1000) (t : TypeId) : Rw (w.alloc (.cells (ivs xs).toArray t)) (some ⟨w.heap.size, 0, none⟩) n n xs :=
  ⟨(ir_new w xs n hn t _ rfl).more (by simp), Nat.le_refl _, by unfold maxLen; omega⟩
theorem lit_add (w : World) (a b x : Int) (p : List Int × Int) (hp : addP [a, b] x = p) :
    Calls Try.prog 9 #[.slice (some ⟨w.heap.size, 0, none⟩) 2 2, .int .i64 x] (w.alloc (.cells #[.int .i64 a, .int .i64 b] 3)) (GivesI w p) := by
  refine (add_any10 x p (lit_row w [a, b] 2 rfl (by omega) 3) hp).mono ?_
  rintro e w' ⟨D, d, rfl, ho, hb, h1, h2⟩
  exact ⟨D, d, rfl, own_base ho (by simp), ((Below.refl _ _).alloc (Nat.le_refl _) _).trans (hb.mono (by simp)), h1, h2⟩
theorem lit_is (w : World) {D : Option Addr} {n d : Nat} {zs : List Int} (xs : List Int) (h : Rw w D n d zs) (hx : xs.length = n) (hn : n ≤ 1000) (he : zs = xs) :
    Calls Try.prog 21 #[.slice D n d, .int .i64 0, .slice (some ⟨w.heap.size, 0, none⟩) n n] (w.alloc (.cells (ivs xs).toArray 3)) (fun e w' => e = .returned (.bool true) ∧ Below w.heap.size w w') := by
  have hb : Below w.heap.size w (w.alloc (.cells (ivs xs).toArray 3)) := (Below.refl _ _).alloc (Nat.le_refl _) _
  refine (is_any d n true (h.below hb).ir (lit_row w xs n hx hn 3).ir (Nat.le_trans h.nc h.cm) (by subst he; simp [eqB])).mono ?_
  rintro e w' ⟨rfl, m, rfl⟩
  exact ⟨rfl, below_drewN hb m⟩
theorem lit_any (w : World) (a b : Int) (s1 s2 : Int) (q : Bool) (h1 : GOk ⟨0, 0, s1⟩) (h2 : GOk ⟨0, 0, s2⟩) (hq : anyL [a, b] [⟨0, 0, s1⟩, ⟨0, 0, s2⟩] = q) (g : Nat) (hg : w.heap.size + 1 = g) :
    Calls Try.prog 17 #[.slice (some ⟨w.heap.size, 0, none⟩) 2 2, .slice (some ⟨g, 0, none⟩) 2 2] ((w.alloc (.cells #[.int .i64 a, .int .i64 b] 3)).alloc (.cells #[.int .u8 0, .int .i64 0, .int .i64 s1, .int .u8 0, .int .i64 0, .int .i64 s2] 41)) (fun e w' => e = .returned (.bool q) ∧ Below w.heap.size w w') := by
  subst hg
  have r1 := lit_row w [a, b] 2 rfl (by omega) 3
  have hb : Below w.heap.size w ((w.alloc (.cells #[.int .i64 a, .int .i64 b] 3)).alloc (.cells #[.int .u8 0, .int .i64 0, .int .i64 s1, .int .u8 0, .int .i64 0, .int .i64 s2] 41)) := ((Below.refl _ _).alloc (Nat.le_refl _) _).alloc (by simp) _
  have r2 := r1.below (w' := (w.alloc (.cells (ivs [a, b]).toArray 3)).alloc (.cells #[.int .u8 0, .int .i64 0, .int .i64 s1, .int .u8 0, .int .i64 0, .int .i64 s2] 41)) ((Below.refl _ _).alloc (Nat.le_refl _) _)
  have rg := grants_new (w.alloc (.cells (ivs [a, b]).toArray 3)) [⟨0, 0, s1⟩, ⟨0, 0, s2⟩] 41 (w.heap.size + 1) (by simp) (fun x hx => by
    simp only [List.mem_cons, List.not_mem_nil, or_false] at hx
    rcases hx with rfl | rfl
    · exact h1
    · exact h2)
  refine (any_any (B := w.heap.size + 2) (B2 := w.heap.size + 2) 2 2 q (r2.ir.more (by simp)) (by simp) (by unfold maxLen; omega) rg (by simp) (by simp [maxLen]) hq).mono ?_
  rintro e w' ⟨rfl, hb2⟩
  exact ⟨rfl, hb.trans (hb2.mono hb.size)⟩
theorem any_17 : anyL [3, 7] [⟨0, 0, 1⟩, ⟨0, 0, 7⟩] = true := by decide
theorem any_12 : anyL [3, 7] [⟨0, 0, 1⟩, ⟨0, 0, 2⟩] = false := by decide
theorem ok_small (s : Int) (h0 : 0 ≤ s) (h1 : s < 1000) : GOk ⟨0, 0, s⟩ := ⟨by show (0 : Int) ≤ 0 ∧ (0 : Int) < 256; omega, by show (-9223372036854775808 : Int) ≤ 0 ∧ (0 : Int) ≤ 9223372036854775807; omega, by show -9223372036854775808 ≤ s ∧ s ≤ 9223372036854775807; omega⟩
set_option maxRecDepth 100000 in
set_option maxHeartbeats 4000000 in
theorem rawake_any (w : World) : Calls Try.prog 14 #[] w (fun e w' => e = .returned (.bool true) ∧ Below w.heap.size w w') := by
  go_enter Try.func14, Try.ntmps14
  go_wp2_with fail
  refine (lit_add w 3 7 5 _ ex_add5).mono ?_
  intro e w1 hg1
  obtain ⟨D1, d1, rfl, ho1, hb1, hd1, hm1⟩ := hg1.n (n := 3) rfl rfl rfl
  have B1 := Lib.hid hb1
  have R1 := Lib.hid (rw_own ho1 hd1 hm1)
  clear hg1 ho1 hb1 hd1 hm1
  go_wp2_with fail
  refine (lit_add w1 3 7 7 _ ex_add7).mono ?_
  intro e w2 hg2
  obtain ⟨D2, d2, rfl, ho2, hb2, hd2, hm2⟩ := hg2.n (n := 2) rfl rfl rfl
  have B2 := Lib.hid (B1.out.trans (hb2.mono B1.out.size))
  have R12 := Lib.hid (R1.out.below hb2)
  have R2 := Lib.hid (rw_own ho2 hd2 hm2)
  clear hg2 ho2 hb2 hd2 hm2 R1 B1
  go_wp2_with fail
  refine (lit_add w2 3 7 0 _ ex_add0).mono ?_
  intro e w3 hg3
  obtain ⟨D3, d3, rfl, _, hb3, _, _⟩ := hg3.n (n := 0) rfl rfl rfl
  have B3 := Lib.hid (B2.out.trans (hb3.mono B2.out.size))
  have R13 := Lib.hid (R12.out.below hb3)
  have R23 := Lib.hid (R2.out.below hb3)
  clear hg3 hb3 R12 R2 B2
  go_wp2_with fail
  refine (lit_add w3 7 3 5 _ ex_adds).mono ?_
  intro e w4 hg4
  obtain ⟨D4, d4, rfl, _, hb4, _, _⟩ := hg4.n (n := 0) rfl rfl rfl
  have B4 := Lib.hid (B3.out.trans (hb4.mono B3.out.size))
  have R14 := Lib.hid (R13.out.below hb4)
  have R24 := Lib.hid (R23.out.below hb4)
  clear hg4 hb4 R13 R23 B3
  go_wp2_with fail
  refine (lit_is w4 [3, 5, 7] R14.out rfl (by omega) rfl).mono ?_
  rintro e w5 ⟨rfl, hb5⟩
  have B5 := Lib.hid (B4.out.trans (hb5.mono B4.out.size))
  have R25 := Lib.hid (R24.out.below hb5)
  clear hb5 R14 R24 B4
  go_wp2_with fail
  refine (lit_is w5 [3, 7] R25.out rfl (by omega) rfl).mono ?_
  rintro e w6 ⟨rfl, hb6⟩
  have B6 := Lib.hid (B5.out.trans (hb6.mono B5.out.size))
  clear hb6 R25 B5
  go_wp2_with fail
  refine (lit_any w6 3 7 1 7 _ (ok_small _ (by omega) (by omega)) (ok_small _ (by omega) (by omega)) any_17 _ (by simp)).mono ?_
  rintro e w7 ⟨rfl, hb7⟩
  have B7 := Lib.hid (B6.out.trans (hb7.mono B6.out.size))
  clear hb7 B6
  go_wp2_with fail
  refine (lit_any w7 3 7 1 2 _ (ok_small _ (by omega) (by omega)) (ok_small _ (by omega) (by omega)) any_12 _ (by simp)).mono ?_
  rintro e w8 ⟨rfl, hb8⟩
  have B8 := Lib.hid (B7.out.trans (hb8.mono B7.out.size))
  clear hb8 B7
  go_wp2
  go_ret
  exact ⟨rfl, B8.out⟩
end Go.Proofs.Ytmeafjehcckibaa
