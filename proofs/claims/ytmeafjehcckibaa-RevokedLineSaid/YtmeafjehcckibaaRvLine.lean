/- The law RevokedLine. -/
import Derived.Test.YtmeafjehcckibaaRvH
import Derived.Test.YtmeafjehcckibaaRgD
namespace Go.Proofs.Ytmeafjehcckibaa
open Go.ChangeShapes Go.WideShapes Go.ChangeAt Go.RowKit
set_option linter.unusedVariables false
set_option linter.unusedSimpArgs false
open Plain
theorem any_snoc (zs : List Int) (l : List GrantZ) (g : GrantZ) : anyL zs (l ++ [g]) = (anyL zs l || hasL zs g.s) := by simp [anyL]
theorem any_none (l : List GrantZ) : anyL [] l = false := by simp [anyL, hasL]
set_option maxRecDepth 100000 in
set_option maxHeartbeats 8000000 in
theorem rvline_any (A1 : Option Addr) (n c1 : Nat) (zs1 : List Int) (A : Option Addr) (m c : Nat) (l : List GrantZ) (g : GrantZ) (w : World) (h1 : IsRow .i64 w A1 n c1 zs1) (g1 : Grants w w.heap.size A m l) (hm0 : m ≤ maxLen) (hg : GOk g) :
    Calls Try.prog 8 #[.slice A1 n c1, .slice A m c, .agg (gCells g).toArray] w (fun e w' => e = .returned (.bool true) ∧ Below w.heap.size w w') := by
  show Calls Try.prog 8 #[.slice A1 n c1, .slice A m c, .agg #[.int .u8 g.r, .int .i64 g.x, .int .i64 g.s]] w _
  have R1 := Lib.hid h1.rw
  generalize zs1.take n = za at R1
  clear h1
  obtain ⟨w2, hw2⟩ : ∃ W, W = w.alloc (.cells #[.int .u8 g.r, .int .i64 g.x, .int .i64 g.s] 41) := ⟨_, rfl⟩
  have Hw2 : Hid (Below w.heap.size w w2) := Lib.hid (by rw [hw2]; exact (Below.refl _ _).alloc (Nat.le_refl _) _)
  have hz2 : w.heap.size + 1 ≤ w2.heap.size := by rw [hw2]; simp
  have HW := Lib.hid hw2
  by_cases h60 : 60 < n
  · have hI : 60 < (n : Int) := by omega
    clear hw2
    go_enter Try.func8, Try.ntmps8
    go_upto_region 1 with fail
    rw [← HW.out]
    go_wp2_with fail
    refine (rawake_any w2).mono ?_
    rintro e w5 ⟨rfl, hb5⟩
    have B5 := Lib.hid (Hw2.out.trans (hb5.mono Hw2.out.size))
    clear hb5
    go_wp2
    go_ret
    exact ⟨rfl, B5.out⟩
  have hI : ¬ (60 < (n : Int)) := by omega
  by_cases m10 : 10 < m
  · have mI : 10 < (m : Int) := by omega
    clear hw2
    go_enter Try.func8, Try.ntmps8
    go_upto_region 1 with fail
    rw [← HW.out]
    go_wp2_with fail
    refine (rawake_any w2).mono ?_
    rintro e w5 ⟨rfl, hb5⟩
    have B5 := Lib.hid (Hw2.out.trans (hb5.mono Hw2.out.size))
    clear hb5
    go_wp2
    go_ret
    exact ⟨rfl, B5.out⟩
  have mI : ¬ (10 < (m : Int)) := by omega
  have HG := Lib.hid g1
  have HM : Hid (m ≤ maxLen) := Lib.hid hm0
  have HC : Hid (w2.cell? ⟨w.heap.size, 0, none⟩ = some (.int .u8 g.r) ∧ w2.cell? ⟨w.heap.size, 1, none⟩ = some (.int .i64 g.x) ∧ w2.cell? ⟨w.heap.size, 2, none⟩ = some (.int .i64 g.s)) := Lib.hid (by
    have hh := heap_alloc_new w (.cells #[.int .u8 g.r, .int .i64 g.x, .int .i64 g.s] 41)
    rw [hw2]
    refine ⟨?_, ?_, ?_⟩
    all_goals rw [cell_of_row _ _ _ _ _ _ hh]; rfl)
  have HS0 := HC
  have HST : Hid (∀ W', Below w2.heap.size w2 W' → W'.cell? ⟨w.heap.size, 0, none⟩ = some (.int .u8 g.r) ∧ W'.cell? ⟨w.heap.size, 1, none⟩ = some (.int .i64 g.x) ∧ W'.cell? ⟨w.heap.size, 2, none⟩ = some (.int .i64 g.s)) := Lib.hid (fun W' hW =>
    ⟨(hW.cell (p := ⟨w.heap.size, 0, none⟩) hz2).trans HC.out.1, (hW.cell (p := ⟨w.heap.size, 1, none⟩) hz2).trans HC.out.2.1, (hW.cell (p := ⟨w.heap.size, 2, none⟩) hz2).trans HC.out.2.2⟩)
  have hz3 : w.heap.size ≤ w2.heap.size := by omega
  have HG2 : Hid (Grants w2 w.heap.size A m l) := Lib.hid (HG.out.below Hw2.out)
  have HOK2 : Hid (∀ x, x ∈ l ++ [g] → GOk x) := Lib.hid (fun x hx => by
    rcases List.mem_append.1 hx with h | h
    · exact g1.ok x h
    · obtain rfl := List.mem_singleton.1 h; exact hg)
  obtain ⟨q1, hq1⟩ : ∃ q, anyL za (l ++ [g]) = q := ⟨_, rfl⟩
  obtain ⟨q2, hq2⟩ : ∃ q, anyL za l = q := ⟨_, rfl⟩
  obtain ⟨q3, hq3⟩ : ∃ q, hasL za g.s = q := ⟨_, rfl⟩
  have hqq : q1 = (q2 || q3) := by rw [← hq1, ← hq2, ← hq3, any_snoc]
  have Q1 := Lib.hid hq1
  have Q2 := Lib.hid hq2
  have Q3 := Lib.hid hq3
  have QQ := Lib.hid hqq
  clear g1 hm0 hg hw2 hq1 hq2 hq3 hqq
  go_enter Try.func8, Try.ntmps8
  go_upto_region 1 with fail
  rw [← HW.out]
  clear HW
  go_wp2
  go_region_held3 (fun W' => W'.cell? ⟨w.heap.size, 0, none⟩ = some (.int .u8 g.r) ∧ W'.cell? ⟨w.heap.size, 1, none⟩ = some (.int .i64 g.x) ∧ W'.cell? ⟨w.heap.size, 2, none⟩ = some (.int .i64 g.s))
    (first
      | (exact HS0.out)
      | (exact HST.out _ (Below.refl _ _).drew)
      | (exact HST.out _ ((Below.refl _ _).drew.alloc (Nat.le_refl _) _))
      | (exact HST.out _ (((Below.refl _ _).drew.alloc (Nat.le_refl _) _).alloc (by simp) _))
      | (exact HST.out _ Hx3.out)
      | (exact HST.out _ (Hx3.out.alloc Hx3.out.size _))
      | (exact HST.out _ Hx5.out))
    ((first
      | (refine step_grants w2 _ (by first | exact bw1 _ _ | exact bw2 _ _ _) (by rfl) (.tmp 17) (.tmp 18) (by rfl) _ 0 [] (by first | exact own_e1 _ | exact own_e2 _ _ | exact own_e3 _ _) (by rfl) A m c l (HG2.out.belowM (by first | exact bw1 _ _ | exact bw2 _ _ _) hz3).lies.1 HG2.out.lies.2 (by rfl) (by omega) ?_; intro v1 w3 ho1 hx3 hg1; rw [Nat.zero_add] at ho1; change w3.ownsRow w2.heap.size 41 3 v1 m (gv l) at ho1; have Hx3 := Lib.hid hx3; have Ho1 := Lib.hid ho1; have Hg1 := Lib.hid hg1; clear hx3 ho1 hg1)
      | (refine step_grants w2 _ (by first | exact Hx3.out | exact Hx3.out.alloc Hx3.out.size _) (by rfl) (.tmp 19) (.tmp 21) (by rfl) _ m l (by first | exact Ho1.out | exact Ho1.out.alloc _) (by rfl) _ 1 _ [g] (by first | exact one_liesG _ g _ | exact one_liesD _ g _ | exact lies_a2 Hg1.out rfl | exact lies_b Hg1.out rfl) (fun h => by cases h) (by rfl) (by omega) ?_; intro v2 w5 ho2 hx5 hg2; obtain ⟨A5, c5, rfl, hc5, _⟩ := own_shapeG ho2; have Hx5 := Lib.hid hx5; have Ho2 := Lib.hid ho2; clear hx5 ho2 hg2)))
  all_goals
    have HGM : Hid (Grants w5 w5.heap.size A5 (m + 1) (l ++ [g])) := Lib.hid (grants_of_own Ho2.out HOK2.out)
    have Hw5 : Hid (Below w.heap.size w w5) := Lib.hid (Hw2.out.trans (Hx5.out.mono hz3))
    have HM2 : Hid (m + 1 ≤ maxLen) := Lib.hid (by unfold maxLen; omega)
    have R5 := Lib.hid (R1.out.below Hw5.out)
    clear Ho2 Ho1 Hg1 Hx3 HG2 HS0 HC
    go_wp2_with fail
    refine (any_any c1 c5 q1 R5.out.ir (Nat.le_refl _) (Nat.le_trans R5.out.nc R5.out.cm) HGM.out (Nat.le_refl _) HM2.out Q1.out).mono ?_
    rintro e w6 ⟨rfl, hb⟩
    have H56 : Hid (Below w5.heap.size w5 w6) := Lib.hid hb
    have R6 := Lib.hid (R5.out.below hb)
    have Hw6 : Hid (Below w.heap.size w w6) := Lib.hid (Hw5.out.trans (hb.mono Hw5.out.size))
    clear hb R5
    go_wp2_with fail
    refine (any_any c1 c q2 R6.out.ir (Nat.le_refl _) (Nat.le_trans R6.out.nc R6.out.cm) (HG.out.below Hw6.out) Hw6.out.size HM.out Q2.out).mono ?_
    rintro e w7 ⟨rfl, hb⟩
    have H57 : Hid (Below w5.heap.size w5 w7) := Lib.hid (H56.out.trans (hb.mono H56.out.size))
    have R7 := Lib.hid (R6.out.below hb)
    have Hw7 : Hid (Below w.heap.size w w7) := Lib.hid (Hw6.out.trans (hb.mono Hw6.out.size))
    have d3 := (HST.out w7 (Hx5.out.trans (H57.out.mono Hx5.out.size))).2.2
    clear hb R6 H56 Hw6
    have CN := Lib.hid (any_any (A := none) (B := 0) (w := w7) 0 c5 false (Ir.nil) (Nat.zero_le _) (by simp [maxLen]) (HGM.out.below H57.out) H57.out.size HM2.out (any_none _))
    cases q2
    · have e13 : q1 = q3 := by rw [QQ.out]; rfl
      subst e13
      have eqq : (q1 == q1) = true := by simp
      go_wp2_with fail
      refine (has_any10 c1 g.s q1 R7.out.ir (Nat.le_trans R7.out.nc R7.out.cm) Q3.out).mono ?_
      rintro e w8 ⟨rfl, rfl⟩
      go_wp2_with fail
      refine CN.out.mono ?_
      rintro e w9 ⟨rfl, hb9⟩
      have W9 := Lib.hid (Hw7.out.trans (hb9.mono Hw7.out.size))
      clear hb9
      go_wp2_with fail
      refine (rawake_any w9).mono ?_
      rintro e w10 ⟨rfl, hb10⟩
      have W10 := Lib.hid (W9.out.trans (hb10.mono W9.out.size))
      clear hb10
      go_wp2
      go_ret
      exact ⟨rfl, W10.out⟩
    · have e13 : q1 = true := by rw [QQ.out]; rfl
      subst e13
      go_wp2_with fail
      refine CN.out.mono ?_
      rintro e w9 ⟨rfl, hb9⟩
      have W9 := Lib.hid (Hw7.out.trans (hb9.mono Hw7.out.size))
      clear hb9
      go_wp2_with fail
      refine (rawake_any w9).mono ?_
      rintro e w10 ⟨rfl, hb10⟩
      have W10 := Lib.hid (W9.out.trans (hb10.mono W9.out.size))
      clear hb10
      go_wp2
      go_ret
      exact ⟨rfl, W10.out⟩
end Go.Proofs.Ytmeafjehcckibaa
