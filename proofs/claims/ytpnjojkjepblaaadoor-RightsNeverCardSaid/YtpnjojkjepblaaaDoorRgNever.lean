/- The walk of RightsNever. -/
import Derived.Test.YtpnjojkjepblaaaDoorRgD
namespace Go.Proofs.YtpnjojkjepblaaaDoor
open Go.ChangeShapes Go.WideShapes Go.ChangeAt Go.RowKit
set_option linter.unusedVariables false
open Plain
set_option maxRecDepth 100000 in
set_option maxHeartbeats 4000000 in
theorem rightsNever_in {A : Option Addr} {m : Nat} (c : Nat) {l : List GrantZ} (g : GrantZ) (w : World) (g1 : Grants w w.heap.size A m l) (hg : GOk g) (hl : lineB l = true) (hm : m < 4) (hy : mayB g = true) (hL : LaidL w) :
    Calls Tryd.prog 6 #[.slice A m c, .agg #[.int .u8 g.r, .int .i64 g.x, .int .i64 g.s]] w (fun e w' => e = .returned (.bool true) ∧ Below w.heap.size w w') := by
  have HL := Lib.hid hL
  have HG := Lib.hid g1
  have HY := Lib.hid hy
  have HLL := Lib.hid hl
  have HGO := Lib.hid hg
  have HM : Hid (m ≤ maxLen) := Lib.hid (by unfold maxLen; omega)
  have hI1 : ¬ 4 ≤ (m : Int) := by omega
  have hlm : l.length < 4 := by rw [g1.len]; exact hm
  have HL2 : Hid (lineB (l ++ [g]) = true) := Lib.hid (line_snoc hl hlm hy)
  have HWI : Hid (withinB (l ++ [g]) l = true) := Lib.hid (within_snoc hl hlm hy hg.r.1)
  have HOK2 : Hid (∀ x, x ∈ l ++ [g] → GOk x) := Lib.hid (fun x hx => by
    rcases List.mem_append.1 hx with h | h
    · exact g1.ok x h
    · obtain rfl := List.mem_singleton.1 h; exact hg)
  obtain ⟨R, hR⟩ : ∃ q, lvR l = q := ⟨_, rfl⟩
  obtain ⟨X, hX⟩ : ∃ q, lvX l = q := ⟨_, rfl⟩
  have b1 := lvR_bound l
  rw [hR] at b1
  have b2 := andZ_le R g.r b1.1
  have HH1 : Hid (hasB R (andZ R g.r) = true) := Lib.hid (has_of b1.1 (by omega) b2.1 (by omega) (and_again _ _))
  have HH2 : Hid (hasB g.r (andZ R g.r) = true) := Lib.hid (has_of hg.r.1 hg.r.2 b2.1 (by omega) (and_other _ _))
  have HR2 : Hid (lvR (l ++ [g]) = andZ R g.r) := Lib.hid (by rw [lvR_snoc, hR])
  obtain ⟨Y, hYY⟩ : ∃ q, lvX (l ++ [g]) = q := ⟨_, rfl⟩
  have hY1 : Y ≤ X := by rw [← hYY, lvX_snoc, hX]; omega
  have hY2 : Y ≤ g.x := by rw [← hYY, lvX_snoc, hX]; omega
  have HR := Lib.hid hR
  have HX := Lib.hid hX
  have HYY := Lib.hid hYY
  generalize andZ R g.r = T at *
  clear g1 hL hy hl hg hlm hR hX hYY b1 b2
  have HW0 : Hid (w.alloc (.cells #[.int .u8 g.r, .int .i64 g.x, .int .i64 g.s] 35) = w.alloc (.cells #[.int .u8 g.r, .int .i64 g.x, .int .i64 g.s] 35)) := rfl
  have HC : Hid (∀ W', Below (w.heap.size + 1) (w.alloc (.cells #[.int .u8 g.r, .int .i64 g.x, .int .i64 g.s] 35)) W' → W'.cell? ⟨w.heap.size, 0, none⟩ = some (.int .u8 g.r) ∧ W'.cell? ⟨w.heap.size, 1, none⟩ = some (.int .i64 g.x) ∧ W'.cell? ⟨w.heap.size, 2, none⟩ = some (.int .i64 g.s)) := Lib.hid (fun W' hW => by
    have hh := heap_alloc_new w (.cells #[.int .u8 g.r, .int .i64 g.x, .int .i64 g.s] 35)
    refine ⟨(hW.cell (p := ⟨w.heap.size, 0, none⟩) (Nat.lt_succ_self _)).trans ?_, (hW.cell (p := ⟨w.heap.size, 1, none⟩) (Nat.lt_succ_self _)).trans ?_, (hW.cell (p := ⟨w.heap.size, 2, none⟩) (Nat.lt_succ_self _)).trans ?_⟩
    all_goals rw [cell_of_row _ _ _ _ _ _ hh]; rfl)
  clear HW0
  go_enter Tryd.func6, Tryd.ntmps6
  go_wp2_with fail
  refine (line_val c true (HG.out.below ((Below.refl _ _).alloc (Nat.le_refl _) _)) (by simp) HM.out HLL.out).mono ?_
  rintro e w1 ⟨rfl, hb⟩
  have Hb1 : Hid (Below (w.heap.size + 1) (w.alloc (.cells #[.int .u8 g.r, .int .i64 g.x, .int .i64 g.s] 35)) w1) := Lib.hid (hb.mono (by simp))
  have d1 := (HC.out w1 Hb1.out).1
  have d2 := (HC.out w1 Hb1.out).2.1
  have d3 := (HC.out w1 Hb1.out).2.2
  clear hb
  go_wp2_with fail
  refine (may_val g true HY.out _).mono ?_
  rintro e w2 ⟨rfl, hb⟩
  have Hb2 : Hid (Below (w.heap.size + 1) (w.alloc (.cells #[.int .u8 g.r, .int .i64 g.x, .int .i64 g.s] 35)) w2) := Lib.hid (Hb1.out.trans (hb.mono (by have := Hb1.out.size; simpa using this)))
  have hz2 : w.heap.size + 1 ≤ w2.heap.size := by have := Hb2.out.size; simpa using this
  have hz3 : w.heap.size ≤ w2.heap.size := by omega
  clear d1 d2 d3 hb Hb1
  have Hw2 : Hid (Below w.heap.size w w2) := Lib.hid (((Below.refl _ _).alloc (Nat.le_refl _) _).trans (Hb2.out.mono (by omega)))
  have HG2 : Hid (Grants w2 w.heap.size A m l) := Lib.hid (HG.out.below Hw2.out)
  have HS0 := Lib.hid (HC.out w2 Hb2.out)
  have HST : Hid (∀ W', Below w2.heap.size w2 W' → W'.cell? ⟨w.heap.size, 0, none⟩ = some (.int .u8 g.r) ∧ W'.cell? ⟨w.heap.size, 1, none⟩ = some (.int .i64 g.x) ∧ W'.cell? ⟨w.heap.size, 2, none⟩ = some (.int .i64 g.s)) := Lib.hid (fun W' hW => HC.out W' (Hb2.out.trans (hW.mono hz2)))
  go_wp2
  go_region_held3 (fun W' => W'.cell? ⟨w.heap.size, 0, none⟩ = some (.int .u8 g.r) ∧ W'.cell? ⟨w.heap.size, 1, none⟩ = some (.int .i64 g.x) ∧ W'.cell? ⟨w.heap.size, 2, none⟩ = some (.int .i64 g.s))
    (first
      | (exact HS0.out)
      | (exact HST.out _ (Below.refl _ _).drew)
      | (exact HST.out _ ((Below.refl _ _).drew.alloc (Nat.le_refl _) _))
      | (exact HST.out _ (((Below.refl _ _).drew.alloc (Nat.le_refl _) _).alloc (by simp) _))
      | (exact HST.out _ Hx3.out)
      | (exact HST.out _ (Hx3.out.alloc Hx3.out.size _))
      | (exact HST.out _ Hx5.out))
    ((first
      | (refine step_grants w2 _ (by first | exact bw1 _ _ | exact bw2 _ _ _) (by rfl) (.tmp 26) (.tmp 27) (by rfl) _ 0 [] (by first | exact own_e1 _ | exact own_e2 _ _ | exact own_e3 _ _) (by rfl) A m c l (HG2.out.belowM (by first | exact bw1 _ _ | exact bw2 _ _ _) hz3).lies.1 HG2.out.lies.2 (by rfl) (by omega) ?_; intro v1 w3 ho1 hx3 hg1; rw [Nat.zero_add] at ho1; change w3.ownsRow w2.heap.size 35 3 v1 m (gv l) at ho1; have Hx3 := Lib.hid hx3; have Ho1 := Lib.hid ho1; have Hg1 := Lib.hid hg1; clear hx3 ho1 hg1)
      | (refine step_grants w2 _ (by first | exact Hx3.out | exact Hx3.out.alloc Hx3.out.size _) (by rfl) (.tmp 28) (.tmp 30) (by rfl) _ m l (by first | exact Ho1.out | exact Ho1.out.alloc _) (by rfl) _ 1 _ [g] (by first | exact one_liesG _ g _ | exact one_liesD _ g _ | exact lies_a2 Hg1.out rfl | exact lies_b Hg1.out rfl) (fun h => by cases h) (by rfl) (by omega) ?_; intro v2 w5 ho2 hx5 hg2; obtain ⟨A5, c5, rfl, hc5, _⟩ := own_shapeG ho2; have Hx5 := Lib.hid hx5; have Ho2 := Lib.hid ho2; clear hx5 ho2 hg2)))
  all_goals
    have HGM : Hid (Grants w5 w5.heap.size A5 (m + 1) (l ++ [g])) := Lib.hid (grants_of_own Ho2.out HOK2.out)
    have Hw5 : Hid (Below w.heap.size w w5) := Lib.hid (Hw2.out.trans (Hx5.out.mono hz3))
    have HM2 : Hid (m + 1 ≤ maxLen) := Lib.hid (by unfold maxLen; omega)
    clear Ho2 Ho1 Hg1 Hx3 HG2 Hb2 HS0 HC
    go_wp2_with fail
    refine (leaves_val c R X 0 (HG.out.below Hw5.out) Hw5.out.size HM.out ((le_yes HLL.out).1.trans HR.out) ((le_yes HLL.out).2.1.trans HX.out) (le_yes HLL.out).2.2).mono ?_
    rintro e w6 ⟨rfl, hb⟩
    have H56 : Hid (Below w5.heap.size w5 w6) := Lib.hid hb
    clear hb
    go_wp2_with fail
    refine (leaves_val c5 T Y 0 (HGM.out.below H56.out) H56.out.size HM2.out ((le_yes HL2.out).1.trans HR2.out) ((le_yes HL2.out).2.1.trans HYY.out) (le_yes HL2.out).2.2).mono ?_
    rintro e w7 ⟨rfl, hb⟩
    have H57 : Hid (Below w5.heap.size w5 w7) := Lib.hid (H56.out.trans (hb.mono H56.out.size))
    have Hw7 : Hid (Below w.heap.size w w7) := Lib.hid (Hw5.out.trans (H57.out.mono Hw5.out.size))
    clear hb H56
    go_wp2_with fail
    refine (within_val c5 c true (HGM.out.below H57.out) (HG.out.below Hw7.out) H57.out.size Hw7.out.size HM2.out HM.out HWI.out).mono ?_
    rintro e w8 ⟨rfl, hb⟩
    have H58 : Hid (Below w5.heap.size w5 w8) := Lib.hid (H57.out.trans (hb.mono H57.out.size))
    have Hw8 : Hid (Below w.heap.size w w8) := Lib.hid (Hw5.out.trans (H58.out.mono Hw5.out.size))
    have d := HST.out w8 (Hx5.out.trans (H58.out.mono Hx5.out.size))
    obtain ⟨d1, d2, d3⟩ := d
    clear hb H57 Hw7 Hw5
    go_wp2_with fail
    refine (has_val _ _ _ HH1.out _).mono ?_
    rintro e w9 ⟨rfl, rfl⟩
    go_wp2_with fail
    refine (has_val _ _ _ HH2.out _).mono ?_
    rintro e w9 ⟨rfl, rfl⟩
    go_wp2_with fail
    refine (awake_any _ (HL.out.grown Hw8.out)).mono ?_
    rintro e w9 ⟨rfl, hb9⟩
    go_wp2
    go_ret
    exact ⟨rfl, Hw8.out.trans (hb9.mono Hw8.out.size)⟩
theorem rightsNever_any (A : Option Addr) (m c : Nat) (l : List GrantZ) (g : GrantZ) (w : World) (g1 : Grants w w.heap.size A m l) (hm : m ≤ maxLen) (hg : GOk g) (hL : LaidL w) :
    Calls Tryd.prog 6 #[.slice A m c, .agg (gCells g).toArray] w (fun e w' => e = .returned (.bool true) ∧ Below w.heap.size w w') := by
  show Calls Tryd.prog 6 #[.slice A m c, .agg #[.int .u8 g.r, .int .i64 g.x, .int .i64 g.s]] w _
  have HL := Lib.hid hL
  have HG := Lib.hid g1
  have HM := Lib.hid hm
  unfold maxLen at hm
  obtain ⟨la, hla⟩ : ∃ q, lineB l = q := ⟨_, rfl⟩
  have hlen := g1.len
  have HLA := Lib.hid hla
  cases la
  · clear g1 hL hla hlen
    go_enter Tryd.func6, Tryd.ntmps6
    go_wp2_with fail
    refine (line_val c false (HG.out.below ((Below.refl _ _).alloc (Nat.le_refl _) _)) (by simp) HM.out HLA.out).mono ?_
    rintro e w1 ⟨rfl, hb⟩
    have Hw1 : Hid (Below w.heap.size w w1) := Lib.hid (((Below.refl _ _).alloc (Nat.le_refl _) _).trans (hb.mono (by simp)))
    clear hb
    go_wp2_with (go_at_call 12; refine (awake_any _ (HL.out.grown Hw1.out)).mono ?_; rintro e w9 ⟨rfl, hb9⟩)
    go_ret
    exact ⟨rfl, Hw1.out.trans (hb9.mono Hw1.out.size)⟩
  by_cases h4 : 4 ≤ m
  · have h4I : 4 ≤ (m : Int) := by omega
    clear g1 hL hla hlen
    go_enter Tryd.func6, Tryd.ntmps6
    go_wp2_with fail
    refine (line_val c true (HG.out.below ((Below.refl _ _).alloc (Nat.le_refl _) _)) (by simp) HM.out HLA.out).mono ?_
    rintro e w1 ⟨rfl, hb⟩
    have Hw1 : Hid (Below w.heap.size w w1) := Lib.hid (((Below.refl _ _).alloc (Nat.le_refl _) _).trans (hb.mono (by simp)))
    clear hb
    go_wp2_with (go_at_call 12; refine (awake_any _ (HL.out.grown Hw1.out)).mono ?_; rintro e w9 ⟨rfl, hb9⟩)
    go_ret
    exact ⟨rfl, Hw1.out.trans (hb9.mono Hw1.out.size)⟩
  obtain ⟨ma, hma⟩ : ∃ q, mayB g = q := ⟨_, rfl⟩
  cases ma
  · have h4I : ¬ 4 ≤ (m : Int) := by omega
    have HMA := Lib.hid hma
    have HC : Hid (∀ W', Below (w.heap.size + 1) (w.alloc (.cells #[.int .u8 g.r, .int .i64 g.x, .int .i64 g.s] 35)) W' → W'.cell? ⟨w.heap.size, 0, none⟩ = some (.int .u8 g.r) ∧ W'.cell? ⟨w.heap.size, 1, none⟩ = some (.int .i64 g.x) ∧ W'.cell? ⟨w.heap.size, 2, none⟩ = some (.int .i64 g.s)) := Lib.hid (fun W' hW => by
      have hh := heap_alloc_new w (.cells #[.int .u8 g.r, .int .i64 g.x, .int .i64 g.s] 35)
      refine ⟨(hW.cell (p := ⟨w.heap.size, 0, none⟩) (Nat.lt_succ_self _)).trans ?_, (hW.cell (p := ⟨w.heap.size, 1, none⟩) (Nat.lt_succ_self _)).trans ?_, (hW.cell (p := ⟨w.heap.size, 2, none⟩) (Nat.lt_succ_self _)).trans ?_⟩
      all_goals rw [cell_of_row _ _ _ _ _ _ hh]; rfl)
    clear g1 hL hla hlen hma h4
    go_enter Tryd.func6, Tryd.ntmps6
    go_wp2_with fail
    refine (line_val c true (HG.out.below ((Below.refl _ _).alloc (Nat.le_refl _) _)) (by simp) HM.out HLA.out).mono ?_
    rintro e w1 ⟨rfl, hb⟩
    have Hw1 : Hid (Below w.heap.size w w1) := Lib.hid (((Below.refl _ _).alloc (Nat.le_refl _) _).trans (hb.mono (by simp)))
    obtain ⟨d1, d2, d3⟩ := HC.out w1 (hb.mono (by simp))
    clear hb
    go_wp2_with fail
    refine (may_val g false HMA.out _).mono ?_
    rintro e w2 ⟨rfl, hb⟩
    have Hw2 : Hid (Below w.heap.size w w2) := Lib.hid (Hw1.out.trans (hb.mono Hw1.out.size))
    clear hb
    go_wp2_with (go_at_call 12; refine (awake_any _ (HL.out.grown Hw2.out)).mono ?_; rintro e w9 ⟨rfl, hb9⟩)
    go_ret
    exact ⟨rfl, Hw2.out.trans (hb9.mono Hw2.out.size)⟩
  exact rightsNever_in c g w g1 hg hla (by omega) hma hL
end Go.Proofs.YtpnjojkjepblaaaDoor
