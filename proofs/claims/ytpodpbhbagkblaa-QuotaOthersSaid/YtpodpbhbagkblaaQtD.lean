/- The closures that ask for a share; where it stands; the tenant's share. -/
import Derived.Test.YtpodpbhbagkblaaQtC
namespace Go.Proofs.Ytpodpbhbagkblaa
open Go.ChangeShapes Go.WideShapes Go.ChangeAt Go.RowKit
set_option linter.unusedVariables false
set_option linter.unusedSimpArgs false
open Plain Qt
set_option maxRecDepth 100000 in
theorem clos_is {w : World} {b : Nat} (g : ShZ) (t : Int) (q : Bool) (hc : w.cell? ⟨b, 0, none⟩ = some (.int .i64 t)) (hq : decide (g.t = t) = q) :
    Calls Try.prog 34 #[.agg #[.int .i64 g.t, .int .i64 g.k, .int .i64 g.s], .pointer (some ⟨b, 0, none⟩)] w (fun e w' => e = .returned (.bool q) ∧ Below w.heap.size w w') := by
  have hb : b < w.heap.size := World.block_lt_of_cell? _ _ hc
  obtain ⟨gt, gk, gs⟩ := g
  show Calls Try.prog 34 #[.agg #[.int .i64 gt, .int .i64 gk, .int .i64 gs], .pointer (some ⟨b, 0, none⟩)] w _
  have HB := Lib.hid (below_oneQ w (.cells #[.int .i64 gt, .int .i64 gk, .int .i64 gs] 27))
  have HE := Lib.hid (show (gt == t) = q from hq)
  clear hq
  go_enter Try.func34, Try.ntmps34
  go_wp2
  go_ret
  exact ⟨congrArg (fun z => Ending.returned (.bool z)) HE.out, HB.out⟩
set_option maxRecDepth 100000 in
theorem clos_gr {w : World} {b : Nat} (g : ShZ) (t : Int) (q : Bool) (hc : w.cell? ⟨b, 0, none⟩ = some (.int .i64 t)) (hq : decide (t < g.t) = q) :
    Calls Try.prog 28 #[.agg #[.int .i64 g.t, .int .i64 g.k, .int .i64 g.s], .pointer (some ⟨b, 0, none⟩)] w (fun e w' => e = .returned (.bool q) ∧ Below w.heap.size w w') := by
  have hb : b < w.heap.size := World.block_lt_of_cell? _ _ hc
  obtain ⟨gt, gk, gs⟩ := g
  show Calls Try.prog 28 #[.agg #[.int .i64 gt, .int .i64 gk, .int .i64 gs], .pointer (some ⟨b, 0, none⟩)] w _
  have HB := Lib.hid (below_oneQ w (.cells #[.int .i64 gt, .int .i64 gk, .int .i64 gs] 27))
  cases q
  · have hq : decide (t < gt) = false := hq
    have hq2 : ¬ (t < gt) := by simpa using hq
    go_enter Try.func28, Try.ntmps28
    go_wp2
    go_ret
    exact ⟨rfl, HB.out⟩
  · have hq2 : t < gt := by simpa using hq
    clear hq
    go_enter Try.func28, Try.ntmps28
    go_wp2
    go_ret
    exact ⟨by simp [hq2], HB.out⟩
set_option maxRecDepth 100000 in
set_option maxHeartbeats 1000000 in
theorem place_is {w : World} {B n b : Nat} {A : Option Addr} {l : List ShZ} (c : Nat) (t : Int) (pos : Nat) (h : Shs w B A n l) (hB : B ≤ w.heap.size) (hn : n ≤ maxLen) (hc : w.cell? ⟨b, 0, none⟩ = some (.int .i64 t)) (hp : idxR l t = pos) :
    Calls Try.prog 22 #[.slice A n c, .func (.func 34) #[] #[.pointer (some ⟨b, 0, none⟩)]] w (fun e w' => e = .returned (.int .i64 pos) ∧ Below w.heap.size w w') := by
  unfold maxLen at hn
  have L := Lib.hid h.len
  have HG := Lib.hid h
  have HC := Lib.hid hc
  have HP := Lib.hid hp
  have hb : b < w.heap.size := World.block_lt_of_cell? _ _ hc
  clear h hc hp
  go_enter Try.func22, Try.ntmps22
  go_wp2
  go_loopw [8] (fun i wr => ∃ k : Nat, k ≤ n ∧ i = .int .i64 k ∧ Hid (Below w.heap.size w wr) ∧ Hid (k + idxR (l.drop k) t = pos)) (fun i _ => n - (intOf i).toNat)
  case atStart => exact ⟨0, by omega, rfl, Lib.hid (Below.refl _ _), Lib.hid (by rw [List.drop_zero, Nat.zero_add]; exact HP.out)⟩
  case round =>
    obtain ⟨k, hk, rfl, HW, HY⟩ := hrel
    by_cases hlt : k < n
    · have hltI : (k : Int) < (n : Int) := by omega
      obtain ⟨bg, off, g, rfl, hbg, HK, _, c0, c1, c2⟩ := (HG.out.below HW.out hB).at_ hlt
      obtain ⟨s, hs⟩ : ∃ s, decide (g.t = t) = s := ⟨_, rfl⟩
      have HCL := Lib.hid (clos_is (b := b) g t s ((HW.out.cell (p := ⟨b, 0, none⟩) hb).trans HC.out) hs)
      have HD := HY.out
      rw [drop_atQ HK.out, idx_cons] at HD
      cases s
      · have hne : ¬ (g.t = t) := by simpa using hs
        rw [if_neg hne] at HD
        have HD2 := Lib.hid (show k + 1 + idxR (l.drop (k + 1)) t = pos by omega)
        clear HD hne hs
        go_wp2_with (refine HCL.out.mono ?_; rintro e w5 ⟨rfl, hb5⟩; have HW5 := Lib.hid (HW.out.trans (hb5.mono HW.out.size)); clear hb5)
        go_roundw
        case rel => exact ⟨k + 1, by omega, by go_num, HW5, HD2⟩
        case measure => simp [intOf]; omega
      · have hne : g.t = t := by simpa using hs
        rw [if_pos hne] at HD
        have e : k = pos := by omega
        subst e
        clear HD hne hs
        go_wp2_with (refine HCL.out.mono ?_; rintro e w5 ⟨rfl, hb5⟩; have HW5 := Lib.hid (HW.out.trans (hb5.mono HW.out.size)); clear hb5)
        go_ret
        exact ⟨rfl, HW5.out⟩
    · have e : n = pos := by
        have := HY.out
        rw [List.drop_eq_nil_of_le (by rw [L.out]; omega)] at this
        have e0 : idxR [] t = 0 := rfl
        omega
      subst e
      go_wp2
      go_ret
      exact ⟨rfl, HW.out⟩
set_option maxRecDepth 100000 in
set_option maxHeartbeats 1000000 in
theorem place_gr {w : World} {B n b : Nat} {A : Option Addr} {l : List ShZ} (c : Nat) (t : Int) (pos : Nat) (h : Shs w B A n l) (hB : B ≤ w.heap.size) (hn : n ≤ maxLen) (hc : w.cell? ⟨b, 0, none⟩ = some (.int .i64 t)) (hp : posR l t = pos) :
    Calls Try.prog 22 #[.slice A n c, .func (.func 28) #[] #[.pointer (some ⟨b, 0, none⟩)]] w (fun e w' => e = .returned (.int .i64 pos) ∧ Below w.heap.size w w') := by
  unfold maxLen at hn
  have L := Lib.hid h.len
  have HG := Lib.hid h
  have HC := Lib.hid hc
  have HP := Lib.hid hp
  have hb : b < w.heap.size := World.block_lt_of_cell? _ _ hc
  clear h hc hp
  go_enter Try.func22, Try.ntmps22
  go_wp2
  go_loopw [8] (fun i wr => ∃ k : Nat, k ≤ n ∧ i = .int .i64 k ∧ Hid (Below w.heap.size w wr) ∧ Hid (k + posR (l.drop k) t = pos)) (fun i _ => n - (intOf i).toNat)
  case atStart => exact ⟨0, by omega, rfl, Lib.hid (Below.refl _ _), Lib.hid (by rw [List.drop_zero, Nat.zero_add]; exact HP.out)⟩
  case round =>
    obtain ⟨k, hk, rfl, HW, HY⟩ := hrel
    by_cases hlt : k < n
    · have hltI : (k : Int) < (n : Int) := by omega
      obtain ⟨bg, off, g, rfl, hbg, HK, _, c0, c1, c2⟩ := (HG.out.below HW.out hB).at_ hlt
      obtain ⟨s, hs⟩ : ∃ s, decide (t < g.t) = s := ⟨_, rfl⟩
      have HCL := Lib.hid (clos_gr (b := b) g t s ((HW.out.cell (p := ⟨b, 0, none⟩) hb).trans HC.out) hs)
      have HD := HY.out
      rw [drop_atQ HK.out, pos_cons] at HD
      cases s
      · have hne : ¬ (t < g.t) := by simpa using hs
        rw [if_neg hne] at HD
        have HD2 := Lib.hid (show k + 1 + posR (l.drop (k + 1)) t = pos by omega)
        clear HD hne hs
        go_wp2_with (refine HCL.out.mono ?_; rintro e w5 ⟨rfl, hb5⟩; have HW5 := Lib.hid (HW.out.trans (hb5.mono HW.out.size)); clear hb5)
        go_roundw
        case rel => exact ⟨k + 1, by omega, by go_num, HW5, HD2⟩
        case measure => simp [intOf]; omega
      · have hne : t < g.t := by simpa using hs
        rw [if_pos hne] at HD
        have e : k = pos := by omega
        subst e
        clear HD hne hs
        go_wp2_with (refine HCL.out.mono ?_; rintro e w5 ⟨rfl, hb5⟩; have HW5 := Lib.hid (HW.out.trans (hb5.mono HW.out.size)); clear hb5)
        go_ret
        exact ⟨rfl, HW5.out⟩
    · have e : n = pos := by
        have := HY.out
        rw [List.drop_eq_nil_of_le (by rw [L.out]; omega)] at this
        have e0 : posR [] t = 0 := rfl
        omega
      subst e
      go_wp2
      go_ret
      exact ⟨rfl, HW.out⟩
set_option maxRecDepth 100000 in
theorem isof_any {w : World} (t : Int) : Calls Try.prog 23 #[.int .i64 t] w (fun e w' => e = .returned (.func (.func 34) #[] #[.pointer (some ⟨w.heap.size, 0, none⟩)]) ∧ w' = w.alloc (.cells #[.int .i64 t] 3)) := by
  go_enter Try.func23, Try.ntmps23
  go_wp2
  go_ret
  exact ⟨rfl, rfl⟩
/-- What place tells of the closure that isOf makes. -/
theorem isof_place {V : World} {B n : Nat} {A : Option Addr} {l : List ShZ} (c : Nat) (t : Int) (pos : Nat) (h : Shs V B A n l) (hB : B ≤ V.heap.size) (hn : n ≤ maxLen) (hp : idxR l t = pos) :
    Calls Try.prog 22 #[.slice A n c, .func (.func 34) #[] #[.pointer (some ⟨V.heap.size, 0, none⟩)]] (V.alloc (.cells #[.int .i64 t] 3)) (fun e w' => e = .returned (.int .i64 pos) ∧ Below V.heap.size V w') := by
  have hV2 := below_oneQ V (.cells #[.int .i64 t] 3)
  refine (place_is c t pos (h.below hV2 hB) (Nat.le_trans hB hV2.size) hn (by rw [cell_of_row _ _ _ _ _ _ (heap_alloc_new V _)]; rfl) hp).mono ?_
  rintro e w' ⟨rfl, hb⟩
  exact ⟨rfl, hV2.trans (hb.mono hV2.size)⟩
end Go.Proofs.Ytpodpbhbagkblaa
