/- Which grants and lines may be; what a line leaves; its serials. -/
import Derived.Test.YtpnjojkjepblaaaDoorRgM
import Derived.Lib.MinMax
namespace Go.Proofs.YtpnjojkjepblaaaDoor
open Go.ChangeShapes Go.WideShapes Go.ChangeAt Go.RowKit
set_option linter.unusedVariables false
open Plain
set_option maxHeartbeats 1000000 in
theorem may_any (g : GrantZ) (w : World) : Calls Tryd.prog 17 #[gAgg g] w (fun e w' => e = .returned (.bool (mayB g)) ∧ Below w.heap.size w w') := by
  obtain ⟨r, x, s⟩ := g
  show Calls Tryd.prog 17 #[.agg #[.int .u8 r, .int .i64 x, .int .i64 s]] w _
  by_cases h1 : r ≤ 15
  · by_cases h2 : 0 ≤ x
    · by_cases h3 : x ≤ 1099511627776
      · by_cases h4 : 1 ≤ s
        · by_cases h5 : s ≤ 1099511627776
          · have HM : Hid (mayB ⟨r, x, s⟩ = true) := Lib.hid (by simp [mayB, *])
            go_enter Tryd.func17, Tryd.ntmps17
            go_wp2
            go_ret
            rw [HM.out]
            exact ⟨rfl, (Below.refl _ _).alloc (Nat.le_refl _) _⟩
          · have HM : Hid (mayB ⟨r, x, s⟩ = false) := Lib.hid (by simp [mayB]; omega)
            go_enter Tryd.func17, Tryd.ntmps17
            go_wp2
            go_ret
            rw [HM.out]
            exact ⟨rfl, (Below.refl _ _).alloc (Nat.le_refl _) _⟩
        · have HM : Hid (mayB ⟨r, x, s⟩ = false) := Lib.hid (by simp [mayB]; omega)
          go_enter Tryd.func17, Tryd.ntmps17
          go_wp2
          go_ret
          rw [HM.out]
          exact ⟨rfl, (Below.refl _ _).alloc (Nat.le_refl _) _⟩
      · have HM : Hid (mayB ⟨r, x, s⟩ = false) := Lib.hid (by simp [mayB]; omega)
        go_enter Tryd.func17, Tryd.ntmps17
        go_wp2
        go_ret
        rw [HM.out]
        exact ⟨rfl, (Below.refl _ _).alloc (Nat.le_refl _) _⟩
    · have HM : Hid (mayB ⟨r, x, s⟩ = false) := Lib.hid (by simp [mayB]; omega)
      go_enter Tryd.func17, Tryd.ntmps17
      go_wp2
      go_ret
      rw [HM.out]
      exact ⟨rfl, (Below.refl _ _).alloc (Nat.le_refl _) _⟩
  · have HM : Hid (mayB ⟨r, x, s⟩ = false) := Lib.hid (by simp [mayB]; omega)
    go_enter Tryd.func17, Tryd.ntmps17
    go_wp2
    go_ret
    rw [HM.out]
    exact ⟨rfl, (Below.refl _ _).alloc (Nat.le_refl _) _⟩
theorem may_val (g : GrantZ) (q : Bool) (h : mayB g = q) (w : World) : Calls Tryd.prog 17 #[.agg #[.int .u8 g.r, .int .i64 g.x, .int .i64 g.s]] w (fun e w' => e = .returned (.bool q) ∧ Below w.heap.size w w') := by
  subst h
  exact may_any g w
theorem all_snoc {l : List GrantZ} {k : Nat} {g : GrantZ} (h : l[k]? = some g) (hp : (l.take k).all mayB = true) : (l.take (k + 1)).all mayB = mayB g := by
  rw [take_snocG l k g h, List.all_append, hp]; simp
theorem all_no {l : List GrantZ} {k : Nat} {g : GrantZ} (h : l[k]? = some g) (hg : mayB g = false) : l.all mayB = false := by
  rw [List.all_eq_false]
  exact ⟨g, List.mem_of_getElem? h, by simp [hg]⟩
set_option maxHeartbeats 1000000 in
theorem line_any {w : World} {B m : Nat} {A : Option Addr} {l : List GrantZ} (c : Nat) (h : Grants w B A m l) (hB : B ≤ w.heap.size) (hm : m ≤ maxLen) : Calls Tryd.prog 15 #[.slice A m c] w (fun e w' => e = .returned (.bool (lineB l)) ∧ Below w.heap.size w w') := by
  unfold maxLen at hm
  have hl := h.len
  by_cases h1 : m < 1
  · have HT : Hid (lineB l = false) := Lib.hid (by simp [lineB, hl]; omega)
    have hI : (m : Int) < 1 := by omega
    clear hl h
    go_enter Tryd.func15, Tryd.ntmps15
    go_wp2
    go_ret
    rw [HT.out]
    exact ⟨rfl, Below.refl _ _⟩
  by_cases h2 : 4 < m
  · have HT : Hid (lineB l = false) := Lib.hid (by simp [lineB, hl]; omega)
    have hI : ¬ (m : Int) < 1 := by omega
    have hI2 : 4 < (m : Int) := by omega
    clear hl h
    go_enter Tryd.func15, Tryd.ntmps15
    go_wp2
    go_ret
    rw [HT.out]
    exact ⟨rfl, Below.refl _ _⟩
  have HL := Lib.hid hl
  have HG := Lib.hid h
  have HB := Lib.hid hB
  have hI : ¬ (m : Int) < 1 := by omega
  have hI2 : ¬ 4 < (m : Int) := by omega
  clear hl h hB
  go_enter Tryd.func15, Tryd.ntmps15
  go_wp2
  go_loopw [14] (fun i wr => ∃ k : Nat, k ≤ m ∧ i = .int .i64 k ∧ Hid ((l.take k).all mayB = true) ∧ Hid (Below w.heap.size w wr)) (fun i _ => m - (intOf i).toNat)
  case atStart => exact ⟨0, by omega, rfl, by rfl, Below.refl _ _⟩
  case round =>
    obtain ⟨k, hk, rfl, HA, HW⟩ := hrel
    by_cases hlt : k < m
    · have hltI : (k : Int) < (m : Int) := by omega
      obtain ⟨b, off, g, rfl, hb, HK, _, c0, c1, c2⟩ := (HG.out.belowM HW.out HB.out).at_ hlt
      have hbl : b < w.heap.size := by have := HB.out; omega
      obtain ⟨q, hq⟩ : ∃ q, mayB g = q := ⟨_, rfl⟩
      have HQ := Lib.hid hq
      clear hq
      cases q
      · have HT : Hid (lineB l = false) := Lib.hid (by simp [lineB, all_no HK.out HQ.out])
        go_wp2_with (go_at_call 17; refine (may_val g _ HQ.out _).mono ?_; rintro e w' ⟨rfl, hb2⟩)
        go_ret
        rw [HT.out]
        exact ⟨rfl, HW.out.trans (hb2.mono HW.out.size)⟩
      · have HT : Hid ((l.take (k + 1)).all mayB = true) := Lib.hid ((all_snoc HK.out HA.out).trans HQ.out)
        go_wp2_with (go_at_call 17; refine (may_val g _ HQ.out _).mono ?_; rintro e w' ⟨rfl, hb2⟩)
        go_roundw
        case rel => exact ⟨k + 1, by omega, by go_num, HT, HW.out.trans (hb2.mono HW.out.size)⟩
        case measure => simp [intOf]; omega
    · have hkm : k = m := by omega
      have HT : Hid (lineB l = true) := Lib.hid (by
        have := HA.out
        rw [hkm, ← HL.out, List.take_length] at this
        simp only [lineB, this, HL.out]
        simp; omega)
      clear hkm
      go_wp2
      go_ret
      rw [HT.out]
      exact ⟨rfl, HW.out⟩
end Go.Proofs.YtpnjojkjepblaaaDoor
