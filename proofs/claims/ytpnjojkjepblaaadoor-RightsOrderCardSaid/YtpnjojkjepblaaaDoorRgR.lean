/- The document's own grants and lines. -/
import Derived.Test.YtpnjojkjepblaaaDoorRgA
namespace Go.Proofs.YtpnjojkjepblaaaDoor
open Go.ChangeShapes Go.WideShapes Go.ChangeAt Go.RowKit
set_option linter.unusedVariables false
open Plain
set_option maxHeartbeats 1000000 in
theorem refmay_any (g : GrantZ) (w : World) : Calls Tryd.prog 18 #[gAgg g] w (fun e w' => e = .returned (.bool (mayB g)) ∧ Below w.heap.size w w') := by
  obtain ⟨r, x, s⟩ := g
  show Calls Tryd.prog 18 #[.agg #[.int .u8 r, .int .i64 x, .int .i64 s]] w _
  by_cases h1 : r < 16
  · by_cases h2 : 0 ≤ x
    · by_cases h3 : x ≤ 1099511627776
      · by_cases h4 : 0 < s
        · by_cases h5 : s ≤ 1099511627776
          · have HM : Hid (mayB ⟨r, x, s⟩ = true) := Lib.hid (by simp [mayB]; omega)
            go_enter Tryd.func18, Tryd.ntmps18
            go_wp2
            go_ret
            rw [HM.out]
            exact ⟨rfl, (Below.refl _ _).alloc (Nat.le_refl _) _⟩
          · have HM : Hid (mayB ⟨r, x, s⟩ = false) := Lib.hid (by simp [mayB]; omega)
            go_enter Tryd.func18, Tryd.ntmps18
            go_wp2
            go_ret
            rw [HM.out]
            exact ⟨rfl, (Below.refl _ _).alloc (Nat.le_refl _) _⟩
        · have HM : Hid (mayB ⟨r, x, s⟩ = false) := Lib.hid (by simp [mayB]; omega)
          go_enter Tryd.func18, Tryd.ntmps18
          go_wp2
          go_ret
          rw [HM.out]
          exact ⟨rfl, (Below.refl _ _).alloc (Nat.le_refl _) _⟩
      · have HM : Hid (mayB ⟨r, x, s⟩ = false) := Lib.hid (by simp [mayB]; omega)
        go_enter Tryd.func18, Tryd.ntmps18
        go_wp2
        go_ret
        rw [HM.out]
        exact ⟨rfl, (Below.refl _ _).alloc (Nat.le_refl _) _⟩
    · have HM : Hid (mayB ⟨r, x, s⟩ = false) := Lib.hid (by simp [mayB]; omega)
      go_enter Tryd.func18, Tryd.ntmps18
      go_wp2
      go_ret
      rw [HM.out]
      exact ⟨rfl, (Below.refl _ _).alloc (Nat.le_refl _) _⟩
  · have HM : Hid (mayB ⟨r, x, s⟩ = false) := Lib.hid (by simp [mayB]; omega)
    go_enter Tryd.func18, Tryd.ntmps18
    go_wp2
    go_ret
    rw [HM.out]
    exact ⟨rfl, (Below.refl _ _).alloc (Nat.le_refl _) _⟩
theorem refmay_val (g : GrantZ) (q : Bool) (h : mayB g = q) (w : World) : Calls Tryd.prog 18 #[.agg #[.int .u8 g.r, .int .i64 g.x, .int .i64 g.s]] w (fun e w' => e = .returned (.bool q) ∧ Below w.heap.size w w') := by
  subst h
  exact refmay_any g w
set_option maxHeartbeats 1000000 in
theorem refline_any {w : World} {B m : Nat} {A : Option Addr} {l : List GrantZ} (c : Nat) (h : Grants w B A m l) (hB : B ≤ w.heap.size) (hm : m ≤ maxLen) : Calls Tryd.prog 16 #[.slice A m c] w (fun e w' => e = .returned (.bool (lineB l)) ∧ Below w.heap.size w w') := by
  unfold maxLen at hm
  have HL := Lib.hid h.len
  have HG := Lib.hid h
  have HB := Lib.hid hB
  clear h hB
  go_enter Tryd.func16, Tryd.ntmps16
  go_wp2
  go_loopw [3] (fun i wr => ∃ k : Nat, k ≤ m ∧ k ≤ 4 ∧ i = .int .i64 k ∧ Hid ((l.take k).all mayB = true) ∧ Hid (Below w.heap.size w wr)) (fun i _ => m - (intOf i).toNat)
  case atStart => exact ⟨0, by omega, by omega, rfl, by rfl, Below.refl _ _⟩
  case round =>
    obtain ⟨k, hk, hk4, rfl, HA, HW⟩ := hrel
    by_cases hlt : k < m
    · have hltI : (k : Int) < (m : Int) := by omega
      by_cases h4 : 3 < k
      · have h4I : 3 < (k : Int) := by omega
        have HT : Hid (lineB l = false) := Lib.hid (by simp [lineB, HL.out]; omega)
        go_wp2
        go_ret
        rw [HT.out]
        exact ⟨rfl, HW.out⟩
      · have h4I : ¬ 3 < (k : Int) := by omega
        obtain ⟨b, off, g, rfl, hb, HK, _, c0, c1, c2⟩ := (HG.out.belowM HW.out HB.out).at_ hlt
        have hbl : b < w.heap.size := by have := HB.out; omega
        obtain ⟨q, hq⟩ : ∃ q, mayB g = q := ⟨_, rfl⟩
        have HQ := Lib.hid hq
        clear hq
        cases q
        · have HT : Hid (lineB l = false) := Lib.hid (by simp [lineB, all_no HK.out HQ.out])
          go_wp2_with (go_at_call 18; refine (refmay_val g _ HQ.out _).mono ?_; rintro e w' ⟨rfl, hb2⟩)
          go_ret
          rw [HT.out]
          exact ⟨rfl, HW.out.trans (hb2.mono HW.out.size)⟩
        · have HT : Hid ((l.take (k + 1)).all mayB = true) := Lib.hid ((all_snoc HK.out HA.out).trans HQ.out)
          go_wp2_with (go_at_call 18; refine (refmay_val g _ HQ.out _).mono ?_; rintro e w' ⟨rfl, hb2⟩)
          go_roundw
          case rel => exact ⟨k + 1, by omega, by omega, by go_num, HT, HW.out.trans (hb2.mono HW.out.size)⟩
          case measure => simp [intOf]; omega
    · have hkm : k = m := by omega
      have HT : Hid (lineB l = decide (0 < m)) := Lib.hid (by
        have := HA.out
        rw [hkm, ← HL.out, List.take_length] at this
        have h4' : m ≤ 4 := by omega
        simp only [lineB, this, HL.out, Bool.and_true]
        rw [decide_eq_true h4', Bool.and_true]
        rfl)
      have HK := Lib.hid hkm
      clear hkm
      go_wp2
      go_ret
      rw [HT.out]
      refine ⟨?_, HW.out⟩
      congr 2
theorem refline_val {w : World} {B m : Nat} {A : Option Addr} {l : List GrantZ} (c : Nat) (q : Bool) (h : Grants w B A m l) (hB : B ≤ w.heap.size) (hm : m ≤ maxLen) (hq : lineB l = q) : Calls Tryd.prog 16 #[.slice A m c] w (fun e w' => e = .returned (.bool q) ∧ Below w.heap.size w w') := by
  subst hq
  exact refline_any c h hB hm
/-- What the document's answer says a line leaves: of no grants nothing. -/
def rfR : List GrantZ → Int
  | [] => 0
  | g :: l => l.foldl (fun a g => andZ a g.r) g.r
def rfX : List GrantZ → Int
  | [] => 0
  | g :: l => l.foldl (fun a g => min a g.x) g.x
theorem rfR_snoc (l : List GrantZ) (g : GrantZ) (h : 0 < l.length) : rfR (l ++ [g]) = andZ (rfR l) g.r := by
  cases l with
  | nil => simp at h
  | cons a l => simp [rfR, List.foldl_append]
theorem rfX_snoc (l : List GrantZ) (g : GrantZ) (h : 0 < l.length) : rfX (l ++ [g]) = min (rfX l) g.x := by
  cases l with
  | nil => simp at h
  | cons a l => simp [rfX, List.foldl_append]
theorem foldR_byte (l : List GrantZ) : ∀ a : Int, 0 ≤ a → a < 256 → 0 ≤ l.foldl (fun a g => andZ a g.r) a ∧ l.foldl (fun a g => andZ a g.r) a < 256 := by
  induction l with
  | nil => intro a h0 h1; exact ⟨h0, h1⟩
  | cons g l ih =>
    intro a h0 h1
    have := andZ_le a g.r h0
    exact ih (andZ a g.r) (by omega) (by omega)
theorem rfR_byte {l : List GrantZ} (h : ∀ g, g ∈ l → GOk g) : 0 ≤ rfR l ∧ rfR l < 256 := by
  cases l with
  | nil => simp [rfR]
  | cons g l => exact foldR_byte l g.r (h g (by simp)).r.1 (h g (by simp)).r.2
theorem may_r {g : GrantZ} (h : mayB g = true) : g.r ≤ 15 ∧ 0 ≤ g.x ∧ g.x ≤ 1099511627776 := by
  simp [mayB] at h
  omega
theorem and15 (a : Int) (h0 : 0 ≤ a) (h1 : a ≤ 15) : andZ 15 a = a := by
  have := (by decide +kernel : ∀ a : Fin 16, andZ 15 (a.val : Int) = (a.val : Int)) ⟨a.toNat, by omega⟩
  simp only [Int.toNat_of_nonneg h0] at this
  exact this
/-- Of a line both say the same. -/
theorem rf_line {l : List GrantZ} (hl : lineB l = true) (h : ∀ g, g ∈ l → GOk g) : rfR l = lvR l ∧ rfX l = lvX l := by
  cases l with
  | nil => simp [lineB] at hl
  | cons g l =>
    have hm : mayB g = true := by simp [lineB] at hl; exact hl.2.1
    have := may_r hm
    have h0 := (h g (by simp)).r.1
    have e1 := and15 g.r h0 this.1
    have e2 : min (1099511627776 : Int) g.x = g.x := by omega
    simp [rfR, rfX, lvR, lvX, e1, e2]
theorem take_pos {l : List GrantZ} {m k : Nat} (hl : l.length = m) (h0 : 0 < k) (hk : k < m) : 0 < (l.take k).length := by rw [List.length_take]; omega
set_option maxHeartbeats 1000000 in
theorem refleaves_any {w : World} {B m : Nat} {A : Option Addr} {l : List GrantZ} (c : Nat) (h : Grants w B A m l) (hB : B ≤ w.heap.size) (hm : m ≤ maxLen) : Calls Tryd.prog 19 #[.slice A m c] w (Quiet (.tuple #[.int .u8 (rfR l), .int .i64 (rfX l)]) w) := by
  unfold maxLen at hm
  by_cases h0 : m = 0
  · subst h0
    have hl := List.eq_nil_of_length_eq_zero h.len
    subst hl
    clear h
    have HT : Hid (rfR [] = 0 ∧ rfX [] = 0) := Lib.hid ⟨rfl, rfl⟩
    go_enter Tryd.func19, Tryd.ntmps19
    go_wp2
    go_ret2
    rw [HT.out.1, HT.out.2]
    exact ⟨rfl, 0, rfl⟩
  have h0' : 0 < m := by omega
  have hI : ((m : Int) == 0) = false := by simpa using h0
  obtain ⟨b, off, g, rfl, hb, HK, _, c0, c1, c2⟩ := h.at_ h0'
  rw [Nat.zero_mul, Nat.add_zero] at c0 c1 c2
  have HL := Lib.hid h.len
  have HG := Lib.hid h
  have HB := Lib.hid hB
  have H01 : Hid (rfR (l.take 1) = g.r ∧ rfX (l.take 1) = g.x) := Lib.hid (by
    have e := take_snocG l 0 g HK.out
    rw [e]; exact ⟨rfl, rfl⟩)
  have h0m : 0 < m := h0'
  clear h hB h0 h0'
  go_enter Tryd.func19, Tryd.ntmps19
  go_wp2
  go_quiet (fail)
  clear c0 c1 c2
  go_wp2
  go_loop [4, 5, 6] (fun r x i => ∃ k : Nat, 1 ≤ k ∧ k ≤ m ∧ i = .int .i64 k ∧ ∃ R X : Int, Hid (rfR (l.take k) = R) ∧ Hid (rfX (l.take k) = X) ∧ r = .int .u8 R ∧ x = .int .i64 X) (fun _ _ i => m - (intOf i).toNat)
  case atStart => exact ⟨1, by omega, by omega, rfl, _, _, H01.out.1, H01.out.2, rfl, rfl⟩
  case round =>
    obtain ⟨k, hk1, hk, rfl, R, X, HR, HX, rfl, rfl⟩ := hrel
    by_cases hlt : k < m
    · have hltI : (k : Int) < (m : Int) := by omega
      obtain ⟨b2, off2, g2, e2, hb2, HK2, hgo, c0, c1, c2⟩ := HG.out.at_ hlt
      obtain ⟨rfl, rfl⟩ : b = b2 ∧ off = off2 := by simpa using e2
      have hp := take_pos HL.out (show 0 < k by omega) hlt
      have HR2 : Hid (rfR (l.take (k + 1)) = bits .and .u8 R g2.r) := Lib.hid (by
        have := rfR_byte (l := l.take k) (fun g hg => HG.out.ok g (List.mem_of_mem_take hg))
        rw [HR.out] at this
        rw [take_snocG l k g2 HK2.out, rfR_snoc _ _ hp, HR.out, bits_and this.1 this.2 hgo.r.1 hgo.r.2])
      have HX2 : Hid (rfX (l.take (k + 1)) = min X g2.x) := Lib.hid (by rw [take_snocG l k g2 HK2.out, rfX_snoc _ _ hp, HX.out])
      clear hgo hp e2
      by_cases hx : g2.x < X
      · have HX3 : Hid (rfX (l.take (k + 1)) = g2.x) := Lib.hid (by rw [HX2.out]; omega)
        go_wp2
        go_round
        case rel => exact ⟨k + 1, by omega, by omega, by go_num, _, _, HR2, HX3, rfl, rfl⟩
        case measure => simp [intOf]; omega
      · have HX3 : Hid (rfX (l.take (k + 1)) = X) := Lib.hid (by rw [HX2.out]; omega)
        go_wp2
        go_round
        case rel => exact ⟨k + 1, by omega, by omega, by go_num, _, _, HR2, HX3, rfl, rfl⟩
        case measure => simp [intOf]; omega
    · have hkm : k = m := by omega
      have HT : Hid (R = rfR l ∧ X = rfX l) := Lib.hid (by
        rw [← HR.out, ← HX.out, hkm, ← HL.out, List.take_length]; exact ⟨rfl, rfl⟩)
      clear hkm
      go_wp2
      go_ret2
      rw [HT.out.1, HT.out.2]
      exact ⟨rfl, _, rfl⟩
end Go.Proofs.YtpnjojkjepblaaaDoor
