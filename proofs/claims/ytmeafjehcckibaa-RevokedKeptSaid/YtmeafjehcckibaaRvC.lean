/- Whether one of a line's serials is in a list: the program's Any, by a closure; the document's. -/
import Derived.Test.YtmeafjehcckibaaRvB
import Derived.Deep.CutBlock
import Derived.Deep.DeepCutAuto
namespace Go.Proofs.Ytmeafjehcckibaa
open Go.ChangeShapes Go.WideShapes Go.ChangeAt Go.RowKit
set_option linter.unusedVariables false
set_option linter.unusedSimpArgs false
open Plain
def anyL (l : List Int) (m : List GrantZ) : Bool := m.any fun g => hasL l g.s
theorem any_cons (l : List Int) (g : GrantZ) (m : List GrantZ) : anyL l (g :: m) = (hasL l g.s || anyL l m) := by simp [anyL]
theorem drop_atG {l : List GrantZ} {k : Nat} {g : GrantZ} (h : l[k]? = some g) : l.drop k = g :: l.drop (k + 1) := by
  obtain ⟨hk, rfl⟩ := List.getElem?_eq_some_iff.1 h
  exact List.drop_eq_getElem_cons hk
theorem any_step {zs : List Int} {l : List GrantZ} {k : Nat} {g : GrantZ} {q : Bool} (h : l[k]? = some g) (hq : anyL zs (l.drop k) = q) : (hasL zs g.s = true → q = true) ∧ (hasL zs g.s = false → anyL zs (l.drop (k + 1)) = q) := by
  rw [drop_atG h, any_cons] at hq
  constructor
  · intro e; rw [← hq, e]; rfl
  · intro e; rw [← hq, e]; rfl
theorem any_end {zs : List Int} {l : List GrantZ} {k : Nat} {q : Bool} (hk : l.length ≤ k) (hq : anyL zs (l.drop k) = q) : q = false := by
  rw [← hq, List.drop_eq_nil_of_le hk]; rfl
set_option maxRecDepth 100000 in
/-- The closure, called. -/
theorem clos_any {w : World} {B n b : Nat} {A : Option Addr} (c : Nat) {zs : List Int} (g : GrantZ) (q : Bool) (h : Ir w B A n zs) (hB : B ≤ w.heap.size) (hn : n ≤ maxLen) (hc : w.cell? ⟨b, 0, none⟩ = some (.slice A n c)) (hq : hasL zs g.s = q) :
    Calls Try.prog 25 #[.agg #[.int .u8 g.r, .int .i64 g.x, .int .i64 g.s], .pointer (some ⟨b, 0, none⟩)] w (fun e w' => e = .returned (.bool q) ∧ Below w.heap.size w w') := by
  have hb : b < w.heap.size := World.block_lt_of_cell? _ _ hc
  have bb : Below w.heap.size w (w.alloc (.cells #[.int .u8 g.r, .int .i64 g.x, .int .i64 g.s] 41)) := (Below.refl _ _).alloc (Nat.le_refl _) _
  have HC := Lib.hid (has_any10 c g.s q (h.below bb hB) hn hq)
  have HB := Lib.hid bb
  clear h hn hq bb
  go_enter Try.func25, Try.ntmps25
  go_wp2_with (go_at_call 15; refine HC.out.mono ?_; rintro e w' ⟨rfl, rfl⟩)
  go_ret
  exact ⟨rfl, HB.out⟩
set_option maxRecDepth 100000 in
set_option maxHeartbeats 1000000 in
theorem indexf_any {w : World} {B B2 n m b : Nat} {A A2 : Option Addr} (c c2 : Nat) {zs : List Int} {l : List GrantZ} (q : Bool) (h : Ir w B A n zs) (hB : B ≤ w.heap.size) (hn : n ≤ maxLen) (hc : w.cell? ⟨b, 0, none⟩ = some (.slice A n c)) (h2 : Grants w B2 A2 m l) (hB2 : B2 ≤ w.heap.size) (hm : m ≤ maxLen) (hq : anyL zs l = q) :
    Calls Try.prog 28 #[.slice A2 m c2, .func (.func 25) #[] #[.pointer (some ⟨b, 0, none⟩)]] w (fun e w' => ∃ i : Int, e = .returned (.int .i64 i) ∧ decide (0 ≤ i) = q ∧ Below w.heap.size w w') := by
  have L := Lib.hid h2.len
  have HZ := Lib.hid h
  have HG := Lib.hid h2
  have HQ := Lib.hid hq
  have HN := Lib.hid hn
  have HC := Lib.hid hc
  have HM := Lib.hid hm
  have hb : b < w.heap.size := World.block_lt_of_cell? _ _ hc
  unfold maxLen at hm
  clear h h2 hq hn hc
  go_enter Try.func28, Try.ntmps28
  go_wp2
  go_loopw [8] (fun i wr => ∃ k : Nat, k ≤ m ∧ i = .int .i64 k ∧ Hid (Below w.heap.size w wr) ∧ Hid (anyL zs (l.drop k) = q)) (fun i _ => m - (intOf i).toNat)
  case atStart => exact ⟨0, by omega, rfl, Lib.hid (Below.refl _ _), Lib.hid HQ.out⟩
  case round =>
    obtain ⟨k, hk, rfl, HW, HY⟩ := hrel
    by_cases hlt : k < m
    · have hltI : (k : Int) < (m : Int) := by omega
      obtain ⟨bg, off, g, rfl, hbg, HK, _, c0, c1, c2'⟩ := (HG.out.belowM HW.out hB2).at_ hlt
      have HD := Lib.hid (any_step HK.out HY.out)
      obtain ⟨s, hs⟩ : ∃ s, hasL zs g.s = s := ⟨_, rfl⟩
      have hsz := HW.out.size
      have HCL := Lib.hid (clos_any (b := b) c g s (HZ.out.below (HW.out.mono hB) (Nat.le_refl _)) (Nat.le_trans hB hsz) HN.out ((HW.out.cell (p := ⟨b, 0, none⟩) hb).trans HC.out) hs)
      have HS := Lib.hid hs
      clear hs
      cases s
      · have HD2 := Lib.hid (HD.out.2 HS.out)
        go_wp2_with (refine HCL.out.mono ?_; rintro e w5 ⟨rfl, hb5⟩; have HW5 := Lib.hid (HW.out.trans (hb5.mono HW.out.size)); clear hb5)
        go_roundw
        case rel => exact ⟨k + 1, by omega, by go_num, HW5, HD2⟩
        case measure => simp [intOf]; omega
      · have e : q = true := HD.out.1 HS.out
        subst e
        go_wp2_with (refine HCL.out.mono ?_; rintro e w5 ⟨rfl, hb5⟩; have HW5 := Lib.hid (HW.out.trans (hb5.mono HW.out.size)); clear hb5)
        go_ret
        exact ⟨_, rfl, by simp, HW5.out⟩
    · have e : q = false := any_end (by rw [L.out]; omega) HY.out
      subst e
      go_wp2
      go_ret
      exact ⟨_, rfl, by decide, HW.out⟩
theorem containsf_any {w : World} {B B2 n m b : Nat} {A A2 : Option Addr} (c c2 : Nat) {zs : List Int} {l : List GrantZ} (q : Bool) (h : Ir w B A n zs) (hB : B ≤ w.heap.size) (hn : n ≤ maxLen) (hc : w.cell? ⟨b, 0, none⟩ = some (.slice A n c)) (h2 : Grants w B2 A2 m l) (hB2 : B2 ≤ w.heap.size) (hm : m ≤ maxLen) (hq : anyL zs l = q) :
    Calls Try.prog 24 #[.slice A2 m c2, .func (.func 25) #[] #[.pointer (some ⟨b, 0, none⟩)]] w (fun e w' => e = .returned (.bool q) ∧ Below w.heap.size w w') := by
  have HC := Lib.hid (indexf_any c c2 q h hB hn hc h2 hB2 hm hq)
  clear h hn hq hc h2 hm hB hB2
  go_enter Try.func24, Try.ntmps24
  go_wp2_with (go_at_call 28; refine HC.out.mono ?_; rintro e w' ⟨i, rfl, hi, hb⟩; have HI := Lib.hid hi; have HB := Lib.hid hb; clear hi hb)
  go_ret
  exact ⟨by rw [HI.out]; rfl, HB.out⟩
theorem any_any {w : World} {B B2 n m : Nat} {A A2 : Option Addr} (c c2 : Nat) {zs : List Int} {l : List GrantZ} (q : Bool) (h : Ir w B A n zs) (hB : B ≤ w.heap.size) (hn : n ≤ maxLen) (h2 : Grants w B2 A2 m l) (hB2 : B2 ≤ w.heap.size) (hm : m ≤ maxLen) (hq : anyL zs l = q) :
    Calls Try.prog 17 #[.slice A n c, .slice A2 m c2] w (fun e w' => e = .returned (.bool q) ∧ Below w.heap.size w w') := by
  obtain ⟨W1, hW1⟩ : ∃ W, W = w.alloc (.cells #[.slice A n c] 22) := ⟨_, rfl⟩
  have b1 : Below w.heap.size w W1 := by rw [hW1]; exact (Below.refl _ _).alloc (Nat.le_refl _) _
  have s1 : w.heap.size + 1 = W1.heap.size := by rw [hW1]; simp
  have k1 : W1.cell? ⟨w.heap.size, 0, none⟩ = some (.slice A n c) := by rw [hW1, cell_of_row _ _ _ _ _ _ (heap_alloc_new w _)]; rfl
  have HC := Lib.hid (containsf_any (b := w.heap.size) c c2 q (h.below (b1.mono hB) (Nat.le_refl _)) (by omega) hn k1 (h2.below (b1.mono hB2)) (by omega) hm hq)
  have HB := Lib.hid b1
  have HW := Lib.hid hW1
  have HS := Lib.hid s1
  clear h hn hq h2 hm hB hB2 b1 s1 k1 hW1
  go_enter Try.func17, Try.ntmps17
  go_upto_region 1 with fail
  rw [← HW.out]
  go_wp2_with (go_at_call 24; refine HC.out.mono ?_; rintro e w' ⟨rfl, hb⟩; have HB2 := Lib.hid hb; clear hb)
  go_ret
  exact ⟨rfl, HB.out.trans (HB2.out.mono HB.out.size)⟩
set_option maxRecDepth 100000 in
set_option maxHeartbeats 1000000 in
theorem refany_any {w : World} {B B2 n m : Nat} {A A2 : Option Addr} (c c2 : Nat) {zs : List Int} {l : List GrantZ} (q : Bool) (h : Ir w B A n zs) (hn : n ≤ maxLen) (h2 : Grants w B2 A2 m l) (hm : m ≤ maxLen) (hq : anyL zs l = q) :
    Calls Try.prog 18 #[.slice A n c, .slice A2 m c2] w (fun e w' => e = .returned (.bool q) ∧ w' = w) := by
  have L := Lib.hid h2.len
  have HZ := Lib.hid h
  have HG := Lib.hid h2
  have HQ := Lib.hid hq
  have HN := Lib.hid hn
  unfold maxLen at hm
  clear h h2 hq hn
  go_enter Try.func18, Try.ntmps18
  go_wp2
  go_loopw [5] (fun i wr => ∃ k : Nat, k ≤ m ∧ i = .int .i64 k ∧ wr = w ∧ Hid (anyL zs (l.drop k) = q)) (fun i _ => m - (intOf i).toNat)
  case atStart => exact ⟨0, by omega, rfl, rfl, Lib.hid HQ.out⟩
  case round =>
    obtain ⟨k, hk, rfl, rfl, HY⟩ := hrel
    by_cases hlt : k < m
    · have hltI : (k : Int) < (m : Int) := by omega
      obtain ⟨bg, off, g, rfl, hbg, HK, _, c0, c1, c2'⟩ := HG.out.at_ hlt
      have HD := Lib.hid (any_step HK.out HY.out)
      obtain ⟨s, hs⟩ : ∃ s, hasL zs g.s = s := ⟨_, rfl⟩
      have HCL := Lib.hid (refhas_any c g.s s HZ.out HN.out hs)
      have HS := Lib.hid hs
      clear hs
      cases s
      · have HD2 := Lib.hid (HD.out.2 HS.out)
        go_wp2_with (go_at_call 16; refine HCL.out.mono ?_; rintro e w5 ⟨rfl, rfl⟩)
        go_roundw
        case rel => exact ⟨k + 1, by omega, by go_num, by trivial, HD2⟩
        case measure => simp [intOf]; omega
      · have e : q = true := HD.out.1 HS.out
        subst e
        go_wp2_with (go_at_call 16; refine HCL.out.mono ?_; rintro e w5 ⟨rfl, rfl⟩)
        go_ret
        exact ⟨rfl, rfl⟩
    · have e : q = false := any_end (by rw [L.out]; omega) HY.out
      subst e
      go_wp2
      go_ret
      exact ⟨rfl, rfl⟩
end Go.Proofs.Ytmeafjehcckibaa
