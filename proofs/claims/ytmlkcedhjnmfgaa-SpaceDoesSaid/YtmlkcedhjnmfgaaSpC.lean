/- Whether that is a space: the program's May. -/
import Derived.Test.YtmlkcedhjnmfgaaSpB
import Derived.Deep.CutBlock
import Derived.Deep.DeepCutAuto
namespace Go.Proofs.Ytmlkcedhjnmfgaa
open Go.ChangeShapes Go.WideShapes Go.ChangeAt Go.RowKit
set_option linter.unusedVariables false
set_option linter.unusedSimpArgs false
open Plain Sp
/-- The pairs of a space that is handed in. -/
structure Spc (w : World) (A : Option Addr) (n c : Nat) (l : List PairZ) : Prop where
  prs : Prs w w.heap.size A n l
  nc : n ≤ c
  cm : c ≤ maxLen
  nk : n ≤ 1000
theorem Spc.below {w w' : World} {A : Option Addr} {n c : Nat} {l : List PairZ} (h : Spc w A n c l) (hb : Below w.heap.size w w') : Spc w' A n c l := ⟨h.prs.grow hb, h.nc, h.cm, h.nk⟩
theorem Spc.cnt {w : World} {A : Option Addr} {n c : Nat} {l : List PairZ} {a : ByteArray} (h : Spc w A n c l) (hr : riseP a l = true) : cnt l ≤ 1152921504606846976 := by
  have h1 := rise_len hr
  rw [h.prs.len] at h1
  have := h.nk
  omega
theorem Spc.nm {w : World} {A : Option Addr} {n c : Nat} {l : List PairZ} (h : Spc w A n c l) : n ≤ maxLen := Nat.le_trans h.nc h.cm
set_option maxRecDepth 100000 in
set_option maxHeartbeats 4000000 in
theorem may_any {w : World} {n : Nat} {A : Option Addr} {l : List PairZ} (K Y : Int) (c : Nat) (q : Bool) (h : Spc w A n c l) (hq : mayB ⟨K, Y, l⟩ = q) :
    Calls Try.prog 27 #[.agg #[.int .i64 K, .int .i64 Y, .slice A n c]] w (fun e w' => e = .returned (.bool q) ∧ Below w.heap.size w w') := by
  obtain ⟨W1, hW1⟩ : ∃ W, W = w.alloc (.cells #[.int .i64 K, .int .i64 Y, .slice A n c] 28) := ⟨_, rfl⟩
  have b1 := Lib.hid (show Below w.heap.size w W1 by rw [hW1]; exact below_one _ _)
  have X1 := Lib.hid (show SBox W1 w.heap.size K Y A n c by rw [hW1]; exact sbox_new _ _ _ _ _ _ _ _ rfl)
  have H1 := Lib.hid (h.below b1.out)
  have HC := Lib.hid (fun (V : World) (hV : Below W1.heap.size W1 V) => X1.out.grow hV)
  have HW1 := Lib.hid hW1
  clear hW1 h
  cases hl : limB K Y with
  | false =>
    have e : q = false := by rw [← hq]; simp [mayB, hl]
    subst e
    have LM := Lib.hid (lim_any K Y false hl)
    clear hq hl H1
    go_enter Try.func27, Try.ntmps27
    go_upto_region 1 with fail
    rw [← HW1.out]
    have h2 := (HC.out _ (Below.refl _ _)).1
    have h3 := (HC.out _ (Below.refl _ _)).2.1
    have h4 := (HC.out _ (Below.refl _ _)).2.2
    go_wp2_with (go_at_call 45; refine (LM.out _).mono ?_; rintro e w5 ⟨rfl, rfl⟩)
    go_ret
    exact ⟨rfl, b1.out⟩
  | true =>
  have LM := Lib.hid (lim_any K Y true hl)
  cases hr : riseP ⟨#[]⟩ l with
  | false =>
    have e : q = false := by rw [← hq]; simp [mayB, hr]
    subst e
    have RM := Lib.hid (rise_any c false H1.out.prs (Nat.le_refl _) H1.out.nm hr)
    clear hq hl hr H1
    go_enter Try.func27, Try.ntmps27
    go_upto_region 1 with fail
    rw [← HW1.out]
    have h2 := (HC.out _ (Below.refl _ _)).1
    have h3 := (HC.out _ (Below.refl _ _)).2.1
    have h4 := (HC.out _ (Below.refl _ _)).2.2
    go_wp2_with (first
      | (go_at_call 45; refine (LM.out _).mono ?_; rintro e w5 ⟨rfl, rfl⟩)
      | (go_at_call 46; refine RM.out.mono ?_; rintro e w5 ⟨rfl, b5⟩; have B5 := Lib.hid b5; clear b5))
    go_ret
    exact ⟨rfl, b1.out.trans (B5.out.mono b1.out.size)⟩
  | true =>
    have hf : fitB K Y l = q := by rw [← hq]; simp [mayB, hl, hr]
    have RM := Lib.hid (rise_any c true H1.out.prs (Nat.le_refl _) H1.out.nm hr)
    have FM := Lib.hid (fun (V : World) (hV : Below W1.heap.size W1 V) => fits_any (w := V) K Y c q (H1.out.below hV).prs (Nat.le_refl _) H1.out.nm hf (fun _ => H1.out.cnt hr))
    clear hq hl hr H1 hf
    go_enter Try.func27, Try.ntmps27
    go_upto_region 1 with fail
    rw [← HW1.out]
    have h2 := (HC.out _ (Below.refl _ _)).1
    have h3 := (HC.out _ (Below.refl _ _)).2.1
    have h4 := (HC.out _ (Below.refl _ _)).2.2
    go_wp2_with (first
      | (go_at_call 45; refine (LM.out _).mono ?_; rintro e w5 ⟨rfl, rfl⟩)
      | (go_at_call 46; refine RM.out.mono ?_; rintro e w5 ⟨rfl, b5⟩; have B5 := Lib.hid b5; have FV := Lib.hid (FM.out _ b5); have h5 := (HC.out _ b5).1; have h6 := (HC.out _ b5).2.1; have h7 := (HC.out _ b5).2.2; clear b5)
      | (go_at_call 47; refine FV.out.mono ?_; rintro e w6 ⟨rfl, b6⟩; have B6 := Lib.hid (B5.out.trans (b6.mono B5.out.size)); clear b6))
    go_ret
    exact ⟨rfl, b1.out.trans (B6.out.mono b1.out.size)⟩
end Go.Proofs.Ytmlkcedhjnmfgaa
