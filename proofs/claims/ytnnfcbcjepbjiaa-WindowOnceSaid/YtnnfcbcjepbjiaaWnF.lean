/- A window told; the chapter's examples. Printed by gen_wnf.py. -/
import Derived.Test.YtnnfcbcjepbjiaaWnE
namespace Go.Proofs.Ytnnfcbcjepbjiaa
open Go.ChangeShapes Go.WideShapes Go.ChangeAt Go.RowKit
set_option linter.unusedVariables false
set_option linter.unusedSimpArgs false
open Plain Sha Wn
/-- Block p holds the window in which the numbers S of boot b came. -/
structure Win (w : World) (p : Nat) (b : Int) (S : List Int) : Prop where
  x : WBox w p (win b S)
  i : WIn b S
theorem Win.apart {w w' : World} {p q : Nat} {b : Int} {S : List Int} (h : Win w q b S) (hg : w.grownBy w' (some p)) (hne : q ≠ p) : Win w' q b S := ⟨wbox_apart h.x hg hne, h.i⟩
theorem Win.below {w w' : World} {B p : Nat} {b : Int} {S : List Int} (h : Win w p b S) (hb : Below B w w') (hB : p < B) : Win w' p b S := ⟨h.x.below hb hB, h.i⟩
theorem Win.drew {w : World} {p : Nat} {b : Int} {S : List Int} (h : Win w p b S) : Win w.drew p b S := ⟨h.x.drew, h.i⟩
theorem take_val {w : World} {p : Nat} {b : Int} {S : List Int} (h : Win w p b S) {k n : Int} (hk' : InI k) (hn' : InI n) {er b' : Int} {S' : List Int} (e : takeZ b S k n = (er, b', S')) :
    Calls Try.prog 15 #[.pointer (some ⟨p, 0, none⟩), .int .i64 k, .int .i64 n] w (fun e w' => e = .returned (.int .i64 er) ∧ Win w' p b' S' ∧ w.grownBy w' (some p)) :=
  (take_any h.x h.i hk' hn').mono fun e' w' ⟨h1, h2, h3⟩ => by
    have hw := wIn_take h.i hk'.2 hn'.2
    rw [e] at h1 h2 hw
    exact ⟨h1, ⟨h2, hw⟩, h3⟩
theorem top_val {w : World} {p : Nat} {b : Int} {S : List Int} (h : Win w p b S) {t : Int} (e : topZ S = t) : Calls Try.prog 12 #[.pointer (some ⟨p, 0, none⟩)] w (fun e w' => e = .returned (.int .i64 t) ∧ w' = w) := by
  rw [← e]; exact top_any h.x
set_option maxRecDepth 100000 in
set_option maxHeartbeats 4000000 in
theorem awake_any (w : World) : Calls Try.prog 17 #[] w (fun e w' => e = .returned (.bool true) ∧ Below w.heap.size w w') := by
  have HN : Hid True := Lib.hid trivial
  have G0 := HN
  have G1 := HN
  have G2 := HN
  have G3 := HN
  have G4 := HN
  have G5 := HN
  have G6 := HN
  have GT := HN
  have G7 := HN
  have G8 := HN
  have GB := HN
  have G9 := HN
  have G10 := HN
  go_enter Try.func17, Try.ntmps17
  go_wp2_with (first
      | (have g := G0; clear g; go_at_call 9; refine (new_any _).mono ?_; rintro e w0 ⟨rfl, h0, hb, _⟩; have H0 := Lib.hid (Win.mk h0 wIn_none); have B0 := Lib.hid hb; clear h0 hb G0)
      | (have g := G1; clear g; go_at_call 15; refine (take_val H0.out (by unfold InI; decide) (by unfold InI; decide) (er := 0) (b' := 0) (S' := [1]) (by decide)).mono ?_; rintro e w1 ⟨rfl, h1, hg⟩; have H1 := Lib.hid h1; have B1 := Lib.hid (B0.out.trans (gw_below hg (Nat.le_refl _) B0.out.size)); clear hg h1 G1)
      | (have g := G2; clear g; go_at_call 15; refine (take_val H1.out (by unfold InI; decide) (by unfold InI; decide) (er := 180) (b' := 0) (S' := [1]) (by decide)).mono ?_; rintro e w2 ⟨rfl, h2, hg⟩; have H2 := Lib.hid h2; have B2 := Lib.hid (B1.out.trans (gw_below hg (Nat.le_refl _) B1.out.size)); clear hg h2 G2)
      | (have g := G3; clear g; go_at_call 15; refine (take_val H2.out (by unfold InI; decide) (by unfold InI; decide) (er := 0) (b' := 0) (S' := [1, 70]) (by decide)).mono ?_; rintro e w3 ⟨rfl, h3, hg⟩; have H3 := Lib.hid h3; have B3 := Lib.hid (B2.out.trans (gw_below hg (Nat.le_refl _) B2.out.size)); clear hg h3 G3)
      | (have g := G4; clear g; go_at_call 15; refine (take_val H3.out (by unfold InI; decide) (by unfold InI; decide) (er := 180) (b' := 0) (S' := [1, 70]) (by decide)).mono ?_; rintro e w4 ⟨rfl, h4, hg⟩; have H4 := Lib.hid h4; have B4 := Lib.hid (B3.out.trans (gw_below hg (Nat.le_refl _) B3.out.size)); clear hg h4 G4)
      | (have g := G5; clear g; go_at_call 15; refine (take_val H4.out (by unfold InI; decide) (by unfold InI; decide) (er := 0) (b' := 0) (S' := [1, 70, 7]) (by decide)).mono ?_; rintro e w5 ⟨rfl, h5, hg⟩; have H5 := Lib.hid h5; have B5 := Lib.hid (B4.out.trans (gw_below hg (Nat.le_refl _) B4.out.size)); clear hg h5 G5)
      | (have g := G6; clear g; go_at_call 15; refine (take_val H5.out (by unfold InI; decide) (by unfold InI; decide) (er := 180) (b' := 0) (S' := [1, 70, 7]) (by decide)).mono ?_; rintro e w6 ⟨rfl, h6, hg⟩; have H6 := Lib.hid h6; have B6 := Lib.hid (B5.out.trans (gw_below hg (Nat.le_refl _) B5.out.size)); clear hg h6 G6)
      | (have g := GT; clear g; go_at_call 12; refine (top_val H6.out (t := 70) (by decide)).mono ?_; rintro e wt ⟨rfl, et⟩; rw [et]; clear et wt GT)
      | (have g := G7; clear g; go_at_call 15; refine (take_val H6.out (by unfold InI; decide) (by unfold InI; decide) (er := 0) (b' := 1) (S' := [1]) (by decide)).mono ?_; rintro e w7 ⟨rfl, h7, hg⟩; have H7 := Lib.hid h7; have B7 := Lib.hid (B6.out.trans (gw_below hg (Nat.le_refl _) B6.out.size)); clear hg h7 G7)
      | (have g := G8; clear g; go_at_call 15; refine (take_val H7.out (by unfold InI; decide) (by unfold InI; decide) (er := 180) (b' := 1) (S' := [1]) (by decide)).mono ?_; rintro e w8 ⟨rfl, h8, hg⟩; have H8 := Lib.hid h8; have B8 := Lib.hid (B7.out.trans (gw_below hg (Nat.le_refl _) B7.out.size)); clear hg h8 G8)
      | (have g := GB; clear g; go_at_call 11; refine (boot_any H8.out.x).mono ?_; rintro e wb ⟨rfl, eb⟩; rw [eb]; clear eb wb GB)
      | (have g := G9; clear g; go_at_call 15; refine (take_val H8.out (by unfold InI; decide) (by unfold InI; decide) (er := 2) (b' := 1) (S' := [1]) (by decide)).mono ?_; rintro e w9 ⟨rfl, h9, hg⟩; have H9 := Lib.hid h9; have B9 := Lib.hid (B8.out.trans (gw_below hg (Nat.le_refl _) B8.out.size)); clear hg h9 G9)
      | (have g := G10; clear g; go_at_call 15; refine (take_val H9.out (by unfold InI; decide) (by unfold InI; decide) (er := 2) (b' := 1) (S' := [1]) (by decide)).mono ?_; rintro e w10 ⟨rfl, h10, hg⟩; have H10 := Lib.hid h10; have B10 := Lib.hid (B9.out.trans (gw_below hg (Nat.le_refl _) B9.out.size)); clear hg h10 G10))
  go_ret
  exact ⟨rfl, B10.out⟩
end Go.Proofs.Ytnnfcbcjepbjiaa
