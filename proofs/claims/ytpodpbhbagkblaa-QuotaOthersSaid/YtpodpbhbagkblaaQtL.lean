/- The chapter's examples. -/
import Derived.Test.YtpodpbhbagkblaaQtK
namespace Go.Proofs.Ytpodpbhbagkblaa
open Go.ChangeShapes Go.WideShapes Go.ChangeAt Go.RowKit
set_option linter.unusedVariables false
set_option linter.unusedSimpArgs false
open Plain Qt
theorem GivesQ.row {w w' : World} {r : List ShZ × Int} {e : Ending} {l : List ShZ} {N : Nat} {k : Int} (h : GivesQ w r e w') (h1 : r = (l, k)) (hN : l.length = N) (hok : ∀ g, g ∈ l → SOk g) :
    ∃ D d, e = .returned (.tuple #[.slice D N d, .int .i64 k]) ∧ Shs w' w'.heap.size D N l ∧ Below w.heap.size w w' := by
  subst h1 hN
  obtain ⟨N, D, d, rfl, ho, hb⟩ := h
  have hl : l.length = N := by
    have h0 : (svs l).length = N * 3 := ho.1
    rw [svs_len] at h0; omega
  subst hl
  exact ⟨D, d, rfl, shs_of_own ho hok, hb⟩
theorem GivesQ.err {w w' : World} {r : List ShZ × Int} {e : Ending} {k : Int} (h : GivesQ w r e w') (h1 : r.2 = k) :
    ∃ N D d, e = .returned (.tuple #[.slice D N d, .int .i64 k]) ∧ Below w.heap.size w w' := by
  subst h1
  obtain ⟨N, D, d, rfl, _, hb⟩ := h
  exact ⟨N, D, d, rfl, hb⟩
def lA : List ShZ := [⟨1, 40, 100⟩]
def lB : List ShZ := [⟨1, 40, 100⟩, ⟨2, 24, 0⟩]
theorem lA_ok : ∀ g, g ∈ lA → SOk g := by
  intro g hg
  obtain rfl := List.mem_singleton.1 hg
  exact ⟨by decide, by decide, by decide⟩
theorem lB_ok : ∀ g, g ∈ lB → SOk g := by
  intro g hg
  rcases List.mem_cons.1 hg with rfl | hg
  · exact ⟨by decide, by decide, by decide⟩
  · obtain rfl := List.mem_singleton.1 hg
    exact ⟨by decide, by decide, by decide⟩
set_option maxRecDepth 100000 in
set_option maxHeartbeats 4000000 in
theorem qtawake_any {w : World} : Calls Try.prog 14 #[] w (fun e w' => e = .returned (.bool true) ∧ Below w.heap.size w w') := by
  go_enter Try.func14, Try.ntmps14
  go_wp2_with fail
  refine (reserve_any (l := []) 1 40 100 (lA, 0) Shs.nil (Nat.zero_le _) (by decide) (by decide)).mono ?_
  intro e w1 hg
  obtain ⟨D1, d1, rfl, h1, b1⟩ := hg.row (N := 1) rfl rfl lA_ok
  have H1 := Lib.hid h1
  have B1 := Lib.hid b1
  clear hg h1 b1
  go_wp2_with fail
  refine (reserve_any 2 30 0 ([], 120) H1.out (Nat.le_refl _) (by decide) (by decide)).mono ?_
  intro e w2 hg
  obtain ⟨N2, D2, d2, rfl, hb⟩ := hg.err rfl
  have B2 := Lib.hid (B1.out.trans (hb.mono B1.out.size))
  have H1 := Lib.hid (H1.out.grow hb)
  clear hg hb
  go_wp2_with fail
  refine (reserve_any 2 24 0 (lB, 0) H1.out (Nat.le_refl _) (by decide) (by decide)).mono ?_
  intro e w3 hg
  obtain ⟨D3, d3, rfl, h3, hb⟩ := hg.row (N := 2) rfl rfl lB_ok
  have B3 := Lib.hid (B2.out.trans (hb.mono B2.out.size))
  have H1 := Lib.hid (H1.out.grow hb)
  have H3 := Lib.hid h3
  clear hg hb
  go_wp2_with fail
  refine (left_anyQ _ 0 3996 H3.out (Nat.le_refl _) (by decide) (by decide)).mono ?_
  rintro e w4 ⟨rfl, hb⟩
  have B4 := Lib.hid (B3.out.trans (hb.mono B3.out.size))
  have H1 := Lib.hid (H1.out.grow hb)
  clear hb H3
  go_wp2_with fail
  refine (reserve_any 1 1 1 ([], 161) H1.out (Nat.le_refl _) (by decide) (by decide)).mono ?_
  intro e w5 hg
  obtain ⟨N5, D5, d5, rfl, hb⟩ := hg.err rfl
  have B5 := Lib.hid (B4.out.trans (hb.mono B4.out.size))
  have H1 := Lib.hid (H1.out.grow hb)
  clear hg hb
  go_wp2_with fail
  refine (reserve_any 9 0 0 ([], 2) H1.out (Nat.le_refl _) (by decide) (by decide)).mono ?_
  intro e w6 hg
  obtain ⟨N6, D6, d6, rfl, hb⟩ := hg.err rfl
  have B6 := Lib.hid (B5.out.trans (hb.mono B5.out.size))
  have H1 := Lib.hid (H1.out.grow hb)
  clear hg hb
  go_wp2_with fail
  refine (resize_any 1 10 4096 ([⟨1, 10, 4096⟩], 0) H1.out (Nat.le_refl _) (by decide) (by decide)).mono ?_
  intro e w7 hg
  obtain ⟨N7, D7, d7, rfl, hb⟩ := hg.err rfl
  have B7 := Lib.hid (B6.out.trans (hb.mono B6.out.size))
  have H1 := Lib.hid (H1.out.grow hb)
  clear hg hb
  go_wp2_with fail
  refine (resize_any 3 1 1 ([], 160) H1.out (Nat.le_refl _) (by decide) (by decide)).mono ?_
  intro e w8 hg
  obtain ⟨N8, D8, d8, rfl, hb⟩ := hg.err rfl
  have B8 := Lib.hid (B7.out.trans (hb.mono B7.out.size))
  have H1 := Lib.hid (H1.out.grow hb)
  clear hg hb
  go_wp2
  go_ret
  exact ⟨rfl, B8.out⟩
end Go.Proofs.Ytpodpbhbagkblaa
