/- The chapter's examples. -/
import Derived.Test.YtpnjojkjepblaaaDoorRgW
namespace Go.Proofs.YtpnjojkjepblaaaDoor
open Go.ChangeShapes Go.WideShapes Go.ChangeAt Go.RowKit
set_option linter.unusedVariables false
open Plain
/-- A row of grants that has just been made. -/
theorem grants_new (w : World) (l : List GrantZ) (t : TypeId) (g : Nat) (hg : w.heap.size = g) (hok : ∀ g, g ∈ l → GOk g) : Grants (w.alloc (.cells (gv l).toArray t)) (g + 1) (some ⟨g, 0, none⟩) l.length l := by
  subst hg
  refine ⟨rfl, fun hn => ⟨w.heap.size, 0, rfl, by omega, fun i u hu => ?_⟩, hok⟩
  rw [cell_of_row _ _ _ _ _ _ (heap_alloc_new w _), Nat.zero_add, List.getElem?_toArray, hu]
theorem text_val (r : Int) (s : ByteArray) (w : World) (hL : LaidL w) (h0 : 0 ≤ r) (h1 : r < 256) (hs : textB r = s) : Calls Tryd.prog 11 #[.int .u8 r] w (fun e w' => e = .returned (.string s) ∧ Below w.heap.size w w') := by
  subst hs
  exact text_any r w hL h0 h1
theorem parse_val (s : ByteArray) (R : Int) (q : Bool) (w : World) (hL : LaidL w) (hR : pR s 16 = R) (hq : pOk s 16 = q) : Calls Tryd.prog 10 #[.string s] w (fun e w' => e = .returned (.tuple #[.int .u8 R, .bool q]) ∧ Below w.heap.size w w') := by
  subst hR hq
  exact parse_any s w hL
def exG : List GrantZ := [⟨7, 50, 1⟩, ⟨5, 90, 2⟩]
def exH : List GrantZ := [⟨16, 1, 1⟩]
theorem exG_ok : ∀ g, g ∈ exG → GOk g := by
  intro g hg
  simp only [exG, List.mem_cons, List.not_mem_nil, or_false] at hg
  rcases hg with rfl | rfl <;> exact ⟨by decide, by decide, by decide⟩
theorem exH_ok : ∀ g, g ∈ exH → GOk g := by
  intro g hg
  simp only [exH, List.mem_cons, List.not_mem_nil, or_false] at hg
  subst hg; exact ⟨by decide, by decide, by decide⟩
set_option maxRecDepth 100000 in
set_option maxHeartbeats 1000000 in
theorem awake_any (w : World) (hL : LaidL w) : Calls Tryd.prog 12 #[] w (fun e w' => e = .returned (.bool true) ∧ Below w.heap.size w w') := by
  have HL := Lib.hid hL
  clear hL
  have HG := Lib.hid (grants_new w exG 35 w.heap.size rfl exG_ok)
  go_enter Tryd.func12, Tryd.ntmps12
  go_wp2_with fail
  refine (leaves_val _ 5 50 0 HG.out (by simp) (by simp [exG, maxLen]) (by decide +kernel) (by decide +kernel) (by decide +kernel)).mono ?_
  rintro e w1 ⟨rfl, hb1⟩
  have H1 : Hid (Below w.heap.size w w1) := Lib.hid (((Below.refl _ _).alloc (Nat.le_refl _) _).trans (hb1.mono (by simp)))
  clear hb1 HG
  go_wp2_with fail
  refine (leaves_val 0 0 0 2 (Grants.nil (B := 0)) (by omega) (by simp [maxLen]) (by decide +kernel) (by decide +kernel) (by decide +kernel)).mono ?_
  rintro e w2 ⟨rfl, hb2⟩
  have H2 : Hid (Below w.heap.size w w2) := Lib.hid (H1.out.trans (hb2.mono H1.out.size))
  clear hb2 H1
  have HG := Lib.hid (grants_new w2 exH 35 w2.heap.size rfl exH_ok)
  go_wp2_with fail
  refine (leaves_val _ 0 0 2 HG.out (by simp) (by simp [exH, maxLen]) (by decide +kernel) (by decide +kernel) (by decide +kernel)).mono ?_
  rintro e w3 ⟨rfl, hb3⟩
  have H3 : Hid (Below w.heap.size w w3) := Lib.hid (H2.out.trans ((((Below.refl _ _).alloc (Nat.le_refl _) _).trans (hb3.mono (by simp))).mono H2.out.size))
  clear hb3 H2 HG
  go_wp2_with fail
  refine (parse_val ⟨#[114, 108]⟩ 5 true _ (HL.out.grown H3.out) (by decide +kernel) (by decide +kernel)).mono ?_
  rintro e w4 ⟨rfl, hb4⟩
  have H4 : Hid (Below w.heap.size w w4) := Lib.hid (H3.out.trans (hb4.mono H3.out.size))
  clear hb4 H3
  go_wp2_with fail
  refine (parse_val ⟨#[108, 114]⟩ 0 false _ (HL.out.grown H4.out) (by decide +kernel) (by decide +kernel)).mono ?_
  rintro e w5 ⟨rfl, hb5⟩
  have H5 : Hid (Below w.heap.size w w5) := Lib.hid (H4.out.trans (hb5.mono H4.out.size))
  clear hb5 H4
  go_wp2_with fail
  refine (text_val 0 ⟨#[45]⟩ _ (HL.out.grown H5.out) (by omega) (by omega) (by decide +kernel)).mono ?_
  rintro e w6 ⟨rfl, hb6⟩
  have H6 : Hid (Below w.heap.size w w6) := Lib.hid (H5.out.trans (hb6.mono H5.out.size))
  clear hb6 H5
  go_wp2_with fail
  refine (text_val 15 ⟨#[114, 119, 108, 97]⟩ _ (HL.out.grown H6.out) (by omega) (by omega) (by decide +kernel)).mono ?_
  rintro e w7 ⟨rfl, hb7⟩
  have H7 : Hid (Below w.heap.size w w7) := Lib.hid (H6.out.trans (hb7.mono H6.out.size))
  clear hb7 H6
  go_wp2_with fail
  refine (text_val 16 ⟨#[63]⟩ _ (HL.out.grown H7.out) (by omega) (by omega) (by decide +kernel)).mono ?_
  rintro e w8 ⟨rfl, hb8⟩
  have H8 : Hid (Below w.heap.size w w8) := Lib.hid (H7.out.trans (hb8.mono H7.out.size))
  clear hb8 H7
  go_wp2
  go_ret
  exact ⟨rfl, H8.out⟩
end Go.Proofs.YtpnjojkjepblaaaDoor
