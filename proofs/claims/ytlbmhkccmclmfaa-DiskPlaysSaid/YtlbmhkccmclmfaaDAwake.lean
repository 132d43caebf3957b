/- The chapter's examples of a disk. -/
import Derived.Test.YtlbmhkccmclmfaaDAt
import Derived.Deep.Cut
namespace Go.Proofs.Ytlbmhkccmclmfaa
open Go.ChangeShapes Go.WideShapes Go.ChangeAt Go.RowKit
set_option linter.unusedVariables false
theorem lit_bytes {l : List Int} (h : (l.all fun z => decide (0 ≤ z ∧ z < 256)) = true) : IsBytes l := isBytes_iff.2 fun z hz => by
  have := List.all_eq_true.1 h z hz
  simpa using this
set_option maxRecDepth 100000 in
set_option maxHeartbeats 2000000 in
theorem dawake_any (w : World) : Calls Try.prog 21 #[] w (fun e w' => e = .returned (.bool true) ∧ Below w.heap.size w w') := by
  go_enter Try.func21, Try.ntmps21
  go_wp2_with fail
  refine (at_new w).mono ?_
  rintro e w1 ⟨rfl, h⟩
  have H1 := Lib.hid h
  clear h
  go_wp2_with fail
  refine (at_write 2 (x := 0) (s' := ⟨true, [], [[1, 2]]⟩) (H1.out.alloc _) rfl (bs_new _ [1, 2] 2 rfl (lit_bytes rfl) 5 _ rfl) (by simp) (by omega) ⟨by decide, by decide⟩).mono ?_
  rintro e w2 ⟨rfl, h⟩
  have H2 := Lib.hid h
  clear h
  go_wp2_with fail
  refine (at_sync (x := 0) (s' := ⟨true, [1, 2], []⟩) H2.out rfl ⟨by decide, by decide⟩).mono ?_
  rintro e w3 ⟨rfl, h⟩
  have H3 := Lib.hid h
  clear h
  go_wp2_with fail
  refine (at_write 1 (x := 0) (s' := ⟨true, [1, 2], [[3]]⟩) (H3.out.alloc _) rfl (bs_new _ [3] 1 rfl (lit_bytes rfl) 5 _ rfl) (by simp) (by omega) ⟨by decide, by decide⟩).mono ?_
  rintro e w4 ⟨rfl, h⟩
  have H4 := Lib.hid h
  clear h
  go_wp2_with fail
  refine (at_write 3 (x := 0) (s' := ⟨true, [1, 2], [[3], [4, 5, 6]]⟩) (H4.out.alloc _) rfl (bs_new _ [4, 5, 6] 3 rfl (lit_bytes rfl) 5 _ rfl) (by simp) (by omega) ⟨by decide, by decide⟩).mono ?_
  rintro e w5 ⟨rfl, h⟩
  have H5 := Lib.hid h
  clear h
  go_wp2_with fail
  refine (at_crash 1 9 (x := 0) (s' := ⟨false, [1, 2, 3, 4, 5], []⟩) H5.out rfl ⟨by decide, by decide⟩ (by omega) (by omega)).mono ?_
  rintro e w6 ⟨rfl, h⟩
  have H6 := Lib.hid h
  clear h
  go_wp2_with fail
  refine (at_bytes H6.out ⟨by decide, by decide⟩).mono ?_
  rintro e w7 ⟨A, c, rfl, hz, ho, hc, hm, hb, h⟩
  have Z7 := Lib.hid hz
  clear hz ho hb
  have H7 := Lib.hid h
  clear h
  go_wp2_with fail
  refine (same_any c 5 (Z7.out.alloc (Nat.le_refl _) _) (bs_new _ [1, 2, 3, 4, 5] 5 rfl (lit_bytes rfl) 5 _ rfl) (by simp [allZ, maxLen]) (by simp [maxLen])).mono ?_
  rintro e v7 ⟨rfl, hq⟩
  have HQ7 := Lib.hid ((H7.out.alloc (.cells (vals [1, 2, 3, 4, 5]).toArray 5)).quiet hq)
  clear hq
  rw [show eqB (allZ _) [1, 2, 3, 4, 5] = true from rfl]
  clear hc hm
  go_wp2_with fail
  refine (at_write 1 (x := 60) (s' := ⟨false, [1, 2, 3, 4, 5], []⟩) (HQ7.out.alloc _) rfl (bs_new _ [7] 1 rfl (lit_bytes rfl) 5 _ rfl) (by simp) (by omega) ⟨by decide, by decide⟩).mono ?_
  rintro e w8 ⟨rfl, h⟩
  have H8 := Lib.hid h
  clear h
  go_wp2_with fail
  refine (at_start (x := 0) (s' := ⟨true, [1, 2, 3, 4, 5], []⟩) H8.out rfl ).mono ?_
  rintro e w9 ⟨rfl, h⟩
  have H9 := Lib.hid h
  clear h
  go_wp2_with fail
  refine (at_start (x := 2) (s' := ⟨true, [1, 2, 3, 4, 5], []⟩) H9.out rfl ).mono ?_
  rintro e w10 ⟨rfl, h⟩
  have H10 := Lib.hid h
  clear h
  go_wp2_with fail
  refine (at_synced H10.out).mono ?_
  rintro e w' ⟨rfl, rfl⟩
  go_wp2_with fail
  refine (at_writes H10.out).mono ?_
  rintro e w' ⟨rfl, rfl⟩
  go_wp2_with fail
  refine (at_write 1 (x := 0) (s' := ⟨true, [1, 2, 3, 4, 5], [[7]]⟩) (H10.out.alloc _) rfl (bs_new _ [7] 1 rfl (lit_bytes rfl) 5 _ rfl) (by simp) (by omega) ⟨by decide, by decide⟩).mono ?_
  rintro e w11 ⟨rfl, h⟩
  have H11 := Lib.hid h
  clear h
  go_wp2_with fail
  refine (at_writes H11.out).mono ?_
  rintro e w' ⟨rfl, rfl⟩
  go_wp2_with fail
  refine (at_cut 2 (x := 0) (s' := ⟨true, [1, 2], []⟩) H11.out rfl ⟨by decide, by decide⟩).mono ?_
  rintro e w12 ⟨rfl, h⟩
  have H12 := Lib.hid h
  clear h
  go_wp2_with fail
  refine (at_bytes H12.out ⟨by decide, by decide⟩).mono ?_
  rintro e w13 ⟨A, c, rfl, hz, ho, hc, hm, hb, h⟩
  have Z13 := Lib.hid hz
  clear hz ho hb
  have H13 := Lib.hid h
  clear h
  go_wp2_with fail
  refine (same_any c 2 (Z13.out.alloc (Nat.le_refl _) _) (bs_new _ [1, 2] 2 rfl (lit_bytes rfl) 5 _ rfl) (by simp [allZ, maxLen]) (by simp [maxLen])).mono ?_
  rintro e v13 ⟨rfl, hq⟩
  have HQ13 := Lib.hid ((H13.out.alloc (.cells (vals [1, 2]).toArray 5)).quiet hq)
  clear hq
  rw [show eqB (allZ _) [1, 2] = true from rfl]
  clear hc hm
  go_wp2_with fail
  refine (at_cut 3 (x := 2) (s' := ⟨true, [1, 2], []⟩) HQ13.out rfl ⟨by decide, by decide⟩).mono ?_
  rintro e w14 ⟨rfl, h⟩
  have H14 := Lib.hid h
  clear h
  go_wp2
  go_ret
  exact ⟨rfl, H14.out.bel⟩
end Go.Proofs.Ytlbmhkccmclmfaa
