/- Note: what is refused. -/
import Derived.Test.YtlapdocikhjkcaaRpN
namespace Go.Proofs.Ytlapdocikhjkcaa
open Go.ChangeShapes Go.WideShapes Go.ChangeAt Go.RowKit
set_option linter.unusedVariables false
set_option linter.unusedSimpArgs false
open Plain Sha Au Rp
set_option maxRecDepth 100000 in
set_option maxHeartbeats 8000000 in
theorem note_bad1 {w : World} {B n : Nat} {A : Option Addr} {l : List LX} {r : RX} (c : Nat) (t id : Int) (h : Las w B A n l) (hB : B ≤ w.heap.size) (hr : ROk w B r) (hn : n ≤ 9223372036854775807) (hm : mayG LX.c LX.id l = false) :
    Calls Try.prog 20 #[.slice A n c, .int .i64 t, .int .i64 id, .agg (rc r).toArray] w (fun e w' => e = .returned (.tuple #[.slice none 0 0, .int .i64 2]) ∧ Below w.heap.size w w') := by
  obtain ⟨W1, hW1⟩ : ∃ W, W = ((w.alloc (.cells #[.slice A n c] 24)).alloc (.cells #[.int .i64 t] 3)).alloc (.cells (rc r).toArray 33) := ⟨_, rfl⟩
  have b1 := Lib.hid (show Below w.heap.size w W1 by rw [hW1]; exact (((Below.refl _ _).alloc (Nat.le_refl _) _).alloc (by simp) _).alloc (by simp; omega) _)
  have c1 : W1.cell? ⟨w.heap.size, 0, none⟩ = some (.slice A n c) := by
    rw [hW1, (below_one _ _).cell (by simp; omega), (below_one _ _).cell (by simp), cell_of_row _ _ _ _ _ _ (heap_alloc_new w _)]; rfl
  have c2 : W1.cell? ⟨w.heap.size + 1, 0, none⟩ = some (.int .i64 t) := by
    rw [hW1, (below_one _ _).cell (by simp), cell_of_row _ _ _ _ _ _ (by have := heap_alloc_new (w.alloc (.cells #[.slice A n c] 24)) (.cells #[.int .i64 t] 3); simpa using this)]; rfl
  have V1 := Lib.hid (show VBox W1 (w.heap.size + 1 + 1) 75 (rc r) by rw [hW1]; exact vbox_new _ _ _ _ _ (by simp) (rc_len _) (by omega))
  have z1 := Lib.hid (show W1.heap.size = w.heap.size + 1 + 1 + 1 by rw [hW1]; simp)
  have HW1 := Lib.hid hW1
  have HCC := Lib.hid (fun (V : World) (hV : Below W1.heap.size W1 V) => (⟨(hV.cell (p := ⟨w.heap.size, 0, none⟩) (by have := z1.out; show w.heap.size < W1.heap.size; omega)).trans c1, (hV.cell (p := ⟨w.heap.size + 1, 0, none⟩) (by have := z1.out; show w.heap.size + 1 < W1.heap.size; omega)).trans c2⟩ : V.cell? ⟨w.heap.size, 0, none⟩ = some (.slice A n c) ∧ V.cell? ⟨w.heap.size + 1, 0, none⟩ = some (.int .i64 t)))
  have HG := Lib.hid (fun (V : World) (hV : Below W1.heap.size W1 V) => (h.below b1.out hB).below hV (Nat.le_trans hB b1.out.size))
  have HBS := Lib.hid (Nat.le_trans hB b1.out.size)
  have HL := Lib.hid h.len
  have MM := Lib.hid (pmay_any (w := W1) c false (HG.out W1 (Below.refl _ _)) HBS.out hn hm)
  clear hW1 h hr
  go_enter Try.func20, Try.ntmps20
  go_upto_region 1 with fail
  rw [← HW1.out]
  go_wp2_with (go_at_call 15; refine MM.out.mono ?_; rintro e2 w2 ⟨rfl, b2⟩; have B2 := Lib.hid b2; obtain ⟨d1, d2⟩ := HCC.out w2 b2; clear b2)
  go_ret2
  exact ⟨rfl, b1.out.trans (B2.out.mono b1.out.size)⟩
set_option maxRecDepth 100000 in
set_option maxHeartbeats 8000000 in
theorem note_bad2 {w : World} {B n : Nat} {A : Option Addr} {l : List LX} {r : RX} (c : Nat) (t id : Int) (h : Las w B A n l) (hB : B ≤ w.heap.size) (hr : ROk w B r) (hn : n ≤ 9223372036854775807) (hm : mayG LX.c LX.id l = true) (hk : askB t id = false) :
    Calls Try.prog 20 #[.slice A n c, .int .i64 t, .int .i64 id, .agg (rc r).toArray] w (fun e w' => e = .returned (.tuple #[.slice none 0 0, .int .i64 2]) ∧ Below w.heap.size w w') := by
  obtain ⟨W1, hW1⟩ : ∃ W, W = ((w.alloc (.cells #[.slice A n c] 24)).alloc (.cells #[.int .i64 t] 3)).alloc (.cells (rc r).toArray 33) := ⟨_, rfl⟩
  have b1 := Lib.hid (show Below w.heap.size w W1 by rw [hW1]; exact (((Below.refl _ _).alloc (Nat.le_refl _) _).alloc (by simp) _).alloc (by simp; omega) _)
  have c1 : W1.cell? ⟨w.heap.size, 0, none⟩ = some (.slice A n c) := by
    rw [hW1, (below_one _ _).cell (by simp; omega), (below_one _ _).cell (by simp), cell_of_row _ _ _ _ _ _ (heap_alloc_new w _)]; rfl
  have c2 : W1.cell? ⟨w.heap.size + 1, 0, none⟩ = some (.int .i64 t) := by
    rw [hW1, (below_one _ _).cell (by simp), cell_of_row _ _ _ _ _ _ (by have := heap_alloc_new (w.alloc (.cells #[.slice A n c] 24)) (.cells #[.int .i64 t] 3); simpa using this)]; rfl
  have V1 := Lib.hid (show VBox W1 (w.heap.size + 1 + 1) 75 (rc r) by rw [hW1]; exact vbox_new _ _ _ _ _ (by simp) (rc_len _) (by omega))
  have z1 := Lib.hid (show W1.heap.size = w.heap.size + 1 + 1 + 1 by rw [hW1]; simp)
  have HW1 := Lib.hid hW1
  have HCC := Lib.hid (fun (V : World) (hV : Below W1.heap.size W1 V) => (⟨(hV.cell (p := ⟨w.heap.size, 0, none⟩) (by have := z1.out; show w.heap.size < W1.heap.size; omega)).trans c1, (hV.cell (p := ⟨w.heap.size + 1, 0, none⟩) (by have := z1.out; show w.heap.size + 1 < W1.heap.size; omega)).trans c2⟩ : V.cell? ⟨w.heap.size, 0, none⟩ = some (.slice A n c) ∧ V.cell? ⟨w.heap.size + 1, 0, none⟩ = some (.int .i64 t)))
  have HG := Lib.hid (fun (V : World) (hV : Below W1.heap.size W1 V) => (h.below b1.out hB).below hV (Nat.le_trans hB b1.out.size))
  have HBS := Lib.hid (Nat.le_trans hB b1.out.size)
  have HL := Lib.hid h.len
  have MM := Lib.hid (pmay_any (w := W1) c true (HG.out W1 (Below.refl _ _)) HBS.out hn hm)
  clear hW1 h hr
  go_enter Try.func20, Try.ntmps20
  go_upto_region 1 with fail
  rw [← HW1.out]
  go_wp2_with (first
        | (go_at_call 15; refine MM.out.mono ?_; rintro e2 w2 ⟨rfl, b2⟩; have B2 := Lib.hid b2; obtain ⟨d1, d2⟩ := HCC.out w2 b2; clear b2)
        | (go_at_call 24; refine (asked_any t id false hk _).mono ?_; intro e3 w3 q3; obtain ⟨rfl, b3⟩ := q3.belowQ; have B3 := Lib.hid (B2.out.trans (b3.mono B2.out.size)); obtain ⟨f1, f2⟩ := HCC.out w3 B3.out; clear b3 q3))
  go_ret2
  exact ⟨rfl, b1.out.trans (B3.out.mono b1.out.size)⟩
set_option maxRecDepth 100000 in
set_option maxHeartbeats 8000000 in
theorem note_stale {w : World} {B n : Nat} {A : Option Addr} {l : List LX} {r : RX} (c : Nat) (t id : Int) (x : LX) (h : Las w B A n l) (hB : B ≤ w.heap.size) (hr : ROk w B r) (hn : n ≤ 9223372036854775807) (hm : mayG LX.c LX.id l = true) (hk : askB t id = true) (hx : lastX l t = x) (hs : id ≤ x.id) :
    Calls Try.prog 20 #[.slice A n c, .int .i64 t, .int .i64 id, .agg (rc r).toArray] w (fun e w' => e = .returned (.tuple #[.slice none 0 0, .int .i64 140]) ∧ Below w.heap.size w w') := by
  obtain ⟨W1, hW1⟩ : ∃ W, W = ((w.alloc (.cells #[.slice A n c] 24)).alloc (.cells #[.int .i64 t] 3)).alloc (.cells (rc r).toArray 33) := ⟨_, rfl⟩
  have b1 := Lib.hid (show Below w.heap.size w W1 by rw [hW1]; exact (((Below.refl _ _).alloc (Nat.le_refl _) _).alloc (by simp) _).alloc (by simp; omega) _)
  have c1 : W1.cell? ⟨w.heap.size, 0, none⟩ = some (.slice A n c) := by
    rw [hW1, (below_one _ _).cell (by simp; omega), (below_one _ _).cell (by simp), cell_of_row _ _ _ _ _ _ (heap_alloc_new w _)]; rfl
  have c2 : W1.cell? ⟨w.heap.size + 1, 0, none⟩ = some (.int .i64 t) := by
    rw [hW1, (below_one _ _).cell (by simp), cell_of_row _ _ _ _ _ _ (by have := heap_alloc_new (w.alloc (.cells #[.slice A n c] 24)) (.cells #[.int .i64 t] 3); simpa using this)]; rfl
  have V1 := Lib.hid (show VBox W1 (w.heap.size + 1 + 1) 75 (rc r) by rw [hW1]; exact vbox_new _ _ _ _ _ (by simp) (rc_len _) (by omega))
  have z1 := Lib.hid (show W1.heap.size = w.heap.size + 1 + 1 + 1 by rw [hW1]; simp)
  have HW1 := Lib.hid hW1
  have HCC := Lib.hid (fun (V : World) (hV : Below W1.heap.size W1 V) => (⟨(hV.cell (p := ⟨w.heap.size, 0, none⟩) (by have := z1.out; show w.heap.size < W1.heap.size; omega)).trans c1, (hV.cell (p := ⟨w.heap.size + 1, 0, none⟩) (by have := z1.out; show w.heap.size + 1 < W1.heap.size; omega)).trans c2⟩ : V.cell? ⟨w.heap.size, 0, none⟩ = some (.slice A n c) ∧ V.cell? ⟨w.heap.size + 1, 0, none⟩ = some (.int .i64 t)))
  have HG := Lib.hid (fun (V : World) (hV : Below W1.heap.size W1 V) => (h.below b1.out hB).below hV (Nat.le_trans hB b1.out.size))
  have HBS := Lib.hid (Nat.le_trans hB b1.out.size)
  have HL := Lib.hid h.len
  have MM := Lib.hid (pmay_any (w := W1) c true (HG.out W1 (Below.refl _ _)) HBS.out hn hm)
  have OM := Lib.hid (fun (V : World) (hV : Below W1.heap.size W1 V) => of_any (w := V) c t x (HG.out V hV) (Nat.le_trans HBS.out hV.size) hn hx)
  clear hW1 h hr hx
  go_enter Try.func20, Try.ntmps20
  go_upto_region 1 with fail
  rw [← HW1.out]
  go_wp2_with (first
        | (go_at_call 15; refine MM.out.mono ?_; rintro e2 w2 ⟨rfl, b2⟩; have B2 := Lib.hid b2; obtain ⟨d1, d2⟩ := HCC.out w2 b2; clear b2)
        | (go_at_call 24; refine (asked_any t id true hk _).mono ?_; intro e3 w3 q3; obtain ⟨rfl, b3⟩ := q3.belowQ; have B3 := Lib.hid (B2.out.trans (b3.mono B2.out.size)); obtain ⟨f1, f2⟩ := HCC.out w3 B3.out; clear b3 q3)
        | (go_at_call 14; refine (OM.out w3 B3.out).mono ?_; rintro e4 w4 ⟨rfl, b4⟩; have B4 := Lib.hid (B3.out.trans (b4.mono B3.out.size)); obtain ⟨g1, g2⟩ := HCC.out w4 B4.out; clear b4))
  go_ret2
  exact ⟨rfl, b1.out.trans (B4.out.mono b1.out.size)⟩
end Go.Proofs.Ytlapdocikhjkcaa
