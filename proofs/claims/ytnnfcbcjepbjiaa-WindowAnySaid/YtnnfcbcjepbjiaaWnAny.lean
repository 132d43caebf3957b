/- The statement WindowAny: the walk. -/
import Derived.Test.YtnnfcbcjepbjiaaWnL
namespace Go.Proofs.Ytnnfcbcjepbjiaa
open Go.ChangeShapes Go.WideShapes Go.ChangeAt Go.RowKit
set_option linter.unusedVariables false
set_option linter.unusedSimpArgs false
open Plain Sha Wn
/-- Block g holds 64 flags. -/
structure ABox (w : World) (g : Nat) (F : List Bool) : Prop where
  len : F.length = 64
  c : ∀ j, j < 64 → w.cell? ⟨g, j, none⟩ = some (.bool (F.getD j false))
  f : ∀ j, j < 64 → w.frozen? ⟨g, j, none⟩ = false
theorem ABox.same {w w' : World} {g : Nat} {F : List Bool} (h : ABox w g F) (e : w'.heap[g]? = w.heap[g]?) : ABox w' g F :=
  ⟨h.len, fun j hj => (World.cell?_of_block (a := ⟨g, j, none⟩) e).trans (h.c j hj), fun j hj => (World.frozen?_of_block (a := ⟨g, j, none⟩) e).trans (h.f j hj)⟩
theorem ABox.lt {w : World} {g : Nat} {F : List Bool} (h : ABox w g F) : g < w.heap.size := World.block_lt_of_cell? _ _ (h.c 0 (by omega))
theorem ABox.apart {w w' : World} {p g : Nat} {F : List Bool} (h : ABox w g F) (hg : w.grownBy w' (some p)) (hne : g ≠ p) : ABox w' g F := h.same (hg.block g h.lt (fun e => hne (by injection e)))
theorem ABox.set {w : World} {g : Nat} {F : List Bool} (h : ABox w g F) (k : Nat) (q : Bool) (hk : k < 64) : ABox (w.setCell ⟨g, k, none⟩ (.bool q)) g (F.set k q) := by
  refine ⟨by rw [List.length_set]; exact h.len, fun j hj => ?_, fun j hj => by rw [World.frozen?_setCell]; exact h.f j hj⟩
  by_cases e : k = j
  · subst e
    rw [World.cell?_setCell_same _ _ _ (h.c k hk), List.getD_eq_getElem?_getD, List.getElem?_set_self (by rw [h.len]; exact hk)]; rfl
  · rw [World.cell?_setCell_other _ _ _ _ (fun e' => by injection e' with _ e2; exact e e2), h.c j hj, List.getD_eq_getElem?_getD, List.getD_eq_getElem?_getD, List.getElem?_set_ne e]
theorem abox_new (w : World) (y : TypeId) : ABox (w.alloc (.cells (bls noF).toArray y)) w.heap.size noF := by
  have e := heap_alloc_new w (.cells (bls noF).toArray y)
  refine ⟨by simp [noF], fun j hj => ?_, fun j hj => frozen_of_row _ _ _ _ _ e⟩
  rw [cell_of_row _ _ _ _ _ _ e, List.getElem?_toArray, bls_at _ j (by simpa [noF] using hj)]
/-- Which of the near numbers came. -/
structure Came (least : Int) (ahead : Int) (S : List Int) (F : List Bool) : Prop where
  len : F.length = 64
  near : ∀ x, x ∈ S → x ≤ least + 63
  flag : ∀ j, j < 64 → (F.getD j false = true ↔ least + (j : Int) ∈ S)
theorem came_first {least ahead : Int} (h : ahead < least) : Came least ahead [ahead] noF :=
  ⟨by simp [noF], fun x hx => by rw [List.mem_singleton] at hx; omega, fun j hj => by
    have : noF.getD j false = false := by simp only [noF, List.getD_eq_getElem?_getD, List.getElem?_replicate]; split <;> rfl
    rw [this]
    simp only [List.mem_singleton]
    constructor
    · intro h; cases h
    · intro h; omega⟩
theorem came_old {least ahead : Int} {S : List Int} {F : List Bool} {j : Nat} (h : Came least ahead S F) (hj : j < 64) (hS : least + (j : Int) ∈ S) : Came least ahead S (F.set j true) := by
  have e : F.set j true = F := by
    refine listB_ext (by simp) (fun i hi => ?_)
    by_cases he : j = i
    · subst he
      rw [List.getD_eq_getElem?_getD, List.getElem?_set_self (by rw [h.len]; exact hj), (h.flag j hj).2 hS]; rfl
    · rw [List.getD_eq_getElem?_getD, List.getElem?_set_ne he, ← List.getD_eq_getElem?_getD]
  rw [e]; exact h
theorem came_new {least ahead : Int} {S : List Int} {F : List Bool} {j : Nat} (h : Came least ahead S F) (hj : j < 64) : Came least ahead (S ++ [least + (j : Int)]) (F.set j true) :=
  ⟨by rw [List.length_set]; exact h.len, fun x hx => by
    rcases List.mem_append.1 hx with hx | hx
    · exact h.near x hx
    · rw [List.mem_singleton] at hx; omega, fun i hi => by
    by_cases he : j = i
    · subst he
      rw [List.getD_eq_getElem?_getD, List.getElem?_set_self (by rw [h.len]; exact hj)]
      simp
    · rw [List.getD_eq_getElem?_getD, List.getElem?_set_ne he, ← List.getD_eq_getElem?_getD, h.flag i hi]
      simp only [List.mem_append, List.mem_singleton]
      constructor
      · exact .inl
      · rintro (h' | h')
        · exact h'
        · omega⟩
theorem take_first {n : Int} (hn : 1 ≤ n) : takeZ (-1) [] 3 n = (0, 3, [n]) := take_more (by omega) hn (by omega)
set_option maxRecDepth 100000 in
set_option maxHeartbeats 4000000 in
theorem wnany_any (l : Int) (A : Option Addr) (n c : Nat) (zs : List Int) (m : Int) (w : World) (hl : -9223372036854775808 ≤ l ∧ l ≤ 9223372036854775807) (h : IsRow .i64 w A n c zs) (hm : -9223372036854775808 ≤ m ∧ m ≤ 9223372036854775807) :
    Calls Try.prog 7 #[.int .i64 l, .slice A n c, .int .i64 m] w (fun e w' => e = .returned (.bool true) ∧ Below w.heap.size w w') := by
  have HR := Lib.hid h.ir.1
  generalize zs.take n = za at HR
  have hnm : n ≤ 9223372036854775807 := by have := h.ir.2; unfold maxLen at this; exact this
  clear h
  by_cases hbig : 200 < n
  · have hI : 200 < (n : Int) := by omega
    go_enter Try.func7, Try.ntmps7
    go_wp2_with (go_at_call 17; refine (awake_any _).mono ?_; rintro e v0 ⟨rfl, hb⟩; have B0 := Lib.hid hb; clear hb)
    go_ret
    exact ⟨rfl, B0.out⟩
  have hI : ¬ 200 < (n : Int) := by omega
  by_cases hl1 : l < 1
  · skip
    go_enter Try.func7, Try.ntmps7
    go_wp2_with (go_at_call 17; refine (awake_any _).mono ?_; rintro e v0 ⟨rfl, hb⟩; have B0 := Lib.hid hb; clear hb)
    go_ret
    exact ⟨rfl, B0.out⟩
  by_cases hl2 : 1099511627776 < l
  · skip
    go_enter Try.func7, Try.ntmps7
    go_wp2_with (go_at_call 17; refine (awake_any _).mono ?_; rintro e v0 ⟨rfl, hb⟩; have B0 := Lib.hid hb; clear hb)
    go_ret
    exact ⟨rfl, B0.out⟩
  by_cases hm1 : m < 1
  · skip
    go_enter Try.func7, Try.ntmps7
    go_wp2_with (go_at_call 17; refine (awake_any _).mono ?_; rintro e v0 ⟨rfl, hb⟩; have B0 := Lib.hid hb; clear hb)
    go_ret
    exact ⟨rfl, B0.out⟩
  by_cases hm2 : l ≤ m
  · skip
    go_enter Try.func7, Try.ntmps7
    go_wp2_with (go_at_call 17; refine (awake_any _).mono ?_; rintro e v0 ⟨rfl, hb⟩; have B0 := Lib.hid hb; clear hb)
    go_ret
    exact ⟨rfl, B0.out⟩
  have HN : Hid True := Lib.hid trivial
  have G1 := HN
  have E0 := Lib.hid (take_first (n := m) (by omega))
  go_enter Try.func7, Try.ntmps7
  go_upto_region 7 with (first
      | (go_at_call 17; refine (awake_any _).mono ?_; rintro e v0 ⟨rfl, hb⟩; have B0 := Lib.hid hb; clear hb)
      | (go_at_call 9; refine (new_any _).mono ?_; rintro e v1 ⟨rfl, h1, hb, hs⟩; have H1 := Lib.hid (Win.mk h1 wIn_none); have B1 := Lib.hid (B0.out.trans (hb.mono B0.out.size)); have HS1 : v0.heap.size < v1.heap.size := (by omega); clear h1 hb hs)
      | (have g := G1; clear g; go_at_call 15; refine (take_val H1.out (by unfold InI; omega) (by unfold InI; omega) E0.out).mono ?_; rintro e v2 ⟨rfl, h, hg⟩; have H2 := Lib.hid h; have B2 := Lib.hid (B1.out.trans (gw_below hg (by have := B0.out.size; omega) B1.out.size)); clear hg h G1))
  have HA := Lib.hid (abox_new v2 38)
  have B3 := Lib.hid (show Below w.heap.size w (v2.alloc (.cells (bls noF).toArray 38)) from B2.out.alloc B2.out.size _)
  have hlt2 := H2.out.x.lt
  have H3 := Lib.hid (show Win (v2.alloc (.cells (bls noF).toArray 38)) v0.heap.size 3 [m] from H2.out.below ((Below.refl _ _).alloc (Nat.le_refl _) _) hlt2)
  go_wp2_with (fail)
  go_loopw [9] (fun i wr => ∃ k : Nat, k ≤ n ∧ i = .int .i64 k ∧ Hid (Below w.heap.size w wr) ∧ ∃ S F, Hid (Win wr v0.heap.size 3 S) ∧ Hid (ABox wr v2.heap.size F) ∧ Hid (Came l m S F)) (fun i _ => n - (intOf i).toNat)
  case atStart => exact ⟨0, by omega, rfl, B3, [m], noF, H3, HA, Lib.hid (came_first (by omega))⟩
  case round =>
    obtain ⟨k, hk, rfl, HB, S, F, HW, HF, HC⟩ := hrel
    by_cases hlt : k < n
    · have hltI : (k : Int) < (n : Int) := by omega
      obtain ⟨bb, off, z, rfl, hbb, HAT, hc⟩ := (HR.out.below HB.out (Nat.le_refl _)).step hlt
      by_cases hz1 : z < 0
      · go_wp2
        go_ret
        exact ⟨rfl, HB.out⟩
      by_cases hz2 : 63 < z
      · go_wp2
        go_ret
        exact ⟨rfl, HB.out⟩
      obtain ⟨j, rfl⟩ : ∃ j : Nat, z = (j : Int) := ⟨z.toNat, by omega⟩
      have hj : j < 64 := by omega
      have HTK := Lib.hid (take_near (S := S) (least := l) (n := l + (j : Int)) HC.out.near (by omega) (by omega))
      have G1 := HN
      by_cases hin : l + (j : Int) ∈ S
      · have E1 : Hid (takeZ 3 S 3 (l + (j : Int)) = (180, 3, S)) := Lib.hid (by rw [HTK.out, if_pos hin])
        have HFL : Hid (F.getD j false = true) := Lib.hid ((HC.out.flag j hj).2 hin)
        have HC2 := Lib.hid (came_old HC.out hj hin)
        clear hin
        go_wp2_with (have g := G1; clear g; go_at_call 15; refine (take_val HW.out (by unfold InI; omega) (by unfold InI; omega) E1.out).mono ?_; rintro e v3 ⟨rfl, h, hg⟩; have H4 := Lib.hid h; have B4 := Lib.hid (HB.out.trans (gw_below hg (by have := B0.out.size; omega) HB.out.size)); have F4 := Lib.hid (HF.out.apart hg (by omega)); have R4 := Lib.hid (HR.out.below B4.out (Nat.le_refl _)); have c4 : v3.cell? ⟨bb, off + k, none⟩ = some (.int .i64 (j : Int)) := ((gw_below hg (B := w.heap.size) (by have := B0.out.size; omega) HB.out.size).cell (p := ⟨bb, off + k, none⟩) hbb).trans hc; have d4 : v3.cell? ⟨v2.heap.size, j, none⟩ = some (.bool true) := (F4.out.c j hj).trans (by rw [HFL.out]); have f4 := F4.out.f j hj; clear hg h G1)
        refine ⟨⟨k + 1, by omega, by congr 1, Lib.hid (B4.out.setCell (p := ⟨v2.heap.size, j, none⟩) (by have := B2.out.size; exact this) _), S, F.set j true, Lib.hid ?_, Lib.hid (F4.out.set j true hj), HC2⟩, by simp only [intOf]; omega⟩
        exact ⟨H4.out.x.same (Below.heap_setCell v3 ⟨v2.heap.size, j, none⟩ _ _ (by show v0.heap.size ≠ v2.heap.size; omega)), H4.out.i⟩
      · have E1 : Hid (takeZ 3 S 3 (l + (j : Int)) = (0, 3, S ++ [l + (j : Int)])) := Lib.hid (by rw [HTK.out, if_neg hin])
        have HFL : Hid (F.getD j false = false) := Lib.hid (by
          cases hf : F.getD j false
          · rfl
          · exact absurd ((HC.out.flag j hj).1 hf) hin)
        have HC2 := Lib.hid (came_new HC.out hj)
        clear hin
        go_wp2_with (have g := G1; clear g; go_at_call 15; refine (take_val HW.out (by unfold InI; omega) (by unfold InI; omega) E1.out).mono ?_; rintro e v3 ⟨rfl, h, hg⟩; have H4 := Lib.hid h; have B4 := Lib.hid (HB.out.trans (gw_below hg (by have := B0.out.size; omega) HB.out.size)); have F4 := Lib.hid (HF.out.apart hg (by omega)); have R4 := Lib.hid (HR.out.below B4.out (Nat.le_refl _)); have c4 : v3.cell? ⟨bb, off + k, none⟩ = some (.int .i64 (j : Int)) := ((gw_below hg (B := w.heap.size) (by have := B0.out.size; omega) HB.out.size).cell (p := ⟨bb, off + k, none⟩) hbb).trans hc; have d4 : v3.cell? ⟨v2.heap.size, j, none⟩ = some (.bool false) := (F4.out.c j hj).trans (by rw [HFL.out]); have f4 := F4.out.f j hj; clear hg h G1)
        refine ⟨⟨k + 1, by omega, by congr 1, Lib.hid (B4.out.setCell (p := ⟨v2.heap.size, j, none⟩) (by have := B2.out.size; exact this) _), S ++ [l + (j : Int)], F.set j true, Lib.hid ?_, Lib.hid (F4.out.set j true hj), HC2⟩, by simp only [intOf]; omega⟩
        exact ⟨H4.out.x.same (Below.heap_setCell v3 ⟨v2.heap.size, j, none⟩ _ _ (by show v0.heap.size ≠ v2.heap.size; omega)), H4.out.i⟩
    · have hgeI : ¬ (k : Int) < (n : Int) := by omega
      go_wp2
      go_ret
      exact ⟨rfl, HB.out⟩
end Go.Proofs.Ytnnfcbcjepbjiaa
