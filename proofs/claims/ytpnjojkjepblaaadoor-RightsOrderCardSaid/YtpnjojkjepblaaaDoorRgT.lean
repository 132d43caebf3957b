/- Rights among others; their texts. -/
import Derived.Test.YtpnjojkjepblaaaDoorRgZ
import Derived.Laws.Strings
namespace Go.Proofs.YtpnjojkjepblaaaDoor
open Go.ChangeShapes Go.WideShapes Go.ChangeAt Go.RowKit
set_option linter.unusedVariables false
open Plain
theorem has_any (r n : Int) (w : World) : Calls Tryd.prog 21 #[.int .u8 r, .int .u8 n] w (fun e w' => e = .returned (.bool (hasB r n)) ∧ w = w') := by
  go_enter Tryd.func21, Tryd.ntmps21
  go_wp2
  go_ret
  exact ⟨rfl, rfl⟩
theorem has_val (r n : Int) (q : Bool) (h : hasB r n = q) (w : World) : Calls Tryd.prog 21 #[.int .u8 r, .int .u8 n] w (fun e w' => e = .returned (.bool q) ∧ w = w') := by
  subst h
  exact has_any r n w
/-- The string of a row of bytes. -/
theorem run_rgstr {w : World} {B n : Nat} {A : Option Addr} (c : Nat) {zs : List Int} (h : Bs w B A n zs) : (convert 45 9 (.slice A n c)).run Tryd.prog w = .ok (.string (strOfNums zs)) w := by
  cases A with
  | none =>
    have hn : n = 0 := h.lies.2 rfl
    subst hn
    have hz : zs = [] := List.eq_nil_of_length_eq_zero h.len
    subst hz
    exact run_convert_bytes_nil w _ 5 Tryd.underlying45 Tryd.underlying5 _ _ _ Tryd.underlying9
  | some a =>
    rcases Nat.eq_zero_or_pos n with h0 | h0
    · subst h0
      have hz : zs = [] := List.eq_nil_of_length_eq_zero h.len
      subst hz
      rw [run_convert_bytes_string w _ _ 5 _ _ _ Tryd.underlying45 Tryd.underlying5 Tryd.underlying9, run_bytesToString w a 0 c [] (by simp [loadCells, loadCellsFrom])]
      rfl
    · obtain ⟨b, off, e, _, hc⟩ := h.row h0
      rw [e]
      exact run_convert_bytes_arg w _ 5 Tryd.underlying45 Tryd.underlying5 b off n c zs h.len hc _ Tryd.underlying9
theorem ltr_bytes (r : Int) (k : Nat) : IsBytes (ltr r k) := by
  induction k with
  | zero => exact IsBytes.nil
  | succ k ih =>
    simp only [ltr]
    refine ih.app ?_
    split
    · rw [isBytes_iff]
      intro z hz
      obtain rfl := List.mem_singleton.1 hz
      unfold letterZ
      match k with
      | 0 | 1 | 2 | 3 => decide
      | k + 4 => simp
    · exact IsBytes.nil
/-- A row of one byte that has just been made. -/
theorem one_lies (w : World) (z : Int) (t : TypeId) : Lies (w.alloc (.cells #[.int .u8 z] t)) 1 (some ⟨w.heap.size, 0, none⟩) 1 (vals [z]) := by
  refine ⟨rfl, fun ad hA j u hu => ?_⟩
  injection hA with hA; subst hA
  rw [Go.WideShapes.add_plain, cell_of_row _ _ _ _ _ _ (heap_alloc_new w _)]
  simpa [vals] using hu
/-- The letters as they are laid. -/
def LaidL (w : World) : Prop := ∀ j, j < 4 → w.cell? ⟨0, j, none⟩ = some (.int .u8 (letterZ j))
theorem LaidL.lt {w : World} (h : LaidL w) : 0 < w.heap.size := World.block_lt_of_cell? _ _ (h 0 (by omega))
theorem LaidL.below {w w' : World} {B : Nat} (h : LaidL w) (hb : Below B w w') (hB : 0 < B) : LaidL w' := fun j hj => (hb.cell (p := ⟨0, j, none⟩) hB).trans (h j hj)
theorem LaidL.grown {w w' : World} (h : LaidL w) (hb : Below w.heap.size w w') : LaidL w' := h.below hb h.lt
set_option maxHeartbeats 1000000 in
theorem text_any (r : Int) (w : World) (hL : LaidL w) (h0 : 0 ≤ r) (h1 : r < 256) : Calls Tryd.prog 11 #[.int .u8 r] w (fun e w' => e = .returned (.string (textB r)) ∧ Below w.heap.size w w') := by
  by_cases hbig : 15 < r
  · have HT : Hid (textB r = ⟨#[63]⟩) := Lib.hid (by unfold textB textZ; rw [if_pos hbig]; rfl)
    go_enter Tryd.func11, Tryd.ntmps11
    go_wp2
    go_ret
    rw [HT.out]
    exact ⟨rfl, Below.refl _ _⟩
  by_cases hz : r = 0
  · subst hz
    have HT : Hid (textB 0 = ⟨#[45]⟩) := Lib.hid (by rfl)
    go_enter Tryd.func11, Tryd.ntmps11
    go_wp2
    go_ret
    rw [HT.out]
    exact ⟨rfl, Below.refl _ _⟩
  have HT : Hid (textB r = strOfNums (ltr r 4)) := Lib.hid (by unfold textB textZ; rw [if_neg hbig, if_neg hz])
  have ho0 := World.ownsRow_nil w w.heap.size 5 1
  go_enter Tryd.func11, Tryd.ntmps11
  go_wp2
  go_loopw [3, 9] (fun v i wr => ∃ k : Nat, k ≤ 4 ∧ i = .int .i64 k ∧ wr.ownsRow w.heap.size 5 1 v (ltr r k).length (vals (ltr r k)) ∧ Below w.heap.size w wr) (fun _ i _ => 4 - (intOf i).toNat)
  case atStart => exact ⟨0, by omega, rfl, ho0, Below.refl _ _⟩
  case round =>
    obtain ⟨k, hk, rfl, hown, hbel⟩ := hrel
    by_cases hlt : k < 4
    · obtain ⟨q, hq⟩ : ∃ q, hasB r (2 ^ k) = q := ⟨_, rfl⟩
      obtain ⟨k', hk'⟩ : ∃ k', k' = k + 1 := ⟨_, rfl⟩
      have HK := Lib.hid hk'
      have hle := ltr_len r k
      have hc := (hL.grown hbel) k hlt
      cases q
      · have HN : Hid (ltr r k' = ltr r k) := Lib.hid (by simp [hk', ltr, hq])
        have HQ := Lib.hid hq
        clear hq hc hk'
        obtain rfl | rfl | rfl | rfl : k = 0 ∨ k = 1 ∨ k = 2 ∨ k = 3 := by omega
        all_goals
          go_wp2_with (go_at_call 21; refine (has_val _ _ _ HQ.out _).mono ?_; rintro e w' ⟨rfl, rfl⟩)
          go_roundw
          case rel => exact ⟨k', by have := HK.out; omega, by rw [HK.out]; rfl, by rw [HN.out]; exact hown, hbel⟩
          case measure => simp [intOf]
      · have HN : Hid (ltr r k' = ltr r k ++ [letterZ k]) := Lib.hid (by simp [hk', ltr, hq])
        have HQ := Lib.hid hq
        clear hq hk'
        have HO := Lib.hid hown
        have HB := Lib.hid hbel
        generalize hm : (ltr r k).length = m at *
        have HM := Lib.hid hm
        clear hm
        obtain rfl | rfl | rfl | rfl : k = 0 ∨ k = 1 ∨ k = 2 ∨ k = 3 := by omega
        all_goals
          go_wp2_with (first
            | (go_at_call 21; refine (has_val _ _ _ HQ.out _).mono ?_; rintro e w' ⟨rfl, rfl⟩)
            | (at_builtin; refine wpList_app _ rfl (.tmp 16) (.tmp 20) 45 rfl w.heap.size 5 1 1 Tryd.underlying45 u8_info (by omega) _ m _ rfl (HO.out.alloc _) _ 1 _ _ rfl (one_lies _ _ _) (fun h => by cases h) (vals_one _) (by unfold maxLen; omega) (by omega) (by have := HB.out.size; simp; omega) ?_; intro v2 w2 ho2 hg2))
          go_roundw
          case rel => exact ⟨k', by have := HK.out; omega, by rw [HK.out]; rfl, by rw [HN.out, List.length_append, vals_app, HM.out]; exact ho2, (HB.out.alloc HB.out.size _).grown hg2 (by have := HB.out.size; simp; omega) (fun q hq => (HO.out.lt q hq).1)⟩
          case measure => simp [intOf]
    · have hk4 : k = 4 := by omega
      subst hk4
      obtain ⟨A, c, rfl, _, _⟩ := own_shape hown
      have hs := run_rgstr c (bs_of_own hown (ltr_bytes r 4))
      have HB := Lib.hid hbel
      clear hown hbel ho0
      generalize (ltr r 4).length = n at *
      generalize ltr r 4 = l at *
      generalize hS : strOfNums l = S at *
      have HSS := Lib.hid hS
      clear hS
      go_wp2
      go_ret
      rw [HT.out]
      exact ⟨rfl, HB.out⟩
theorem seq_yes {x y : ByteArray} (h : x = y) : (x.toList == y.toList) = true := by subst h; simp
theorem seq_no {x y : ByteArray} (h : x ≠ y) : (x.toList == y.toList) = false := by
  rw [beq_eq_false_iff_ne, ByteArray.toList_eq, ByteArray.toList_eq]
  exact fun e => h (ByteArray.ext (Array.toList_inj.mp e))
theorem seq_of (x y : ByteArray) (h : x.toList = y.toList) : x = y := by
  rw [ByteArray.toList_eq, ByteArray.toList_eq] at h
  exact ByteArray.ext (Array.toList_inj.mp h)
/-- Of any string: the rights whose text it is. -/
theorem parse_any (s : ByteArray) (w : World) (hL : LaidL w) : Calls Tryd.prog 10 #[.string s] w (fun e w' => e = .returned (.tuple #[.int .u8 (pR s 16), .bool (pOk s 16)]) ∧ Below w.heap.size w w') := by
  have HL := Lib.hid hL
  clear hL
  go_enter Tryd.func10, Tryd.ntmps10
  go_wp2
  go_loopw [5] (fun i wr => ∃ k : Nat, k ≤ 16 ∧ i = .int .u8 k ∧ Hid (pOk s k = false) ∧ Below w.heap.size w wr) (fun i _ => 16 - (intOf i).toNat)
  case atStart => exact ⟨0, by omega, rfl, rfl, Below.refl _ _⟩
  case round =>
    obtain ⟨k, hk, rfl, HP, hbel⟩ := hrel
    by_cases hlt : k < 16
    · have hlt' : (k : Int) < 16 := by omega
      by_cases hs : textB k = s
      · have HR : Hid (pR s 16 = k ∧ pOk s 16 = true) := Lib.hid (p_stay s k hs 16 hlt (by omega))
        have hq := seq_yes hs
        clear hs
        go_wp2_with (go_at_call 11; refine (text_any k _ (HL.out.grown hbel) (by omega) (by omega)).mono ?_; rintro e w' ⟨rfl, hb2⟩)
        go_ret2
        rw [HR.out.1, HR.out.2]
        exact ⟨rfl, hbel.trans (hb2.mono hbel.size)⟩
      · have HR : Hid (pOk s (k + 1) = false) := Lib.hid (by simp only [pOk, if_neg hs]; exact HP.out)
        have hq := seq_no hs
        clear hs
        go_wp2_with (go_at_call 11; refine (text_any k _ (HL.out.grown hbel) (by omega) (by omega)).mono ?_; rintro e w' ⟨rfl, hb2⟩)
        go_roundw
        case rel => exact ⟨k + 1, by omega, by go_num, HR, hbel.trans (hb2.mono hbel.size)⟩
        case measure => simp [intOf]; omega
    · have hk4 : k = 16 := by omega
      subst hk4
      have HR := Lib.hid (p_none s 16 HP.out)
      go_wp2
      go_ret2
      rw [HR.out, HP.out]
      exact ⟨rfl, hbel⟩
end Go.Proofs.YtpnjojkjepblaaaDoor
