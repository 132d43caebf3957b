/- Numbers as bytes: what the program's and the document's put return. -/
import Derived.Test.YtcihbkdpkhhhcaaCat
import Derived.Laws.ShiftsVarLaws
namespace Go.Proofs.Ytcihbkdpkhhhcaa
open Go.ChangeShapes Go.WideShapes Go.ChangeAt Go.RowKit
set_option linter.unusedVariables false
/-- The last s bytes of x, the greatest ahead. -/
def putZ (x : Int) (s : Nat) : List Int := (List.range s).map fun j => x / 256 ^ (s - 1 - j) % 256
theorem putZ_len (x : Int) (s : Nat) : (putZ x s).length = s := by simp [putZ]
theorem putZ_at (x : Int) (s j : Nat) (h : j < s) : (putZ x s).getD j 0 = x / 256 ^ (s - 1 - j) % 256 := by
  simp [putZ, List.getD_eq_getElem?_getD, h]
theorem putZ_bytes (x : Int) (s : Nat) : IsBytes (putZ x s) := by
  intro j hj
  rw [putZ_len] at hj
  rw [putZ_at x s j hj]
  omega
set_option maxRecDepth 100000 in
theorem put_any (x : Int) (s : Nat) (hx : 0 ≤ x) (hx1 : x < 18446744073709551616) (hs : s ≤ 8) (w : World) :
    Calls Try.prog 74 #[.int .u64 x, .int .i64 s] w (Made w (putZ x s)) := by
  have hmk := make_u8 s (by omega)
  rw [madeCells_vals] at hmk
  go_enter Try.func74, Try.ntmps74
  go_wp2
  clear hmk
  go_loopw [10] (fun i wr => ∃ k : Nat, k ≤ s ∧ i = .int .i64 k ∧ ∃ cs : List Int, Hid (cs.length = s) ∧ Hid (∀ j, s - k ≤ j → j < s → cs.getD j 0 = (putZ x s).getD j 0) ∧ wr = w.alloc (.cells (vals cs).toArray 5)) (fun i _ => s - (intOf i).toNat)
  case atStart => exact ⟨0, by omega, rfl, _, Lib.hid (List.length_replicate ..), Lib.hid (fun j hj hj2 => absurd hj (by omega)), rfl⟩
  case round =>
    obtain ⟨k, hk, rfl, cs, HC, HX, rfl⟩ := hrel
    by_cases hlt : k < s
    · obtain ⟨q, hq, hq2⟩ : ∃ q : Nat, (s : Int) - 1 - k = q ∧ q + k + 1 = s := ⟨s - 1 - k, by omega, by omega⟩
      obtain ⟨u3, hu3⟩ : ∃ u3, (vals cs)[q]? = some u3 := ⟨_, List.getElem?_eq_getElem (by rw [vals_len, HC.out]; omega)⟩
      have hq3 : q < s := by omega
      have HV := Lib.hid (vals_set cs q (x / 2 ^ (8 * k) % 256))
      have HZ : Hid (∀ j, s - (k + 1) ≤ j → j < s → (cs.set q (x / 2 ^ (8 * k) % 256)).getD j 0 = (putZ x s).getD j 0) := Lib.hid (fun j hj hj2 => by
        rw [getD_set _ _ _ _ (by rw [HC.out]; omega)]
        split
        · next h => subst h; rw [putZ_at _ _ _ hj2, show s - 1 - q = k from by omega, Int.pow_mul]; rfl
        · exact HX.out j (by omega) hj2)
      simp only [List.setIfInBounds_toArray] at HV
      clear hq2
      go_wp2
      go_roundw
      case rel => exact ⟨k + 1, by omega, by go_num, cs.set q (x / 2 ^ (8 * k) % 256), Lib.hid (by rw [List.length_set]; exact HC.out), HZ, by rw [← HV.out]⟩
      case measure => simp [intOf]; omega
    · have hks : k = s := by omega
      have HE : Hid (cs = putZ x s) := Lib.hid (list_ext_getD (by rw [putZ_len, HC.out]) (fun j hj => HX.out j (by omega) (by rw [HC.out] at hj; omega)))
      clear hks
      go_wp2
      go_ret
      refine made_of (n := s) (putZ_len ..) ?_ ((Below.refl _ _).alloc (Nat.le_refl _) _)
      rw [← HE.out]
      exact World.ownsRow_lit (base := w.heap.size) (e := 5) (size := 1) w (vals cs).toArray s (Nat.le_refl _) (by unfold maxLen; omega) (by simp [vals_len, HC.out])
theorem div_step (x : Int) (j : Nat) : x / 256 ^ j / 256 = x / 256 ^ (j + 1) := by
  rw [Int.ediv_ediv_of_nonneg (Int.le_of_lt (Int.pow_pos (by omega))), Int.pow_succ]
theorem div_range (x : Int) (j : Nat) (h0 : 0 ≤ x) (h1 : x < 18446744073709551616) : 0 ≤ x / 256 ^ j ∧ x / 256 ^ j < 18446744073709551616 := by
  have hp : (0 : Int) < 256 ^ j := Int.pow_pos (by omega)
  exact ⟨Int.ediv_nonneg h0 (by omega), Int.lt_of_le_of_lt (Int.ediv_le_self _ h0) h1⟩
set_option maxRecDepth 100000 in
theorem refput_any (x : Int) (s : Nat) (hx : 0 ≤ x) (hx1 : x < 18446744073709551616) (hs : s ≤ 8) (w : World) :
    Calls Try.prog 67 #[.int .u64 x, .int .i64 s] w (Made w (putZ x s)) := by
  obtain ⟨i0, hi0, hz0, hz1, hz2⟩ := info_parts u8_row
  have I0 := Lib.hid hi0
  have I1 := Lib.hid hz0
  have I2 := Lib.hid hz1
  have I3 := Lib.hid hz2
  clear hi0 hz0 hz1 hz2
  go_enter Try.func67, Try.ntmps67
  go_wp2
  go_loopw [5, 6] (fun v i wr => ∃ k : Nat, k ≤ s ∧ i = .int .i64 k ∧ wr.ownsRow w.heap.size 5 1 v k (vals ((putZ x s).take k)) ∧ Below w.heap.size w wr) (fun _ i _ => s - (intOf i).toNat)
  case atStart => exact ⟨0, by omega, rfl, World.ownsRow_nil _ _ _ _, Below.refl _ _⟩
  case round =>
    obtain ⟨k, hk, rfl, hown, hbel⟩ := hrel
    by_cases hlt : k < s
    · go_wp2
      go_loop [7, 8] (fun y i => ∃ j : Nat, k + j + 1 ≤ s ∧ i = .int .i64 (k + j : Nat) ∧ ∃ u : Int, 0 ≤ u ∧ u < 18446744073709551616 ∧ y = .int .u64 u ∧ Hid (x / 256 ^ j = u)) (fun _ i => s - (intOf i).toNat)
      case atStart => exact ⟨0, by omega, rfl, x, hx, hx1, rfl, Lib.hid (by simp)⟩
      case round =>
        obtain ⟨j, hj, rfl, u, hu0, hu1, rfl, HU⟩ := hrel
        by_cases hlt2 : k + j + 1 < s
        · go_wp2
          go_round
          case rel => exact ⟨j + 1, by omega, by go_num, u / 256, by omega, by omega, rfl, Lib.hid (by rw [← HU.out, div_step])⟩
          case measure => simp [intOf]; omega
        · have HT : Hid (vals ((putZ x s).take (k + 1)) = vals ((putZ x s).take k) ++ [.int .u8 (u % 256)]) := Lib.hid (by
            rw [take_snoc_getD _ _ (by rw [putZ_len]; exact hlt), vals_app, putZ_at x s k hlt, ← HU.out, show s - 1 - k = j from by omega]; rfl)
          have hkj : (s : Int) - 1 ≤ ((k + j : Nat) : Int) := by omega
          go_wp2_with (at_builtin; refine wpList_append_own _ rfl (.tmp 24) (.tmp 28) 26 rfl w.heap.size 5 i0 _ 1 1 Try.underlying26 I0.out I1.out I2.out I3.out rfl (by decide) u5 k (vals ((putZ x s).take k)) rfl (hown.alloc _) ⟨wr.heap.size, 0, none⟩ 1 1 [.int .u8 (u % 256)] rfl rfl (World.news_of_block (cs := #[.int .u8 (u % 256)]) (t := 5) (fr := (0, 0)) (heap_alloc_new wr _)) (by simp [Value.oneCell']) (by unfold maxLen; omega) (by omega) (by have := hbel.size; simp; omega) ?_; intro v2 w2 ho2 hg2 _)
          go_roundw
          case rel => exact ⟨k + 1, by omega, by go_num, by rw [HT.out]; exact ho2, (hbel.alloc hbel.size _).grown hg2 (by have := hbel.size; simp; omega) (fun q hq => (hown.lt q hq).1)⟩
          case measure => simp [intOf]; omega
    · have hks : k = s := by omega
      have HM : Made w (putZ x s) (.returned u5) wr := made_of (n := s) (putZ_len ..) (by rw [hks, List.take_of_length_le (by rw [putZ_len]; omega)] at hown; exact hown) hbel
      have HM' := Lib.hid HM
      clear HM hks
      go_wp2
      go_ret
      exact HM'.out
end Go.Proofs.Ytcihbkdpkhhhcaa
