/- The document's own way from a tag to bytes. -/
import Derived.Test.YtcihbkdpkhhhcaaTagEq
import Derived.Test.YtcihbkdpkhhhcaaOwn
import Derived.Deep.Cut
namespace Go.Proofs.Ytcihbkdpkhhhcaa
open Go.ChangeShapes Go.WideShapes Go.ChangeAt Go.RowKit
set_option linter.unusedVariables false
open Plain Sha
set_option maxRecDepth 100000 in
set_option maxHeartbeats 2000000 in
theorem refbytes_any (T : List Int) (hl : T.length = 32) (hb : IsBytes T) (w : World) :
    Calls Try.prog 68 #[.agg (vals T).toArray] w (Made w T) := by
  obtain ⟨i0, hi0, hz0, hz1, hz2⟩ := info_parts u8_row
  have I0 := Lib.hid hi0
  have I1 := Lib.hid hz0
  have I2 := Lib.hid hz1
  have I3 := Lib.hid hz2
  have HL := Lib.hid hl
  have HB := Lib.hid hb
  obtain ⟨W0, hW0⟩ : ∃ W0, W0 = w.alloc (.cells (vals T).toArray 28) := ⟨_, rfl⟩
  have r0 : Row8 W0 w.heap.size 0 T := by rw [hW0]; exact Row8.new w T _
  have b0 : Below w.heap.size w W0 := by rw [hW0]; exact (Below.refl _ _).alloc (Nat.le_refl _) _
  have s0 : w.heap.size < W0.heap.size := by rw [hW0]; simp
  have HW0 := Lib.hid hW0
  have R0 := Lib.hid r0
  have B0 := Lib.hid b0
  clear hi0 hz0 hz1 hz2 hl hb hW0 r0 b0
  go_enter Try.func68, Try.ntmps68
  go_wp2
  rw [← HW0.out]
  go_loopw [3, 4] (fun v i wr => ∃ k : Nat, k ≤ 32 ∧ i = .int .i64 k ∧ Hid (wr.ownsRow (w.heap.size + 1) 5 1 v k (vals (T.take k))) ∧ Hid (Below W0.heap.size W0 wr)) (fun _ i _ => 32 - (intOf i).toNat)
  case atStart => exact ⟨0, by omega, rfl, Lib.hid (World.ownsRow_nil _ _ _ _), Lib.hid (Below.refl _ _)⟩
  case round =>
    obtain ⟨k, hk, rfl, HO, HB2⟩ := hrel
    have sr := HB2.out.size
    by_cases hlt : k < 32
    · have hkI : (k : Int) < 32 := by omega
      have RW := R0.out.same (HB2.out.block w.heap.size s0)
      have hc := RW.range k _ (vals_at T k (by rw [HL.out]; exact hlt))
      rw [Nat.zero_add] at hc
      obtain ⟨u, hu⟩ : ∃ u, T.getD k 0 = u := ⟨_, rfl⟩
      rw [hu] at hc
      have HT : Hid (vals (T.take (k + 1)) = vals (T.take k) ++ [.int .u8 u]) := Lib.hid (by rw [take_snoc_getD _ _ (by rw [HL.out]; exact hlt), vals_app, hu]; rfl)
      clear hu RW
      go_wp2_with (at_builtin; refine wpList_append_own _ rfl (.tmp 9) (.tmp 13) 26 rfl (w.heap.size + 1) 5 i0 _ 1 1 Try.underlying26 I0.out I1.out I2.out I3.out rfl (by decide) u3 k (vals (T.take k)) rfl (HO.out.alloc _) ⟨wr.heap.size, 0, none⟩ 1 1 [.int .u8 u] rfl rfl (World.news_of_block (cs := #[.int .u8 u]) (t := 5) (fr := (0, 0)) (heap_alloc_new wr _)) (by simp [Value.oneCell']) (by unfold maxLen; omega) (by omega) (by simp; omega) ?_; intro v2 w2 ho2 hg2 _)
      have b2 : Below W0.heap.size W0 w2 := (HB2.out.alloc sr _).grown hg2 (by simp; omega) (fun q hq => by
        have h1 := (HO.out.lt q hq).1
        have h2 : W0.heap.size ≤ w.heap.size + 1 := by rw [HW0.out]; simp
        omega)
      have ho2' : w2.ownsRow (w.heap.size + 1) 5 1 v2 (k + 1) (vals (T.take (k + 1))) := by rw [HT.out]; exact ho2
      clear ho2 hg2
      go_roundw
      case rel => exact ⟨k + 1, by omega, by go_num, Lib.hid ho2', Lib.hid b2⟩
      case measure => simp [intOf]; omega
    · have hk32 : k = 32 := by omega
      have HM : Hid (Made w T (.returned u3) wr) := Lib.hid (made_of (n := k) (by rw [HL.out, hk32]) (by
        have := HO.out
        rw [hk32, List.take_of_length_le (by rw [HL.out]; exact Nat.le_refl _)] at this
        rw [hk32]
        exact own_base this (by omega)) (B0.out.trans (HB2.out.mono B0.out.size)))
      have hge : ¬ (k : Int) < 32 := by omega
      clear hk32 HO HB2
      go_wp2
      go_ret
      exact HM.out
end Go.Proofs.Ytcihbkdpkhhhcaa
