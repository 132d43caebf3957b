/- The statement DiskNil: the walk. -/
import Derived.Test.YtlbmhkccmclmfaaDNone
namespace Go.Proofs.Ytlbmhkccmclmfaa
open Go.ChangeShapes Go.WideShapes Go.ChangeAt Go.RowKit
set_option linter.unusedVariables false
set_option maxRecDepth 100000 in
set_option maxHeartbeats 4000000 in
theorem diskNil_in (a : ActZ) (w : World) (ha : ActOk w w.heap.size a) :
    Calls Try.prog 4 #[.agg (aCells a).toArray] w fun e w' => e = .returned (.bool true) ∧ Below w.heap.size w w' := by
  obtain ⟨kind, n, m, A, len, cap, zs⟩ := a
  obtain ⟨W, hW⟩ : ∃ W, w.alloc (.cells (aCells ⟨kind, n, m, A, len, cap, zs⟩).toArray 37) = W := ⟨_, rfl⟩
  have hh : W.heap[w.heap.size]? = some (.cells (aCells ⟨kind, n, m, A, len, cap, zs⟩).toArray 37 (0, 0)) := by rw [← hW]; exact heap_alloc_new w _
  have sW : W.heap.size = w.heap.size + 1 := by rw [← hW]; simp
  have bW : Below w.heap.size w W := by rw [← hW]; exact (Below.refl _ _).alloc (Nat.le_refl _) _
  have b0 : W.cell? ⟨w.heap.size, 0, none⟩ = some (.int .i64 kind) := by rw [cell_of_row _ _ _ _ _ _ hh]; rfl
  have b1 : W.cell? ⟨w.heap.size, 1, none⟩ = some (.int .i64 n) := by rw [cell_of_row _ _ _ _ _ _ hh]; rfl
  have b2 : W.cell? ⟨w.heap.size, 2, none⟩ = some (.int .i64 m) := by rw [cell_of_row _ _ _ _ _ _ hh]; rfl
  have b3 : W.cell? ⟨w.heap.size, 3, none⟩ = some (.slice A len cap) := by rw [cell_of_row _ _ _ _ _ _ hh]; rfl
  have HG := Lib.hid (great_any 1 (acts_one (ha.below bW) bW.size 37 (w.heap.size + 1) sW) (by simp [maxLen]))
  have HW := Lib.hid hW
  have BW := Lib.hid bW
  obtain ⟨W1, hW1⟩ : ∃ W1, W.alloc (.cells (aCells ⟨kind, n, m, A, len, cap, zs⟩).toArray 37) = W1 := ⟨_, rfl⟩
  have bW1 : Below W.heap.size W W1 := by rw [← hW1]; exact (Below.refl _ _).alloc (Nat.le_refl _) _
  have HW1 := Lib.hid hW1
  have BW1 := Lib.hid bW1
  obtain ⟨G, hG⟩ : ∃ G, gsum (fun _ => (⟨kind, n, m, A, len, cap, zs⟩ : ActZ)) 1 = G := ⟨_, rfl⟩
  rw [hG, hW1] at HG
  clear hW hh bW hW1 bW1 hG ha
  go_enter Try.func4, Try.ntmps4
  go_upto_region 1 with fail
  simp only [HW.out]
  go_wp2_with fail
  rw [show W.alloc (.cells #[.int .i64 kind, .int .i64 n, .int .i64 m, .slice A len cap] 37) = W1 from HW1.out]
  refine HG.out.mono ?_
  rintro e w' ⟨rfl, rfl⟩
  by_cases hg : 4000 < G
  · rw [decide_eq_true hg]
    clear hg
    go_wp2
    go_ret
    exact ⟨rfl, BW.out.trans (BW1.out.mono (by omega))⟩
  rw [decide_eq_false hg]
  clear hg HG
  have sW1 := BW1.out.size
  have s1 : W1.heap.size = w.heap.size + 2 := by rw [← HW1.out]; simp; omega
  obtain ⟨W2, hW2⟩ : ∃ W2, (W1.alloc (.cells #[.bool false, .bool false, .slice none 0 0, .slice none 0 0] 40)).alloc (.cells #[.pointer none, .pointer (some ⟨W1.heap.size, 0, none⟩)] 24) = W2 := ⟨_, rfl⟩
  have hz : W2.heap[W1.heap.size]? = some (.cells #[.bool false, .bool false, .slice none 0 0, .slice none 0 0] 40 (0, 0)) := by rw [← hW2, Below.heap_alloc _ _ _ (by simp)]; exact heap_alloc_new W1 _
  have hr : W2.heap[W1.heap.size + 1]? = some (.cells #[.pointer none, .pointer (some ⟨W1.heap.size, 0, none⟩)] 24 (0, 0)) := by
    rw [← hW2]
    have := heap_alloc_new (W1.alloc (.cells #[.bool false, .bool false, .slice none 0 0, .slice none 0 0] 40)) (.cells #[.pointer none, .pointer (some ⟨W1.heap.size, 0, none⟩)] 24)
    rwa [show (W1.alloc (.cells #[.bool false, .bool false, .slice none 0 0, .slice none 0 0] 40)).heap.size = W1.heap.size + 1 by simp] at this
  have s2 : W2.heap.size = W1.heap.size + 2 := by rw [← hW2]; simp
  have bW2 : Below W1.heap.size W1 W2 := by rw [← hW2]; exact ((Below.refl _ _).alloc (Nat.le_refl _) _).alloc (by simp) _
  obtain ⟨l1, hl1⟩ : ∃ l1, W1.heap.size + 1 = l1 := ⟨_, rfl⟩
  have HN : Hid (∀ k, k < 2 → ∃ pv, W2.cell? ⟨l1, k, none⟩ = some (.pointer pv) ∧ NoDk W2 (.pointer pv)) := Lib.hid (fun k hk => by
    rw [hl1] at hr
    match k, hk with
    | 0, _ => exact ⟨none, by rw [cell_of_row _ _ _ _ _ _ hr]; rfl, .inl rfl⟩
    | 1, _ => exact ⟨_, by rw [cell_of_row _ _ _ _ _ _ hr]; rfl, .inr ⟨W1.heap.size, rfl, by omega, by rw [cell_of_row _ _ _ _ _ _ hz]; rfl, by rw [cell_of_row _ _ _ _ _ _ hz]; rfl, by rw [cell_of_row _ _ _ _ _ _ hz]; rfl, by rw [cell_of_row _ _ _ _ _ _ hz]; rfl⟩⟩)
  have HBX : Hid (∀ v, Below W2.heap.size W2 v → v.cell? ⟨w.heap.size, 1, none⟩ = some (.int .i64 n) ∧ v.cell? ⟨w.heap.size, 2, none⟩ = some (.int .i64 m) ∧ v.cell? ⟨w.heap.size, 3, none⟩ = some (.slice A len cap)) := Lib.hid (fun v hv => by
    have e : v.heap[w.heap.size]? = W.heap[w.heap.size]? := (hv.block _ (by omega)).trans ((bW2.block _ (by omega)).trans (BW1.out.block _ (by omega)))
    exact ⟨(World.cell?_of_block (a := ⟨w.heap.size, 1, none⟩) e).trans b1, (World.cell?_of_block (a := ⟨w.heap.size, 2, none⟩) e).trans b2, (World.cell?_of_block (a := ⟨w.heap.size, 3, none⟩) e).trans b3⟩)
  have HB2 : Hid (Below w.heap.size w W2) := Lib.hid ((BW.out.trans (BW1.out.mono (by omega))).trans (bW2.mono (by omega)))
  have hlt2 : l1 < W2.heap.size := by omega
  have sw2 : w.heap.size ≤ W2.heap.size := by omega
  have HW2 := Lib.hid hW2
  clear hz hr bW2 hW2 b0 b1 b2 b3 sW sW1 s1 s2 HW HW1 BW BW1
  go_upto_region 5 with fail
  simp only [HW2.out]
  clear hl1
  go_wp2
  go_loopw [5] (fun i wr => ∃ k : Nat, k ≤ 2 ∧ i = .int .i64 k ∧ Hid (Below W2.heap.size W2 wr)) (fun i _ => 2 - (intOf i).toNat)
  case atStart => exact ⟨0, by omega, rfl, Lib.hid (Below.refl _ _)⟩
  case round =>
    obtain ⟨k, hk, rfl, GR⟩ := hrel
    by_cases hlt : k < 2
    · have hltI : (k : Int) < 2 := by omega
      obtain ⟨pv, c1, n1⟩ := HN.out k hlt
      have c1r : wr.cell? ⟨l1, k, none⟩ = some (.pointer pv) := (GR.out.cell (p := ⟨l1, k, none⟩) hlt2).trans c1
      have HND := Lib.hid n1
      clear c1 n1
      obtain ⟨x1, x2, x3⟩ := HBX.out wr GR.out
      go_wp2_with fail
      refine (write_no (HND.out.below GR.out (Nat.le_refl _)) A len cap).mono ?_
      rintro e v1 ⟨rfl, hb⟩
      have GR1 := Lib.hid (GR.out.trans (hb.mono GR.out.size))
      obtain ⟨y1, y2, y3⟩ := HBX.out v1 GR1.out
      clear hb x1 x2 x3
      have x1 := y1
      have x2 := y2
      have x3 := y3
      clear y1 y2 y3
      go_wp2_with fail
      refine (sync_no (HND.out.below GR1.out (Nat.le_refl _))).mono ?_
      rintro e v2 ⟨rfl, hb⟩
      have GR2 := Lib.hid (GR1.out.trans (hb.mono GR1.out.size))
      obtain ⟨y1, y2, y3⟩ := HBX.out v2 GR2.out
      clear hb x1 x2 x3
      have x1 := y1
      have x2 := y2
      have x3 := y3
      clear y1 y2 y3
      go_wp2_with fail
      refine (crash_no (HND.out.below GR2.out (Nat.le_refl _)) n m).mono ?_
      rintro e v3 ⟨rfl, hb⟩
      have GR3 := Lib.hid (GR2.out.trans (hb.mono GR2.out.size))
      obtain ⟨y1, y2, y3⟩ := HBX.out v3 GR3.out
      clear hb x1 x2 x3
      have x1 := y1
      have x2 := y2
      have x3 := y3
      clear y1 y2 y3
      go_wp2_with fail
      refine (start_no (HND.out.below GR3.out (Nat.le_refl _))).mono ?_
      rintro e w' ⟨rfl, rfl⟩
      go_wp2_with fail
      refine (cut_no (HND.out.below GR3.out (Nat.le_refl _)) n).mono ?_
      rintro e v4 ⟨rfl, hb⟩
      have GR4 := Lib.hid (GR3.out.trans (hb.mono GR3.out.size))
      obtain ⟨y1, y2, y3⟩ := HBX.out v4 GR4.out
      clear hb x1 x2 x3
      have x1 := y1
      have x2 := y2
      have x3 := y3
      clear y1 y2 y3
      go_wp2_with fail
      refine (bytes_no (HND.out.below GR4.out (Nat.le_refl _))).mono ?_
      rintro e v5 ⟨⟨A9, c9, rfl⟩, hb⟩
      have GR5 := Lib.hid (GR4.out.trans (hb.mono GR4.out.size))
      obtain ⟨y1, y2, y3⟩ := HBX.out v5 GR5.out
      clear hb x1 x2 x3
      have x1 := y1
      have x2 := y2
      have x3 := y3
      clear y1 y2 y3
      go_wp2_with fail
      refine (synced_no (HND.out.below GR5.out (Nat.le_refl _))).mono ?_
      rintro e w' ⟨rfl, rfl⟩
      go_wp2_with fail
      refine (writes_no (HND.out.below GR5.out (Nat.le_refl _))).mono ?_
      rintro e w' ⟨rfl, rfl⟩
      go_wp2_with fail
      refine (up_no (HND.out.below GR5.out (Nat.le_refl _))).mono ?_
      rintro e w' ⟨rfl, rfl⟩
      clear x1 x2 x3 c1r
      go_wp2
      go_roundw
      case rel => exact ⟨k + 1, by omega, by go_num, GR5⟩
      case measure => simp [intOf]; omega
    · have hkm : ¬ (k : Int) < 2 := by omega
      go_wp2
      go_ret
      exact ⟨rfl, HB2.out.trans (GR.out.mono sw2)⟩
end Go.Proofs.Ytlbmhkccmclmfaa
