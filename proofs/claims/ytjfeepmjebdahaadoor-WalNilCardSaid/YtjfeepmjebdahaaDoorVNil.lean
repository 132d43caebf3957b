/- The statement WalNil: the walk. -/
import Derived.Test.YtjfeepmjebdahaaDoorVNone
namespace Go.Proofs.YtjfeepmjebdahaaDoor
open Go.ChangeShapes Go.WideShapes Go.ChangeAt Go.RowKit
set_option linter.unusedVariables false
open Plain Sha
set_option maxRecDepth 100000 in
theorem newwal_gen (w : World) (pv : Option Addr) : Calls Tryd.prog 10 #[.pointer pv] w (fun e w' => e = .returned (.pointer (some ⟨w.heap.size, 0, none⟩)) ∧ w' = w.alloc (.cells #[.bool true, .pointer pv] 46)) := by
  go_enter Tryd.func10, Tryd.ntmps10
  go_wp2
  go_ret
  exact ⟨rfl, rfl⟩
set_option maxRecDepth 100000 in
set_option maxHeartbeats 4000000 in
theorem walNil_in (A : Option Addr) (n c : Nat) (zs : List Int) (w : World) (h : Bs w w.heap.size A n zs) (hn : n ≤ maxLen) (hF : LaidF w) (hK : LaidK w) :
    Calls Tryd.prog 4 #[.slice A n c] w fun e w' => e = .returned (.bool true) ∧ Below w.heap.size w w' := by
  clear h
  unfold maxLen at hn
  by_cases hbig : 2000 < n
  · have hI : 2000 < (n : Int) := by omega
    clear hF hK
    go_enter Tryd.func4, Tryd.ntmps4
    go_wp2
    go_ret
    exact ⟨rfl, Below.refl _ _⟩
  have hI : ¬ 2000 < (n : Int) := by omega
  have HF := Lib.hid hF
  have HK := Lib.hid hK
  obtain ⟨W1, hW1⟩ : ∃ W, w.alloc (.cells #[.bool false, .pointer none] 46) = W := ⟨_, rfl⟩
  obtain ⟨W2, hW2⟩ : ∃ W, W1.alloc (.cells #[.bool true, .pointer none] 46) = W := ⟨_, rfl⟩
  obtain ⟨W3, hW3⟩ : ∃ W, W2.alloc (.cells #[.bool false, .bool false, .slice none 0 0, .slice none 0 0] 48) = W := ⟨_, rfl⟩
  obtain ⟨W4, hW4⟩ : ∃ W, W3.alloc (.cells #[.bool true, .pointer (some ⟨W2.heap.size, 0, none⟩)] 46) = W := ⟨_, rfl⟩
  obtain ⟨W5, hW5⟩ : ∃ W, W4.alloc (.cells #[.pointer none, .pointer (some ⟨w.heap.size, 0, none⟩), .pointer (some ⟨W1.heap.size, 0, none⟩), .pointer (some ⟨W3.heap.size, 0, none⟩)] 31) = W := ⟨_, rfl⟩
  have b1 : Below w.heap.size w W1 := by rw [← hW1]; exact (Below.refl _ _).alloc (Nat.le_refl _) _
  have b2 : Below W1.heap.size W1 W2 := by rw [← hW2]; exact (Below.refl _ _).alloc (Nat.le_refl _) _
  have b3 : Below W2.heap.size W2 W3 := by rw [← hW3]; exact (Below.refl _ _).alloc (Nat.le_refl _) _
  have b4 : Below W3.heap.size W3 W4 := by rw [← hW4]; exact (Below.refl _ _).alloc (Nat.le_refl _) _
  have b5 : Below W4.heap.size W4 W5 := by rw [← hW5]; exact (Below.refl _ _).alloc (Nat.le_refl _) _
  have s1 : W1.heap.size = w.heap.size + 1 := by rw [← hW1]; simp
  have s2 : W2.heap.size = W1.heap.size + 1 := by rw [← hW2]; simp
  have s3 : W3.heap.size = W2.heap.size + 1 := by rw [← hW3]; simp
  have s4 : W4.heap.size = W3.heap.size + 1 := by rw [← hW4]; simp
  have s5 : W5.heap.size = W4.heap.size + 1 := by rw [← hW5]; simp
  have h1 : W1.heap[w.heap.size]? = some (.cells #[.bool false, .pointer none] 46 (0, 0)) := by rw [← hW1]; exact heap_alloc_new w _
  have h2 : W2.heap[W1.heap.size]? = some (.cells #[.bool true, .pointer none] 46 (0, 0)) := by rw [← hW2]; exact heap_alloc_new W1 _
  have h3 : W3.heap[W2.heap.size]? = some (.cells #[.bool false, .bool false, .slice none 0 0, .slice none 0 0] 48 (0, 0)) := by rw [← hW3]; exact heap_alloc_new W2 _
  have h4 : W4.heap[W3.heap.size]? = some (.cells #[.bool true, .pointer (some ⟨W2.heap.size, 0, none⟩)] 46 (0, 0)) := by rw [← hW4]; exact heap_alloc_new W3 _
  have h5 : W5.heap[W4.heap.size]? = some (.cells #[.pointer none, .pointer (some ⟨w.heap.size, 0, none⟩), .pointer (some ⟨W1.heap.size, 0, none⟩), .pointer (some ⟨W3.heap.size, 0, none⟩)] 31 (0, 0)) := by rw [← hW5]; exact heap_alloc_new W4 _
  have nd : NoDk W3 (.pointer (some ⟨W2.heap.size, 0, none⟩)) := .inr ⟨W2.heap.size, rfl, by omega, by rw [cell_of_row _ _ _ _ _ _ h3]; rfl, by rw [cell_of_row _ _ _ _ _ _ h3]; rfl, by rw [cell_of_row _ _ _ _ _ _ h3]; rfl, by rw [cell_of_row _ _ _ _ _ _ h3]; rfl⟩
  have n1 : NoWal W5 (.pointer (some ⟨w.heap.size, 0, none⟩)) := (NoWal.below (w := W1) (.inr ⟨w.heap.size, rfl, by omega, .inl (by rw [cell_of_row _ _ _ _ _ _ h1]; rfl)⟩) (b2.trans ((b3.mono (by omega)).trans ((b4.mono (by omega)).trans (b5.mono (by omega))))) (Nat.le_refl _))
  have n2 : NoWal W5 (.pointer (some ⟨W1.heap.size, 0, none⟩)) := (NoWal.below (w := W2) (.inr ⟨W1.heap.size, rfl, by omega, .inr ⟨by rw [cell_of_row _ _ _ _ _ _ h2]; rfl, none, by rw [cell_of_row _ _ _ _ _ _ h2]; rfl, .inl rfl⟩⟩) (b3.trans ((b4.mono (by omega)).trans (b5.mono (by omega)))) (Nat.le_refl _))
  have n4 : NoWal W5 (.pointer (some ⟨W3.heap.size, 0, none⟩)) := (NoWal.below (w := W4) (.inr ⟨W3.heap.size, rfl, by omega, .inr ⟨by rw [cell_of_row _ _ _ _ _ _ h4]; rfl, some ⟨W2.heap.size, 0, none⟩, by rw [cell_of_row _ _ _ _ _ _ h4]; rfl, nd.below b4 (Nat.le_refl _)⟩⟩) b5 (Nat.le_refl _))
  obtain ⟨g, hg⟩ : ∃ g, W4.heap.size = g := ⟨_, rfl⟩
  have HN : Hid (∀ k, k < 4 → ∃ pv, W5.cell? ⟨g, k, none⟩ = some (.pointer pv) ∧ NoWal W5 (.pointer pv)) := Lib.hid (fun k hk => by
    rw [hg] at h5
    match k, hk with
    | 0, _ => exact ⟨none, by rw [cell_of_row _ _ _ _ _ _ h5]; rfl, .inl rfl⟩
    | 1, _ => exact ⟨_, by rw [cell_of_row _ _ _ _ _ _ h5]; rfl, n1⟩
    | 2, _ => exact ⟨_, by rw [cell_of_row _ _ _ _ _ _ h5]; rfl, n2⟩
    | 3, _ => exact ⟨_, by rw [cell_of_row _ _ _ _ _ _ h5]; rfl, n4⟩)
  have BW : Hid (Below w.heap.size w W5) := Lib.hid (b1.trans ((b2.mono (by omega)).trans ((b3.mono (by omega)).trans ((b4.mono (by omega)).trans (b5.mono (by omega))))))
  have hgl : g < W5.heap.size := by omega
  have HFl := Lib.hid hF.lt
  have HKl := Lib.hid hK.lt
  have HLF : Hid (∀ v, Below W5.heap.size W5 v → LaidF v ∧ LaidK v) := Lib.hid (fun v hv => ⟨HF.out.below (BW.out.trans (hv.mono BW.out.size)) HFl.out, HK.out.below (BW.out.trans (hv.mono BW.out.size)) HKl.out⟩)
  have C1 := Lib.hid (newwal_gen W1 none)
  have C2 := Lib.hid (newwal_gen W3 (some ⟨W2.heap.size, 0, none⟩))
  have E1 := Lib.hid hW1
  have E2 := Lib.hid hW2
  have E3 := Lib.hid hW3
  have E4 := Lib.hid hW4
  have E5 := Lib.hid hW5
  have EG := Lib.hid hg
  clear hF hK hW1 hW2 hW3 hW4 hW5 b1 b2 b3 b4 b5 s1 s2 s3 s4 s5 h1 h2 h3 h4 h5 nd n1 n2 n4 hg
  go_enter Tryd.func4, Tryd.ntmps4
  go_wp2_with fail
  rw [show w.alloc (.cells #[.bool false, .pointer none] 46) = W1 from E1.out]
  refine C1.out.mono ?_
  rintro e v ⟨rfl, rfl⟩
  rw [show W1.alloc (.cells #[.bool true, .pointer none] 46) = W2 from E2.out]
  go_wp2_with fail
  rw [show W2.alloc (.cells #[.bool false, .bool false, .slice none 0 0, .slice none 0 0] 48) = W3 from E3.out]
  refine C2.out.mono ?_
  rintro e v ⟨rfl, rfl⟩
  rw [show W3.alloc (.cells #[.bool true, .pointer (some ⟨W2.heap.size, 0, none⟩)] 46) = W4 from E4.out]
  go_upto_region 6 with fail
  rw [show W4.alloc (.cells #[.pointer none, .pointer (some ⟨w.heap.size, 0, none⟩), .pointer (some ⟨W1.heap.size, 0, none⟩), .pointer (some ⟨W3.heap.size, 0, none⟩)] 31) = W5 from E5.out]
  simp only [EG.out]
  go_wp2
  go_loopw [6] (fun i wr => ∃ k : Nat, k ≤ 4 ∧ i = .int .i64 k ∧ Hid (Below W5.heap.size W5 wr)) (fun i _ => 4 - (intOf i).toNat)
  case atStart => exact ⟨0, by omega, rfl, Lib.hid (Below.refl _ _)⟩
  case round =>
    obtain ⟨k, hk, rfl, GR⟩ := hrel
    by_cases hlt : k < 4
    · have hltI : (k : Int) < 4 := by omega
      obtain ⟨pv, c1, n1⟩ := HN.out k hlt
      have c1r : wr.cell? ⟨g, k, none⟩ = some (.pointer pv) := (GR.out.cell (p := ⟨g, k, none⟩) hgl).trans c1
      have HND := Lib.hid n1
      clear c1 n1
      go_wp2_with fail
      refine (recoverN (HND.out.below GR.out (Nat.le_refl _))).mono ?_
      rintro e v1 ⟨rfl, hb⟩
      have GR1 := Lib.hid (GR.out.trans (hb.mono GR.out.size))
      clear hb c1r
      go_wp2_with fail
      refine (addN (HND.out.below GR1.out (Nat.le_refl _)) A n c).mono ?_
      rintro e v2 ⟨rfl, hb⟩
      have GR2 := Lib.hid (GR1.out.trans (hb.mono GR1.out.size))
      clear hb
      go_wp2_with fail
      refine (syncN (HND.out.below GR2.out (Nat.le_refl _))).mono ?_
      rintro e v3 ⟨rfl, hb⟩
      have GR3 := Lib.hid (GR2.out.trans (hb.mono GR2.out.size))
      clear hb
      go_wp2_with fail
      refine (recordsN (HND.out.below GR3.out (Nat.le_refl _)) (HLF.out _ GR3.out).1 (HLF.out _ GR3.out).2).mono ?_
      rintro e v4 ⟨⟨A9, c9, rfl⟩, hb⟩
      have GR4 := Lib.hid (GR3.out.trans (hb.mono GR3.out.size))
      clear hb
      go_wp2_with fail
      refine (lastingN (HND.out.below GR4.out (Nat.le_refl _)) (HLF.out _ GR4.out).1 (HLF.out _ GR4.out).2).mono ?_
      rintro e v5 ⟨rfl, hb⟩
      have GR5 := Lib.hid (GR4.out.trans (hb.mono GR4.out.size))
      clear hb
      go_wp2
      go_roundw
      case rel => exact ⟨k + 1, by omega, by go_num, GR5⟩
      case measure => simp [intOf]; omega
    · have hltI : ¬ (k : Int) < 4 := by omega
      have HB := Lib.hid (BW.out.trans (GR.out.mono BW.out.size))
      go_wp2
      go_ret
      exact ⟨rfl, HB.out⟩
end Go.Proofs.YtjfeepmjebdahaaDoor
