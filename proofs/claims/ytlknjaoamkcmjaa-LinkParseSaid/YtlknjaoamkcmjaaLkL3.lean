/- The statement LinkParse: the walk. -/
import Derived.Test.YtlknjaoamkcmjaaLkRp
import Derived.Test.YtlknjaoamkcmjaaLkR
import Derived.Test.YtlknjaoamkcmjaaLkE
namespace Go.Proofs.Ytlknjaoamkcmjaa
open Go.ChangeShapes Go.WideShapes Go.ChangeAt Go.RowKit
set_option linter.unusedVariables false
set_option maxRecDepth 100000
set_option linter.unusedSimpArgs false
open Plain Sha Wn Lk
set_option maxHeartbeats 8000000 in
theorem lkparse_long (A : Option Addr) (n c : Nat) (bs : List Int) (w : World) (h : Bs w w.heap.size A n bs) (hnc : n ≤ c) (hl : 3000 < n)
    : Calls Try.prog 3 #[.slice A n c] w (fun e w' => e = .returned (.bool true) ∧ Below w.heap.size w w') := by
  have hl2 : (3000 : Int) < (n : Int) := by omega
  clear hl h
  go_enter Try.func3, Try.ntmps3
  go_wp2
  go_ret
  exact ⟨rfl, below_drewN (Below.refl _ _) 0⟩
set_option maxHeartbeats 8000000 in
theorem lkparse_short (A : Option Addr) (n c : Nat) (bs : List Int) (w : World) (h : Bs w w.heap.size A n bs) (hnc : n ≤ c) (hl : ¬ 3000 < n)
    : Calls Try.prog 3 #[.slice A n c] w (fun e w' => e = .returned (.bool true) ∧ Below w.heap.size w w') := by
  have hl2 : ¬ (3000 : Int) < (n : Int) := by omega
  obtain ⟨z, hz⟩ : ∃ z, (parseL bs).1 = z := ⟨_, rfl⟩
  obtain ⟨er, her⟩ : ∃ z, (parseL bs).2 = z := ⟨_, rfl⟩
  have P1 := Lib.hid (show Calls Try.prog 4 #[.slice A n c] w (ReadsP w z er) by rw [← hz, ← her]; exact lparse_any c h (Nat.le_refl _) (by omega))
  have P2 : Hid (∀ W : World, Below w.heap.size w W → Calls Try.prog 5 #[.slice A n c] W (ReadsP W z er)) := Lib.hid (fun W hb => by rw [← hz, ← her]; exact rlparse_any c (h.belowM hb (Nat.le_refl _)) hb.size hnc (by omega))
  clear hz her h hl hnc
  have zk := zPk
  have zs := zPc_size
  have zn := zPc_ne
  go_enter Try.func3, Try.ntmps3
  go_upto_region 4 with (first
      | (go_at_call 4; refine (P1.out).mono ?_; rintro e w2 ⟨y, rfl, hy, hok, ho, hb⟩; have YZ := Lib.hid hy; have YOK := Lib.hid hok; have YT := Lib.hid hok.ok.tl; have B2 := Lib.hid hb; clear hy hok ho hb)
      | (with_reducible show wpList _ _ _ (⟨none, .store 26 (.tmp 3) (.tmp 13), _, _, _, _⟩ :: _) _ _; refine wpList_store_as (op := ⟨none, .store 26 (.tmp 3) (.tmp 13), _, _, _, _⟩) rfl 26 (.tmp 3) (.tmp 13) rfl (w2.heap.size) 0 (pc y).toArray rfl rfl (vthere (zbox_new w2 26 _ rfl) (us := pc y) (pc_len YT.out)) (p_sizeA YT.out) (p_oneA y) ?_; intro w3 hw3))
  obtain ⟨VY, hb3⟩ := vstored (zbox_new w2 26 w2.heap.size rfl) (us := pc y) (pc_len YT.out) hw3 (Nat.le_refl _) (below_one w2 _)
  have B3 := Lib.hid (B2.out.trans (hb3.mono B2.out.size))
  obtain ⟨gy, hgy⟩ : ∃ k, w2.heap.size = k := ⟨_, rfl⟩
  have Y3 := Lib.hid (YOK.out.below hb3 (Nat.le_refl _))
  rw [hgy] at VY Y3 ⊢
  have VY3 := Lib.hid VY
  have Z3 : Hid (gy ≤ w3.heap.size) := Lib.hid (by have := hb3.size; rw [hgy] at this; exact this)
  clear hw3 hb3 VY hgy YOK B2
  go_upto_region 5 with (first
      | (go_at_call 5; refine (P2.out _ B3.out).mono ?_; rintro e w4 ⟨q, rfl, hy, hok, ho, hb⟩; have QZ := Lib.hid hy; have QOK := Lib.hid hok; have QT := Lib.hid hok.ok.tl; have B4 := Lib.hid hb; clear hy hok ho hb)
      | (with_reducible show wpList _ _ _ (⟨none, .store 26 (.tmp 5) (.tmp 18), _, _, _, _⟩ :: _) _ _; refine wpList_store_as (op := ⟨none, .store 26 (.tmp 5) (.tmp 18), _, _, _, _⟩) rfl 26 (.tmp 5) (.tmp 18) rfl (w4.heap.size) 0 (pc q).toArray rfl rfl (vthere (zbox_new w4 26 _ rfl) (us := pc q) (pc_len QT.out)) (p_sizeA QT.out) (p_oneA q) ?_; intro w5 hw5))
  obtain ⟨VQ, hb5⟩ := vstored (zbox_new w4 26 w4.heap.size rfl) (us := pc q) (pc_len QT.out) hw5 (Nat.le_refl _) (below_one w4 _)
  have B45 := Lib.hid (B4.out.trans (hb5.mono B4.out.size))
  obtain ⟨gq, hgq⟩ : ∃ k, w4.heap.size = k := ⟨_, rfl⟩
  have Q5 := Lib.hid (QOK.out.below hb5 (Nat.le_refl _))
  have ZQ : Hid (w4.heap.size ≤ w5.heap.size) := Lib.hid hb5.size
  rw [hgq] at VQ Q5 ZQ ⊢
  have VQ5 := Lib.hid VQ
  have VY5 := Lib.hid (VY3.out.grow B45.out)
  have Y5 := Lib.hid (Y3.out.below B45.out Z3.out)
  have ZY : Hid (gy ≤ w5.heap.size) := Lib.hid (Nat.le_trans Z3.out B45.out.size)
  have B5 := Lib.hid (B3.out.trans (B45.out.mono B3.out.size))
  have SM := Lib.hid (rlsame_any Y5.out Q5.out ZY.out ZQ.out (by rw [QZ.out, YZ.out]))
  clear hw5 hb5 VQ hgq QOK B4 B3 VY3 Y3
  go_wp2_with (first
      | (with_reducible show wpList _ _ _ (⟨some 24, .load 26 (.tmp 3), _, _, _, _⟩ :: _) _ _; refine wpList_load_guardL (op := ⟨some 24, .load 26 (.tmp 3), _, _, _, some (3, true)⟩) (by first | rfl | go_simp) 26 (.tmp 3) rfl (gy) 0 rfl (pc y) _ (VY5.out.range) Try.underlying26 rfl (p_size YT.out) ?_)
      | (with_reducible show wpList _ _ _ (⟨some 25, .load 26 (.tmp 5), _, _, _, _⟩ :: _) _ _; refine wpList_load_guardL (op := ⟨some 25, .load 26 (.tmp 5), _, _, _, some (3, true)⟩) (by first | rfl | go_simp) 26 (.tmp 5) rfl (gq) 0 rfl (pc q) _ (VQ5.out.range) Try.underlying26 rfl (p_size QT.out) ?_)
      | (go_at_call 6; refine (SM.out).mono ?_; rintro e w6 ⟨rfl, hb⟩; have B6 := Lib.hid hb; clear hb))
  go_ret
  exact ⟨rfl, B5.out.trans (B6.out.mono B5.out.size)⟩
theorem lkparse_in (A : Option Addr) (n c : Nat) (bs : List Int) (w : World) (h : Bs w w.heap.size A n bs) (hnc : n ≤ c) (_ : n ≤ maxLen)
    : Calls Try.prog 3 #[.slice A n c] w (fun e w' => e = .returned (.bool true) ∧ Below w.heap.size w w') := by
  by_cases hl : 3000 < n
  · exact lkparse_long A n c bs w h hnc hl
  · exact lkparse_short A n c bs w h hnc hl
end Go.Proofs.Ytlknjaoamkcmjaa
