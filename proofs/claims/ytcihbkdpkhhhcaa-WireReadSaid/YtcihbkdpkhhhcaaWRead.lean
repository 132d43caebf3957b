/- The statement WireRead: the walk. -/
import Derived.Test.YtcihbkdpkhhhcaaROne
import Derived.Deep.RegionHeld
namespace Go.Proofs.Ytcihbkdpkhhhcaa
open Go.ChangeShapes Go.WideShapes Go.ChangeAt Go.RowKit
set_option linter.unusedVariables false
open Plain
set_option maxRecDepth 100000 in
set_option maxHeartbeats 8000000 in
theorem wireRead_in (A0 : Option Addr) (n c0 : Nat) (bs : List Int) (A1 : Option Addr) (m c1 : Nat) (F : Nat → FieldZ) (w : World) (hb : Bs w w.heap.size A0 n bs) (hc0 : n ≤ c0) (hn0 : n ≤ maxLen) (hf : Fields w w.heap.size A1 m F) (hn1 : m ≤ maxLen) :
    Calls Try.prog 4 #[.slice A0 n c0, .slice A1 m c1] w fun e w' => e = .returned (.bool true) ∧ Below w.heap.size w w' := by
  unfold maxLen at hn0 hn1
  by_cases g0 : 5000 < n
  · have : (5000 : Int) < n := by omega
    go_enter Try.func4, Try.ntmps4
    go_wp2
    go_ret
    exact ⟨rfl, Below.refl _ _⟩
  by_cases g1 : 60 < m
  · have : (60 : Int) < m := by omega
    have h0 : ¬ (5000 : Int) < n := by omega
    go_enter Try.func4, Try.ntmps4
    go_wp2
    go_ret
    exact ⟨rfl, Below.refl _ _⟩
  have h0 : ¬ (5000 : Int) < n := by omega
  have h1 : ¬ (60 : Int) < m := by omega
  have HB := Lib.hid hb
  have HF := Lib.hid hf
  have G0 : Hid (n ≤ 5000) := Lib.hid (by omega)
  have hm60 : m ≤ 60 := by omega
  have HM : Hid (n ≤ maxLen) := Lib.hid (by unfold maxLen; omega)
  have HNW : Hid (newWhy bs = (0, bs)) := Lib.hid (by unfold newWhy; rw [if_pos (by rw [hb.len]; omega)])
  have HBL := Lib.hid hb.len
  have HBy := Lib.hid hb.isBytes
  have HC0 := Lib.hid hc0
  have C1 := Lib.hid (refcopy_any c0 hb (Nat.le_refl _) (by omega))
  clear hb hf g0 g1 hc0 hn0 hn1
  go_enter Try.func4, Try.ntmps4
  go_wp2_with fail
  refine C1.out.mono ?_
  intro e w1 hm1
  obtain ⟨D, d, rfl, o1, b1, hd, hd2⟩ := hm1.n HBL.out
  have Q1 := Lib.hid b1
  have s1 := b1.size
  have Z1 : Hid (Bs w1 w1.heap.size D n bs) := Lib.hid (bs_of_own o1 HBy.out)
  clear hm1 o1 b1 C1
  go_wp2_with fail
  refine (newreader_any d Z1.out (Nat.le_refl _) (by have := G0.out; omega)).mono ?_
  rw [HNW.out]
  rintro e w2 ⟨rb, rfl, r2, hb2, b2⟩
  have R2 : Hid (Rd w2 rb ⟨w1.heap.size, rb⟩ 0 bs) := Lib.hid r2
  have B2 := Lib.hid b2
  have hrw := r2.lt
  have s2 := b2.size
  have hrb : w.heap.size ≤ rb := by omega
  generalize (Span.mk w1.heap.size rb) = Y at *
  clear r2 b2 HNW
  go_wp2_with fail
  refine (new_rr c0 (HB.out.below (Q1.out.trans (B2.out.mono s1))) (Nat.le_trans s1 s2) HC0.out (by have := G0.out; omega)).mono ?_
  rintro e w3 ⟨rfl, r3, b3, s3⟩
  obtain ⟨wb, hwb⟩ : ∃ wb, w2.heap.size = wb := ⟨_, rfl⟩
  have Q3 : Hid (Below w.heap.size w w3) := Lib.hid ((Q1.out.trans (B2.out.mono s1)).trans (b3.mono (Nat.le_trans s1 s2)))
  have Z3 : Hid (Bs w3 rb D n bs) := Lib.hid (by
    have x := (Z1.out.belowM B2.out (Nat.le_refl _)).belowM b3 s2
    exact ⟨x.len, x.rng, fun h => by obtain ⟨k, o, e, hk, r⟩ := x.row h; exact ⟨k, o, e, Nat.lt_of_lt_of_le hk hb2, r⟩⟩)
  have D3 : Hid (Duo w3 rb wb Y w.heap.size (0, bs)) := Lib.hid ⟨R2.out.below b3 hrw, by rw [← hwb]; exact r3, by omega, hrb⟩
  rw [hwb] at hrw s3
  simp only [hwb]
  clear r3 b3 R2 B2 Q1 Z1 hwb hb2 s1 s2
  go_wp2
  go_loopw [8] (fun i wr => ∃ k : Nat, k ≤ m ∧ i = .int .i64 (k : Int) ∧ ∃ s, Hid (Duo wr rb wb Y w.heap.size s) ∧ Hid (Below rb w3 wr)) (fun i _ => m - (intOf i).toNat)
  case atStart => exact ⟨0, by omega, rfl, _, D3, Lib.hid (Below.refl _ _)⟩
  case round =>
    obtain ⟨k, hk, rfl, ⟨why0, rest0⟩, DD, QQ⟩ := hrel
    clear D3
    by_cases hlt : k < m
    · have hltI : (k : Int) < (m : Int) := by omega
      obtain ⟨fb, off, rfl, hfb, hr, _, _⟩ := (HF.out.below (Q3.out.trans (QQ.out.mono hrb))).at_ hlt
      have FO := Lib.hid (HF.out.ok k hlt)
      have FR : Hid ((wr.drew).rangeAt fb (off + k * 35) (fCells (F k))) := Lib.hid hr
      have FI := Lib.hid (field_info FO.out.tag)
      obtain ⟨f, hfk⟩ : ∃ f, F k = f := ⟨_, rfl⟩
      rw [hfk] at FR FI
      have OC := Lib.hid (one_any (w := wr.drew) (DD.out.grown (Go.Proofs.Ytcihbkdpkhhhcaa.grown_drewN wr 1 none) (fun k hk => by cases hk)) f)
      have hi := FI.out
      have hu := Try.underlying30
      clear hr hfk DD FO
      go_upto_region 8 with fail
      refine wp_region_noPanic ?_
      refine wp_region_held_drew (S := fun w' => w'.rangeAt fb (off + k * 35) (fCells f)) (by kernel_rfl) FR.out (fun hHeld => ?_)
      refine wpAnyH_take (i := 0) (oi := ⟨some 29, .move (.tmp 6), _, _, _, _⟩) (v := .pointer (some ⟨rb, 0, none⟩)) rfl (by kernel_rfl) (by kernel_rfl) (by kernel_rfl) (fun _ _ _ h => h) (Or.inl ⟨by rfl, fun w hSw => ?_⟩) (by assumption) ?_
      · go_simp
      try simp only [Act.put, List.setIfInBounds_toArray, List.set_cons_zero, List.set_cons_succ]
      refine wpAnyH_take (i := 1) (oi := ⟨some 30, .move (.tmp 7), _, _, _, _⟩) (v := .pointer (some ⟨wb, 0, none⟩)) rfl (by kernel_rfl) (by kernel_rfl) (by kernel_rfl) (fun _ _ _ h => h) (Or.inl ⟨by rfl, fun w hSw => ?_⟩) (by assumption) ?_
      · go_simp
      try simp only [Act.put, List.setIfInBounds_toArray, List.set_cons_zero, List.set_cons_succ]
      refine wpAnyH_take (i := 2) (oi := ⟨some 31, .move (.tmp 1), _, _, _, _⟩) (v := .slice (some ⟨fb, off, none⟩) m c1) rfl (by kernel_rfl) (by kernel_rfl) (by kernel_rfl) (fun _ _ _ h => h) (Or.inl ⟨by rfl, fun w hSw => ?_⟩) (by assumption) ?_
      · go_simp
      try simp only [Act.put, List.setIfInBounds_toArray, List.set_cons_zero, List.set_cons_succ]
      refine wpAnyH_take (i := 3) (oi := ⟨some 32, .move (.tmp 8), _, _, _, _⟩) (v := .int .i64 (k : Int)) rfl (by kernel_rfl) (by kernel_rfl) (by kernel_rfl) (fun _ _ _ h => h) (Or.inl ⟨by rfl, fun w hSw => ?_⟩) (by assumption) ?_
      · go_simp
      try simp only [Act.put, List.setIfInBounds_toArray, List.set_cons_zero, List.set_cons_succ]
      refine wpAnyH_take (i := 4) (oi := ⟨some 33, .indexAddr 22 (.tmp 31) (.tmp 32), _, _, _, _⟩) (v := .pointer (some ⟨fb, off + k * 35, none⟩)) rfl (by kernel_rfl) (by kernel_rfl) (by kernel_rfl) (fun _ _ _ h => h) (Or.inl ⟨by rfl, fun w hSw => ?_⟩) (by assumption) ?_
      · go_simp
      try simp only [Act.put, List.setIfInBounds_toArray, List.set_cons_zero, List.set_cons_succ]
      refine wpAnyH_take (i := 5) (oi := ⟨some 34, .load 30 (.tmp 33), _, _, _, _⟩) (v := _) rfl (by kernel_rfl) (by kernel_rfl) (by kernel_rfl) (fun _ _ _ h => h) (yieldsIf_load_mid (by rfl) _ _ rfl _ _ rfl (fCells f) _ (fun _ h => h) hu rfl hi) (by assumption) ?_
      try simp only [Act.put, List.setIfInBounds_toArray, List.set_cons_zero, List.set_cons_succ]
      refine wpAnyH_ready (rs := [6]) (by kernel_rfl) (by simp) ?_
      refine AllReadyH.cons (o := ⟨some 35, .call { callee := .value (.func 16), args := #[.tmp 29, .tmp 30, .tmp 34], argTypes := #[38, 40, 30] }, _, _, _, _⟩) rfl (fun K hK => ?_) AllReadyH.nil
      go_simp
      refine OC.out.mono ?_
      rintro e w4 ⟨rfl, ⟨why, rest⟩, d4, b4⟩
      have D4 := Lib.hid d4
      have Q4 : Hid (Below rb w3 w4) := Lib.hid (QQ.out.drew.trans b4)
      have d1 : w4.rangeAt fb (off + k * 35) (fCells f) := rangeAt_same FR.out (b4.block fb (by omega))
      have LC := Lib.hid (left_any d4.r)
      have LR := Lib.hid (left_rr d4.d)
      clear d4 b4 OC
      go_wp2_with fail
      refine hK.out _ _ d1 (fun hHeld2 => ?_)
      clear hK K hHeld
      have hHeld := hHeld2
      clear hHeld2
      try simp only [Act.put, List.setIfInBounds_toArray, List.set_cons_zero, List.set_cons_succ]
      refine wpAnyH_take (i := 7) (oi := ⟨some 36, .unOp .not 4 (.tmp 35), _, _, _, _⟩) (v := .bool false) rfl (by kernel_rfl) (by kernel_rfl) (by kernel_rfl) (fun _ _ _ h => h) (Or.inl ⟨by rfl, fun w hSw => ?_⟩) (by assumption) ?_
      · go_simp
      try simp only [Act.put, List.setIfInBounds_toArray, List.set_cons_zero, List.set_cons_succ]
      refine wpAnyH_take (i := 8) (oi := ⟨some 37, .move (.tmp 36), _, _, _, _⟩) (v := .bool false) rfl (by kernel_rfl) (by kernel_rfl) (by kernel_rfl) (fun _ _ _ h => h) (Or.inl ⟨by rfl, fun w hSw => ?_⟩) (by assumption) ?_
      · go_simp
      try simp only [Act.put, List.setIfInBounds_toArray, List.set_cons_zero, List.set_cons_succ]
      refine wpAnyH_take (i := 9) (oi := ⟨some 38, .move (.tmp 6), _, _, _, _⟩) (v := .pointer (some ⟨rb, 0, none⟩)) rfl (by kernel_rfl) (by kernel_rfl) (by kernel_rfl) (fun _ _ _ h => h) (Or.inl ⟨by rfl, fun w hSw => ?_⟩) (by assumption) ?_
      · go_simp
      try simp only [Act.put, List.setIfInBounds_toArray, List.set_cons_zero, List.set_cons_succ]
      refine wpAnyH_take (i := 11) (oi := ⟨some 40, .move (.tmp 7), _, _, _, _⟩) (v := .pointer (some ⟨wb, 0, none⟩)) rfl (by kernel_rfl) (by kernel_rfl) (by kernel_rfl) (fun _ _ _ h => h) (Or.inl ⟨by rfl, fun w hSw => ?_⟩) (by assumption) ?_
      · go_simp
      try simp only [Act.put, List.setIfInBounds_toArray, List.set_cons_zero, List.set_cons_succ]
      refine wpAnyH_ready (rs := [10]) (by kernel_rfl) (by simp) ?_
      refine AllReadyH.cons (o := ⟨some 39, .call { callee := .value (.func 17), args := #[.tmp 38], argTypes := #[38] }, _, _, _, _⟩) rfl (fun K hK => ?_) AllReadyH.nil
      go_simp
      refine LC.out.mono ?_
      rintro e w5 ⟨rfl, rfl⟩
      go_wp2_with fail
      refine hK.out _ _ d1 (fun hHeld2 => ?_)
      clear hK K hHeld
      have hHeld := hHeld2
      clear hHeld2
      try simp only [Act.put, List.setIfInBounds_toArray, List.set_cons_zero, List.set_cons_succ]
      refine wpAnyH_ready (rs := [12]) (by kernel_rfl) (by simp) ?_
      refine AllReadyH.cons (o := ⟨some 41, .call { callee := .value (.func 18), args := #[.tmp 40], argTypes := #[40] }, _, _, _, _⟩) rfl (fun K hK => ?_) AllReadyH.nil
      go_simp
      refine LR.out.mono ?_
      rintro e w5 ⟨rfl, m5, rfl⟩
      have d5 : (w4.drewN m5).rangeAt fb (off + k * 35) (fCells f) := d1
      have cbad : (w4.drewN m5).cell? ⟨wb, 2, none⟩ = some (.int .i64 why) := by
        obtain ⟨A9, l9, k9, b9, a9, h0, h1, h2, _⟩ := D4.out.d.ex
        exact h2
      have EC := Lib.hid (err_any (D4.out.r.drewN m5))
      have EN := Lib.hid (end_rd (D4.out.r.drewN m5))
      have EM := Lib.hid (end_rr (D4.out.d.keep (w' := w4.drewN m5) rfl (fun _ _ => rfl)))
      go_wp2_with fail
      refine hK.out _ _ d5 (fun hHeld2 => ?_)
      clear hK K hHeld
      have hHeld := hHeld2
      clear hHeld2
      try simp only [Act.put, List.setIfInBounds_toArray, List.set_cons_zero, List.set_cons_succ]
      refine wpAnyH_take (i := 13) (oi := ⟨some 42, .binOp .neq 3 (.tmp 39) (.tmp 41) 3, _, _, _, _⟩) (v := .bool false) rfl (by kernel_rfl) (by kernel_rfl) (by kernel_rfl) (fun _ _ _ h => h) (Or.inl ⟨by rfl, fun w hSw => ?_⟩) (by assumption) ?_
      · go_simp
      try simp only [Act.put, List.setIfInBounds_toArray, List.set_cons_zero, List.set_cons_succ]
      refine wpAnyH_take (i := 14) (oi := ⟨some 43, .pick (.tmp 37) (.const (.bool true)) (.tmp 42), _, _, _, _⟩) (v := .bool false) rfl (by kernel_rfl) (by kernel_rfl) (by kernel_rfl) (fun _ _ _ h => h) (Or.inl ⟨by rfl, fun w hSw => ?_⟩) (by assumption) ?_
      · go_simp
      try simp only [Act.put, List.setIfInBounds_toArray, List.set_cons_zero, List.set_cons_succ]
      refine wpAnyH_take (i := 15) (oi := ⟨some 44, .move (.tmp 43), _, _, _, _⟩) (v := .bool false) rfl (by kernel_rfl) (by kernel_rfl) (by kernel_rfl) (fun _ _ _ h => h) (Or.inl ⟨by rfl, fun w hSw => ?_⟩) (by assumption) ?_
      · go_simp
      try simp only [Act.put, List.setIfInBounds_toArray, List.set_cons_zero, List.set_cons_succ]
      refine wpAnyH_take (i := 16) (oi := ⟨some 45, .move (.tmp 6), _, _, _, _⟩) (v := .pointer (some ⟨rb, 0, none⟩)) rfl (by kernel_rfl) (by kernel_rfl) (by kernel_rfl) (fun _ _ _ h => h) (Or.inl ⟨by rfl, fun w hSw => ?_⟩) (by assumption) ?_
      · go_simp
      try simp only [Act.put, List.setIfInBounds_toArray, List.set_cons_zero, List.set_cons_succ]
      refine wpAnyH_take (i := 18) (oi := ⟨some 47, .move (.tmp 7), _, _, _, _⟩) (v := .pointer (some ⟨wb, 0, none⟩)) rfl (by kernel_rfl) (by kernel_rfl) (by kernel_rfl) (fun _ _ _ h => h) (Or.inl ⟨by rfl, fun w hSw => ?_⟩) (by assumption) ?_
      · go_simp
      try simp only [Act.put, List.setIfInBounds_toArray, List.set_cons_zero, List.set_cons_succ]
      refine wpAnyH_take (i := 19) (oi := ⟨some 48, .nilCheck (.tmp 47), _, _, _, _⟩) (v := .pointer (some ⟨wb, 0, none⟩)) rfl (by kernel_rfl) (by kernel_rfl) (by kernel_rfl) (fun _ _ _ h => h) (Or.inl ⟨by rfl, fun w hSw => ?_⟩) (by assumption) ?_
      · go_simp
      try simp only [Act.put, List.setIfInBounds_toArray, List.set_cons_zero, List.set_cons_succ]
      refine wpAnyH_take (i := 20) (oi := ⟨some 49, .fieldAddr 46 (.tmp 48) 2, _, _, _, _⟩) (v := .pointer (some ⟨wb, 2, none⟩)) rfl (by kernel_rfl) (by kernel_rfl) (by kernel_rfl) (fun _ _ _ h => h) (Or.inl ⟨by rfl, fun w hSw => ?_⟩) (by assumption) ?_
      · go_simp
      try simp only [Act.put, List.setIfInBounds_toArray, List.set_cons_zero, List.set_cons_succ]
      refine wpAnyH_ready (rs := [17, 21]) (by kernel_rfl) (by simp) ?_
      refine AllReadyH.cons (o := ⟨some 46, .call { callee := .value (.func 19), args := #[.tmp 45], argTypes := #[38] }, _, _, _, _⟩) rfl (fun K hK => ?_) (AllReadyH.cons (o := ⟨some 50, .load 3 (.tmp 49), _, _, _, _⟩) rfl (fun K hK => ?_) AllReadyH.nil)
      · go_simp
        refine EC.out.mono ?_
        rintro e w6 ⟨rfl, rfl⟩
        go_wp2_with fail
        refine hK.out _ _ d5 (fun hHeld2 => ?_)
        clear hK K hHeld
        have hHeld := hHeld2
        clear hHeld2
        try simp only [Act.put, List.setIfInBounds_toArray, List.set_cons_zero, List.set_cons_succ]
        refine wpAnyH_ready (rs := [21]) (by kernel_rfl) (by simp) ?_
        refine AllReadyH.cons (o := ⟨some 50, .load 3 (.tmp 49), _, _, _, _⟩) rfl (fun K hK => ?_) AllReadyH.nil
        go_simp
        refine hK.out _ _ d5 (fun hHeld2 => ?_)
        clear hK K hHeld
        have hHeld := hHeld2
        clear hHeld2
        try simp only [Act.put, List.setIfInBounds_toArray, List.set_cons_zero, List.set_cons_succ]
        refine wpAnyH_take (i := 22) (oi := ⟨some 51, .binOp .neq 3 (.tmp 46) (.tmp 50) 3, _, _, _, _⟩) (v := .bool false) rfl (by kernel_rfl) (by kernel_rfl) (by kernel_rfl) (fun _ _ _ h => h) (Or.inl ⟨by rfl, fun w hSw => ?_⟩) (by assumption) ?_
        · go_simp
        try simp only [Act.put, List.setIfInBounds_toArray, List.set_cons_zero, List.set_cons_succ]
        refine wpAnyH_take (i := 23) (oi := ⟨some 52, .pick (.tmp 44) (.const (.bool true)) (.tmp 51), _, _, _, _⟩) (v := .bool false) rfl (by kernel_rfl) (by kernel_rfl) (by kernel_rfl) (fun _ _ _ h => h) (Or.inl ⟨by rfl, fun w hSw => ?_⟩) (by assumption) ?_
        · go_simp
        try simp only [Act.put, List.setIfInBounds_toArray, List.set_cons_zero, List.set_cons_succ]
        refine wpAnyH_take (i := 24) (oi := ⟨some 53, .move (.tmp 52), _, _, _, _⟩) (v := .bool false) rfl (by kernel_rfl) (by kernel_rfl) (by kernel_rfl) (fun _ _ _ h => h) (Or.inl ⟨by rfl, fun w hSw => ?_⟩) (by assumption) ?_
        · go_simp
        try simp only [Act.put, List.setIfInBounds_toArray, List.set_cons_zero, List.set_cons_succ]
        refine wpAnyH_take (i := 25) (oi := ⟨some 54, .move (.tmp 6), _, _, _, _⟩) (v := .pointer (some ⟨rb, 0, none⟩)) rfl (by kernel_rfl) (by kernel_rfl) (by kernel_rfl) (fun _ _ _ h => h) (Or.inl ⟨by rfl, fun w hSw => ?_⟩) (by assumption) ?_
        · go_simp
        try simp only [Act.put, List.setIfInBounds_toArray, List.set_cons_zero, List.set_cons_succ]
        refine wpAnyH_take (i := 27) (oi := ⟨some 56, .move (.tmp 7), _, _, _, _⟩) (v := .pointer (some ⟨wb, 0, none⟩)) rfl (by kernel_rfl) (by kernel_rfl) (by kernel_rfl) (fun _ _ _ h => h) (Or.inl ⟨by rfl, fun w hSw => ?_⟩) (by assumption) ?_
        · go_simp
        try simp only [Act.put, List.setIfInBounds_toArray, List.set_cons_zero, List.set_cons_succ]
        refine wpAnyH_ready (rs := [26]) (by kernel_rfl) (by simp) ?_
        refine AllReadyH.cons (o := ⟨some 55, .call { callee := .value (.func 20), args := #[.tmp 54], argTypes := #[38] }, _, _, _, _⟩) rfl (fun K hK => ?_) AllReadyH.nil
        go_simp
        refine EN.out.mono ?_
        rintro e w6 ⟨rfl, rfl⟩
        go_wp2_with fail
        refine hK.out _ _ d5 (fun hHeld2 => ?_)
        clear hK K hHeld
        have hHeld := hHeld2
        clear hHeld2
        try simp only [Act.put, List.setIfInBounds_toArray, List.set_cons_zero, List.set_cons_succ]
        refine wpAnyH_ready (rs := [28]) (by kernel_rfl) (by simp) ?_
        refine AllReadyH.cons (o := ⟨some 57, .call { callee := .value (.func 21), args := #[.tmp 56], argTypes := #[40] }, _, _, _, _⟩) rfl (fun K hK => ?_) AllReadyH.nil
        go_simp
        refine EM.out.mono ?_
        rintro e w6 ⟨rfl, m6, rfl⟩
        go_wp2_with fail
        refine hK.out _ _ d5 (fun hHeld2 => ?_)
        clear hK K hHeld
        have hHeld := hHeld2
        clear hHeld2
        try simp only [Act.put, List.setIfInBounds_toArray, List.set_cons_zero, List.set_cons_succ]
        refine wpAnyH_take (i := 29) (oi := ⟨some 58, .binOp .neq 3 (.tmp 55) (.tmp 57) 3, _, _, _, _⟩) (v := .bool false) rfl (by kernel_rfl) (by kernel_rfl) (by kernel_rfl) (fun _ _ _ h => h) (Or.inl ⟨by rfl, fun w hSw => ?_⟩) (by assumption) ?_
        · go_simp
        try simp only [Act.put, List.setIfInBounds_toArray, List.set_cons_zero, List.set_cons_succ]
        refine wpAnyH_take (i := 30) (oi := ⟨some 59, .pick (.tmp 53) (.const (.bool true)) (.tmp 58), _, _, _, _⟩) (v := .bool false) rfl (by kernel_rfl) (by kernel_rfl) (by kernel_rfl) (fun _ _ _ h => h) (Or.inl ⟨by rfl, fun w hSw => ?_⟩) (by assumption) ?_
        · go_simp
        try simp only [Act.put, List.setIfInBounds_toArray, List.set_cons_zero, List.set_cons_succ]
        refine wpAnyH_done (by kernel_rfl) ?_ _
        refine NoPanic.normal ?_
        have D7 : Hid (Duo (w4.drewN (m5 + m6)) rb wb Y w.heap.size (why, rest)) := Lib.hid (D4.out.grown (Go.Proofs.Ytcihbkdpkhhhcaa.grown_drewN w4 (m5 + m6) none) (fun k hk => by cases hk))
        have Q7 : Hid (Below rb w3 (w4.drewN (m5 + m6))) := Lib.hid (below_drewN Q4.out (m5 + m6))
        go_wp2
        go_roundw
        case rel => exact ⟨k + 1, by omega, by go_num, _, D7, Q7⟩
        case measure => simp [intOf]; omega
      · go_simp
        refine hK.out _ _ d5 (fun hHeld2 => ?_)
        clear hK K hHeld
        have hHeld := hHeld2
        clear hHeld2
        try simp only [Act.put, List.setIfInBounds_toArray, List.set_cons_zero, List.set_cons_succ]
        refine wpAnyH_ready (rs := [17]) (by kernel_rfl) (by simp) ?_
        refine AllReadyH.cons (o := ⟨some 46, .call { callee := .value (.func 19), args := #[.tmp 45], argTypes := #[38] }, _, _, _, _⟩) rfl (fun K hK => ?_) AllReadyH.nil
        go_simp
        refine EC.out.mono ?_
        rintro e w6 ⟨rfl, rfl⟩
        go_wp2_with fail
        refine hK.out _ _ d5 (fun hHeld2 => ?_)
        clear hK K hHeld
        have hHeld := hHeld2
        clear hHeld2
        try simp only [Act.put, List.setIfInBounds_toArray, List.set_cons_zero, List.set_cons_succ]
        refine wpAnyH_take (i := 22) (oi := ⟨some 51, .binOp .neq 3 (.tmp 46) (.tmp 50) 3, _, _, _, _⟩) (v := .bool false) rfl (by kernel_rfl) (by kernel_rfl) (by kernel_rfl) (fun _ _ _ h => h) (Or.inl ⟨by rfl, fun w hSw => ?_⟩) (by assumption) ?_
        · go_simp
        try simp only [Act.put, List.setIfInBounds_toArray, List.set_cons_zero, List.set_cons_succ]
        refine wpAnyH_take (i := 23) (oi := ⟨some 52, .pick (.tmp 44) (.const (.bool true)) (.tmp 51), _, _, _, _⟩) (v := .bool false) rfl (by kernel_rfl) (by kernel_rfl) (by kernel_rfl) (fun _ _ _ h => h) (Or.inl ⟨by rfl, fun w hSw => ?_⟩) (by assumption) ?_
        · go_simp
        try simp only [Act.put, List.setIfInBounds_toArray, List.set_cons_zero, List.set_cons_succ]
        refine wpAnyH_take (i := 24) (oi := ⟨some 53, .move (.tmp 52), _, _, _, _⟩) (v := .bool false) rfl (by kernel_rfl) (by kernel_rfl) (by kernel_rfl) (fun _ _ _ h => h) (Or.inl ⟨by rfl, fun w hSw => ?_⟩) (by assumption) ?_
        · go_simp
        try simp only [Act.put, List.setIfInBounds_toArray, List.set_cons_zero, List.set_cons_succ]
        refine wpAnyH_take (i := 25) (oi := ⟨some 54, .move (.tmp 6), _, _, _, _⟩) (v := .pointer (some ⟨rb, 0, none⟩)) rfl (by kernel_rfl) (by kernel_rfl) (by kernel_rfl) (fun _ _ _ h => h) (Or.inl ⟨by rfl, fun w hSw => ?_⟩) (by assumption) ?_
        · go_simp
        try simp only [Act.put, List.setIfInBounds_toArray, List.set_cons_zero, List.set_cons_succ]
        refine wpAnyH_take (i := 27) (oi := ⟨some 56, .move (.tmp 7), _, _, _, _⟩) (v := .pointer (some ⟨wb, 0, none⟩)) rfl (by kernel_rfl) (by kernel_rfl) (by kernel_rfl) (fun _ _ _ h => h) (Or.inl ⟨by rfl, fun w hSw => ?_⟩) (by assumption) ?_
        · go_simp
        try simp only [Act.put, List.setIfInBounds_toArray, List.set_cons_zero, List.set_cons_succ]
        refine wpAnyH_ready (rs := [26]) (by kernel_rfl) (by simp) ?_
        refine AllReadyH.cons (o := ⟨some 55, .call { callee := .value (.func 20), args := #[.tmp 54], argTypes := #[38] }, _, _, _, _⟩) rfl (fun K hK => ?_) AllReadyH.nil
        go_simp
        refine EN.out.mono ?_
        rintro e w6 ⟨rfl, rfl⟩
        go_wp2_with fail
        refine hK.out _ _ d5 (fun hHeld2 => ?_)
        clear hK K hHeld
        have hHeld := hHeld2
        clear hHeld2
        try simp only [Act.put, List.setIfInBounds_toArray, List.set_cons_zero, List.set_cons_succ]
        refine wpAnyH_ready (rs := [28]) (by kernel_rfl) (by simp) ?_
        refine AllReadyH.cons (o := ⟨some 57, .call { callee := .value (.func 21), args := #[.tmp 56], argTypes := #[40] }, _, _, _, _⟩) rfl (fun K hK => ?_) AllReadyH.nil
        go_simp
        refine EM.out.mono ?_
        rintro e w6 ⟨rfl, m6, rfl⟩
        go_wp2_with fail
        refine hK.out _ _ d5 (fun hHeld2 => ?_)
        clear hK K hHeld
        have hHeld := hHeld2
        clear hHeld2
        try simp only [Act.put, List.setIfInBounds_toArray, List.set_cons_zero, List.set_cons_succ]
        refine wpAnyH_take (i := 29) (oi := ⟨some 58, .binOp .neq 3 (.tmp 55) (.tmp 57) 3, _, _, _, _⟩) (v := .bool false) rfl (by kernel_rfl) (by kernel_rfl) (by kernel_rfl) (fun _ _ _ h => h) (Or.inl ⟨by rfl, fun w hSw => ?_⟩) (by assumption) ?_
        · go_simp
        try simp only [Act.put, List.setIfInBounds_toArray, List.set_cons_zero, List.set_cons_succ]
        refine wpAnyH_take (i := 30) (oi := ⟨some 59, .pick (.tmp 53) (.const (.bool true)) (.tmp 58), _, _, _, _⟩) (v := .bool false) rfl (by kernel_rfl) (by kernel_rfl) (by kernel_rfl) (fun _ _ _ h => h) (Or.inl ⟨by rfl, fun w hSw => ?_⟩) (by assumption) ?_
        · go_simp
        try simp only [Act.put, List.setIfInBounds_toArray, List.set_cons_zero, List.set_cons_succ]
        refine wpAnyH_done (by kernel_rfl) ?_ _
        refine NoPanic.normal ?_
        have D7 : Hid (Duo (w4.drewN (m5 + m6)) rb wb Y w.heap.size (why, rest)) := Lib.hid (D4.out.grown (Go.Proofs.Ytcihbkdpkhhhcaa.grown_drewN w4 (m5 + m6) none) (fun k hk => by cases hk))
        have Q7 : Hid (Below rb w3 (w4.drewN (m5 + m6))) := Lib.hid (below_drewN Q4.out (m5 + m6))
        go_wp2
        go_roundw
        case rel => exact ⟨k + 1, by omega, by go_num, _, D7, Q7⟩
        case measure => simp [intOf]; omega
    · obtain rfl : k = m := by omega
      have ER := Lib.hid (end_rd DD.out.r)
      have EW := Lib.hid (end_rr DD.out.d)
      have z1 : Bs wr rb D n bs := Z3.out.below QQ.out
      have z2 : Bs wr w.heap.size A0 n bs := HB.out.below (Q3.out.trans (QQ.out.mono hrb))
      have SC : Hid (∀ m7, Calls Try.prog 13 #[.slice D n d, .slice A0 n c0] (wr.drewN m7) (Quiet (.bool (eqB bs bs)) (wr.drewN m7))) := Lib.hid (fun m7 => refsame_any d c0 (z1.drewN m7) (z2.drewN m7) HM.out HM.out)
      rw [eqB_sameO] at SC
      have Q8 : Hid (∀ m7, Below w.heap.size w (wr.drewN m7)) := Lib.hid (fun m7 => below_drewN (Q3.out.trans (QQ.out.mono hrb)) m7)
      clear z1 z2 DD QQ
      go_wp2_with (first
        | (go_at_call 20; refine ER.out.mono ?_; rintro e w5 ⟨rfl, rfl⟩)
        | (go_at_call 21; refine EW.out.mono ?_; rintro e w6 ⟨rfl, m6, rfl⟩; have S7 := Lib.hid (SC.out m6))
        | (go_at_call 13; refine S7.out.mono ?_; rintro e w7 ⟨rfl, m7, rfl⟩))
      go_ret
      exact ⟨rfl, Q8.out (m6 + m7)⟩
end Go.Proofs.Ytcihbkdpkhhhcaa
