/- Where the first link stands that is not as it must be. -/
import Derived.Test.YtkaojhcmdichfaaDoorAuF
namespace Go.Proofs.YtkaojhcmdichfaaDoor
open Go.ChangeShapes Go.WideShapes Go.ChangeAt Go.RowKit
set_option linter.unusedVariables false
set_option linter.unusedSimpArgs false
open Plain Sha Au
set_option maxRecDepth 100000 in
set_option maxHeartbeats 4000000 in
theorem check_any {w : World} {B : Nat} {A : Option Addr} {n c : Nat} {l : List LinkZ} (h : Lks w B A n l) (hB : B ≤ w.heap.size) (hn : n ≤ 100000) (hc : n ≤ c) (hcm : c ≤ maxLen) (hF : LaidF w) (hK : LaidK w) :
    Calls Tryd.prog 14 #[.slice A n c] w (fun e w' => e = .returned (.int .i64 (checkZ l)) ∧ Below w.heap.size w w') := by
  have H := Lib.hid h
  have HN := Lib.hid h.len
  have HF0 := Lib.hid hF
  have HK0 := Lib.hid hK
  have HCM : c ≤ 9223372036854775807 := by unfold maxLen at hcm; exact hcm
  have zk := zLk
  have zs := zLc_size
  have zn := zLc_ne
  clear h hF hK hcm
  go_enter Tryd.func14, Tryd.ntmps14
  go_wp2
  go_loopw [7] (fun i wr => ∃ k : Nat, k ≤ n ∧ i = .int .i64 k ∧ Below w.heap.size w wr ∧ Hid (checkZ l = checkFrom (l.take k) (l.drop k))) (fun i _ => n - (intOf i).toNat)
  case atStart => exact ⟨0, by omega, rfl, Below.refl _ _, Lib.hid rfl⟩
  case round =>
    obtain ⟨k, hk, rfl, hbel, HZ⟩ := hrel
    by_cases hlt : k < n
    · obtain ⟨b, off, g, rfl, hb, HGA, hg, hr⟩ := (H.out.below hbel hB).at_ hlt
      have hlI : (k : Int) < n := by omega
      have HR := Lib.hid hr
      have TH : Hid ((wr.alloc (.cells zLc 26)).there wr.heap.size 0 (lc g).toArray.size) := Lib.hid (lthere_new wr g _ _ rfl)
      have G1 := TH
      have G2 := TH
      have HG := Lib.hid hg
      have HBL := Lib.hid hbel
      clear hr hg hbel
      go_upto_region 4 with (first
      | (have g := G1; clear g; refine wpList_load_mid (op := ⟨some 11, .load 26 (.tmp 10), _, _, _, _⟩) rfl 26 (.tmp 10) rfl (b) (off + k * 71) rfl (lc g) _ (HR.out) Tryd.underlying26 rfl (lk_size g) ?_; clear G1)
      | (have g := G2; clear g; refine wpList_store_as (op := ⟨none, .store 26 (.tmp 4) (.tmp 11), _, _, _, _⟩) rfl 26 (.tmp 4) (.tmp 11) rfl (wr.heap.size) 0 (lc g).toArray rfl rfl (TH.out) (lk_sizeA g) (lk_one g) ?_; intro w2 hw2; clear G2))
      obtain ⟨x2, b2, s2⟩ := lbox_stored rfl hw2
      have HB2 := Lib.hid (HBL.out.trans (b2.mono HBL.out.size))
      have C0 : Hid (Below w2.heap.size w2 w2.drew) := Lib.hid (Below.refl _ _).drew
      have HX : Hid (∀ W, Below w2.heap.size w2 W → LBox W wr.heap.size g) := Lib.hid (fun W hW => x2.grow hW)
      have HBs : Hid (B ≤ w2.heap.size) := Lib.hid (Nat.le_trans hB HB2.out.size)
      have HLk : Hid (∀ W, Below w2.heap.size w2 W → Lks W B (some ⟨b, off, none⟩) k (l.take k)) := Lib.hid (fun W hW => ((H.out.below HB2.out hB).front k hk).below hW HBs.out)
      have HF2 := Lib.hid (HF0.out.below HB2.out HF0.out.lt)
      have HK2 := Lib.hid (HK0.out.below HB2.out HK0.out.lt)
      obtain ⟨q, hq⟩ : ∃ q, follows (l.take k) g = q := ⟨_, rfl⟩
      have HQ := Lib.hid hq
      have HZ2 : Hid (checkZ l = if q then checkFrom (l.take (k + 1)) (l.drop (k + 1)) else (k : Int) + 1) := Lib.hid (by rw [HZ.out, check_step l k g HGA.out, hq])
      have hkc : (k : Int) ≤ c := by omega
      clear hw2 x2 b2 hq HZ
      refine Late.region (fun w' => Below w2.heap.size w2 w') [] (by kernel_rfl) C0.out (fun hHeld => ?_)
      refine Late.take (i := 0) (oi := ⟨some 12, Op.move (Operand.tmp 0), _, _, _, _⟩) (v := ?_) rfl (by kernel_rfl) (by kernel_rfl) (by kernel_rfl) (by kernel_rfl) (fun _ _ _ h => h) (Or.inl ⟨by rfl, fun w hSw => ?_⟩) (by assumption) ?_
      rotate_left
      · (have s1 := hSw; go_simp; try with_reducible rfl)
      try simp only [Act.put, List.setIfInBounds_toArray, List.set_cons_zero, List.set_cons_succ]
      refine Late.take (i := 1) (oi := ⟨some 13, Op.move (Operand.tmp 3), _, _, _, _⟩) (v := ?_) rfl (by kernel_rfl) (by kernel_rfl) (by kernel_rfl) (by kernel_rfl) (fun _ _ _ h => h) (Or.inl ⟨by rfl, fun w hSw => ?_⟩) (by assumption) ?_
      rotate_left
      · (have s1 := hSw; go_simp; try with_reducible rfl)
      try simp only [Act.put, List.setIfInBounds_toArray, List.set_cons_zero, List.set_cons_succ]
      refine Late.take (i := 2) (oi := ⟨some 14, Op.slice 22 (Operand.tmp 12) none (some (Operand.tmp 13)) none, _, _, _, _⟩) (v := ?_) rfl (by kernel_rfl) (by kernel_rfl) (by kernel_rfl) (by kernel_rfl) (fun _ _ _ h => h) (Or.inl ⟨by rfl, fun w hSw => ?_⟩) (by assumption) ?_
      rotate_left
      · (have s1 := hSw; go_simp; try with_reducible rfl)
      try simp only [Act.put, List.setIfInBounds_toArray, List.set_cons_zero, List.set_cons_succ]
      refine Late.take (i := 3) (oi := ⟨some 15, Op.load 26 (Operand.tmp 4), _, _, _, _⟩) (v := _) rfl (by kernel_rfl) (by kernel_rfl) (by kernel_rfl) (by kernel_rfl) (fun _ _ _ h => h) (yieldsIf_load_mid (by rfl) _ _ rfl _ _ rfl (lc g) _ (fun W hW => (HX.out W hW).range) Tryd.underlying26 rfl (lk_size g)) (by assumption) ?_
      try simp only [Act.put, List.setIfInBounds_toArray, List.set_cons_zero, List.set_cons_succ]
      refine Late.one (i := 4) (o := ⟨some 16, Op.call { callee := Callee.value (Operand.func 23), args := #[Operand.tmp 14, Operand.tmp 15], argTypes := #[22, 26] }, _, _, _, _⟩) (by kernel_rfl) rfl (fun K hK => ?_)
      go_simp
      refine (follows_any (g := g) c (HLk.out _ C0.out) (Nat.le_trans HBs.out C0.out.size) (by omega) HG.out (HF2.out.below C0.out HF2.out.lt) (HK2.out.below C0.out HK2.out.lt)).mono ?_
      rw [HQ.out]
      rintro e v1 ⟨rfl, hb⟩
      have C1 := Lib.hid (C0.out.trans (hb.mono C0.out.size))
      have HQ2 := Lib.hid HQ.out
      clear hb
      refine hK.out _ _ (C1.out) (fun hHeld2 => ?_)
      clear hK K hHeld
      have hHeld := hHeld2
      clear hHeld2
      try simp only [Act.put, List.setIfInBounds_toArray, List.set_cons_zero, List.set_cons_succ]
      refine Late.take (i := 5) (oi := ⟨some 17, Op.unOp UnOp.not 4 (Operand.tmp 16), _, _, _, _⟩) (v := ?_) rfl (by kernel_rfl) (by kernel_rfl) (by kernel_rfl) (by kernel_rfl) (fun _ _ _ h => h) (Or.inl ⟨by rfl, fun w hSw => ?_⟩) (by assumption) ?_
      rotate_left
      · (have s1 := hSw; go_simp; try with_reducible rfl)
      try simp only [Act.put, List.setIfInBounds_toArray, List.set_cons_zero, List.set_cons_succ]
      refine Late.done (by kernel_rfl) ?_ _
      refine NoPanic.normal ?_
      have HV := Lib.hid (HB2.out.trans (C1.out.mono HB2.out.size))
      clear hHeld C1 C0
      cases q
      · have HZ3 : Hid (checkZ l = (k : Int) + 1) := Lib.hid (by rw [HZ2.out]; rfl)
        go_wp2
        go_ret
        exact ⟨by rw [HZ3.out]; rfl, HV.out⟩
      · have HZ3 : Hid (checkZ l = checkFrom (l.take (k + 1)) (l.drop (k + 1))) := Lib.hid (by rw [HZ2.out]; rfl)
        go_wp2
        go_roundw
        case rel => exact ⟨k + 1, by omega, by go_num, HV.out, HZ3⟩
        case measure => simp [intOf]; omega
    · have HZ3 : Hid (checkZ l = 0) := Lib.hid (by rw [HZ.out, show k = l.length by rw [HN.out]; omega]; exact check_end l)
      have HV := Lib.hid hbel
      clear hbel HZ
      go_wp2
      go_ret
      exact ⟨by rw [HZ3.out]; rfl, HV.out⟩
end Go.Proofs.YtkaojhcmdichfaaDoor
