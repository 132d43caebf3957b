/- token.Check, token.Verify. -/
import Derived.Test.YtmeafjehcckibaaDoorB8
import Derived.Test.YtmeafjehcckibaaDoorB4
namespace Go.Proofs.YtmeafjehcckibaaDoor
open Go.ChangeShapes Go.WideShapes Go.ChangeAt Go.RowKit
set_option linter.unusedVariables false
set_option linter.unusedSimpArgs false
open Plain Sha
/-- Whether a token checks under a key, and verifies. -/
def checkP (ks : List Int) (p : PTok) : Int := if mayT p.tn p.l then (if eqB p.T (tokTag ks p.tn p.l) then 0 else 91) else 90
def verifyP (ks : List Int) (p : PTok) (now need : Int) : Int := if checkP ks p = 0 then (if lvX p.l ≤ now then 92 else if hasB (lvR p.l) need then 0 else 94) else checkP ks p
theorem may_len {tn : Int} {l : List GrantZ} (h : mayT tn l = true) : 0 < l.length ∧ l.length ≤ 4 := by simp [mayT, lineB] at h; omega
set_option maxRecDepth 100000 in
set_option maxHeartbeats 4000000 in
theorem check_any {w : World} {B1 B2 n1 : Nat} {A1 : Option Addr} (c1 : Nat) {ks : List Int} {t : TokZ} {l : List GrantZ} (hk : Bs w B1 A1 n1 ks) (h : Tok w B2 t l) (hB1 : B1 ≤ w.heap.size) (hB2 : B2 ≤ w.heap.size) (hn1 : n1 ≤ 10000) (hF : LaidF w) (hK : LaidK w) :
    Calls Tryd.prog 25 #[.slice A1 n1 c1, .agg (tv t).toArray] w (fun e w' => e = .returned (.int .i64 (checkP ks (pt t l))) ∧ Below w.heap.size w w') := by
  obtain ⟨W1, hW1⟩ : ∃ W, W = w.alloc (.cells (tv t).toArray 26) := ⟨_, rfl⟩
  have b1 : Below w.heap.size w W1 := by rw [hW1]; exact (Below.refl _ _).alloc (Nat.le_refl _) _
  have HX1 : Hid (Box W1 w.heap.size t) := Lib.hid (by rw [hW1]; exact box_new w t h.len _ _ rfl)
  have HB1 := Lib.hid b1
  have HT1 := Lib.hid (h.belowM b1 hB2)
  have HKEY := Lib.hid (hk.belowM b1 hB1)
  have HF1 := Lib.hid (hF.below b1 hF.lt)
  have HK1 := Lib.hid (hK.below b1 hK.lt)
  have HW1 := Lib.hid hW1
  have HL : Hid (t.T.length = 32) := Lib.hid h.len
  have hs1 := b1.size
  obtain ⟨q, hq⟩ : ∃ q, mayT t.tn l = q := ⟨_, rfl⟩
  have HQ := Lib.hid hq
  have TM := Lib.hid (tmay_val q HT1.out (Nat.le_trans hB2 hs1) hq)
  clear hk h hF hK hW1 b1 hq
  have G1 := HL
  go_enter Tryd.func25, Tryd.ntmps25
  go_upto_region 1 with fail
  rw [← HW1.out]
  cases q
  · have HP : Hid (checkP ks (pt t l) = 90) := Lib.hid (by unfold checkP pt; rw [HQ.out]; rfl)
    go_wp2_with (first
    | (have g := G1; clear g; refine wpList_load_mid (op := ⟨some 5, .load 26 (.tmp 3), _, _, _, _⟩) rfl 26 (.tmp 3) rfl (w.heap.size) 0 rfl (tv t) _ HX1.out.range Tryd.underlying26 rfl (tok_size HX1.out.len) ?_; clear G1)
    | (go_at_call 16; refine TM.out.mono ?_; rintro e w4 ⟨rfl, hb4⟩))
    go_ret
    rw [HP.out]
    exact ⟨rfl, HB1.out.trans (hb4.mono hs1)⟩
  have hl0 := may_len HQ.out
  have hlm := HT1.out.line.len
  obtain ⟨TT, hTT⟩ : ∃ T, tokTag ks t.tn l = T := ⟨_, rfl⟩
  obtain ⟨E, hE⟩ : ∃ q, eqB t.T TT = q := ⟨_, rfl⟩
  have LT : TT.length = 32 := by rw [← hTT]; exact tokTag_len _ _ _
  have BT : IsBytes TT := by rw [← hTT]; exact tokTag_bytes _ _ _
  have HP : Hid (checkP ks (pt t l) = if E then 0 else 91) := Lib.hid (by unfold checkP pt; rw [HQ.out, hTT, hE]; rfl)
  have HTT := Lib.hid hTT
  have HE := Lib.hid hE
  have HLT := Lib.hid LT
  have HBT := Lib.hid BT
  have hbT := Lib.hid HT1.out.bytes
  clear hTT hE LT BT
  go_upto_region 3 with (first
    | (have g := G1; clear g; refine wpList_load_mid (op := ⟨some 5, .load 26 (.tmp 3), _, _, _, _⟩) rfl 26 (.tmp 3) rfl (w.heap.size) 0 rfl (tv t) _ HX1.out.range Tryd.underlying26 rfl (tok_size HX1.out.len) ?_; clear G1)
    | (go_at_call 16; refine TM.out.mono ?_; rintro e w4 ⟨rfl, hb4⟩; have B4 := Lib.hid hb4; clear hb4))
  refine Late.region (fun w' => Below W1.heap.size W1 w') [] (by kernel_rfl) B4.out.drew (fun hHeld => ?_)
  refine Late.take (i := 0) (oi := ⟨some 8, Op.fieldAddr 26 (Operand.tmp 3) 2, _, _, _, _⟩) (v := ?_) rfl (by kernel_rfl) (by kernel_rfl) (by kernel_rfl) (by kernel_rfl) (fun _ _ _ h => h) (Or.inl ⟨by rfl, fun w hSw => ?_⟩) (by assumption) ?_
  rotate_left
  · (have s1 := hSw; go_simp; try with_reducible rfl)
  try simp only [Act.put, List.setIfInBounds_toArray, List.set_cons_zero, List.set_cons_succ]
  refine Late.take (i := 1) (oi := ⟨some 9, Op.load 24 (Operand.tmp 8), _, _, _, _⟩) (v := _) rfl (by kernel_rfl) (by kernel_rfl) (by kernel_rfl) (by kernel_rfl) (fun _ _ _ h => h) (yieldsIf_load_mid (by rfl) _ _ rfl _ _ rfl (vals t.T) _ (fun _ h => (HX1.out.grow h).tag) Tryd.underlying24 rfl (tag_size t.T HL.out)) (by assumption) ?_
  try simp only [Act.put, List.setIfInBounds_toArray, List.set_cons_zero, List.set_cons_succ]
  refine Late.take (i := 2) (oi := ⟨some 10, Op.move (Operand.tmp 0), _, _, _, _⟩) (v := ?_) rfl (by kernel_rfl) (by kernel_rfl) (by kernel_rfl) (by kernel_rfl) (fun _ _ _ h => h) (Or.inl ⟨by rfl, fun w hSw => ?_⟩) (by assumption) ?_
  rotate_left
  · (have s1 := hSw; go_simp; try with_reducible rfl)
  try simp only [Act.put, List.setIfInBounds_toArray, List.set_cons_zero, List.set_cons_succ]
  refine Late.take (i := 3) (oi := ⟨some 11, Op.load 26 (Operand.tmp 3), _, _, _, _⟩) (v := _) rfl (by kernel_rfl) (by kernel_rfl) (by kernel_rfl) (by kernel_rfl) (fun _ _ _ h => h) (yieldsIf_load_mid (by rfl) _ _ rfl _ _ rfl (tv t) _ (fun _ h => (HX1.out.grow h).range) Tryd.underlying26 rfl (tok_size HL.out)) (by assumption) ?_
  try simp only [Act.put, List.setIfInBounds_toArray, List.set_cons_zero, List.set_cons_succ]
  refine Late.one (i := 4) (o := ⟨some 12, Op.call { callee := Callee.value (Operand.func 31), args := #[Operand.tmp 10, Operand.tmp 11], argTypes := #[27, 26] }, _, _, _, _⟩) (by kernel_rfl) rfl (fun K hK => ?_)
  go_simp
  refine (tagged_any c1 (HKEY.out.belowM hHeld (Nat.le_trans hB1 hs1)) (HT1.out.belowM hHeld (Nat.le_trans hB2 hs1)) (Nat.le_trans (Nat.le_trans hB1 hs1) hHeld.size) (Nat.le_trans (Nat.le_trans hB2 hs1) hHeld.size) (by omega) (by omega) (by omega) (HF1.out.below hHeld HF1.out.lt) (HK1.out.below hHeld HK1.out.lt)).mono ?_
  rw [HTT.out]
  rintro e w5 ⟨rfl, b5⟩
  refine hK.out _ _ (hHeld.trans (b5.mono hHeld.size)) (fun hHeld2 => ?_)
  clear hK K hHeld
  have hHeld := hHeld2
  clear hHeld2
  try simp only [Act.put, List.setIfInBounds_toArray, List.set_cons_zero, List.set_cons_succ]
  refine Late.one (i := 5) (o := ⟨some 13, Op.call { callee := Callee.value (Operand.func 35), args := #[Operand.tmp 9, Operand.tmp 12], argTypes := #[24, 24] }, _, _, _, _⟩) (by kernel_rfl) rfl (fun K hK => ?_)
  go_simp
  refine (hsame_any t.T TT HL.out HLT.out hbT.out HBT.out w5).mono ?_
  rw [HE.out]
  rintro e w6 ⟨rfl, b6⟩
  refine hK.out _ _ (hHeld.trans (b6.mono hHeld.size)) (fun hHeld2 => ?_)
  clear hK K hHeld
  have hHeld := hHeld2
  clear hHeld2
  try simp only [Act.put, List.setIfInBounds_toArray, List.set_cons_zero, List.set_cons_succ]
  refine Late.take (i := 6) (oi := ⟨some 14, Op.unOp UnOp.not 4 (Operand.tmp 13), _, _, _, _⟩) (v := ?_) rfl (by kernel_rfl) (by kernel_rfl) (by kernel_rfl) (by kernel_rfl) (fun _ _ _ h => h) (Or.inl ⟨by rfl, fun w hSw => ?_⟩) (by assumption) ?_
  rotate_left
  · (have s1 := hSw; go_simp; try with_reducible rfl)
  try simp only [Act.put, List.setIfInBounds_toArray, List.set_cons_zero, List.set_cons_succ]
  refine Late.done (by kernel_rfl) ?_ _
  refine NoPanic.normal ?_
  have q6 : Below w.heap.size w w6 := HB1.out.trans (hHeld.mono hs1)
  clear hHeld
  cases E
  · go_wp2
    go_ret
    rw [HP.out]
    exact ⟨rfl, q6⟩
  · go_wp2
    go_ret
    rw [HP.out]
    exact ⟨rfl, q6⟩
theorem check_val {w : World} {B1 B2 n1 : Nat} {A1 : Option Addr} (c1 : Nat) {ks : List Int} {t : TokZ} {l : List GrantZ} (k : Int) (hk : Bs w B1 A1 n1 ks) (h : Tok w B2 t l) (hB1 : B1 ≤ w.heap.size) (hB2 : B2 ≤ w.heap.size) (hn1 : n1 ≤ 10000) (hF : LaidF w) (hK : LaidK w) (hc : checkP ks (pt t l) = k) :
    Calls Tryd.prog 25 #[.slice A1 n1 c1, .agg (tv t).toArray] w (fun e w' => e = .returned (.int .i64 k) ∧ Below w.heap.size w w') := by
  subst hc
  exact check_any c1 hk h hB1 hB2 hn1 hF hK
theorem check_may {ks : List Int} {p : PTok} (h : checkP ks p = 0) : mayT p.tn p.l = true := by
  unfold checkP at h
  cases hm : mayT p.tn p.l
  · rw [hm] at h; simp at h
  · rfl
set_option maxRecDepth 100000 in
set_option maxHeartbeats 4000000 in
theorem verify_any {w : World} {B1 B2 n1 : Nat} {A1 : Option Addr} (c1 : Nat) {ks : List Int} {t : TokZ} {l : List GrantZ} (now need : Int) (hk : Bs w B1 A1 n1 ks) (h : Tok w B2 t l) (hB1 : B1 ≤ w.heap.size) (hB2 : B2 ≤ w.heap.size) (hn1 : n1 ≤ 10000) (hF : LaidF w) (hK : LaidK w) :
    Calls Tryd.prog 26 #[.slice A1 n1 c1, .agg (tv t).toArray, .int .i64 now, .int .u8 need] w (fun e w' => e = .returned (.int .i64 (verifyP ks (pt t l) now need)) ∧ Below w.heap.size w w') := by
  obtain ⟨W1, hW1⟩ : ∃ W, W = w.alloc (.cells (tv t).toArray 26) := ⟨_, rfl⟩
  have b1 : Below w.heap.size w W1 := by rw [hW1]; exact (Below.refl _ _).alloc (Nat.le_refl _) _
  have HX1 : Hid (Box W1 w.heap.size t) := Lib.hid (by rw [hW1]; exact box_new w t h.len _ _ rfl)
  have HB1 := Lib.hid b1
  have HT1 := Lib.hid (h.belowM b1 hB2)
  have HW1 := Lib.hid hW1
  have HL : Hid (t.T.length = 32) := Lib.hid h.len
  have hs1 := b1.size
  have hB2' := Nat.le_trans hB2 hs1
  obtain ⟨k, hc⟩ : ∃ k, checkP ks (pt t l) = k := ⟨_, rfl⟩
  have HC := Lib.hid hc
  have CK := Lib.hid (check_val c1 k (hk.belowM b1 hB1) (h.belowM b1 hB2) (Nat.le_trans hB1 hs1) hB2' hn1 (hF.below b1 hF.lt) (hK.below b1 hK.lt) hc)
  clear hk h hF hK hW1 b1 hc
  have G1 := HL
  by_cases hk0 : k = 0
  · subst hk0
    have hm := check_may HC.out
    have hline : lineB l = true := by
      have : mayT t.tn l = true := hm
      simp only [mayT, Bool.and_eq_true] at this; exact this.2
    have HLE := Lib.hid (le_yes hline)
    have hmm : t.m ≤ maxLen := Nat.le_trans HT1.out.mc HT1.out.cm
    obtain ⟨R, hR⟩ : ∃ R, lvR l = R := ⟨_, rfl⟩
    obtain ⟨X, hX⟩ : ∃ X, lvX l = X := ⟨_, rfl⟩
    obtain ⟨u, hu⟩ : ∃ u, hasB R need = u := ⟨_, rfl⟩
    have HV : Hid (verifyP ks (pt t l) now need = if X ≤ now then 92 else if u then 0 else 94) := Lib.hid (by unfold verifyP; rw [HC.out, if_pos rfl]; show (if lvX l ≤ now then (92 : Int) else if hasB (lvR l) need then 0 else 94) = _; rw [hX, hR, hu])
    have HR := Lib.hid hR
    have HX := Lib.hid hX
    have HU := Lib.hid hu
    have HM := Lib.hid hmm
    clear hR hX hu hm hline hmm
    go_enter Tryd.func26, Tryd.ntmps26
    go_upto_region 1 with fail
    rw [← HW1.out]
    go_upto_region 5 with (first
    | (have g := G1; clear g; refine wpList_load_mid (op := ⟨some 14, .load 26 (.tmp 5), _, _, _, _⟩) rfl 26 (.tmp 5) rfl (w.heap.size) 0 rfl (tv t) _ HX1.out.range Tryd.underlying26 rfl (tok_size HX1.out.len) ?_; clear G1)
    | (go_at_call 25; refine CK.out.mono ?_; rintro e w4 ⟨rfl, hb4⟩; have B4 := Lib.hid hb4; have c1 := (HX1.out.grow hb4).c1; clear hb4)
    | (go_at_call 36; refine (leaves_val t.c R X 0 (HT1.out.line.belowM B4.out hB2') (Nat.le_trans hB2' B4.out.size) HM.out (HLE.out.1.trans HR.out) (HLE.out.2.1.trans HX.out) HLE.out.2.2).mono ?_; rintro e w5 ⟨rfl, hb5⟩; have B5 := Lib.hid (HB1.out.trans ((B4.out.trans (hb5.mono B4.out.size)).mono hs1)); clear hb5 c1))
    by_cases hx : X ≤ now
    · have HXL := Lib.hid hx
      go_wp2
      go_ret
      rw [HV.out, if_pos HXL.out]
      exact ⟨rfl, B5.out⟩
    · have HXL := Lib.hid hx
      cases u
      · go_wp2_with (go_at_call 37; refine (has_val _ _ _ HU.out _).mono ?_; rintro e w' ⟨rfl, rfl⟩)
        go_ret
        rw [HV.out, if_neg (by have := HXL.out; omega)]
        exact ⟨rfl, B5.out⟩
      · go_wp2_with (go_at_call 37; refine (has_val _ _ _ HU.out _).mono ?_; rintro e w' ⟨rfl, rfl⟩)
        go_ret
        rw [HV.out, if_neg (by have := HXL.out; omega)]
        exact ⟨rfl, B5.out⟩
  · have HV : Hid (verifyP ks (pt t l) now need = k) := Lib.hid (by unfold verifyP; rw [HC.out, if_neg hk0])
    have hkI : (k == 0) = false := by simpa using hk0
    rw [HV.out]
    clear hk0
    go_enter Tryd.func26, Tryd.ntmps26
    go_upto_region 1 with fail
    rw [← HW1.out]
    go_wp2_with (first
    | (have g := G1; clear g; refine wpList_load_mid (op := ⟨some 14, .load 26 (.tmp 5), _, _, _, _⟩) rfl 26 (.tmp 5) rfl (w.heap.size) 0 rfl (tv t) _ HX1.out.range Tryd.underlying26 rfl (tok_size HX1.out.len) ?_; clear G1)
    | (go_at_call 25; refine CK.out.mono ?_; rintro e w4 ⟨rfl, hb4⟩; have B4 := Lib.hid hb4; clear hb4))
    go_ret
    exact ⟨rfl, HB1.out.trans (B4.out.mono hs1)⟩
theorem verify_val {w : World} {B1 B2 n1 : Nat} {A1 : Option Addr} (c1 : Nat) {ks : List Int} {t : TokZ} {l : List GrantZ} (now need k : Int) (hk : Bs w B1 A1 n1 ks) (h : Tok w B2 t l) (hB1 : B1 ≤ w.heap.size) (hB2 : B2 ≤ w.heap.size) (hn1 : n1 ≤ 10000) (hF : LaidF w) (hK : LaidK w) (hc : verifyP ks (pt t l) now need = k) :
    Calls Tryd.prog 26 #[.slice A1 n1 c1, .agg (tv t).toArray, .int .i64 now, .int .u8 need] w (fun e w' => e = .returned (.int .i64 k) ∧ Below w.heap.size w w') := by
  subst hc
  exact verify_any c1 now need hk h hB1 hB2 hn1 hF hK
end Go.Proofs.YtmeafjehcckibaaDoor
