/- token.Print. -/
import Derived.Test.YtmeafjehcckibaaDoorTkA
namespace Go.Proofs.YtmeafjehcckibaaDoor
open Go.ChangeShapes Go.WideShapes Go.ChangeAt Go.RowKit
set_option linter.unusedVariables false
set_option linter.unusedSimpArgs false
open Plain Sha
/-- The numbers of a line's grants; a token's bytes. -/
def lineN : List GrantZ → List Int
  | [] => []
  | g :: l => gN g ++ lineN l
theorem lineN_snoc (l : List GrantZ) (g : GrantZ) : lineN (l ++ [g]) = lineN l ++ gN g := by
  induction l with
  | nil => simp [lineN]
  | cons x r ih => simp [lineN, ih]
theorem lineN_len (l : List GrantZ) : (lineN l).length = 3 * l.length := by
  induction l with
  | nil => rfl
  | cons x r ih => simp only [lineN, List.length_append, ih, List.length_cons, gN, List.length_nil]; omega
theorem numsB_app (a b : List Int) : numsB (a ++ b) = numsB a ++ numsB b := by
  induction a with
  | nil => rfl
  | cons x r ih => simp [numsB, ih]
/-- The bytes ahead of the tag. -/
def headZ (tn : Int) (m : Nat) (l : List GrantZ) : List Int := numsB ([tn, (m : Int)] ++ lineN l)
theorem headZ_len (tn : Int) (m : Nat) (l : List GrantZ) : (headZ tn m l).length = 16 + 24 * l.length := by
  unfold headZ
  rw [numsB_len, List.length_append, lineN_len]
  simp; omega
theorem headZ_snoc (tn : Int) (m : Nat) (l : List GrantZ) (g : GrantZ) : headZ tn m (l ++ [g]) = headZ tn m l ++ numsB (gN g) := by
  unfold headZ
  rw [lineN_snoc, ← List.append_assoc, numsB_app]
def printP (p : PTok) : List Int := if mayT p.tn p.l then headZ p.tn p.l.length p.l ++ p.T else []
theorem printP_len (p : PTok) (hT : p.T.length = 32) : (printP p).length = if mayT p.tn p.l then 48 + 24 * p.l.length else 0 := by
  unfold printP
  split
  · rw [List.length_append, headZ_len, hT]; omega
  · rfl
theorem printP_bytes (p : PTok) (hT : IsBytes p.T) : IsBytes (printP p) := by
  unfold printP
  split
  · exact (numsB_bytes _).app hT
  · exact IsBytes.nil
theorem may_len' {tn : Int} {l : List GrantZ} (h : mayT tn l = true) : 0 < l.length ∧ l.length ≤ 4 := by simp [mayT, lineB] at h; omega
theorem gN_num : ∀ g, (numsB (gN g)).length = 24 := fun g => by rw [numsB_len]; rfl
set_option maxRecDepth 100000 in
set_option maxHeartbeats 4000000 in
theorem print_any {w : World} {B : Nat} {t : TokZ} {l : List GrantZ} (h : Tok w B t l) (hB : B ≤ w.heap.size) : Calls Tryd.prog 5 #[.agg (tv t).toArray] w (Made w (printP (pt t l))) := by
  obtain ⟨W1, hW1⟩ : ∃ W, W = w.alloc (.cells (tv t).toArray 26) := ⟨_, rfl⟩
  have b1 : Below w.heap.size w W1 := by rw [hW1]; exact (Below.refl _ _).alloc (Nat.le_refl _) _
  have HX1 : Hid (Box W1 w.heap.size t) := Lib.hid (by rw [hW1]; exact box_new w t h.len _ _ rfl)
  have HB1 := Lib.hid b1
  have HT1 := Lib.hid (h.belowM b1 hB)
  have HW1 := Lib.hid hW1
  have HL : Hid (t.T.length = 32) := Lib.hid h.len
  have hbT := Lib.hid h.bytes
  have htn := Lib.hid h.tn
  have hs1 := b1.size
  have s1 : w.heap.size < W1.heap.size := by rw [hW1]; simp
  have hB2' := Nat.le_trans hB hs1
  obtain ⟨q, hq⟩ : ∃ q, mayT t.tn l = q := ⟨_, rfl⟩
  have HQ := Lib.hid hq
  have TM := Lib.hid (tmay_val q HT1.out hB2' hq)
  clear h hW1 b1 hq
  have G1 := HL
  cases q
  · have HP : Hid (printP (pt t l) = []) := Lib.hid (by unfold printP pt; rw [HQ.out]; rfl)
    rw [HP.out]
    go_enter Tryd.func5, Tryd.ntmps5
    go_upto_region 1 with fail
    rw [← HW1.out]
    go_wp2_with (first
    | (have g := G1; clear g; refine wpList_load_mid (op := ⟨some 6, .load 26 (.tmp 1), _, _, _, _⟩) rfl 26 (.tmp 1) rfl (w.heap.size) 0 rfl (tv t) _ HX1.out.range Tryd.underlying26 rfl (tok_size HX1.out.len) ?_; clear G1)
    | (go_at_call 16; refine TM.out.mono ?_; rintro e w4 ⟨rfl, hb4⟩))
    go_ret
    exact made_of (n := 0) rfl (World.ownsRow_nil _ _ _ _) (HB1.out.trans (hb4.mono hs1))
  have hl0 := may_len' HQ.out
  have hlm := HT1.out.line.len
  have hm4 : t.m ≤ 4 := by omega
  obtain ⟨m, hm⟩ : ∃ m, t.m = m := ⟨_, rfl⟩
  obtain ⟨ZZ, hZZ⟩ : ∃ Z, headZ t.tn m l ++ t.T = Z := ⟨_, rfl⟩
  have HZ := Lib.hid hZZ
  have HP : Hid (printP (pt t l) = ZZ) := Lib.hid (by unfold printP pt; rw [HQ.out]; simp only [if_true]; rw [hlm, hm, hZZ])
  have HM := Lib.hid hm
  have hm4' : m ≤ 4 := by omega
  have HLM : Hid (l.length = m) := Lib.hid (by omega)
  clear hl0 hlm hm4 hm hZZ
  rw [HP.out]
  go_enter Tryd.func5, Tryd.ntmps5
  go_upto_region 1 with fail
  rw [← HW1.out]
  go_upto_region 3 with (first
    | (have g := G1; clear g; refine wpList_load_mid (op := ⟨some 6, .load 26 (.tmp 1), _, _, _, _⟩) rfl 26 (.tmp 1) rfl (w.heap.size) 0 rfl (tv t) _ HX1.out.range Tryd.underlying26 rfl (tok_size HX1.out.len) ?_; clear G1)
    | (go_at_call 16; refine TM.out.mono ?_; rintro e w4 ⟨rfl, hb4⟩; have B4 := Lib.hid hb4; clear hb4))
  have c0 := (HX1.out.grow B4.out).c0
  have c1 := (HX1.out.grow B4.out).c1
  rw [HM.out] at c1
  have NM := Lib.hid (numbers_any (n := 2) (xs := [t.tn, (m : Int)]) 2 ((ns_made w4 [t.tn, (m : Int)] 2 rfl (fun x hx => by
    simp only [List.mem_cons, List.not_mem_nil, or_false] at hx
    rcases hx with rfl | rfl
    · exact htn.out
    · unfold InR; omega) 3 _ rfl)) (by simp) (by omega))
  have L0 : Hid ((numsB [t.tn, (m : Int)]).length = 16) := Lib.hid (by rw [numsB_len]; rfl)
  have B4a : Hid (Below w4.heap.size w4 (w4.alloc (.cells (ivs [t.tn, (m : Int)]).toArray 3))) := Lib.hid ((Below.refl _ _).alloc (Nat.le_refl _) _)
  go_upto_region 4 with (go_at_call 17; refine NM.out.mono ?_; intro e w5 hm5; obtain ⟨D5, d5, rfl, ho5, hb5, _, _⟩ := hm5.n L0.out)
  have q5 : Hid (Below W1.heap.size W1 w5) := Lib.hid (B4.out.trans ((B4a.out.trans (hb5.mono B4a.out.size)).mono B4.out.size))
  have own5 := Lib.hid (own_base ho5 (base' := W1.heap.size) (Nat.le_trans B4.out.size B4a.out.size))
  clear hm5 ho5 hb5 NM c0 c1 B4a B4
  have c1 := (HX1.out.grow q5.out).c1
  rw [HM.out] at c1
  go_upto_region 5 with fail
  clear c1
  go_loopw [3, 19] (fun v i wr => ∃ k : Nat, k ≤ m ∧ i = .int .i64 k ∧ Hid (wr.ownsRow W1.heap.size 5 1 v (16 + 24 * k) (vals (headZ t.tn m (l.take k)))) ∧ Hid (Below W1.heap.size W1 wr)) (fun _ i _ => m - (intOf i).toNat)
  case atStart => exact ⟨0, by omega, rfl, own5, q5⟩
  case round =>
    obtain ⟨k, hk, rfl, HO, HQk⟩ := hrel
    by_cases hlt : k < m
    · have hltI : (k : Int) < (m : Int) := by omega
      have hgs := HT1.out.line.belowM HQk.out hB2'
      rw [HM.out] at hgs
      obtain ⟨b2, o2, x, hA, hb2, HX, hxo, e0, e1, e2⟩ := hgs.at_ hlt
      have HXO := Lib.hid hxo
      have HN2 : Hid (headZ t.tn m (l.take (k + 1)) = headZ t.tn m (l.take k) ++ numsB (gN x)) := Lib.hid (by rw [take_snocG l k x HX.out, headZ_snoc])
      rw [hA]
      clear hgs hxo hA
      go_upto_region 7 with fail
      have ba : Hid (Below wr.heap.size wr (wr.alloc (.cells #[.int .u8 x.r, .int .i64 x.x, .int .i64 x.s] 44))) := Lib.hid ((Below.refl _ _).alloc (Nat.le_refl _) _)
      have hOa := Lib.hid (own_below HO.out ba.out (Nat.le_refl _))
      have qa := Lib.hid (HQk.out.trans (ba.out.mono HQk.out.size))
      clear e0 e1 e2
      go_wp2_with (first
        | (go_at_call 18; refine (fields_any x HXO.out _).mono ?_; rintro e w7 ⟨D7, d7, rfl, n7, b7⟩; have O7 := Lib.hid (own_below hOa.out b7 (Nat.le_refl _)); have q7 := Lib.hid (qa.out.trans (b7.mono qa.out.size)); have N7 := Lib.hid n7; clear n7 b7)
        | (go_at_call 17; refine (numbers_any d7 N7.out (Nat.le_refl _) (by omega)).mono ?_; intro e w8 hm8; obtain ⟨D8, d8, rfl, ho8, hb8, _, _⟩ := hm8.n (n := 24) (gN_num x); have O8 := Lib.hid (own_below O7.out hb8 (Nat.le_refl _)); have q8 := Lib.hid (q7.out.trans (hb8.mono q7.out.size)); have Z8 := Lib.hid (Made.bs ho8 (numsB_bytes _)); clear hm8 ho8 hb8)
        | (at_builtin; refine wpList_app _ rfl (.tmp 23) (.tmp 26) 27 rfl W1.heap.size 5 1 1 Tryd.underlying27 u8_info (by omega) u3 (16 + 24 * k) (vals (headZ t.tn m (l.take k))) rfl O8.out D8 24 d8 (vals (numsB (gN x))) rfl Z8.out.lies.1 Z8.out.lies.2 (vals_one _) (by unfold maxLen; omega) (by omega) q8.out.size ?_; intro v9 w9 ho9 hg9))
      have q9 := Lib.hid (q8.out.grown hg9 q8.out.size (fun j hj => (O8.out.lt j hj).1))
      have o9 : Hid (w9.ownsRow W1.heap.size 5 1 v9 (16 + 24 * (k + 1)) (vals (headZ t.tn m (l.take (k + 1))))) := Lib.hid (by rw [HN2.out, vals_app]; exact ho9)
      clear ho9 hg9
      go_roundw
      case rel => exact ⟨k + 1, by omega, by go_num, o9, q9⟩
      case measure => simp [intOf]; omega
    · have hkm : k = m := by omega
      subst hkm
      have HO2 : Hid (wr.ownsRow W1.heap.size 5 1 u3 (16 + 24 * k) (vals (headZ t.tn k l))) := Lib.hid (by have := HO.out; rwa [List.take_of_length_le (by rw [HLM.out]; exact Nat.le_refl _)] at this)
      have ZT := Lib.hid ((HX1.out.grow HQk.out).bs hbT.out (Nat.lt_of_lt_of_le s1 HQk.out.size) (B := wr.heap.size))
      have hge : ¬ (k : Int) < (k : Int) := by omega
      clear HO
      go_wp2_with (at_builtin; refine wpList_app _ rfl (.tmp 29) (.tmp 31) 27 rfl W1.heap.size 5 1 1 Tryd.underlying27 u8_info (by omega) u3 (16 + 24 * k) (vals (headZ t.tn k l)) rfl HO2.out (some ⟨w.heap.size, 2, none⟩) 32 32 (vals t.T) rfl ZT.out.lies.1 ZT.out.lies.2 (vals_one _) (by unfold maxLen; omega) (by omega) HQk.out.size ?_; intro v9 w9 ho9 hg9)
      go_ret
      have q9 := HB1.out.trans ((HQk.out.grown hg9 HQk.out.size (fun j hj => (HO2.out.lt j hj).1)).mono hs1)
      refine made_of (n := 16 + 24 * k + 32) (by rw [← HZ.out, List.length_append, headZ_len, HL.out, HLM.out]) ?_ q9
      rw [← HZ.out, vals_app]
      exact own_base ho9 hs1
theorem print_made {w : World} {B : Nat} {t : TokZ} {l : List GrantZ} (Z : List Int) (h : Tok w B t l) (hB : B ≤ w.heap.size) (hz : printP (pt t l) = Z) : Calls Tryd.prog 5 #[.agg (tv t).toArray] w (Made w Z) := by
  subst hz
  exact print_any h hB
end Go.Proofs.YtmeafjehcckibaaDoor
