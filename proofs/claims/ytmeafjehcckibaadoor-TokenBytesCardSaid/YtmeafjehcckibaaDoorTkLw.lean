/- The laws' own helpers; the document's own Same and Verify. -/
import Derived.Test.YtmeafjehcckibaaDoorTkRt
import Derived.Test.YtmeafjehcckibaaDoorTkTr
import Derived.Test.YtmeafjehcckibaaDoorTkEq
import Derived.Test.YtmeafjehcckibaaDoorTkV
import Derived.Test.YtmeafjehcckibaaDoorTkRd
import Derived.Test.YtmeafjehcckibaaDoorTkB
import Derived.Lib.Strings
namespace Go.Proofs.YtmeafjehcckibaaDoor
open Go.ChangeShapes Go.WideShapes Go.ChangeAt Go.RowKit
set_option linter.unusedVariables false
set_option linter.unusedSimpArgs false
open Plain Sha
theorem strZ_of {zs : List Int} (h : IsBytes zs) : strZ (strOfNums zs) = zs := by
  unfold strZ
  rw [strOfNums_data, List.map_map]
  refine (List.map_congr_left (g := id) fun z hz => ?_).trans (List.map_id zs)
  have := (isBytes_iff.1 h) z hz
  show (((UInt8.ofNat z.toNat).toNat : Nat) : Int) = z
  rw [UInt8.toNat_ofNat']
  omega
theorem strOf_eq {a c : List Int} (ha : IsBytes a) (hc : IsBytes c) : ((strOfNums a).toList == (strOfNums c).toList) = eqB a c := by
  rw [Bool.eq_iff_iff]
  simp only [beq_iff_eq, eqB, decide_eq_true_eq]
  refine ⟨fun h => ?_, fun h => by rw [h]⟩
  rw [← strZ_of ha, ← strZ_of hc]
  unfold strZ
  rw [Go.Lib.toList_data, Go.Lib.toList_data] at h
  rw [h]
set_option maxRecDepth 100000 in
theorem lsame_any {w : World} {B1 B2 n1 n2 : Nat} {A1 A2 : Option Addr} (c1 c2 : Nat) {z1 z2 : List Int} (q : Bool) (h1 : Bs w B1 A1 n1 z1) (h2 : Bs w B2 A2 n2 z2) (hq : eqB z1 z2 = q) :
    Calls Tryd.prog 7 #[.slice A1 n1 c1, .slice A2 n2 c2] w (fun e w' => e = .returned (.bool q) ∧ w' = w) := by
  have hv1 := run_rgstr c1 h1
  have hv2 := run_rgstr c2 h2
  have he := strOf_eq h1.isBytes h2.isBytes
  rw [hq] at he
  generalize strOfNums z1 = s1 at *
  generalize strOfNums z2 = s2 at *
  clear h1 h2 hq
  go_enter Tryd.func7, Tryd.ntmps7
  go_wp2
  go_ret
  exact ⟨rfl, rfl⟩
theorem own_nilG (w : World) (base : Nat) (hb : base ≤ w.heap.size) : (w.alloc (.cells #[] 44)).ownsRow base 44 3 (.slice (some ⟨w.heap.size, 0, none⟩) 0 0) 0 (gv []) :=
  World.ownsRow_lit w #[] 0 hb (by simp [maxLen]) rfl
set_option maxRecDepth 100000 in
set_option maxHeartbeats 4000000 in
theorem copied_any {w : World} {B : Nat} {t : TokZ} {l : List GrantZ} (h : Tok w B t l) (hB : B ≤ w.heap.size) (hm : t.m ≤ 4096) :
    Calls Tryd.prog 6 #[.agg (tv t).toArray] w (fun e w' => ∃ u, e = .returned (.agg (tv u).toArray) ∧ Tok w' w'.heap.size u l ∧ pt u l = pt t l ∧ u.m = t.m ∧ Below w.heap.size w w') := by
  obtain ⟨W2, hW2⟩ : ∃ W, W = (w.alloc (.cells (tv t).toArray 26)).alloc (.cells (tv tok0).toArray 26) := ⟨_, rfl⟩
  have b2 : Below w.heap.size w W2 := by rw [hW2]; exact ((Below.refl _ _).alloc (Nat.le_refl _) _).alloc (by simp) _
  have s2 : W2.heap.size = w.heap.size + 2 := by rw [hW2]; simp
  have X2 : Hid (Box W2 w.heap.size t) := Lib.hid (by rw [hW2]; exact (box_new w t h.len _ _ rfl).grow ((Below.refl _ _).alloc (Nat.le_refl _) _))
  have R2 : Hid (Box W2 (w.heap.size + 1) tok0) := Lib.hid (by rw [hW2]; exact box_new _ tok0 rep32 _ _ (by simp))
  have HT := Lib.hid (h.belowM b2 hB)
  have HB2 := Lib.hid b2
  have HW2 := Lib.hid hW2
  have ba : Below W2.heap.size W2 (W2.alloc (.cells #[] 44)) := (Below.refl _ _).alloc (Nat.le_refl _) _
  have O3 : Hid ((W2.alloc (.cells #[] 44)).ownsRow W2.heap.size 44 3 (.slice (some ⟨W2.heap.size, 0, none⟩) 0 0) 0 (gv [])) := Lib.hid (own_nilG W2 _ (Nat.le_refl _))
  have BA := Lib.hid ba
  have HL := Lib.hid ((HT.out.line.belowM ba (Nat.le_trans hB b2.size)).lies)
  have c1 := (X2.out.grow ba).c1
  clear h hW2 b2 ba
  go_enter Tryd.func6, Tryd.ntmps6
  go_upto_region 1 with fail
  simp only [zTok]
  rw [← HW2.out]
  have S2 := Lib.hid s2
  clear s2
  go_upto_region 2 with (at_builtin; refine wpList_app _ rfl (.tmp 3) (.tmp 5) 22 rfl W2.heap.size 44 3 24 Tryd.underlying22 grant_info (by omega) _ 0 (gv []) rfl O3.out t.A t.m t.c (gv l) rfl HL.out.1 HL.out.2 (gv_one l) (by unfold maxLen; omega) (by omega) BA.out.size ?_; intro v4 w4 ho4 hg4; rw [Nat.zero_add] at ho4; clear c1; have b4 := (BA.out.grown hg4 BA.out.size (fun k hk => (O3.out.lt k hk).1)); obtain ⟨D4, c4, rfl, hd1, hd2⟩ := own_shapeG ho4; have c1 := (X2.out.grow b4).c1; have f1 := (X2.out.grow b4).g1)
  have hz := S2.out
  have X5 : Box (w4.setCell ⟨w.heap.size, 1, none⟩ (.slice D4 t.m c4)) w.heap.size { t with A := D4, m := t.m, c := c4 } := (X2.out.grow b4).setLine _ _ _
  have R5 : Box (w4.setCell ⟨w.heap.size, 1, none⟩ (.slice D4 t.m c4)) (w.heap.size + 1) tok0 := (R2.out.grow b4).farC (by show w.heap.size ≠ w.heap.size + 1; omega) _
  have q5 : Below w.heap.size w (w4.setCell ⟨w.heap.size, 1, none⟩ (.slice D4 t.m c4)) := (HB2.out.trans (b4.mono HB2.out.size)).setCell (by show w.heap.size ≤ w.heap.size; omega) _
  have o5 : (w4.setCell ⟨w.heap.size, 1, none⟩ (.slice D4 t.m c4)).ownsRow W2.heap.size 44 3 (.slice D4 t.m c4) t.m (gv [] ++ gv l) := own_far ho4 (by show w.heap.size < W2.heap.size; omega) _
  generalize w4.setCell ⟨w.heap.size, 1, none⟩ (.slice D4 t.m c4) = w5 at *
  obtain ⟨u, hu⟩ : ∃ u : TokZ, { t with A := D4, m := t.m, c := c4 } = u := ⟨_, rfl⟩
  rw [hu] at X5
  have HU := Lib.hid hu
  have HX5 := Lib.hid X5
  have HR5 := Lib.hid R5
  have HQ5 := Lib.hid q5
  have HO5 := Lib.hid o5
  have TH := Lib.hid (R5.thereA X5.len)
  have HD := Lib.hid (And.intro hd1 hd2)
  clear c1 f1 ho4 hg4 b4 X5 R5 q5 o5 hu hd1 hd2
  have G1 := HX5
  have G2 := TH
  go_wp2_with (first
    | (have g := G1; clear g; refine wpList_load_mid (op := ⟨some 8, .load 26 (.tmp 1), _, _, _, _⟩) rfl 26 (.tmp 1) rfl (w.heap.size) 0 rfl (tv u) _ HX5.out.range Tryd.underlying26 rfl (tok_size HX5.out.len) ?_; clear G1)
    | (have g := G2; clear g; refine wpList_store_as (op := ⟨none, .store 26 (.tmp 2) (.tmp 8), _, _, _, _⟩) rfl 26 (.tmp 2) (.tmp 8) rfl (w.heap.size + 1) 0 (tv u).toArray rfl rfl TH.out (tok_sizeA HX5.out.len) (tok_one _) ?_; intro w6 hw6; clear G2))
  have R6 := HR5.out.storeH HX5.out.len hw6
  have q6 := below_storeH HQ5.out (by omega) hw6
  have o6 : w6.ownsRow W2.heap.size 44 3 (.slice D4 t.m c4) t.m (gv l) := by
    rw [hw6.out]
    exact own_farS (by omega) _ _ HO5.out
  obtain ⟨e1, e2, e3, e4, e5⟩ : u.tn = t.tn ∧ u.A = D4 ∧ u.m = t.m ∧ u.c = c4 ∧ u.T = t.T := by rw [← HU.out]; exact ⟨rfl, rfl, rfl, rfl, rfl⟩
  have K6 : Tok w6 w6.heap.size u l := by
    refine ⟨HX5.out.len, by rw [e5]; exact HT.out.bytes, by rw [e1]; exact HT.out.tn, ?_, by rw [e3, e4]; exact HD.out.1, by rw [e4]; exact HD.out.2⟩
    rw [e2, e3]
    exact grants_of_own o6 HT.out.line.ok
  exact bodyPost_ret (v := .agg (tv u).toArray) (results_mid (p := 2) (ty := 26) rfl _ _ (w.heap.size + 1) 0 (tv u) _ rfl R6.range Tryd.underlying26 rfl (tok_size HX5.out.len)) rfl ⟨u, rfl, K6, by unfold pt; rw [e1, e5], e3, q6⟩
set_option maxRecDepth 100000 in
set_option maxHeartbeats 4000000 in
theorem refsameT_any {w : World} {B1 B2 : Nat} {t1 t2 : TokZ} {l1 l2 : List GrantZ} (h1 : Tok w B1 t1 l1) (h2 : Tok w B2 t2 l2) (hB1 : B1 ≤ w.heap.size) (hB2 : B2 ≤ w.heap.size) :
    Calls Tryd.prog 10 #[.agg (tv t1).toArray, .agg (tv t2).toArray] w (fun e w' => e = .returned (.bool (sameP (pt t1 l1) (pt t2 l2))) ∧ Below w.heap.size w w') := by
  obtain ⟨W2, hW2⟩ : ∃ W, W = (w.alloc (.cells (tv t1).toArray 26)).alloc (.cells (tv t2).toArray 26) := ⟨_, rfl⟩
  have b2 : Below w.heap.size w W2 := by rw [hW2]; exact ((Below.refl _ _).alloc (Nat.le_refl _) _).alloc (by simp) _
  have X1 : Hid (Box W2 w.heap.size t1) := Lib.hid (by rw [hW2]; exact (box_new w t1 h1.len _ _ rfl).grow ((Below.refl _ _).alloc (Nat.le_refl _) _))
  have X2 : Hid (Box W2 (w.heap.size + 1) t2) := Lib.hid (by rw [hW2]; exact box_new _ t2 h2.len _ _ (by simp))
  have HB2 := Lib.hid b2
  have HT1 := Lib.hid (h1.belowM b2 hB1)
  have HT2 := Lib.hid (h2.belowM b2 hB2)
  have HW2 := Lib.hid hW2
  have LA := Lib.hid h1.len
  have LB := Lib.hid h2.len
  have hm1 : t1.m ≤ maxLen := Nat.le_trans h1.mc h1.cm
  have hm2 : t2.m ≤ maxLen := Nat.le_trans h2.mc h2.cm
  unfold maxLen at hm1 hm2
  obtain ⟨q2, hq2⟩ : ∃ q, eqB t1.T t2.T = q := ⟨_, rfl⟩
  have hNE : ∀ w, (binOp .neq 24 (.agg (vals t1.T).toArray) (.agg (vals t2.T).toArray)).run Tryd.prog w = .ok (.bool (!q2)) w := fun w => by rw [run_tagNe t1.T t2.T LA.out LB.out w, hq2]
  have hIN : ∀ w, (Op.equalIn 10000 24 (.agg (vals t1.T).toArray) (.agg (vals t2.T).toArray)).run Tryd.prog w = .ok q2 w := fun w => by rw [run_tagIn t1.T t2.T LA.out LB.out w, hq2]
  have c10 := X1.out.c0
  have c20 := X2.out.c0
  have c11 := X1.out.c1
  have c21 := X2.out.c1
  have HM1 := Lib.hid h1.line.len
  have HM2 := Lib.hid h2.line.len
  clear h1 h2 hW2 b2
  by_cases htn : t1.tn = t2.tn
  · have hT : (t1.tn == t2.tn) = true := by simpa using htn
    have hT' : (t1.tn != t2.tn) = false := by simp [bne, hT]
    cases q2
    · have HS2 : Hid (sameP (pt t1 l1) (pt t2 l2) = false) := Lib.hid (by unfold sameP pt; simp only [hq2, Bool.and_false])
      have G1 := LA
      have G2 := LB
      clear htn hq2
      go_enter Tryd.func10, Tryd.ntmps10
      go_upto_region 1 with fail
      rw [← HW2.out]
      go_wp2_with (first
    | (have g := G1; clear g; refine wpList_load_guard (op := ⟨some 13, .load 24 (.tmp 12), _, _, _, some (5, false)⟩) (by rfl) 24 (.tmp 12) rfl (w.heap.size) 2 rfl (vals t1.T) _ (X1.out.tag) Tryd.underlying24 rfl (tag_size t1.T LA.out) ?_; clear G1)
    | (have g := G2; clear g; refine wpList_load_guard (op := ⟨some 15, .load 24 (.tmp 14), _, _, _, some (5, false)⟩) (by rfl) 24 (.tmp 14) rfl (w.heap.size + 1) 2 rfl (vals t2.T) _ (X2.out.tag) Tryd.underlying24 rfl (tag_size t2.T LB.out) ?_; clear G2))
      go_ret
      rw [HS2.out]
      exact ⟨rfl, HB2.out⟩
    by_cases hlen : t1.m = t2.m
    · have hl : ((t1.m : Int) == (t2.m : Int)) = true := by simp; omega
      have hl' : ((t1.m : Int) != (t2.m : Int)) = false := by simp [bne, hl]
      have HS2 : Hid (sameP (pt t1 l1) (pt t2 l2) = eqL l1 l2) := Lib.hid (by unfold sameP pt; simp only [hq2, Bool.and_true, decide_eq_true htn, Bool.true_and])
      have HLE := Lib.hid hlen
      have G1 := LA
      have G2 := LB
      clear htn hq2 hlen
      go_enter Tryd.func10, Tryd.ntmps10
      go_upto_region 1 with fail
      rw [← HW2.out]
      go_upto_region 4 with (first
    | (have g := G1; clear g; refine wpList_load_guard (op := ⟨some 13, .load 24 (.tmp 12), _, _, _, some (5, false)⟩) (by rfl) 24 (.tmp 12) rfl (w.heap.size) 2 rfl (vals t1.T) _ (X1.out.tag) Tryd.underlying24 rfl (tag_size t1.T LA.out) ?_; clear G1)
    | (have g := G2; clear g; refine wpList_load_guard (op := ⟨some 15, .load 24 (.tmp 14), _, _, _, some (5, false)⟩) (by rfl) 24 (.tmp 14) rfl (w.heap.size + 1) 2 rfl (vals t2.T) _ (X2.out.tag) Tryd.underlying24 rfl (tag_size t2.T LB.out) ?_; clear G2))
      clear c10 c20 c11 c21 hNE hIN hl hl' hT hT'
      go_loopw [5] (fun i wr => ∃ k m : Nat, k ≤ t1.m ∧ i = .int .i64 k ∧ wr = W2.drewN m ∧ Hid (l1.take k = l2.take k)) (fun i _ => t1.m - (intOf i).toNat)
      case atStart => exact ⟨0, 0, by omega, rfl, rfl, Lib.hid (by simp)⟩
      case round =>
        obtain ⟨k, m, hk, rfl, rfl, HT⟩ := hrel
        have c11 := X1.out.c1
        have c21 := X2.out.c1
        by_cases hlt : k < t1.m
        · have hltI : (k : Int) < (t1.m : Int) := by omega
          have hltJ : (k : Int) < (t2.m : Int) := by have := HLE.out; omega
          obtain ⟨b1, o1, ⟨r1, x1, s1⟩, hA1, _, HU1, _, c0, c1', c2'⟩ := HT1.out.line.at_ hlt
          obtain ⟨b2, o2, ⟨r2, x2, s2⟩, hA2, _, HU2, _, d0, d1, d2⟩ := HT2.out.line.at_ (show k < t2.m by have := HLE.out; omega)
          rw [hA1] at c11
          rw [hA2] at c21
          simp only at c0 c1' c2' d0 d1 d2
          clear hA1 hA2
          by_cases hr : r1 = r2
          · subst hr
            by_cases hx : x1 = x2
            · subst hx
              by_cases hs : s1 = s2
              · subst hs
                have HT' : Hid (l1.take (k + 1) = l2.take (k + 1)) := Lib.hid (by rw [take_snocG _ _ _ HU1.out, take_snocG _ _ _ HU2.out, HT.out])
                go_wp2
                go_quiet (fail)
                go_wp2
                go_roundw
                case rel => exact ⟨k + 1, _, by omega, by go_num, rfl, HT'⟩
                case measure => simp [intOf]; omega
              · have HF := Lib.hid (eqL_no_at HU1.out HU2.out (fun e => hs (by injection e)))
                go_wp2
                go_quiet (fail)
                go_wp2
                go_ret
                rw [HS2.out, HF.out]
                exact ⟨rfl, below_drewN (below_drewN HB2.out _) _⟩
            · have HF := Lib.hid (eqL_no_at HU1.out HU2.out (fun e => hx (by injection e)))
              go_wp2
              go_quiet (fail)
              go_wp2
              go_ret
              rw [HS2.out, HF.out]
              exact ⟨rfl, below_drewN (below_drewN HB2.out _) _⟩
          · have HF := Lib.hid (eqL_no_at HU1.out HU2.out (fun e => hr (by injection e)))
            go_wp2
            go_quiet (fail)
            go_wp2
            go_ret
            rw [HS2.out, HF.out]
            exact ⟨rfl, below_drewN (below_drewN HB2.out _) _⟩
        · have hkn : k = t1.m := by omega
          have HF := Lib.hid (eqL_yes (n := t1.m) HM1.out (HM2.out.trans HLE.out.symm) (by rw [← hkn]; exact HT.out))
          have hge : ¬ (k : Int) < (t1.m : Int) := by omega
          clear hkn
          go_wp2
          go_ret
          rw [HS2.out, HF.out]
          exact ⟨rfl, below_drewN HB2.out m⟩
    · have hl : ((t1.m : Int) == (t2.m : Int)) = false := by simp; omega
      have hl' : ((t1.m : Int) != (t2.m : Int)) = true := by simp [bne, hl]
      have HS2 : Hid (sameP (pt t1 l1) (pt t2 l2) = false) := Lib.hid (by unfold sameP pt; simp only [eqL_no_len (a := l1) (b := l2) (by rw [HM1.out, HM2.out]; exact hlen), Bool.and_false, Bool.false_and])
      have G1 := LA
      have G2 := LB
      clear htn hq2 hlen
      go_enter Tryd.func10, Tryd.ntmps10
      go_upto_region 1 with fail
      rw [← HW2.out]
      go_wp2_with (first
    | (have g := G1; clear g; refine wpList_load_guard (op := ⟨some 13, .load 24 (.tmp 12), _, _, _, some (5, false)⟩) (by rfl) 24 (.tmp 12) rfl (w.heap.size) 2 rfl (vals t1.T) _ (X1.out.tag) Tryd.underlying24 rfl (tag_size t1.T LA.out) ?_; clear G1)
    | (have g := G2; clear g; refine wpList_load_guard (op := ⟨some 15, .load 24 (.tmp 14), _, _, _, some (5, false)⟩) (by rfl) 24 (.tmp 14) rfl (w.heap.size + 1) 2 rfl (vals t2.T) _ (X2.out.tag) Tryd.underlying24 rfl (tag_size t2.T LB.out) ?_; clear G2))
      go_ret
      rw [HS2.out]
      exact ⟨rfl, HB2.out⟩
  · have hT : (t1.tn == t2.tn) = false := by simpa using htn
    have hT' : (t1.tn != t2.tn) = true := by simp [bne, hT]
    have HS2 : Hid (sameP (pt t1 l1) (pt t2 l2) = false) := Lib.hid (by unfold sameP pt; rw [decide_eq_false htn]; rfl)
    clear htn hq2
    go_enter Tryd.func10, Tryd.ntmps10
    go_upto_region 1 with fail
    rw [← HW2.out]
    go_wp2
    go_ret
    rw [HS2.out]
    exact ⟨rfl, HB2.out⟩
theorem or_iff {a b : Int} (h0 : 0 ≤ a) (h1 : a < 256) (h2 : 0 ≤ b) (h3 : b < 256) : (bits .or .u8 a b == a) = hasB a b := by
  have e : (bits .or .u8 a b == a) = true ↔ andZ a b = b := by
    have hx : (BitVec.ofInt 8 a).toNat = a.toNat := by
      rw [BitVec.toNat_ofInt]
      have : a % ((2 ^ 8 : Nat) : Int) = a := Int.emod_eq_of_lt h0 (by simpa using h1)
      rw [this]
    have hy : (BitVec.ofInt 8 b).toNat = b.toNat := by
      rw [BitVec.toNat_ofInt]
      have : b % ((2 ^ 8 : Nat) : Int) = b := Int.emod_eq_of_lt h2 (by simpa using h3)
      rw [this]
    rw [show bits .or .u8 a b = IntKind.u8.wrap ((BitVec.ofInt 8 a ||| BitVec.ofInt 8 b).toNat : Int) from rfl, BitVec.toNat_or, hx, hy, beq_iff_eq]
    have hlt : a.toNat ||| b.toNat < 256 := Nat.or_lt_two_pow (n := 8) (by omega) (by omega)
    have hw : IntKind.u8.wrap ((a.toNat ||| b.toNat : Nat) : Int) = ((a.toNat ||| b.toNat : Nat) : Int) := by
      have := IntKind.wrap_u8 ((a.toNat ||| b.toNat : Nat) : Int)
      omega
    rw [hw]
    unfold andZ
    generalize ha : a.toNat = x at *
    generalize hb : b.toNat = y at *
    have key : x ||| y = x ↔ x &&& y = y := by
      constructor
      · intro h
        rw [← h, Nat.and_comm]
        apply Nat.eq_of_testBit_eq
        intro i
        simp only [Nat.testBit_and, Nat.testBit_or]
        cases Nat.testBit x i <;> cases Nat.testBit y i <;> rfl
      · intro h
        rw [← h]
        apply Nat.eq_of_testBit_eq
        intro i
        simp only [Nat.testBit_and, Nat.testBit_or]
        cases Nat.testBit x i <;> cases Nat.testBit y i <;> rfl
    constructor
    · intro h
      have := key.1 (by omega)
      omega
    · intro h
      have := key.2 (by omega)
      omega
  have f : hasB a b = true ↔ andZ a b = b := by
    unfold hasB
    rw [bits_and h0 h1 h2 h3]
    simp
  rw [Bool.eq_iff_iff, e, f]
end Go.Proofs.YtmeafjehcckibaaDoor
