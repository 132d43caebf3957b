/- The document's own Parse. -/
import Derived.Test.YtmeafjehcckibaaDoorTkRp
import Derived.Test.YtmeafjehcckibaaDoorTkRz
import Derived.Test.YtmeafjehcckibaaDoorTkRd
import Derived.Test.YtmeafjehcckibaaDoorTkPs
import Derived.Test.YtmeafjehcckibaaDoorTkA
import Derived.Test.YtmeafjehcckibaaDoorB6
import Derived.Test.YtmeafjehcckibaaDoorB5
namespace Go.Proofs.YtmeafjehcckibaaDoor
open Go.ChangeShapes Go.WideShapes Go.ChangeAt Go.RowKit
set_option linter.unusedVariables false
set_option linter.unusedSimpArgs false
open Plain Sha
theorem Box.setTagAt {w : World} {b : Nat} {t : TokZ} (h : Box w b t) {i : Nat} (hi : i < 32) (x : Int) : Box (w.setCell ⟨b, 2 + i, none⟩ (.int .u8 x)) b { t with T := t.T.set i x } := by
  have hc : w.cell? ⟨b, 2 + i, none⟩ = some (.int .u8 (t.T.getD i 0)) := h.tag i _ (vals_at _ i (by rw [h.len]; exact hi))
  refine ⟨fun j v hv => ?_, fun j hj => ?_, by show (t.T.set i x).length = 32; rw [List.length_set]; exact h.len⟩
  · by_cases e : j = 2 + i
    · subst e
      have hv' : (vals (t.T.set i x))[i]? = some v := by
        have : (tv { t with T := t.T.set i x })[2 + i]? = some v := hv
        rw [Nat.add_comm 2 i] at this; exact this
      rw [vals_at _ i (by rw [List.length_set, h.len]; exact hi)] at hv'
      injection hv' with hv'
      rw [Nat.zero_add, World.cell?_setCell_same w ⟨b, 2 + i, none⟩ _ hc, ← hv', getD_set _ _ _ _ (by rw [h.len]; exact hi), if_pos rfl]
    · rw [World.cell?_setCell_other w _ _ _ (fun q => e (by injection q with _ q; omega))]
      refine h.range j v ?_
      match j, hv, e with
      | 0, hv, _ => exact hv
      | 1, hv, _ => exact hv
      | j + 2, hv, e =>
        have hv' : (vals (t.T.set i x))[j]? = some v := hv
        show (vals t.T)[j]? = some v
        have hne : i ≠ j := fun q => e (by omega)
        simp only [vals, List.getElem?_map, List.getElem?_set_ne hne] at hv' ⊢
        exact hv'
  · rw [World.frozen?_setCell]
    refine ⟨?_, (h.there j hj).2⟩
    by_cases e : j = 2 + i
    · subst e; rw [Nat.zero_add, World.cell?_setCell_same w ⟨b, 2 + i, none⟩ _ hc]; rfl
    · rw [World.cell?_setCell_other w _ _ _ (fun q => e (by injection q with _ q; omega))]; exact (h.there j hj).1
theorem rok_no {zs : List Int} {k : Nat} (h : (decide (0 ≤ atZ zs (16 + 24 * k)) && decide (atZ zs (16 + 24 * k) ≤ 15)) = false) : ∀ K, k < K → rokT zs K = false := by
  intro K
  induction K with
  | zero => intro hk; omega
  | succ K ih =>
    intro hk
    rw [rokT]
    by_cases e : k = K
    · subst e; rw [h, Bool.and_false]
    · rw [ih (by omega), Bool.false_and]
theorem atF_in (zs : List Int) (hb : IsBytes zs) : ∀ (f a : Nat) (n : Int), 0 ≤ n → n ≤ 1125899906842624 → -1 ≤ atF zs f a n ∧ atF zs f a n ≤ 1125899906842624 := by
  intro f
  induction f with
  | zero => intro a n h0 h1; rw [atF]; omega
  | succ f ih =>
    intro a n h0 h1
    rw [atF]
    split
    · next ha =>
      split
      · omega
      · have := hb a ha
        exact ih _ _ (by omega) (by omega)
    · omega
theorem atZ_in {zs : List Int} (hb : IsBytes zs) (a : Nat) : InR (atZ zs a) := by
  have := atF_in zs hb 8 a 0 (by omega) (by omega)
  unfold atZ InR
  omega
theorem rlT_ok {zs : List Int} (hb : IsBytes zs) (k : Nat) : ∀ g, g ∈ rlT zs k → GOk g := by
  induction k with
  | zero => intro g hg; simp [rlT] at hg
  | succ k ih =>
    intro g hg
    rw [rlT] at hg
    rcases List.mem_append.1 hg with hg | hg
    · exact ih g hg
    · rw [List.mem_singleton] at hg
      subst hg
      refine ⟨?_, atZ_in hb _, atZ_in hb _⟩
      show 0 ≤ IntKind.u8.wrap _ ∧ IntKind.u8.wrap _ < 256
      have := IntKind.wrap_u8 (atZ zs (16 + 24 * k))
      rw [this]; omega
set_option maxRecDepth 100000 in
set_option maxHeartbeats 8000000 in
theorem refparse_any {w : World} {B n : Nat} {A : Option Addr} (c : Nat) {zs : List Int} (h : Bs w B A n zs) (hB : B ≤ w.heap.size) (hn : n ≤ 100000) :
    Calls Tryd.prog 9 #[.slice A n c] w (Gives w (refPz zs)) := by
  obtain ⟨W1, hW1⟩ : ∃ W, W = w.alloc (.cells (tv tok0).toArray 26) := ⟨_, rfl⟩
  have b1 : Below w.heap.size w W1 := by rw [hW1]; exact (Below.refl _ _).alloc (Nat.le_refl _) _
  have s1 : W1.heap.size = w.heap.size + 1 := by rw [hW1]; simp
  have R1 : Hid (Box W1 w.heap.size tok0) := Lib.hid (by rw [hW1]; exact box_new w tok0 rep32 _ _ rfl)
  have HZ : Hid (∀ W, Below w.heap.size w W → Bs W B A n zs) := Lib.hid (fun W hW => h.belowM hW hB)
  have HBY := Lib.hid h.isBytes
  have HLZ := Lib.hid h.len
  have HB1 := Lib.hid b1
  have HW1 := Lib.hid hW1
  have S1 := Lib.hid s1
  clear h hW1 b1 s1
  by_cases h72 : n < 72
  · have HP : Hid (refPz zs = (pt0, 90)) := Lib.hid (by unfold refPz; rw [if_pos (by rw [HLZ.out]; exact h72)])
    have nI : (n : Int) < 72 := by omega
    have TH := Lib.hid (R1.out.thereA (u := tok0) rep32)
    have G3 := TH
    have G4 := TH
    go_enter Tryd.func9, Tryd.ntmps9
    go_upto_region 1 with fail
    simp only [zTok]
    rw [← HW1.out]
    go_wp2_with (first
        | (have g := G3; clear g; refine wpList_exec (op := ⟨some 19, .build 26 #[], _, _, _, _⟩) rfl (.agg (tv tok0).toArray) (by kernel_rfl) ?_; clear G3)
        | (have g := G4; clear g; refine wpList_store_as (op := ⟨none, .store 26 (.tmp 2) (.tmp 19), _, _, _, _⟩) rfl 26 (.tmp 2) (.tmp 19) rfl (w.heap.size) 0 (tv tok0).toArray rfl rfl TH.out (tok_sizeA (t := tok0) rep32) (tok_one _) ?_; intro w6 hw6; clear G4))
    have R6 := R1.out.storeH (u := tok0) rep32 hw6
    have q6 := below_storeH HB1.out (Nat.le_refl _) hw6
    rw [HP.out]
    exact bodyPost_ret (v := .tuple #[.agg (tv tok0).toArray, .int .i64 90]) (results_mid_tmp (p := 2) (u := 3) (ty := 26) rfl _ _ w.heap.size 0 (tv tok0) _ rfl R6.range Tryd.underlying26 rfl (tok_size (t := tok0) rep32)) rfl (gives_none q6)
  have nI : ¬ ((n : Int) < 72) := by omega
  by_cases h24 : n % 24 = 0
  case neg =>
    have HP : Hid (refPz zs = (pt0, 90)) := Lib.hid (by unfold refPz; rw [if_neg (by rw [HLZ.out]; exact h72), if_neg (by rw [HLZ.out]; exact h24)])
    have hmod : ((n : Int).tmod 24 != 0) = true := by rw [Int.tmod_eq_emod_of_nonneg (by omega)]; simp; omega
    have hmod2 : (wrap64 ((n : Int).tmod 24) != 0) = true := by rw [Int.tmod_eq_emod_of_nonneg (by omega)]; unfold wrap64; simp; omega
    have TH := Lib.hid (R1.out.thereA (u := tok0) rep32)
    have G3 := TH
    have G4 := TH
    go_enter Tryd.func9, Tryd.ntmps9
    go_upto_region 1 with fail
    simp only [zTok]
    rw [← HW1.out]
    go_wp2_with (first
        | (have g := G3; clear g; refine wpList_exec (op := ⟨some 19, .build 26 #[], _, _, _, _⟩) rfl (.agg (tv tok0).toArray) (by kernel_rfl) ?_; clear G3)
        | (have g := G4; clear g; refine wpList_store_as (op := ⟨none, .store 26 (.tmp 2) (.tmp 19), _, _, _, _⟩) rfl 26 (.tmp 2) (.tmp 19) rfl (w.heap.size) 0 (tv tok0).toArray rfl rfl TH.out (tok_sizeA (t := tok0) rep32) (tok_one _) ?_; intro w6 hw6; clear G4))
    have R6 := R1.out.storeH (u := tok0) rep32 hw6
    have q6 := below_storeH HB1.out (Nat.le_refl _) hw6
    rw [HP.out]
    exact bodyPost_ret (v := .tuple #[.agg (tv tok0).toArray, .int .i64 90]) (results_mid_tmp (p := 2) (u := 3) (ty := 26) rfl _ _ w.heap.size 0 (tv tok0) _ rfl R6.range Tryd.underlying26 rfl (tok_size (t := tok0) rep32)) rfl (gives_none q6)
  obtain ⟨K, hK⟩ : ∃ K, n / 24 - 2 = K := ⟨_, rfl⟩
  have hnK : n = 48 + 24 * K := by omega
  have hmod : ((n : Int).tmod 24 != 0) = false := by rw [Int.tmod_eq_emod_of_nonneg (by omega)]; simp; omega
  have hmod2 : (wrap64 ((n : Int).tmod 24) != 0) = false := by rw [Int.tmod_eq_emod_of_nonneg (by omega)]; unfold wrap64; simp; omega
  have HPR : Hid (refPz zs = if rokT zs K then (if eqB (printP (refR zs)) zs then (refR zs, 0) else (pt0, 90)) else (pt0, 90)) := Lib.hid (by
    unfold refPz
    rw [if_neg (by rw [HLZ.out]; exact h72), if_pos (by rw [HLZ.out]; exact h24), HLZ.out, hK])
  have HRR : Hid (refR zs = ⟨atZ zs 0, rlT zs K, zs.drop (n - 32)⟩) := Lib.hid (by unfold refR; rw [HLZ.out, hK])
  have HNK := Lib.hid hnK
  obtain ⟨tn, htn⟩ : ∃ x, atZ zs 0 = x := ⟨_, rfl⟩
  have HTN := Lib.hid htn
  have HTI : Hid (InR tn) := Lib.hid (by rw [← htn]; exact atZ_in HBY.out 0)
  have AT : Hid (∀ (W : World) (a : Nat), Below w.heap.size w W → a ≤ 1000000 → Calls Tryd.prog 21 #[.slice A n c, .int .i64 a] W (Quiet (.int .i64 (atZ zs a)) W)) := Lib.hid (fun W a hW ha => refat_any c (HZ.out W hW) a ha (by omega))
  have AT0 : Hid (Calls Tryd.prog 21 #[.slice A n c, .int .i64 0] W1 (Quiet (.int .i64 tn) W1)) := Lib.hid (by
    have := AT.out W1 0 HB1.out (by omega)
    rw [HTN.out] at this
    exact this)
  obtain ⟨t0, ht0⟩ : ∃ t : TokZ, t = ⟨tn, none, 0, 0, List.replicate 32 0⟩ := ⟨_, rfl⟩
  have HT0 := Lib.hid ht0
  have HL0 : Hid (t0.T.length = 32) := Lib.hid (by rw [ht0]; rfl)
  have G1 := HL0
  have hn1 : n ≤ 48 + 24 * K := by omega
  have hn2 : 48 + 24 * K ≤ n := by omega
  clear ht0 htn hK h24 hnK
  go_enter Tryd.func9, Tryd.ntmps9
  go_upto_region 1 with fail
  simp only [zTok]
  rw [← HW1.out]
  have s1 := S1.out
  go_upto_region 5 with (first
    | (have g := G1; clear g; go_at_call 21; refine AT0.out.mono ?_; rintro e w2 ⟨rfl, m2, rfl⟩; clear G1; have TH := Lib.hid (box_thereN (W1.drewN m2) HL0.out 26 (w.heap.size + 1) S1.out); have G2 := HL0; have G3 := TH)
    | (have g := G2; clear g; refine wpList_exec (op := ⟨some 22, .build 26 #[(0, .tmp 21)], _, _, _, _⟩) rfl (.agg (tv t0).toArray) (by rw [HT0.out]; kernel_rfl) ?_; clear G2)
    | (have g := G3; clear g; refine wpList_store_as (op := ⟨none, .store 26 (.tmp 4) (.tmp 22), _, _, _, _⟩) rfl 26 (.tmp 4) (.tmp 22) rfl (w.heap.size + 1) 0 (tv t0).toArray rfl rfl TH.out (tok_sizeA HL0.out) (tok_one _) ?_; intro w3 hw3; clear G3))
  obtain ⟨x3, b3, s3⟩ := box_stored HL0.out (show (W1.drewN m2).heap.size = w.heap.size + 1 from S1.out) hw3
  have bd : Below W1.heap.size W1 (W1.drewN m2) := below_drewN (Below.refl _ _) m2
  have b13 : Below W1.heap.size W1 w3 := bd.trans b3
  have B3 := Lib.hid (HB1.out.trans (b13.mono HB1.out.size))
  have X3 := Lib.hid x3
  have R3 := Lib.hid (R1.out.below b13 (by have := S1.out; omega))
  clear hw3 x3 b3 b13 bd TH AT0 s1
  go_loopw [5] (fun i wr => ∃ k : Nat, k ≤ K ∧ i = .int .i64 ((16 + 24 * k : Nat) : Int) ∧ Hid (rokT zs k = true) ∧ ∃ D d, Hid (Box wr (w.heap.size + 1) ⟨tn, D, k, d, List.replicate 32 0⟩) ∧ Hid (wr.ownsRow (w.heap.size + 2) 44 3 (.slice D k d) k (gv (rlT zs k))) ∧ Hid (Below w.heap.size w wr) ∧ Hid (Box wr w.heap.size tok0)) (fun i _ => (16 + 24 * K - (intOf i).toNat))
  case atStart =>
    have e0 := HT0.out
    exact ⟨0, by omega, rfl, Lib.hid rfl, none, 0, Lib.hid (by rw [← e0]; exact X3.out), Lib.hid (World.ownsRow_nil _ _ _ _), B3, R3⟩
  case round =>
    obtain ⟨k, hk, rfl, HOKk, D, d, HX, HO, HQ, HR⟩ := hrel
    clear X3 R3 B3
    obtain ⟨p, hp⟩ : ∃ p : Nat, 16 + 24 * k = p := ⟨_, rfl⟩
    have HPP := Lib.hid hp
    rw [hp]
    by_cases hlt : k < K
    · have hltI : (p : Int) + 32 < (n : Int) := by omega
      have hp1 : p ≤ 900000 := by omega
      obtain ⟨r, hr⟩ : ∃ r, atZ zs p = r := ⟨_, rfl⟩
      have HRV := Lib.hid hr
      have HRI : Hid (InR r) := Lib.hid (by rw [← hr]; exact atZ_in HBY.out p)
      have ATp := Lib.hid (AT.out wr p HQ.out (by omega))
      rw [HRV.out] at ATp
      clear hr
      have hp2 : p ≤ 16 + 24 * k := by omega
      have hp3 : 16 + 24 * k ≤ p := by omega
      clear hp
      by_cases hrb : 0 ≤ r ∧ r ≤ 15
      case neg =>
        have HNO : Hid (rokT zs K = false) := Lib.hid (rok_no (k := k) (by rw [HPP.out, HRV.out]; simp; omega) K hlt)
        have HP : Hid (refPz zs = (pt0, 90)) := Lib.hid (by rw [HPR.out, HNO.out]; rfl)
        have HTHW : Hid (∀ W, Below wr.heap.size wr W → Box W w.heap.size tok0) := Lib.hid (fun W hW => HR.out.grow hW)
        by_cases hr0 : r < 0
        · clear hrb
          go_wp2_with (first
              | (go_at_call 21; refine ATp.out.mono ?_; rintro e w4 ⟨rfl, m4, rfl⟩; have B4 := Lib.hid (below_drewN (Below.refl wr.heap.size wr) m4); generalize wr.drewN m4 = w4 at *; have TH := Lib.hid ((HTHW.out w4 B4.out).thereA (u := tok0) rep32); have G3 := TH; have G4 := TH)
              | (have g := G3; clear g; refine wpList_exec (op := ⟨some 39, .build 26 #[], _, _, _, _⟩) rfl (.agg (tv tok0).toArray) (by kernel_rfl) ?_; clear G3)
              | (have g := G4; clear g; refine wpList_store_as (op := ⟨none, .store 26 (.tmp 2) (.tmp 39), _, _, _, _⟩) rfl 26 (.tmp 2) (.tmp 39) rfl (w.heap.size) 0 (tv tok0).toArray rfl rfl TH.out (tok_sizeA (t := tok0) rep32) (tok_one _) ?_; intro w6 hw6; clear G4))
          have R6 := (HTHW.out w4 B4.out).storeH (u := tok0) rep32 hw6
          have q6 := below_storeH (HQ.out.trans (B4.out.mono HQ.out.size)) (Nat.le_refl _) hw6
          rw [HP.out]
          exact bodyPost_ret (v := .tuple #[.agg (tv tok0).toArray, .int .i64 90]) (results_mid_tmp (p := 2) (u := 3) (ty := 26) rfl _ _ w.heap.size 0 (tv tok0) _ rfl R6.range Tryd.underlying26 rfl (tok_size (t := tok0) rep32)) rfl (gives_none q6)
        · have hr15 : 15 < r := by omega
          clear hrb
          go_wp2_with (first
              | (go_at_call 21; refine ATp.out.mono ?_; rintro e w4 ⟨rfl, m4, rfl⟩; have B4 := Lib.hid (below_drewN (Below.refl wr.heap.size wr) m4); generalize wr.drewN m4 = w4 at *; have TH := Lib.hid ((HTHW.out w4 B4.out).thereA (u := tok0) rep32); have G3 := TH; have G4 := TH)
              | (have g := G3; clear g; refine wpList_exec (op := ⟨some 39, .build 26 #[], _, _, _, _⟩) rfl (.agg (tv tok0).toArray) (by kernel_rfl) ?_; clear G3)
              | (have g := G4; clear g; refine wpList_store_as (op := ⟨none, .store 26 (.tmp 2) (.tmp 39), _, _, _, _⟩) rfl 26 (.tmp 2) (.tmp 39) rfl (w.heap.size) 0 (tv tok0).toArray rfl rfl TH.out (tok_sizeA (t := tok0) rep32) (tok_one _) ?_; intro w6 hw6; clear G4))
          have R6 := (HTHW.out w4 B4.out).storeH (u := tok0) rep32 hw6
          have q6 := below_storeH (HQ.out.trans (B4.out.mono HQ.out.size)) (Nat.le_refl _) hw6
          rw [HP.out]
          exact bodyPost_ret (v := .tuple #[.agg (tv tok0).toArray, .int .i64 90]) (results_mid_tmp (p := 2) (u := 3) (ty := 26) rfl _ _ w.heap.size 0 (tv tok0) _ rfl R6.range Tryd.underlying26 rfl (tok_size (t := tok0) rep32)) rfl (gives_none q6)
      obtain ⟨hr0, hr15⟩ := hrb
      go_upto_region 10 with (go_at_call 21; refine ATp.out.mono ?_; rintro e w4 ⟨rfl, m4, rfl⟩; have B4 := Lib.hid (below_drewN (Below.refl wr.heap.size wr) m4); generalize wr.drewN m4 = w4 at *)
      have HX4 := Lib.hid (HX.out.grow B4.out)
      have HR4 := Lib.hid (HR.out.grow B4.out)
      have HQ4 := Lib.hid (HQ.out.trans (B4.out.mono HQ.out.size))
      have HO4 := Lib.hid (own_below HO.out B4.out (Nat.le_refl _))
      obtain ⟨g, hg⟩ : ∃ g, rgT zs k = g := ⟨_, rfl⟩
      have HG1 : Hid (IntKind.u8.wrap r = g.r) := Lib.hid (by rw [← hg, ← HRV.out, ← HPP.out]; rfl)
      have HG2 : Hid (atZ zs (p + 8) = g.x) := Lib.hid (by rw [← hg, ← HPP.out]; rfl)
      have HG3 : Hid (atZ zs (p + 16) = g.s) := Lib.hid (by rw [← hg, ← HPP.out]; rfl)
      have HGL : Hid (gv (rlT zs (k + 1)) = gv (rlT zs k) ++ gv [g]) := Lib.hid (by rw [← hg, ← gv_app]; rfl)
      have C1 : Hid (∀ W, Below w4.heap.size w4 W → W.cell? ⟨w.heap.size + 1, 1, none⟩ = some (.slice D k d)) := Lib.hid (fun W hW => (HX4.out.grow hW).c1)
      have hub := HX4.out.lt
      have HW2 : Hid (IntKind.i64.wrap ((p : Int) + 8) = ((p + 8 : Nat) : Int)) := Lib.hid (by have := IntKind.wrap_i64 ((p : Int) + 8); rw [this]; omega)
      have HW3 : Hid (IntKind.i64.wrap ((p : Int) + 16) = ((p + 16 : Nat) : Int)) := Lib.hid (by have := IntKind.wrap_i64 ((p : Int) + 16); rw [this]; omega)
      have HGK : Hid (GOk g) := Lib.hid (by rw [← hg]; exact rlT_ok HBY.out (k + 1) _ (by rw [rlT]; simp))
      have HOK2 : Hid (rokT zs (k + 1) = true) := Lib.hid (by rw [rokT, HOKk.out, HPP.out, HRV.out]; simp [hr0, hr15])
      clear hg
      refine Late.region (fun w' => Below w4.heap.size w4 w') [14, 15, 16] (by kernel_rfl) (Below.refl _ _).drew (fun hHeld => ?_)
      refine Late.takeT 8 (i := 0) (oi := ⟨some 40, Op.fieldAddr 26 (Operand.tmp 4) 1, _, _, _, _⟩) (v := ?_) rfl (by kernel_rfl) (by kernel_rfl) (by kernel_rfl) (by kernel_rfl) (by kernel_rfl) (fun _ _ _ h => h) (Or.inl ⟨by rfl, fun w hSw => ?_⟩) (by assumption) ?_
      rotate_left
      · (have s1 := hSw; go_simp; try with_reducible rfl)
      try simp only [Act.put, List.setIfInBounds_toArray, List.set_cons_zero, List.set_cons_succ]
      refine Late.takeT 8 (i := 1) (oi := ⟨some 41, Op.load 22 (Operand.tmp 40), _, _, _, _⟩) (v := ?_) rfl (by kernel_rfl) (by kernel_rfl) (by kernel_rfl) (by kernel_rfl) (by kernel_rfl) (fun _ _ _ h => h) (Or.inl ⟨by rfl, fun w hSw => ?_⟩) (by assumption) ?_
      rotate_left
      · (have s1 := hSw; have c := C1.out _ hSw; go_simp; try with_reducible rfl)
      try simp only [Act.put, List.setIfInBounds_toArray, List.set_cons_zero, List.set_cons_succ]
      refine Late.takeT 8 (i := 2) (oi := ⟨some 42, Op.move (Operand.tmp 6), _, _, _, _⟩) (v := ?_) rfl (by kernel_rfl) (by kernel_rfl) (by kernel_rfl) (by kernel_rfl) (by kernel_rfl) (fun _ _ _ h => h) (Or.inl ⟨by rfl, fun w hSw => ?_⟩) (by assumption) ?_
      rotate_left
      · (have s1 := hSw; go_simp; try with_reducible rfl)
      try simp only [Act.put, List.setIfInBounds_toArray, List.set_cons_zero, List.set_cons_succ]
      refine Late.takeT 8 (i := 3) (oi := ⟨some 43, Op.convert 3 5 (Operand.tmp 42), _, _, _, _⟩) (v := ?_) rfl (by kernel_rfl) (by kernel_rfl) (by kernel_rfl) (by kernel_rfl) (by kernel_rfl) (fun _ _ _ h => h) (Or.inl ⟨by rfl, fun w hSw => ?_⟩) (by assumption) ?_
      rotate_left
      · (have s1 := hSw; go_simp; try with_reducible rfl)
      try simp only [Act.put, List.setIfInBounds_toArray, List.set_cons_zero, List.set_cons_succ]
      refine Late.takeT 8 (i := 4) (oi := ⟨some 44, Op.move (Operand.tmp 0), _, _, _, _⟩) (v := ?_) rfl (by kernel_rfl) (by kernel_rfl) (by kernel_rfl) (by kernel_rfl) (by kernel_rfl) (fun _ _ _ h => h) (Or.inl ⟨by rfl, fun w hSw => ?_⟩) (by assumption) ?_
      rotate_left
      · (have s1 := hSw; go_simp; try with_reducible rfl)
      try simp only [Act.put, List.setIfInBounds_toArray, List.set_cons_zero, List.set_cons_succ]
      refine Late.takeT 8 (i := 5) (oi := ⟨some 45, Op.move (Operand.tmp 5), _, _, _, _⟩) (v := ?_) rfl (by kernel_rfl) (by kernel_rfl) (by kernel_rfl) (by kernel_rfl) (by kernel_rfl) (fun _ _ _ h => h) (Or.inl ⟨by rfl, fun w hSw => ?_⟩) (by assumption) ?_
      rotate_left
      · (have s1 := hSw; go_simp; try with_reducible rfl)
      try simp only [Act.put, List.setIfInBounds_toArray, List.set_cons_zero, List.set_cons_succ]
      refine Late.takeT 8 (i := 6) (oi := ⟨some 46, Op.binOp BinOp.add 3 (Operand.tmp 45) (Operand.const (Value.int IntKind.i64 8)) 3, _, _, _, _⟩) (v := ?_) rfl (by kernel_rfl) (by kernel_rfl) (by kernel_rfl) (by kernel_rfl) (by kernel_rfl) (fun _ _ _ h => h) (Or.inl ⟨by rfl, fun w hSw => ?_⟩) (by assumption) ?_
      rotate_left
      · (have s1 := hSw; go_simp; try with_reducible rfl)
      try simp only [Act.put, List.setIfInBounds_toArray, List.set_cons_zero, List.set_cons_succ]
      refine Late.takeT 8 (i := 8) (oi := ⟨some 48, Op.move (Operand.tmp 0), _, _, _, _⟩) (v := ?_) rfl (by kernel_rfl) (by kernel_rfl) (by kernel_rfl) (by kernel_rfl) (by kernel_rfl) (fun _ _ _ h => h) (Or.inl ⟨by rfl, fun w hSw => ?_⟩) (by assumption) ?_
      rotate_left
      · (have s1 := hSw; go_simp; try with_reducible rfl)
      try simp only [Act.put, List.setIfInBounds_toArray, List.set_cons_zero, List.set_cons_succ]
      refine Late.takeT 8 (i := 9) (oi := ⟨some 49, Op.move (Operand.tmp 5), _, _, _, _⟩) (v := ?_) rfl (by kernel_rfl) (by kernel_rfl) (by kernel_rfl) (by kernel_rfl) (by kernel_rfl) (fun _ _ _ h => h) (Or.inl ⟨by rfl, fun w hSw => ?_⟩) (by assumption) ?_
      rotate_left
      · (have s1 := hSw; go_simp; try with_reducible rfl)
      try simp only [Act.put, List.setIfInBounds_toArray, List.set_cons_zero, List.set_cons_succ]
      refine Late.takeT 8 (i := 10) (oi := ⟨some 50, Op.binOp BinOp.add 3 (Operand.tmp 49) (Operand.const (Value.int IntKind.i64 16)) 3, _, _, _, _⟩) (v := ?_) rfl (by kernel_rfl) (by kernel_rfl) (by kernel_rfl) (by kernel_rfl) (by kernel_rfl) (fun _ _ _ h => h) (Or.inl ⟨by rfl, fun w hSw => ?_⟩) (by assumption) ?_
      rotate_left
      · (have s1 := hSw; go_simp; try with_reducible rfl)
      try simp only [Act.put, List.setIfInBounds_toArray, List.set_cons_zero, List.set_cons_succ]
      refine Late.one (i := 7) (o := ⟨some 47, Op.call { callee := Callee.value (Operand.func 21), args := #[Operand.tmp 44, Operand.tmp 46], argTypes := #[27, 3] }, _, _, _, _⟩) (by kernel_rfl) rfl (fun K hK => ?_)
      go_simp
      rw [HW2.out]
      refine (AT.out _ _ (HQ4.out.trans (hHeld.mono HQ4.out.size)) (by omega)).mono ?_
      rw [HG2.out]
      rintro e wb ⟨rfl, hqb⟩
      have hbb : Below w4.heap.size w4 wb := by
        obtain ⟨mb, rfl⟩ := hqb
        exact below_drewN hHeld mb
      clear hqb
      refine hK.out _ _ (hbb) (fun hHeld2 => ?_)
      clear hK K hHeld
      have hHeld := hHeld2
      clear hHeld2
      try simp only [Act.put, List.setIfInBounds_toArray, List.set_cons_zero, List.set_cons_succ]
      refine Late.one (i := 11) (o := ⟨some 51, Op.call { callee := Callee.value (Operand.func 21), args := #[Operand.tmp 48, Operand.tmp 50], argTypes := #[27, 3] }, _, _, _, _⟩) (by kernel_rfl) rfl (fun K hK => ?_)
      go_simp
      rw [HW3.out]
      refine (AT.out _ _ (HQ4.out.trans (hHeld.mono HQ4.out.size)) (by omega)).mono ?_
      rw [HG3.out]
      rintro e wc ⟨rfl, hqc⟩
      have hbc : Below w4.heap.size w4 wc := by
        obtain ⟨mc, rfl⟩ := hqc
        exact below_drewN hHeld mc
      clear hqc
      refine hK.out _ _ (hbc) (fun hHeld2 => ?_)
      clear hK K hHeld
      have hHeld := hHeld2
      clear hHeld2
      try simp only [Act.put, List.setIfInBounds_toArray, List.set_cons_zero, List.set_cons_succ]
      refine Late.one (i := 12) (o := ⟨some 52, Op.build 44 #[(0, Operand.tmp 43), (1, Operand.tmp 47), (2, Operand.tmp 51)], _, _, _, _⟩) (by kernel_rfl) rfl (fun K hK => ?_)
      simp only [HG1.out]
      rw [if_pos (by rfl)]
      refine wp_exec (.agg #[.int .u8 g.r, .int .i64 g.x, .int .i64 g.s]) (by kernel_rfl) ?_
      refine hK.out _ _ (hHeld) (fun hHeld2 => ?_)
      clear hK K hHeld
      have hHeld := hHeld2
      clear hHeld2
      try simp only [Act.put, List.setIfInBounds_toArray, List.set_cons_zero, List.set_cons_succ]
      refine Late.one (i := 13) (o := ⟨some 53, Op.buildSlice 22 1 #[(0, Operand.tmp 52)], _, _, _, _⟩) (by kernel_rfl) rfl (fun K hK => ?_)
      go_simp
      refine hK.out _ _ (hHeld.alloc hHeld.size _) (fun hHeld2 => ?_)
      clear hK K hHeld
      have hHeld := hHeld2
      clear hHeld2
      try simp only [Act.put, List.setIfInBounds_toArray, List.set_cons_zero, List.set_cons_succ]
      refine Late.end_ (i := 14) (o := ⟨some 54, Op.call { callee := Callee.builtin Builtin.append, args := #[Operand.tmp 41, Operand.tmp 53], argTypes := #[22, 22] }, _, _, _, _⟩) (by kernel_rfl) rfl rfl (fun K hK => ?_)
      have ownA := own_below HO4.out hHeld (Nat.le_refl _)
      have hz8 := hHeld.size
      refine step_app (wc.alloc (.cells #[.int .u8 g.r, .int .i64 g.x, .int .i64 g.s] 44)) rfl (.tmp 41) (.tmp 53) 22 rfl (w.heap.size + 2) 44 3 24 Tryd.underlying22 grant_info (by omega) (.slice D k d) k (gv (rlT zs k)) (by rfl) ownA (some ⟨wc.heap.size, 0, none⟩) 1 1 (gv [g]) (by rfl) ((grants_new wc [g] 44 _ rfl (fun x hx => by rw [List.mem_singleton] at hx; subst hx; exact HGK.out)).lies.1) (fun h => by cases h) (gv_one [g]) (by unfold maxLen; omega) (by omega) (by omega) ?_
      intro v9 w9 ho9 hg9 _
      have b9 := (Below.refl (w.heap.size + 2) _).grown hg9 (by omega) (fun q hq => (ownA.lt q hq).1)
      have x9 := (HX4.out.grow hHeld).below b9 (by omega)
      have r9 := (HR4.out.grow hHeld).below b9 (by omega)
      have q9 := (HQ4.out.trans (hHeld.mono HQ4.out.size)).trans (b9.mono (by omega))
      obtain ⟨A9, c9, rfl, h91, h92⟩ := own_shapeG ho9
      rw [← HGL.out] at ho9
      have c9' := x9.c1
      have f9' := x9.g1
      refine hK.out _ _ ?_
      clear hK K
      try simp only [Act.put, List.setIfInBounds_toArray, List.set_cons_zero, List.set_cons_succ]
      refine Late.end_ (i := 15) (o := ⟨some 55, Op.fieldAddr 26 (Operand.tmp 4) 1, _, _, _, _⟩) (by kernel_rfl) rfl rfl (fun K hK => ?_)
      go_simp
      refine hK.out _ _ ?_
      clear hK K
      try simp only [Act.put, List.setIfInBounds_toArray, List.set_cons_zero, List.set_cons_succ]
      refine Late.end_ (i := 16) (o := ⟨none, Op.store 22 (Operand.tmp 55) (Operand.tmp 54), _, _, _, _⟩) (by kernel_rfl) rfl rfl (fun K hK => ?_)
      go_simp
      refine hK.out _ _ ?_
      clear hK K
      try simp only [Act.put]
      refine Late.done (by kernel_rfl) ?_ _
      refine NoPanic.normal ?_
      have X10 := Lib.hid (x9.setLine A9 (k + 1) c9)
      have Q10 := Lib.hid (q9.setCell (p := ⟨w.heap.size + 1, 1, none⟩) (by show w.heap.size ≤ w.heap.size + 1; omega) (.slice A9 (k + 1) c9))
      have R10 := Lib.hid (r9.farC (p := ⟨w.heap.size + 1, 1, none⟩) (by show w.heap.size + 1 ≠ w.heap.size; omega) (.slice A9 (k + 1) c9))
      have O10 : Hid ((w9.setCell ⟨w.heap.size + 1, 1, none⟩ (.slice A9 (k + 1) c9)).ownsRow (w.heap.size + 2) 44 3 (.slice A9 (k + 1) c9) (k + 1) (gv (rlT zs (k + 1)))) := Lib.hid (own_far ho9 (by show w.heap.size + 1 < w.heap.size + 2; omega) _)
      generalize w9.setCell ⟨w.heap.size + 1, 1, none⟩ (.slice A9 (k + 1) c9) = w10 at *
      clear x9 q9 r9 ho9 hg9 b9 c9' f9' hHeld ownA hz8
      go_wp2
      go_roundw
      case rel => exact ⟨k + 1, by omega, by go_num, HOK2, A9, c9, X10, O10, Q10, R10⟩
      case measure => simp [intOf]; omega
    · have hkK : k = K := by omega
      subst hkK
      have hge : ¬ ((p : Int) + 32 < (n : Int)) := by omega
      have HPX : Hid (refPz zs = if eqB (printP (refR zs)) zs then (refR zs, 0) else (pt0, 90)) := Lib.hid (by rw [HPR.out, HOKk.out]; rfl)
      have hp1 : p ≤ 900000 := by omega
      clear hp HPP hlt
      go_upto_region 12 with fail
      go_loopw [7] (fun i wx => ∃ j : Nat, j ≤ 32 ∧ i = .int .i64 j ∧ ∃ T : List Int, Hid (T.length = 32) ∧ Hid (∀ q, q < j → T.getD q 0 = zs.getD (n - 32 + q) 0) ∧ Hid (Box wx (w.heap.size + 1) ⟨tn, D, k, d, T⟩) ∧ Hid (wx.ownsRow (w.heap.size + 2) 44 3 (.slice D k d) k (gv (rlT zs k))) ∧ Hid (Below w.heap.size w wx) ∧ Hid (Box wx w.heap.size tok0)) (fun i _ => 32 - (intOf i).toNat)
      case atStart => exact ⟨0, by omega, rfl, List.replicate 32 0, Lib.hid rfl, Lib.hid (fun q hq => by omega), HX, HO, HQ, HR⟩
      case round =>
        obtain ⟨j, hj, rfl, T, HTL, HTE, HX2, HO2, HQ2, HR2⟩ := hrel
        clear HX HO HQ HR
        by_cases hlj : j < 32
        · have hltJ : (j : Int) < 32 := by omega
          have hn32 : 32 ≤ n := by omega
          obtain ⟨b, off, u, rfl, hb, HU, hu0, hu1, hc⟩ := (HZ.out _ HQ2.out).at_ (k := n - 32 + j) (by omega)
          have hW1 : IntKind.i64.wrap ((n : Int) - 32) = (n : Int) - 32 := by have := IntKind.wrap_i64 ((n : Int) - 32); rw [this]; omega
          have hW2 : IntKind.i64.wrap ((n : Int) - 32 + j) = (n : Int) - 32 + j := by have := IntKind.wrap_i64 ((n : Int) - 32 + j); rw [this]; omega
          have hI0 : 0 ≤ (n : Int) - 32 + j := by omega
          have hI1 : (n : Int) - 32 + j < (n : Int) := by omega
          have hIN : ((n : Int) - 32 + (j : Int)).toNat = n - 32 + j := by omega
          have ht := HX2.out.tag j (.int .u8 (T.getD j 0)) (vals_at _ j (by show j < T.length; rw [HTL.out]; exact hlj))
          have hf := (HX2.out.tagThere j hlj).2
          have HTL3 : Hid ((T.set j u).length = 32) := Lib.hid (by rw [List.length_set]; exact HTL.out)
          have HTE3 : Hid (∀ q, q < j + 1 → (T.set j u).getD q 0 = zs.getD (n - 32 + q) 0) := Lib.hid (fun q hq => by
            rw [getD_set _ _ _ _ (by rw [HTL.out]; exact hlj)]
            split
            · next e => subst e; exact HU.out.symm
            · exact HTE.out q (by omega))
          have X3 := Lib.hid (HX2.out.setTagAt hlj u)
          have Q3 := Lib.hid (HQ2.out.setCell (p := ⟨w.heap.size + 1, 2 + j, none⟩) (by show w.heap.size ≤ w.heap.size + 1; omega) (.int .u8 u))
          have R3 := Lib.hid (HR2.out.farC (p := ⟨w.heap.size + 1, 2 + j, none⟩) (by show w.heap.size + 1 ≠ w.heap.size; omega) (.int .u8 u))
          have O3 := Lib.hid (own_far HO2.out (p := ⟨w.heap.size + 1, 2 + j, none⟩) (by show w.heap.size + 1 < w.heap.size + 2; omega) (.int .u8 u))
          go_wp2
          go_roundw
          case rel => exact ⟨j + 1, by omega, by go_num, T.set j u, HTL3, HTE3, X3, O3, Q3, R3⟩
          case measure => simp [intOf]; omega
        · have hj32 : j = 32 := by omega
          have HTT : Hid (T = zs.drop (n - 32)) := Lib.hid (list_ext_getD (by rw [HTL.out, List.length_drop, HLZ.out]; omega) (fun q hq => by
            rw [HTE.out q (by rw [HTL.out] at hq; omega)]
            simp only [List.getD_eq_getElem?_getD, List.getElem?_drop]))
          have TB : IsBytes T := fun q hq => by
            rw [HTE.out q (by rw [HTL.out] at hq; omega)]
            exact HBY.out _ (by rw [HLZ.out]; rw [HTL.out] at hq; omega)
          have hge2 : ¬ (j : Int) < 32 := by omega
          obtain ⟨u, hu⟩ : ∃ u : TokZ, (⟨tn, D, k, d, T⟩ : TokZ) = u := ⟨_, rfl⟩
          rw [hu] at HX2
          obtain ⟨e1, e2, e3, e4, e5⟩ : u.tn = tn ∧ u.A = D ∧ u.m = k ∧ u.c = d ∧ u.T = T := by rw [← hu]; exact ⟨rfl, rfl, rfl, rfl, rfl⟩
          have hd : k ≤ d ∧ d ≤ maxLen := by
            obtain ⟨_, _, hv, h1, h2⟩ := own_shapeG HO2.out
            injection hv with _ _ hv
            subst hv
            exact ⟨h1, h2⟩
          have hgr := grants_of_own HO2.out (rlT_ok HBY.out k)
          have KU : Hid (Tok _ _ u (rlT zs k)) := Lib.hid ⟨HX2.out.len, by rw [e5]; exact TB, by rw [e1]; exact HTI.out, by rw [e2, e3]; exact hgr, by rw [e3, e4]; exact hd.1, by rw [e4]; exact hd.2⟩
          have HPT : Hid (pt u (rlT zs k) = refR zs) := Lib.hid (by unfold pt; rw [e1, e5, HRR.out, HTN.out, HTT.out])
          have PR := Lib.hid (refprint_any KU.out (Nat.le_refl _))
          rw [HPT.out] at PR
          obtain ⟨Z, hZ⟩ : ∃ Z, printP (refR zs) = Z := ⟨_, rfl⟩
          rw [hZ] at PR HPX
          have ZB : Hid (IsBytes Z) := Lib.hid (by rw [← hZ]; exact printP_bytes _ (by rw [HRR.out, ← HTT.out]; exact TB))
          obtain ⟨m, hm⟩ : ∃ m, Z.length = m := ⟨_, rfl⟩
          have HM := Lib.hid hm
          have HUA : Hid (∀ b' off, u.A = some ⟨b', off, none⟩ → w.heap.size + 2 ≤ b') := Lib.hid (fun b' off hq => by
            rw [e2] at hq
            exact (HO2.out.lt b' (by rw [hq]; rfl)).1)
          have G1 := HX2
          have hQs := HQ2.out.size
          clear hj32 TB hu e1 e2 e3 e4 e5 hd hgr hZ hm HO2 HTE HTT HTL
          by_cases hzl : m = n
          case neg =>
            have HP : Hid (refPz zs = (pt0, 90)) := Lib.hid (by
              rw [HPX.out, if_neg]
              intro hh
              have := eqB_iff.1 hh
              exact hzl (by rw [← HM.out, this, HLZ.out]))
            have hne : ((m : Int) != (n : Int)) = true := by simp; omega
            go_wp2_with (first
                | (have g := G1; clear g; refine wpList_load_mid (op := ⟨some 71, .load 26 (.tmp 4), _, _, _, _⟩) rfl 26 (.tmp 4) rfl (w.heap.size + 1) 0 rfl (tv u) _ HX2.out.range Tryd.underlying26 rfl (tok_size HX2.out.len) ?_; clear G1)
                | (go_at_call 4; refine PR.out.mono ?_; intro e w6 hm6; obtain ⟨D6, c6, rfl, ho6, hb6, _, _⟩ := hm6.n HM.out; have B6 := Lib.hid hb6; have TH := Lib.hid ((HR2.out.grow hb6).thereA (u := tok0) rep32); have G3 := TH; have G4 := TH; clear hm6 ho6 hb6)
                | (have g := G3; clear g; refine wpList_exec (op := ⟨some 78, .build 26 #[], _, _, _, _⟩) rfl (.agg (tv tok0).toArray) (by kernel_rfl) ?_; clear G3)
                | (have g := G4; clear g; refine wpList_store_as (op := ⟨none, .store 26 (.tmp 2) (.tmp 78), _, _, _, _⟩) rfl 26 (.tmp 2) (.tmp 78) rfl (w.heap.size) 0 (tv tok0).toArray rfl rfl TH.out (tok_sizeA (t := tok0) rep32) (tok_one _) ?_; intro w7 hw7; clear G4))
            have R6 := (HR2.out.grow B6.out).storeH (u := tok0) rep32 hw7
            have q6 := below_storeH (HQ2.out.trans (B6.out.mono hQs)) (Nat.le_refl _) hw7
            rw [HP.out]
            exact bodyPost_ret (v := .tuple #[.agg (tv tok0).toArray, .int .i64 90]) (results_mid_tmp (p := 2) (u := 3) (ty := 26) rfl _ _ w.heap.size 0 (tv tok0) _ rfl R6.range Tryd.underlying26 rfl (tok_size (t := tok0) rep32)) rfl (gives_none q6)
          have hnn : ((m : Int) != (n : Int)) = false := by simp; omega
          have hm1 : m ≤ n := by omega
          have hm2 : n ≤ m := by omega
          clear hzl
          go_upto_region 19 with (first
              | (have g := G1; clear g; refine wpList_load_mid (op := ⟨some 71, .load 26 (.tmp 4), _, _, _, _⟩) rfl 26 (.tmp 4) rfl (w.heap.size + 1) 0 rfl (tv u) _ HX2.out.range Tryd.underlying26 rfl (tok_size HX2.out.len) ?_; clear G1)
              | (go_at_call 4; refine PR.out.mono ?_; intro e w6 hm6; obtain ⟨D6, c6, rfl, ho6, hb6, _, _⟩ := hm6.n HM.out; have B6 := Lib.hid hb6; have Z6 := Lib.hid (Made.bs ho6 ZB.out); clear hm6 ho6 hb6))
          go_loopw [9] (fun i wy => ∃ s q : Nat, s ≤ n ∧ i = .int .i64 s ∧ wy = w6.drewN q ∧ Hid (∀ x, x < s → Z.getD x 0 = zs.getD x 0)) (fun i _ => n - (intOf i).toNat)
          case atStart => exact ⟨0, 0, by omega, rfl, rfl, Lib.hid (fun x hx => by omega)⟩
          case round =>
            obtain ⟨s, q, hs, rfl, rfl, HE⟩ := hrel
            have HQ6 := Lib.hid (HQ2.out.trans (B6.out.mono hQs))
            by_cases hls : s < n
            · have hsI : (s : Int) < (n : Int) := by omega
              have hsJ : (s : Int) < (m : Int) := by omega
              obtain ⟨b1, o1, u1, rfl, hb1, HU1, hu10, hu11, hc1⟩ := Z6.out.at_ (k := s) (by omega)
              obtain ⟨b2, o2, u2, rfl, hb2, HU2, hu20, hu21, hc2⟩ := (HZ.out _ HQ6.out).at_ (k := s) (by omega)
              by_cases hue : u1 = u2
              · subst hue
                have HE2 : Hid (∀ x, x < s + 1 → Z.getD x 0 = zs.getD x 0) := Lib.hid (fun x hx => by
                  by_cases e : x = s
                  · subst e; rw [HU1.out, HU2.out]
                  · exact HE.out x (by omega))
                go_wp2
                go_quiet (fail)
                go_wp2
                go_roundw
                case rel => exact ⟨s + 1, _, by omega, by go_num, rfl, HE2⟩
                case measure => simp [intOf]; omega
              · have HP : Hid (refPz zs = (pt0, 90)) := Lib.hid (by
                  rw [HPX.out, if_neg]
                  intro hh
                  have := eqB_iff.1 hh
                  exact hue (by rw [← HU1.out, ← HU2.out, this]))
                have HR6 := Lib.hid (HR2.out.grow B6.out)
                have TH := Lib.hid (HR6.out.thereA (u := tok0) rep32)
                have G3 := TH
                have G4 := TH
                go_wp2
                go_quiet (fail)
                go_wp2_with (first
                    | (have g := G3; clear g; refine wpList_exec (op := ⟨some 94, .build 26 #[], _, _, _, _⟩) rfl (.agg (tv tok0).toArray) (by kernel_rfl) ?_; clear G3)
                    | (have g := G4; clear g; refine wpList_store_as (op := ⟨none, .store 26 (.tmp 2) (.tmp 94), _, _, _, _⟩) rfl 26 (.tmp 2) (.tmp 94) rfl (w.heap.size) 0 (tv tok0).toArray rfl rfl TH.out (tok_sizeA (t := tok0) rep32) (tok_one _) ?_; intro w7 hw7; clear G4))
                have R6 : Box w7 w.heap.size tok0 := Box.storeH (w := (w6.drewN q).drewN _) ⟨HR6.out.range, HR6.out.there, HR6.out.len⟩ rep32 hw7
                have q6 := below_storeH (below_drewN (below_drewN HQ6.out _) _) (Nat.le_refl _) hw7
                rw [HP.out]
                exact bodyPost_ret (v := .tuple #[.agg (tv tok0).toArray, .int .i64 90]) (results_mid_tmp (p := 2) (u := 3) (ty := 26) rfl _ _ w.heap.size 0 (tv tok0) _ rfl R6.range Tryd.underlying26 rfl (tok_size (t := tok0) rep32)) rfl (gives_none q6)
            · have HZZ : Hid (refPz zs = (refR zs, 0)) := Lib.hid (by
                rw [HPX.out, if_pos]
                refine eqB_iff.2 (list_ext_getD (by rw [HM.out, HLZ.out]; omega) (fun x hx => HE.out x (by rw [HM.out] at hx; omega)))
                )
              have hge3 : ¬ (s : Int) < (m : Int) := by omega
              have hx6 := HX2.out.grow B6.out
              have hr6 := HR2.out.grow B6.out
              have X7 : Hid (Box (w6.drewN q) (w.heap.size + 1) u) := Lib.hid ⟨hx6.range, hx6.there, hx6.len⟩
              have R7 : Hid (Box (w6.drewN q) w.heap.size tok0) := Lib.hid ⟨hr6.range, hr6.there, hr6.len⟩
              have k6 := (KU.out.below B6.out).more B6.out.size
              have K7 : Hid (Tok (w6.drewN q) (w6.drewN q).heap.size u (rlT zs k)) := Lib.hid ⟨k6.len, k6.bytes, k6.tn, k6.line.drewN q, k6.mc, k6.cm⟩
              have TH := Lib.hid (R7.out.thereA X7.out.len)
              have G5 := X7
              have G6 := TH
              have LU := Lib.hid X7.out.len
              clear hx6 hr6 k6
              go_wp2_with (first
                  | (have g := G5; clear g; refine wpList_load_mid (op := ⟨some 95, .load 26 (.tmp 4), _, _, _, _⟩) rfl 26 (.tmp 4) rfl (w.heap.size + 1) 0 rfl (tv u) _ X7.out.range Tryd.underlying26 rfl (tok_size X7.out.len) ?_; clear G5)
                  | (have g := G6; clear g; refine wpList_store_as (op := ⟨none, .store 26 (.tmp 2) (.tmp 95), _, _, _, _⟩) rfl 26 (.tmp 2) (.tmp 95) rfl (w.heap.size) 0 (tv u).toArray rfl rfl TH.out (tok_sizeA LU.out) (tok_one _) ?_; intro w8 hw8; clear G6))
              have R8 := R7.out.storeH LU.out hw8
              have q8 := below_storeH (below_drewN HQ6.out q) (Nat.le_refl _) hw8
              have K8 : Tok w8 w8.heap.size u (rlT zs k) := by
                have hl := K7.out
                exact ⟨hl.len, hl.bytes, hl.tn, (hl.line.otherH (fun b' off hq => by have := HUA.out b' off hq; omega) hw8).more (size_storeH hw8), hl.mc, hl.cm⟩
              rw [HZZ.out]
              exact bodyPost_ret (v := .tuple #[.agg (tv u).toArray, .int .i64 0]) (results_mid_tmp (p := 2) (u := 3) (ty := 26) rfl _ _ w.heap.size 0 (tv u) _ rfl R8.range Tryd.underlying26 rfl (tok_size LU.out)) rfl ⟨u, rlT zs k, rfl, K8, HPT.out, q8, fun b' off hq => by have := HUA.out b' off hq; omega⟩
end Go.Proofs.YtmeafjehcckibaaDoor
