/- token.Mint. -/
import Derived.Test.YtmeafjehcckibaaDoorB8
namespace Go.Proofs.YtmeafjehcckibaaDoor
open Go.ChangeShapes Go.WideShapes Go.ChangeAt Go.RowKit
set_option linter.unusedVariables false
open Plain Sha
set_option maxRecDepth 100000 in
set_option maxHeartbeats 4000000 in
theorem mint_any {w : World} {B1 n1 : Nat} {A1 : Option Addr} (c1 : Nat) {ks : List Int} (hk : Bs w B1 A1 n1 ks) (hB1 : B1 ≤ w.heap.size) (hn1 : n1 ≤ 10000) (tn : Int) (ht : InR tn) (g : GrantZ) (hg : GOk g) (hF : LaidF w) (hK : LaidK w) :
    Calls Tryd.prog 23 #[.slice A1 n1 c1, .int .i64 tn, .agg #[.int .u8 g.r, .int .i64 g.x, .int .i64 g.s]] w (Gives w (mintP ks tn g)) := by
  obtain ⟨W2, hW2⟩ : ∃ W, W = (w.alloc (.cells #[.int .u8 g.r, .int .i64 g.x, .int .i64 g.s] 44)).alloc (.cells (tv tok0).toArray 26) := ⟨_, rfl⟩
  have s2 : W2.heap.size = w.heap.size + 2 := by rw [hW2]; simp
  have b2 : Below w.heap.size w W2 := by rw [hW2]; exact ((Below.refl _ _).alloc (Nat.le_refl _) _).alloc (by simp) _
  have r2 : Box W2 (w.heap.size + 1) tok0 := by rw [hW2]; exact box_new _ tok0 rep32 _ _ (by simp)
  have c0 : W2.cell? ⟨w.heap.size, 0, none⟩ = some (.int .u8 g.r) := by rw [hW2, World.cell?_alloc_lt _ _ _ (by simp), cell_of_row _ _ _ _ _ _ (heap_alloc_new w _)]; rfl
  have c1' : W2.cell? ⟨w.heap.size, 1, none⟩ = some (.int .i64 g.x) := by rw [hW2, World.cell?_alloc_lt _ _ _ (by simp), cell_of_row _ _ _ _ _ _ (heap_alloc_new w _)]; rfl
  have c2 : W2.cell? ⟨w.heap.size, 2, none⟩ = some (.int .i64 g.s) := by rw [hW2, World.cell?_alloc_lt _ _ _ (by simp), cell_of_row _ _ _ _ _ _ (heap_alloc_new w _)]; rfl
  obtain ⟨W3, hW3⟩ : ∃ W, W = W2.alloc (.cells #[.int .u8 g.r, .int .i64 g.x, .int .i64 g.s] 44) := ⟨_, rfl⟩
  have b23 : Below W2.heap.size W2 W3 := by rw [hW3]; exact (Below.refl _ _).alloc (Nat.le_refl _) _
  have s3 : W3.heap.size = w.heap.size + 3 := by rw [hW3]; simp; omega
  have g3 : Grants W3 (w.heap.size + 3) (some ⟨w.heap.size + 2, 0, none⟩) 1 [g] := by
    rw [hW3]
    exact grants_new W2 [g] _ (w.heap.size + 2) s2 (fun x hx => by rw [List.mem_singleton] at hx; subst hx; exact hg)
  have HR3 := Lib.hid (r2.below b23 (by omega))
  have HB3 := Lib.hid (b2.trans (b23.mono b2.size))
  have HG3 := Lib.hid g3
  have HT := Lib.hid ht
  have HKEY := Lib.hid hk
  have HF := Lib.hid hF
  have HK := Lib.hid hK
  have HW2 := Lib.hid hW2
  have HW3 := Lib.hid hW3
  have HS3 := Lib.hid s3
  have HS2 := Lib.hid s2
  obtain ⟨t, ht0⟩ : ∃ t : TokZ, t = ⟨tn, some ⟨w.heap.size + 2, 0, none⟩, 1, 1, List.replicate 32 0⟩ := ⟨_, rfl⟩
  have HL : Hid (t.T.length = 32) := Lib.hid (by rw [ht0]; rfl)
  have HT0 := Lib.hid ht0
  have HTH : Hid (((W2.alloc (.cells #[.int .u8 g.r, .int .i64 g.x, .int .i64 g.s] 44)).alloc (.cells (tv tok0).toArray 26)).there (W2.heap.size + 1) 0 (tv t).toArray.size) := Lib.hid (box_thereN _ HL.out 26 (W2.heap.size + 1) (by simp))
  clear hk hW2 hW3 hg ht r2 b2 b23 g3 s3 s2 ht0 hF hK
  have G1 := HL
  have G2 := HL
  go_enter Tryd.func23, Tryd.ntmps23
  go_upto_region 1 with fail
  simp only [zTok]
  rw [← HW2.out]
  go_upto_region 2 with (first
    | (have g := G1; clear g; refine wpList_exec (op := ⟨some 12, .build 26 #[(0, .tmp 9), (1, .tmp 11)], _, _, _, _⟩) rfl (.agg (tv t).toArray) (by rw [HT0.out, HS2.out]; kernel_rfl) ?_; clear G1)
    | (have g := G2; clear g; refine wpList_store_as (op := ⟨none, .store 26 (.tmp 8) (.tmp 12), _, _, _, _⟩) rfl 26 (.tmp 8) (.tmp 12) rfl (W2.heap.size + 1) 0 (tv t).toArray rfl rfl HTH.out (tok_sizeA HL.out) (tok_one _) ?_; intro w4 hw4; clear G2))
  have hw4' : Hid (w4 = (W3.alloc (.cells (tv tok0).toArray 26)).setCells (W2.heap.size + 1) 0 (tv t).toArray.toList) := Lib.hid (by rw [HW3.out]; exact hw4.out)
  obtain ⟨x4, b4, s4⟩ := box_stored HL.out (by rw [HS3.out, HS2.out]) hw4'
  have X4 := Lib.hid x4
  have B34 := Lib.hid b4
  have B4 := Lib.hid (HB3.out.trans (b4.mono HB3.out.size))
  have R4 := Lib.hid (HR3.out.below b4 (by have := HS3.out; omega))
  have G4 := Lib.hid (HG3.out.belowM b4 (by have := HS3.out; omega))
  have e8 : W2.heap.size + 1 = w.heap.size + 3 := by have := HS2.out; omega
  simp only [e8] at s4 X4 ⊢
  have K4 : Hid (Tok w4 w4.heap.size t [g]) := Lib.hid (by
    have hg := G4.out.more (B' := w4.heap.size) (by omega)
    rw [HT0.out]
    exact ⟨rfl, rep_bytes 32 0 (by omega) (by omega), HT.out, hg, Nat.le_refl _, by simp [maxLen]⟩)
  have hm1 : t.m = 1 := by rw [HT0.out]
  have htn : t.tn = tn := by rw [HT0.out]
  clear hw4 hw4' x4 b4 e8 HB3 HR3 HG3 HTH
  obtain ⟨q, hq⟩ : ∃ q, mayT tn [g] = q := ⟨_, rfl⟩
  have HQ := Lib.hid hq
  have HTN := Lib.hid htn
  have HM1 := Lib.hid hm1
  clear hq htn hm1
  cases q
  · have G1 := HL
    go_upto_region 3 with (first
      | (have g := G1; clear g; refine wpList_load_mid (op := ⟨some 13, .load 26 (.tmp 8), _, _, _, _⟩) rfl 26 (.tmp 8) rfl (w.heap.size + 3) 0 rfl (tv t) _ X4.out.range Tryd.underlying26 rfl (tok_size X4.out.len) ?_; clear G1)
      | (go_at_call 16; refine (tmay_val false K4.out (Nat.le_refl _) (by rw [HTN.out]; exact HQ.out)).mono ?_; rintro e w5 ⟨rfl, hb5⟩; have B5 := Lib.hid hb5; clear hb5))
    have B5' := Lib.hid (B4.out.trans (B5.out.mono B4.out.size))
    have X5 := Lib.hid (X4.out.grow B5.out)
    have R5 := Lib.hid (R4.out.grow B5.out)
    have K5 := Lib.hid (K4.out.below B5.out)
    have s5 := B5.out.size
    have G5 := Lib.hid (G4.out.belowM B5.out (by omega))
    clear X4 R4 K4
    have HP : Hid (mintP ks tn g = (pt0, 2)) := Lib.hid (by unfold mintP; rw [HQ.out]; rfl)
    have G1 := HL
    have G2 := HL
    have TH := Lib.hid (R5.out.thereA (u := tok0) rep32)
    go_wp2_with (first
      | (have g := G1; clear g; refine wpList_exec (op := ⟨some 16, .build 26 #[], _, _, _, _⟩) rfl (.agg (tv tok0).toArray) (by kernel_rfl) ?_; clear G1)
      | (have g := G2; clear g; refine wpList_store_as (op := ⟨none, .store 26 (.tmp 6) (.tmp 16), _, _, _, _⟩) rfl 26 (.tmp 6) (.tmp 16) rfl (w.heap.size + 1) 0 (tv tok0).toArray rfl rfl TH.out (tok_sizeA (t := tok0) rep32) (tok_one _) ?_; intro w6 hw6; clear G2))
    have R6 := R5.out.storeH (u := tok0) rep32 hw6
    have q6 := below_storeH B5'.out (by omega) hw6
    rw [HP.out]
    exact bodyPost_ret (v := .tuple #[.agg (tv tok0).toArray, .int .i64 2]) (results_mid_tmp (p := 6) (u := 7) (ty := 26) rfl _ _ (w.heap.size + 1) 0 (tv tok0) _ rfl R6.range Tryd.underlying26 rfl (tok_size (t := tok0) rep32)) rfl (gives_none q6)
  · have G1 := HL
    go_upto_region 4 with (first
      | (have g := G1; clear g; refine wpList_load_mid (op := ⟨some 13, .load 26 (.tmp 8), _, _, _, _⟩) rfl 26 (.tmp 8) rfl (w.heap.size + 3) 0 rfl (tv t) _ X4.out.range Tryd.underlying26 rfl (tok_size X4.out.len) ?_; clear G1)
      | (go_at_call 16; refine (tmay_val true K4.out (Nat.le_refl _) (by rw [HTN.out]; exact HQ.out)).mono ?_; rintro e w5 ⟨rfl, hb5⟩; have B5 := Lib.hid hb5; clear hb5))
    have B5' := Lib.hid (B4.out.trans (B5.out.mono B4.out.size))
    have X5 := Lib.hid (X4.out.grow B5.out)
    have R5 := Lib.hid (R4.out.grow B5.out)
    have K5 := Lib.hid (K4.out.below B5.out)
    have s5 := B5.out.size
    have G5 := Lib.hid (G4.out.belowM B5.out (by omega))
    clear X4 R4 K4
    have HP : Hid (mintP ks tn g = (⟨tn, [g], tokTag ks tn [g]⟩, 0)) := Lib.hid (by unfold mintP; rw [HQ.out]; rfl)
    obtain ⟨TT, hTT⟩ : ∃ T, tokTag ks tn [g] = T := ⟨_, rfl⟩
    have LT : Hid (TT.length = 32) := Lib.hid (by rw [← hTT]; exact tokTag_len _ _ _)
    have BT : Hid (IsBytes TT) := Lib.hid (by rw [← hTT]; exact tokTag_bytes _ _ _)
    have HTT := Lib.hid hTT
    clear hTT
    have TG := Lib.hid (tagged_any c1 (HKEY.out.belowM B5'.out hB1) K5.out (Nat.le_trans hB1 B5'.out.size) B5.out.size (by rw [HM1.out]; omega) (by rw [HM1.out]; omega) (by omega) (HF.out.below B5'.out HF.out.lt) (HK.out.below B5'.out HK.out.lt))
    have G1 := HL
    have G2 := HL
    go_upto_region 5 with (first
      | (have g := G1; clear g; refine wpList_load_mid (op := ⟨some 18, .load 26 (.tmp 8), _, _, _, _⟩) rfl 26 (.tmp 8) rfl (w.heap.size + 3) 0 rfl (tv t) _ X5.out.range Tryd.underlying26 rfl (tok_size X5.out.len) ?_; clear G1)
      | (go_at_call 31; refine TG.out.mono ?_; rw [HTN.out, HTT.out]; rintro e w6 ⟨rfl, hb6⟩; have B6 := Lib.hid hb6; have X6 := Lib.hid (X5.out.grow hb6); clear hb6)
      | (have g := G2; clear g; refine wpList_store_as (op := ⟨none, .store 24 (.tmp 20) (.tmp 19), _, _, _, _⟩) rfl 24 (.tmp 20) (.tmp 19) rfl (w.heap.size + 3) 2 (vals TT).toArray rfl rfl (by have := X6.out.tagThere; rwa [show (vals TT).toArray.size = 32 by rw [List.size_toArray, vals_len, LT.out]]) (tag_size TT LT.out) (all_oneCell_toArray (vals_one TT)) ?_; intro w7 hw7; clear G2))
    have X7 : Hid (Box w7 (w.heap.size + 3) { t with T := TT }) := Lib.hid (by rw [hw7.out]; exact X6.out.setTag LT.out)
    have B67 := below_storeH (B := w.heap.size + 3) (Below.refl _ _) (Nat.le_refl _) hw7
    have B57 : Hid (Below (w.heap.size + 3) w5 w7) := Lib.hid ((B6.out.mono (by omega)).trans B67)
    have R7 := Lib.hid (R5.out.below B57.out (by omega))
    have B7 := Lib.hid (B5'.out.trans (B57.out.mono (by omega)))
    have s6 := B6.out.size
    have s7 := B67.size
    have K7 : Hid (Tok w7 (w.heap.size + 3) { t with T := TT } [g]) := Lib.hid (by
      have h5 := G5.out.below B57.out
      rw [HT0.out]
      exact ⟨LT.out, BT.out, HT.out, h5, Nat.le_refl _, by simp [maxLen]⟩)
    clear hw7 B67 X6 B6 X5 R5 K5
    obtain ⟨u, hu⟩ : ∃ u : TokZ, { t with T := TT } = u := ⟨_, rfl⟩
    rw [hu] at X7 K7
    have hut : pt u [g] = ⟨tn, [g], TT⟩ := by rw [← hu]; show PTok.mk t.tn [g] TT = _; rw [HTN.out]
    have HU := Lib.hid hut
    have HUA : Hid (u.A = some ⟨w.heap.size + 2, 0, none⟩) := Lib.hid (by rw [← hu]; show t.A = _; rw [HT0.out])
    clear hu hut
    have G1 := HL
    have G2 := HL
    have TH := Lib.hid (R7.out.thereA X7.out.len)
    go_wp2_with (first
      | (have g := G1; clear g; refine wpList_load_mid (op := ⟨some 21, .load 26 (.tmp 8), _, _, _, _⟩) rfl 26 (.tmp 8) rfl (w.heap.size + 3) 0 rfl (tv u) _ X7.out.range Tryd.underlying26 rfl (tok_size X7.out.len) ?_; clear G1)
      | (have g := G2; clear g; refine wpList_store_as (op := ⟨none, .store 26 (.tmp 6) (.tmp 21), _, _, _, _⟩) rfl 26 (.tmp 6) (.tmp 21) rfl (w.heap.size + 1) 0 (tv u).toArray rfl rfl TH.out (tok_sizeA X7.out.len) (tok_one _) ?_; intro w8 hw8; clear G2))
    have R8 := R7.out.storeH X7.out.len hw8
    have q8 := below_storeH B7.out (by omega) hw8
    have K8 : Tok w8 w8.heap.size u [g] := by
      have hl := K7.out
      exact ⟨hl.len, hl.bytes, hl.tn, (hl.line.otherH (fun b' off hq => by rw [HUA.out] at hq; injection hq with hq; injection hq with hq; omega) hw8).more (by have := size_storeH hw8; omega), hl.mc, hl.cm⟩
    rw [HP.out, HTT.out]
    exact bodyPost_ret (v := .tuple #[.agg (tv u).toArray, .int .i64 0]) (results_mid_tmp (p := 6) (u := 7) (ty := 26) rfl _ _ (w.heap.size + 1) 0 (tv u) _ rfl R8.range Tryd.underlying26 rfl (tok_size X7.out.len)) rfl ⟨u, [g], rfl, K8, HU.out, q8, fun b' off hq => by rw [HUA.out] at hq; injection hq with hq; injection hq with hq; omega⟩
end Go.Proofs.YtmeafjehcckibaaDoor
