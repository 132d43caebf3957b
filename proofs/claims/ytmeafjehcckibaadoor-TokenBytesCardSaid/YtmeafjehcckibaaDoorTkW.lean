/- The chapter's examples. -/
import Derived.Test.YtmeafjehcckibaaDoorTkTag
import Derived.Test.YtmeafjehcckibaaDoorTkV
import Derived.Test.YtmeafjehcckibaaDoorB1
namespace Go.Proofs.YtmeafjehcckibaaDoor
open Go.ChangeShapes Go.WideShapes Go.ChangeAt Go.RowKit
set_option linter.unusedVariables false
set_option linter.unusedSimpArgs false
open Plain Sha
/-- Calls by what they come to. -/
theorem mint_val {w : World} {B1 n1 : Nat} {A1 : Option Addr} (c1 : Nat) {ks : List Int} (r : PTok × Int) (hk : Bs w B1 A1 n1 ks) (hB1 : B1 ≤ w.heap.size) (hn1 : n1 ≤ 10000) (tn : Int) (ht : InR tn) (g : GrantZ) (hg : GOk g) (hF : LaidF w) (hK : LaidK w) (hr : mintP ks tn g = r) :
    Calls Tryd.prog 23 #[.slice A1 n1 c1, .int .i64 tn, .agg #[.int .u8 g.r, .int .i64 g.x, .int .i64 g.s]] w (Gives w r) := by
  subst hr
  exact mint_any c1 hk hB1 hn1 tn ht g hg hF hK
theorem att_val {w : World} {B : Nat} {t : TokZ} {l : List GrantZ} (r : PTok × Int) (h : Tok w B t l) (hB : B ≤ w.heap.size) (g : GrantZ) (hg : GOk g) (hF : LaidF w) (hK : LaidK w) (hr : attP (pt t l) g = r) :
    Calls Tryd.prog 24 #[.agg (tv t).toArray, .agg #[.int .u8 g.r, .int .i64 g.x, .int .i64 g.s]] w (Gives w r) := by
  subst hr
  exact att_any h hB g hg hF hK
theorem ex_g_ok : GOk Sha.ex_g := ⟨by decide, by decide, by decide⟩
theorem ex_h_ok : GOk Sha.ex_h := ⟨by decide, by decide, by decide⟩
open Sha in
theorem ex_mint : mintP k_e1 2 ex_g = (⟨2, [ex_g], t_e1⟩, 0) := by
  unfold mintP
  rw [show mayT 2 [ex_g] = true by decide +kernel, tag_g]; rfl
open Sha in
theorem ex_mint9 : mintP k_e1 9 ex_g = (pt0, 2) := by
  unfold mintP
  rw [show mayT 9 [ex_g] = false by decide +kernel]; rfl
open Sha in
theorem ex_att : attP ⟨2, [ex_g], t_e1⟩ ex_h = (⟨2, [ex_g, ex_h], t_e2⟩, 0) := by
  unfold attP
  simp only [show mayT 2 [ex_g] = true by decide +kernel, show mayB ex_h = true by decide +kernel, next_gh]; rfl
open Sha in
theorem ex_check {p : PTok} (tn : Int) (l : List GrantZ) (T : List Int) (T' : List Int) (q : Bool) (hp : p = ⟨tn, l, T⟩) (hm : mayT tn l = true) (ht : tokTag k_e1 tn l = T') (he : eqB T T' = q) : checkP k_e1 p = if q then 0 else 91 := by
  subst hp
  unfold checkP
  rw [hm, ht, he]; rfl
open Sha in
theorem ex_verify {p : PTok} (tn : Int) (l : List GrantZ) (T : List Int) (now need k : Int) (hp : p = ⟨tn, l, T⟩) (hm : mayT tn l = true) (ht : tokTag k_e1 tn l = T) (hk : (if lvX l ≤ now then 92 else if hasB (lvR l) need then 0 else 94) = k) : verifyP k_e1 p now need = k := by
  have hc := ex_check (p := p) tn l T T true hp hm ht (eqB_self T)
  unfold verifyP
  rw [hc, if_pos rfl]
  subst hp
  exact hk
open Sha in
theorem ex_print {p : PTok} (tn : Int) (l : List GrantZ) (T : List Int) (k : Nat) (hp : p = ⟨tn, l, T⟩) (hm : mayT tn l = true) (hT : T.length = 32) (hk : 48 + 24 * l.length = k) : (printP p).length = k := by
  subst hp
  rw [printP_len _ hT]
  simp only [hm, if_true]
  exact hk
theorem Box.f0 {w : World} {b : Nat} {t : TokZ} (h : Box w b t) : w.frozen? ⟨b, 0, none⟩ = false := by have := (h.there 0 (by omega)).2; rwa [Nat.zero_add] at this
theorem Box.f1 {w : World} {b : Nat} {t : TokZ} (h : Box w b t) : w.frozen? ⟨b, 1, none⟩ = false := by have := (h.there 1 (by omega)).2; rwa [Nat.zero_add] at this
/-- What a token's variable holds, and its line, from some world on. -/
structure Held (W : World) (b : Nat) (t : TokZ) (l : List GrantZ) (p : PTok) : Prop where
  box : Box W b t
  tok : Tok W W.heap.size t l
  is : pt t l = p
theorem Held.grow {W W' : World} {b : Nat} {t : TokZ} {l : List GrantZ} {p : PTok} (h : Held W b t l p) (hb : Below W.heap.size W W') : Held W' b t l p :=
  ⟨h.box.grow hb, (h.tok.below hb).more hb.size, h.is⟩
/-- A token that has been handed back is stored into a new variable. -/
theorem held_new {w w' : World} {t : TokZ} {l : List GrantZ} {p : PTok} {g : Nat} {y : TypeId} (h : Tok w w.heap.size t l) (hp : pt t l = p) (hg : w.heap.size = g) (e : Hid (w' = (w.alloc (.cells (tv tok0).toArray y)).setCells g 0 (tv t).toArray.toList)) : Held w' g t l p ∧ Below w.heap.size w w' := by
  obtain ⟨hx, hb, _⟩ := box_stored h.len hg e
  exact ⟨⟨hx, (h.below hb).more hb.size, hp⟩, hb⟩
theorem Held.vcall {W V : World} {b n1 : Nat} {A1 : Option Addr} {t : TokZ} {l : List GrantZ} {p : PTok} {ks : List Int} (c1 : Nat) (now need k : Int) (h : Held W b t l p) (hk : Bs W W.heap.size A1 n1 ks) (hn1 : n1 ≤ 10000) (hF : LaidF W) (hK : LaidK W) (hc : verifyP ks p now need = k) (hV : Below W.heap.size W V) :
    Calls Tryd.prog 26 #[.slice A1 n1 c1, .agg (tv t).toArray, .int .i64 now, .int .u8 need] V (fun e w' => e = .returned (.int .i64 k) ∧ Below V.heap.size V w') :=
  verify_val c1 now need k (hk.below hV) (h.tok.below hV) hV.size hV.size hn1 (hF.below hV hF.lt) (hK.below hV hK.lt) (by rw [h.is]; exact hc)
theorem Held.ccall {W V : World} {b n1 : Nat} {A1 : Option Addr} {t : TokZ} {l : List GrantZ} {p : PTok} {ks : List Int} (c1 : Nat) (k : Int) (h : Held W b t l p) (hk : Bs W W.heap.size A1 n1 ks) (hn1 : n1 ≤ 10000) (hF : LaidF W) (hK : LaidK W) (hc : checkP ks p = k) (hV : Below W.heap.size W V) :
    Calls Tryd.prog 25 #[.slice A1 n1 c1, .agg (tv t).toArray] V (fun e w' => e = .returned (.int .i64 k) ∧ Below V.heap.size V w') :=
  check_val c1 k (hk.below hV) (h.tok.below hV) hV.size hV.size hn1 (hF.below hV hF.lt) (hK.below hV hK.lt) (by rw [h.is]; exact hc)
theorem Held.pcall {W V : World} {b : Nat} {t : TokZ} {l : List GrantZ} {p : PTok} (h : Held W b t l p) (hV : Below W.heap.size W V) : Calls Tryd.prog 5 #[.agg (tv t).toArray] V (Made V (printP p)) := by
  rw [← h.is]
  exact print_any (h.tok.below hV) hV.size
open Sha in
set_option maxRecDepth 100000 in
set_option maxHeartbeats 8000000 in
theorem tawake_any (w : World) (hF : LaidF w) (hK : LaidK w) : Calls Tryd.prog 12 #[] w (fun e w' => e = .returned (.bool true) ∧ Below w.heap.size w w') := by
  have HF := Lib.hid hF
  have HK := Lib.hid hK
  have hmk : ∀ w : World, (Instr.makeSlice 27 (.int .i64 32) (.int .i64 32)).run Tryd.prog w = .ok (.slice (some ⟨w.heap.size, 0, none⟩) 32 32) (w.alloc (.cells (madeCells #[.int .u8 0] 32) 5)) := make_u8 32 (by omega)
  rw [madeCells_vals] at hmk
  clear hF hK
  generalize hZ : List.replicate 32 (0 : Int) = Z0 at hmk
  have HZ0 := Lib.hid hZ
  clear hZ
  go_enter Tryd.func12, Tryd.ntmps12
  go_wp2
  clear hmk
  go_loopw [2] (fun i wr => ∃ k : Nat, k ≤ 32 ∧ i = .int .i64 k ∧ ∃ cs : List Int, Hid (cs.length = 32) ∧ Hid (∀ j, j < k → cs.getD j 0 = 7) ∧ wr = w.alloc (.cells (vals cs).toArray 5)) (fun i _ => 32 - (intOf i).toNat)
  case atStart => exact ⟨0, by omega, rfl, Z0, Lib.hid (by rw [← HZ0.out]; exact List.length_replicate ..), Lib.hid (fun j hj => absurd hj (by omega)), rfl⟩
  case round =>
    obtain ⟨k, hk, rfl, cs, HC, HX, rfl⟩ := hrel
    by_cases hlt : k < 32
    · obtain ⟨u3, hu3⟩ : ∃ u3, (vals cs)[k]? = some u3 := ⟨_, List.getElem?_eq_getElem (by rw [vals_len, HC.out]; omega)⟩
      have HV := Lib.hid (vals_set cs k 7)
      simp only [List.setIfInBounds_toArray] at HV
      have HN : Hid (∀ j, j < k + 1 → (cs.set k 7).getD j 0 = 7) := Lib.hid (fun j hj => by
        rw [getD_set _ _ _ _ (by rw [HC.out]; omega)]
        split
        · rfl
        · exact HX.out j (by omega))
      go_wp2
      go_roundw
      case rel => exact ⟨k + 1, by omega, by go_num, cs.set k 7, Lib.hid (by rw [List.length_set]; exact HC.out), HN, by rw [← HV.out]⟩
      case measure => simp [intOf]; omega
    · have hk32 : k = 32 := by omega
      have HE : Hid (cs = k_e1) := Lib.hid (list_ext_getD (by rw [HC.out]; rfl) (fun j hj => by
        rw [HC.out] at hj
        rw [HX.out j (by omega)]
        unfold k_e1
        rw [rep_at 32 j 7 hj]))
      clear hk32
      obtain ⟨wL, hwL⟩ : ∃ wL, wL = w.alloc (.cells (vals cs).toArray 5) := ⟨_, rfl⟩
      have qL := Lib.hid (show Below w.heap.size w wL by rw [hwL]; exact (Below.refl _ _).alloc (Nat.le_refl _) _)
      have sL : w.heap.size + 1 = wL.heap.size := by rw [hwL]; simp
      have zL := Lib.hid (show Bs wL wL.heap.size (some ⟨w.heap.size, 0, none⟩) 32 k_e1 by
        rw [← sL, hwL, HE.out]
        exact bs_new w k_e1 32 rfl (rep_bytes 32 7 (by omega) (by omega)) 5 _ rfl)
      rw [← hwL]
      clear hwL HE HX HC
      obtain ⟨W3, hW3⟩ : ∃ W, W = (wL.alloc (.cells #[.int .u8 3, .int .i64 100, .int .i64 1] 44)).alloc (.cells #[.int .u8 1, .int .i64 50, .int .i64 2] 44) := ⟨_, rfl⟩
      have b3 : Below wL.heap.size wL W3 := by rw [hW3]; exact ((Below.refl _ _).alloc (Nat.le_refl _) _).alloc (by simp) _
      have G3 : Hid (GCell W3 wL.heap.size ex_g) := Lib.hid (by
        rw [hW3]
        exact (gcell_new wL ex_g 44 _ rfl).below ((Below.refl _ _).alloc (Nat.le_refl _) _) (by simp))
      have H3 : Hid (GCell W3 (wL.heap.size + 1) ex_h) := Lib.hid (by
        rw [hW3]
        exact gcell_new (wL.alloc (.cells #[.int .u8 3, .int .i64 100, .int .i64 1] 44)) ex_h 44 _ (by simp))
      have s3 : W3.heap.size = wL.heap.size + 2 := by rw [hW3]; simp
      have B3 : Hid (Below w.heap.size w W3) := Lib.hid (qL.out.trans (b3.mono qL.out.size))
      have KEY3 : Hid (Bs W3 W3.heap.size (some ⟨w.heap.size, 0, none⟩) 32 k_e1) := Lib.hid ((zL.out.below b3).more b3.size)
      have HW3 := Lib.hid hW3
      clear hW3 b3 zL
      go_upto_region 8 with fail
      rw [← HW3.out]
      obtain ⟨d0, d1, d2⟩ : W3.cell? ⟨wL.heap.size, 0, none⟩ = some (.int .u8 3) ∧ W3.cell? ⟨wL.heap.size, 1, none⟩ = some (.int .i64 100) ∧ W3.cell? ⟨wL.heap.size, 2, none⟩ = some (.int .i64 1) := G3.out
      go_upto_region 9 with (first
        | (go_at_call 23; refine (mint_val 32 (⟨2, [ex_g], t_e1⟩, 0) KEY3.out (Nat.le_refl _) (by omega) 2 ⟨by decide, by decide⟩ ex_g ex_g_ok (HF.out.below B3.out HF.out.lt) (HK.out.below B3.out HK.out.lt) ex_mint).mono ?_; rintro e w4 ⟨t, lt, rfl, k5, p5, b5, _⟩; have T5 := Lib.hid (box_thereN w4 k5.len 26 _ rfl); have F5 := T5)
        | (have g := F5; clear g; refine wpList_store_as (op := ⟨none, .store 26 (.tmp 5) (.tmp 29), _, _, _, _⟩) rfl 26 (.tmp 5) (.tmp 29) rfl (w4.heap.size) 0 (tv t).toArray rfl rfl T5.out (tok_sizeA k5.len) (tok_one _) ?_; intro w5 hw5; clear F5))
      obtain ⟨t5, B45⟩ := held_new k5 p5 rfl hw5
      have B5' : Hid (Below W3.heap.size W3 w5) := Lib.hid (b5.trans (B45.mono b5.size))
      obtain ⟨g5, hg5⟩ : ∃ g, w4.heap.size = g := ⟨_, rfl⟩
      rw [hg5] at t5
      simp only [hg5]
      have K5 := Lib.hid t5
      clear hw5 t5 B45 b5 k5 p5 hg5 T5 d0 d1 d2
      obtain ⟨d0, d1, d2⟩ : w5.cell? ⟨wL.heap.size, 0, none⟩ = some (.int .u8 3) ∧ w5.cell? ⟨wL.heap.size, 1, none⟩ = some (.int .i64 100) ∧ w5.cell? ⟨wL.heap.size, 2, none⟩ = some (.int .i64 1) := G3.out.below B5'.out (by omega)
      go_upto_region 10 with (first
        | (go_at_call 23; refine (mint_val 32 (pt0, 2) (KEY3.out.below B5'.out) B5'.out.size (by omega) 9 ⟨by decide, by decide⟩ ex_g ex_g_ok ((HF.out.below B3.out HF.out.lt).below B5'.out (HF.out.below B3.out HF.out.lt).lt) ((HK.out.below B3.out HK.out.lt).below B5'.out (HK.out.below B3.out HK.out.lt).lt) ex_mint9).mono ?_; rintro e w6 ⟨t6, l6, rfl, k7, p7, b7, _⟩; have T7 := Lib.hid (box_thereN w6 k7.len 26 _ rfl); have F7 := T7)
        | (have g := F7; clear g; refine wpList_store_as (op := ⟨none, .store 26 (.tmp 7) (.tmp 35), _, _, _, _⟩) rfl 26 (.tmp 7) (.tmp 35) rfl (w6.heap.size) 0 (tv t6).toArray rfl rfl T7.out (tok_sizeA k7.len) (tok_one _) ?_; intro w7 hw7; clear F7))
      obtain ⟨t7, B67⟩ := held_new k7 p7 rfl hw7
      have B7' : Hid (Below w5.heap.size w5 w7) := Lib.hid (b7.trans (B67.mono b7.size))
      obtain ⟨g7, hg7⟩ : ∃ g, w6.heap.size = g := ⟨_, rfl⟩
      simp only [hg7]
      have K7 := Lib.hid (K5.out.grow B7'.out)
      have B37 := Lib.hid (B5'.out.trans (B7'.out.mono B5'.out.size))
      clear hw7 t7 B67 b7 k7 p7 hg7 T7 d0 d1 d2 K5 B5' B7'
      obtain ⟨d0, d1, d2⟩ : w7.cell? ⟨wL.heap.size + 1, 0, none⟩ = some (.int .u8 1) ∧ w7.cell? ⟨wL.heap.size + 1, 1, none⟩ = some (.int .i64 50) ∧ w7.cell? ⟨wL.heap.size + 1, 2, none⟩ = some (.int .i64 2) := H3.out.below B37.out (by omega)
      have KB7 : Hid (Box w7 g5 t) := Lib.hid K7.out.box
      have L1 := KB7
      go_upto_region 11 with (first
        | (have g := L1; clear g; refine wpList_load_mid (op := ⟨some 38, .load 26 (.tmp 5), _, _, _, _⟩) rfl 26 (.tmp 5) rfl (g5) 0 rfl (tv t) _ KB7.out.range Tryd.underlying26 rfl (tok_size KB7.out.len) ?_; clear L1)
        | (go_at_call 24; refine (att_val (⟨2, [ex_g, ex_h], t_e2⟩, 0) K7.out.tok (Nat.le_refl _) ex_h ex_h_ok ((HF.out.below B3.out HF.out.lt).below B37.out (HF.out.below B3.out HF.out.lt).lt) ((HK.out.below B3.out HK.out.lt).below B37.out (HK.out.below B3.out HK.out.lt).lt) (by rw [K7.out.is]; exact ex_att)).mono ?_; rintro e w8 ⟨u, lu, rfl, k9, p9, b9, _⟩; have T9 := Lib.hid (box_thereN w8 k9.len 26 _ rfl); have F9 := T9)
        | (have g := F9; clear g; refine wpList_store_as (op := ⟨none, .store 26 (.tmp 9) (.tmp 41), _, _, _, _⟩) rfl 26 (.tmp 9) (.tmp 41) rfl (w8.heap.size) 0 (tv u).toArray rfl rfl T9.out (tok_sizeA k9.len) (tok_one _) ?_; intro w9 hw9; clear F9))
      obtain ⟨t9, B89⟩ := held_new k9 p9 rfl hw9
      have B9' : Hid (Below w7.heap.size w7 w9) := Lib.hid (b9.trans (B89.mono b9.size))
      obtain ⟨g9, hg9⟩ : ∃ g, w8.heap.size = g := ⟨_, rfl⟩
      rw [hg9] at t9
      simp only [hg9]
      have KT9 := Lib.hid (K7.out.grow B9'.out)
      have KU9 := Lib.hid t9
      have B39 := Lib.hid (B37.out.trans (B9'.out.mono B37.out.size))
      clear hw9 t9 B89 b9 k9 p9 hg9 T9 d0 d1 d2 K7 KB7 B37 B9' G3 H3
      have KUB : Hid (Box w9 g9 u) := Lib.hid KU9.out.box
      have L2 := KUB
      have T11 := Lib.hid (box_thereN w9 KU9.out.tok.len 26 _ rfl)
      have F11 := T11
      go_upto_region 14 with (first
        | (have g := L2; clear g; refine wpList_load_mid (op := ⟨some 53, .load 26 (.tmp 9), _, _, _, _⟩) rfl 26 (.tmp 9) rfl (g9) 0 rfl (tv u) _ KUB.out.range Tryd.underlying26 rfl (tok_size KUB.out.len) ?_; clear L2)
        | (have g := F11; clear g; refine wpList_store_as (op := ⟨none, .store 26 (.tmp 11) (.tmp 53), _, _, _, _⟩) rfl 26 (.tmp 11) (.tmp 53) rfl (w9.heap.size) 0 (tv u).toArray rfl rfl T11.out (tok_sizeA KU9.out.tok.len) (tok_one _) ?_; intro w11 hw11; clear F11))
      obtain ⟨t11, B911⟩ := held_new KU9.out.tok KU9.out.is rfl hw11
      obtain ⟨g11, hg11⟩ : ∃ g, w9.heap.size = g := ⟨_, rfl⟩
      rw [hg11] at t11
      simp only [hg11]
      have HGG := Lib.hid hg11
      clear hg11
      have c0 := t11.box.c0
      have f0 := t11.box.f0
      go_upto_region 15 with fail
      clear c0 f0
      obtain ⟨v, hv⟩ : ∃ v : TokZ, { u with tn := 3 } = v := ⟨_, rfl⟩
      have X12 : Box (w11.setCell ⟨g11, 0, none⟩ (.int .i64 3)) g11 v := by rw [← hv]; exact t11.box.setTn 3
      have B12 : Below w9.heap.size w9 (w11.setCell ⟨g11, 0, none⟩ (.int .i64 3)) := B911.setCell (by rw [HGG.out]; exact Nat.le_refl _) _
      have Z12 : g11 < (w11.setCell ⟨g11, 0, none⟩ (.int .i64 3)).heap.size := X12.lt
      generalize w11.setCell ⟨g11, 0, none⟩ (.int .i64 3) = w12 at X12 B12 Z12 ⊢
      have BX12 := Lib.hid B12
      have KT12 := Lib.hid (KT9.out.grow B12)
      have KU12 := Lib.hid (KU9.out.grow B12)
      have KV12 : Hid (Held w12 g11 v lu ⟨3, [ex_g, ex_h], t_e2⟩) := Lib.hid (by
        have hi := KU9.out.is
        have ht := KU12.out.tok
        refine ⟨X12, ?_, ?_⟩
        · rw [← hv]; exact ⟨ht.len, ht.bytes, (show InR 3 from ⟨by decide, by decide⟩), ht.line, ht.mc, ht.cm⟩
        · rw [← hv]
          unfold pt at hi ⊢
          injection hi with _ e2 e3
          simp only [e2, e3])
      clear hw11 t11 B911 HGG hv X12 B12 Z12 KUB T11
      have KUB : Hid (Box w12 g9 u) := Lib.hid KU12.out.box
      have L3 := KUB
      have T13 := Lib.hid (box_thereN w12 KU12.out.tok.len 26 _ rfl)
      have F13 := T13
      go_upto_region 16 with (first
        | (have g := L3; clear g; refine wpList_load_mid (op := ⟨some 55, .load 26 (.tmp 9), _, _, _, _⟩) rfl 26 (.tmp 9) rfl (g9) 0 rfl (tv u) _ KUB.out.range Tryd.underlying26 rfl (tok_size KUB.out.len) ?_; clear L3)
        | (have g := F13; clear g; refine wpList_store_as (op := ⟨none, .store 26 (.tmp 12) (.tmp 55), _, _, _, _⟩) rfl 26 (.tmp 12) (.tmp 55) rfl (w12.heap.size) 0 (tv u).toArray rfl rfl T13.out (tok_sizeA KU12.out.tok.len) (tok_one _) ?_; intro w13 hw13; clear F13))
      obtain ⟨t13, B1213⟩ := held_new KU12.out.tok KU12.out.is rfl hw13
      obtain ⟨g13, hg13⟩ : ∃ g, w12.heap.size = g := ⟨_, rfl⟩
      rw [hg13] at t13
      simp only [hg13]
      have HGG := Lib.hid hg13
      clear hg13
      have c1 := (KT12.out.grow B1213).box.c1
      have c2 := t13.box.c1
      have f2 := t13.box.f1
      go_upto_region 17 with fail
      clear c1 c2 f2
      obtain ⟨z, hz⟩ : ∃ z : TokZ, { u with A := t.A, m := t.m, c := t.c } = z := ⟨_, rfl⟩
      have X14 : Box (w13.setCell ⟨g13, 1, none⟩ (.slice t.A t.m t.c)) g13 z := by rw [← hz]; exact t13.box.setLine t.A t.m t.c
      have B14 : Below w12.heap.size w12 (w13.setCell ⟨g13, 1, none⟩ (.slice t.A t.m t.c)) := B1213.setCell (by rw [HGG.out]; exact Nat.le_refl _) _
      generalize w13.setCell ⟨g13, 1, none⟩ (.slice t.A t.m t.c) = W at X14 B14 ⊢
      have KT := Lib.hid (KT12.out.grow B14)
      have KU := Lib.hid (KU12.out.grow B14)
      have KV := Lib.hid (KV12.out.grow B14)
      have KZ : Hid (Held W g13 z lt ⟨2, [ex_g], t_e2⟩) := Lib.hid (by
        have hi := KU.out.is
        have ht := KU.out.tok
        have hk := KT.out.tok
        have hj := KT.out.is
        refine ⟨X14, ?_, ?_⟩
        · rw [← hz]; exact ⟨ht.len, ht.bytes, ht.tn, hk.line, hk.mc, hk.cm⟩
        · rw [← hz]
          unfold pt at hi hj ⊢
          injection hi with e1 _ e3
          injection hj with _ e2 _
          simp only [e1, e2, e3])
      have B3W : Hid (Below W3.heap.size W3 W) := Lib.hid (B39.out.trans ((BX12.out.trans (B14.mono BX12.out.size)).mono B39.out.size))
      have BW : Hid (Below w.heap.size w W) := Lib.hid (B3.out.trans (B3W.out.mono B3.out.size))
      have KEY : Hid (Bs W W.heap.size (some ⟨w.heap.size, 0, none⟩) 32 k_e1) := Lib.hid ((KEY3.out.below B3W.out).more B3W.out.size)
      have FW := Lib.hid (HF.out.below BW.out HF.out.lt)
      have KW := Lib.hid (HK.out.below BW.out HK.out.lt)
      clear hw13 t13 B1213 HGG hz X14 B14 KUB T13 KT9 KU9 KT12 KU12 KV12 BX12 B39 B3W B3 KEY3 HF HK qL
      have H20 : Hid (Below W.heap.size W W) := Lib.hid (Below.refl _ _)
      have BOX20 : Hid (∀ V, Below W.heap.size W V → Box V g5 t) := Lib.hid (fun V hV => (KT.out.grow hV).box)
      have BOX21 : Hid (∀ V, Below W.heap.size W V → Box V g5 t) := Lib.hid (fun V hV => (KT.out.grow hV).box)
      have BOX22 : Hid (∀ V, Below W.heap.size W V → Box V g5 t) := Lib.hid (fun V hV => (KT.out.grow hV).box)
      have BOX23 : Hid (∀ V, Below W.heap.size W V → Box V g5 t) := Lib.hid (fun V hV => (KT.out.grow hV).box)
      have BOX24 : Hid (∀ V, Below W.heap.size W V → Box V g9 u) := Lib.hid (fun V hV => (KU.out.grow hV).box)
      have BOX25 : Hid (∀ V, Below W.heap.size W V → Box V g9 u) := Lib.hid (fun V hV => (KU.out.grow hV).box)
      have BOX26 : Hid (∀ V, Below W.heap.size W V → Box V g9 u) := Lib.hid (fun V hV => (KU.out.grow hV).box)
      have BOX27 : Hid (∀ V, Below W.heap.size W V → Box V g11 v) := Lib.hid (fun V hV => (KV.out.grow hV).box)
      have BOX28 : Hid (∀ V, Below W.heap.size W V → Box V g13 z) := Lib.hid (fun V hV => (KZ.out.grow hV).box)
      have BOX29 : Hid (∀ V, Below W.heap.size W V → Box V g5 t) := Lib.hid (fun V hV => (KT.out.grow hV).box)
      have PL29 : Hid ((printP ⟨2, [ex_g], t_e1⟩).length = 72) := Lib.hid (ex_print 2 [ex_g] t_e1 72 rfl (by decide +kernel) (by decide +kernel) (by decide +kernel))
      have BOX30 : Hid (∀ V, Below W.heap.size W V → Box V g9 u) := Lib.hid (fun V hV => (KU.out.grow hV).box)
      have PL30 : Hid ((printP ⟨2, [ex_g, ex_h], t_e2⟩).length = 96) := Lib.hid (ex_print 2 [ex_g, ex_h] t_e2 96 rfl (by decide +kernel) (by decide +kernel) (by decide +kernel))
      have X20 := Lib.hid (BOX20.out _ H20.out)
      have M20 := X20
      have D20 := X20
      go_upto_region 19 with (first
          | (have g := M20; clear g; refine wpList_load_mid (op := ⟨some 60, .load 26 (.tmp 5), _, _, _, _⟩) rfl 26 (.tmp 5) rfl (g5) 0 rfl (tv t) _ X20.out.range Tryd.underlying26 rfl (tok_size X20.out.len) ?_; clear M20)
          | (have d := D20; clear d; go_at_call 25; refine (KT.out.ccall 32 0 KEY.out (by omega) FW.out KW.out (ex_check 2 [ex_g] t_e1 t_e1 true rfl (by decide +kernel) tag_g (eqB_self _)) H20.out).mono ?_; rintro e x20 ⟨rfl, hb20⟩; have H21 : Hid (Below W.heap.size W x20) := Lib.hid (H20.out.trans (hb20.mono H20.out.size)); clear hb20 D20; have X21 := Lib.hid (BOX21.out _ H21.out); have M21 := X21; have D21 := X21)
          | (have g := M21; clear g; refine wpList_load_guard (op := ⟨some 65, .load 26 (.tmp 5), _, _, _, some (4, false)⟩) (by rfl) 26 (.tmp 5) rfl (g5) 0 rfl (tv t) _ X21.out.range Tryd.underlying26 rfl (tok_size X21.out.len) ?_; clear M21)
          | (have d := D21; clear d; go_at_call 26; refine (KT.out.vcall 32 99 2 0 KEY.out (by omega) FW.out KW.out (ex_verify 2 [ex_g] t_e1 99 2 0 rfl (by decide +kernel) tag_g (by decide +kernel)) H21.out).mono ?_; rintro e x21 ⟨rfl, hb21⟩; have H22 : Hid (Below W.heap.size W x21) := Lib.hid (H21.out.trans (hb21.mono H21.out.size)); clear hb21 D21; have X22 := Lib.hid (BOX22.out _ H22.out); have M22 := X22; have D22 := X22)
          | (have g := M22; clear g; refine wpList_load_guard (op := ⟨some 71, .load 26 (.tmp 5), _, _, _, some (10, false)⟩) (by rfl) 26 (.tmp 5) rfl (g5) 0 rfl (tv t) _ X22.out.range Tryd.underlying26 rfl (tok_size X22.out.len) ?_; clear M22)
          | (have d := D22; clear d; go_at_call 26; refine (KT.out.vcall 32 100 2 92 KEY.out (by omega) FW.out KW.out (ex_verify 2 [ex_g] t_e1 100 2 92 rfl (by decide +kernel) tag_g (by decide +kernel)) H22.out).mono ?_; rintro e x22 ⟨rfl, hb22⟩; have H23 : Hid (Below W.heap.size W x22) := Lib.hid (H22.out.trans (hb22.mono H22.out.size)); clear hb22 D22; have X23 := Lib.hid (BOX23.out _ H23.out); have M23 := X23; have D23 := X23)
          | (have g := M23; clear g; refine wpList_load_guard (op := ⟨some 77, .load 26 (.tmp 5), _, _, _, some (16, false)⟩) (by rfl) 26 (.tmp 5) rfl (g5) 0 rfl (tv t) _ X23.out.range Tryd.underlying26 rfl (tok_size X23.out.len) ?_; clear M23)
          | (have d := D23; clear d; go_at_call 26; refine (KT.out.vcall 32 99 4 94 KEY.out (by omega) FW.out KW.out (ex_verify 2 [ex_g] t_e1 99 4 94 rfl (by decide +kernel) tag_g (by decide +kernel)) H23.out).mono ?_; rintro e x23 ⟨rfl, hb23⟩; have H24 : Hid (Below W.heap.size W x23) := Lib.hid (H23.out.trans (hb23.mono H23.out.size)); clear hb23 D23))
      have X24 := Lib.hid (BOX24.out _ H24.out)
      have M24 := X24
      have D24 := X24
      go_wp2_with (first
          | (have g := M24; clear g; refine wpList_load_mid (op := ⟨some 82, .load 26 (.tmp 9), _, _, _, _⟩) rfl 26 (.tmp 9) rfl (g9) 0 rfl (tv u) _ X24.out.range Tryd.underlying26 rfl (tok_size X24.out.len) ?_; clear M24)
          | (have d := D24; clear d; go_at_call 26; refine (KU.out.vcall 32 49 1 0 KEY.out (by omega) FW.out KW.out (ex_verify 2 [ex_g, ex_h] t_e2 49 1 0 rfl (by decide +kernel) tag_gh (by decide +kernel)) H24.out).mono ?_; rintro e x24 ⟨rfl, hb24⟩; have H25 : Hid (Below W.heap.size W x24) := Lib.hid (H24.out.trans (hb24.mono H24.out.size)); clear hb24 D24; have X25 := Lib.hid (BOX25.out _ H25.out); have M25 := X25; have D25 := X25)
          | (have g := M25; clear g; refine wpList_load_guard (op := ⟨some 87, .load 26 (.tmp 9), _, _, _, some (4, true)⟩) (by rfl) 26 (.tmp 9) rfl (g9) 0 rfl (tv u) _ X25.out.range Tryd.underlying26 rfl (tok_size X25.out.len) ?_; clear M25)
          | (have d := D25; clear d; go_at_call 26; refine (KU.out.vcall 32 49 2 94 KEY.out (by omega) FW.out KW.out (ex_verify 2 [ex_g, ex_h] t_e2 49 2 94 rfl (by decide +kernel) tag_gh (by decide +kernel)) H25.out).mono ?_; rintro e x25 ⟨rfl, hb25⟩; have H26 : Hid (Below W.heap.size W x25) := Lib.hid (H25.out.trans (hb25.mono H25.out.size)); clear hb25 D25; have X26 := Lib.hid (BOX26.out _ H26.out); have M26 := X26; have D26 := X26)
          | (have g := M26; clear g; refine wpList_load_guard (op := ⟨some 93, .load 26 (.tmp 9), _, _, _, some (10, true)⟩) (by rfl) 26 (.tmp 9) rfl (g9) 0 rfl (tv u) _ X26.out.range Tryd.underlying26 rfl (tok_size X26.out.len) ?_; clear M26)
          | (have d := D26; clear d; go_at_call 26; refine (KU.out.vcall 32 50 1 92 KEY.out (by omega) FW.out KW.out (ex_verify 2 [ex_g, ex_h] t_e2 50 1 92 rfl (by decide +kernel) tag_gh (by decide +kernel)) H26.out).mono ?_; rintro e x26 ⟨rfl, hb26⟩; have H27 : Hid (Below W.heap.size W x26) := Lib.hid (H26.out.trans (hb26.mono H26.out.size)); clear hb26 D26; have X27 := Lib.hid (BOX27.out _ H27.out); have M27 := X27; have D27 := X27)
          | (have g := M27; clear g; refine wpList_load_guard (op := ⟨some 99, .load 26 (.tmp 11), _, _, _, some (16, true)⟩) (by rfl) 26 (.tmp 11) rfl (g11) 0 rfl (tv v) _ X27.out.range Tryd.underlying26 rfl (tok_size X27.out.len) ?_; clear M27)
          | (have d := D27; clear d; go_at_call 25; refine (KV.out.ccall 32 91 KEY.out (by omega) FW.out KW.out (ex_check 3 [ex_g, ex_h] t_e2 t_e4 false rfl (by decide +kernel) tag_gh3 unlike_2) H27.out).mono ?_; rintro e x27 ⟨rfl, hb27⟩; have H28 : Hid (Below W.heap.size W x27) := Lib.hid (H27.out.trans (hb27.mono H27.out.size)); clear hb27 D27; have X28 := Lib.hid (BOX28.out _ H28.out); have M28 := X28; have D28 := X28)
          | (have g := M28; clear g; refine wpList_load_guard (op := ⟨some 105, .load 26 (.tmp 12), _, _, _, some (22, true)⟩) (by rfl) 26 (.tmp 12) rfl (g13) 0 rfl (tv z) _ X28.out.range Tryd.underlying26 rfl (tok_size X28.out.len) ?_; clear M28)
          | (have d := D28; clear d; go_at_call 25; refine (KZ.out.ccall 32 91 KEY.out (by omega) FW.out KW.out (ex_check 2 [ex_g] t_e2 t_e1 false rfl (by decide +kernel) tag_g unlike_1) H28.out).mono ?_; rintro e x28 ⟨rfl, hb28⟩; have H29 : Hid (Below W.heap.size W x28) := Lib.hid (H28.out.trans (hb28.mono H28.out.size)); clear hb28 D28; have X29 := Lib.hid (BOX29.out _ H29.out); have M29 := X29; have D29 := X29)
          | (have g := M29; clear g; refine wpList_load_guard (op := ⟨some 110, .load 26 (.tmp 5), _, _, _, some (28, true)⟩) (by rfl) 26 (.tmp 5) rfl (g5) 0 rfl (tv t) _ X29.out.range Tryd.underlying26 rfl (tok_size X29.out.len) ?_; clear M29)
          | (have d := D29; clear d; go_at_call 5; refine (KT.out.pcall H29.out).mono ?_; intro e x29 hm29; obtain ⟨P29, q29, rfl, _, hb29, _, _⟩ := hm29.n (PL29.out); have H30 : Hid (Below W.heap.size W x29) := Lib.hid (H29.out.trans (hb29.mono H29.out.size)); clear hb29 hm29 D29; have X30 := Lib.hid (BOX30.out _ H30.out); have M30 := X30; have D30 := X30)
          | (have g := M30; clear g; refine wpList_load_guard (op := ⟨some 116, .load 26 (.tmp 9), _, _, _, some (34, true)⟩) (by rfl) 26 (.tmp 9) rfl (g9) 0 rfl (tv u) _ X30.out.range Tryd.underlying26 rfl (tok_size X30.out.len) ?_; clear M30)
          | (have d := D30; clear d; go_at_call 5; refine (KU.out.pcall H30.out).mono ?_; intro e x30 hm30; obtain ⟨P30, q30, rfl, _, hb30, _, _⟩ := hm30.n (PL30.out); have H31 : Hid (Below W.heap.size W x30) := Lib.hid (H30.out.trans (hb30.mono H30.out.size)); clear hb30 hm30 D30))
      go_ret
      exact ⟨rfl, BW.out.trans (H31.out.mono BW.out.size)⟩
end Go.Proofs.YtmeafjehcckibaaDoor
