/- The law TokenHolder: what a holder makes of a token leaves no more. -/
import Derived.Test.YtpamgeenknkjcaaDoorTkMd
namespace Go.Proofs.YtpamgeenknkjcaaDoor
open Go.ChangeShapes Go.WideShapes Go.ChangeAt Go.RowKit
set_option linter.unusedVariables false
set_option linter.unusedSimpArgs false
open Plain Sha
theorem and_again (a b : Int) : andZ a (andZ a b) = andZ a b := by
  unfold andZ
  rw [Int.toNat_natCast, ← Nat.and_assoc, Nat.and_self]
theorem has_iff {a b : Int} (h0 : 0 ≤ a) (h1 : a < 256) (h2 : 0 ≤ b) (h3 : b < 256) : hasB a b = true ↔ andZ a b = b := by
  unfold hasB
  rw [bits_and h0 h1 h2 h3]
  simp
theorem line_snoc {l : List GrantZ} {g : GrantZ} (hl : lineB l = true) (hm : l.length < 4) (hg : mayB g = true) : lineB (l ++ [g]) = true := by
  simp only [lineB, Bool.and_eq_true, decide_eq_true_eq, List.length_append, List.length_singleton, List.all_append, List.all_cons, List.all_nil, Bool.and_true] at hl ⊢
  exact ⟨⟨by omega, by omega⟩, hl.2, hg⟩
theorem within_snoc {l : List GrantZ} {g : GrantZ} (hl : lineB l = true) (hm : l.length < 4) (hg : mayB g = true) (h0 : 0 ≤ g.r) : withinB (l ++ [g]) l = true := by
  have b1 := lvR_bound l
  have b2 := andZ_le (lvR l) g.r b1.1
  have hh := (has_iff b1.1 (by omega) b2.1 (by omega)).2 (and_again (lvR l) g.r)
  simp only [withinB, line_snoc hl hm hg, hl, lvR_snoc, lvX_snoc, hh, Bool.and_true, Bool.true_and, decide_eq_true_eq]
  omega
/-- Rights that are left by less are left by more. -/
theorem has_less {a b n : Int} (h0 : 0 ≤ a) (h1 : a < 256) (h2 : 0 ≤ n) (h3 : n < 256) (h : hasB (andZ a b) n = true) : hasB a n = true := by
  have c := andZ_le a b h0
  rw [has_iff c.1 (by omega) h2 h3] at h
  rw [has_iff h0 h1 h2 h3]
  unfold andZ at h ⊢
  rw [Int.toNat_natCast] at h
  have h' : (a.toNat &&& b.toNat) &&& n.toNat = n.toNat := by omega
  have : a.toNat &&& n.toNat = n.toNat := by
    rw [← h']
    rw [← Nat.and_assoc, ← Nat.and_assoc, Nat.and_self]
  omega
theorem verify_less (ks : List Int) (l : List GrantZ) (g : GrantZ) (hm : mayT 1 l = true) (now need : Int) (h0 : 0 ≤ need) (h1 : need < 256)
    (h : verifyP ks ⟨1, l ++ [g], tokTag ks 1 (l ++ [g])⟩ now need = 0) (hm2 : mayT 1 (l ++ [g]) = true) : verifyP ks ⟨1, l, tokTag ks 1 l⟩ now need = 0 := by
  have c : ∀ (x : List GrantZ), mayT 1 x = true → checkP ks ⟨1, x, tokTag ks 1 x⟩ = 0 := fun x hx => by
    unfold checkP
    simp only [hx, if_true, eqB_self]
  unfold verifyP at h ⊢
  rw [c _ hm2, if_pos rfl] at h
  rw [c _ hm, if_pos rfl]
  simp only at h ⊢
  rw [lvX_snoc, lvR_snoc] at h
  have hb := lvR_bound l
  split at h
  · simp at h
  · next hx =>
    split at h
    · next hh =>
      rw [if_neg (by omega), if_pos (has_less hb.1 (by omega) h0 h1 hh)]
    · simp at h
theorem Held.wcall {W V : World} {b b' : Nat} {t t' : TokZ} {l l' : List GrantZ} {p p' : PTok} (q : Bool) (h : Held W b t l p) (h' : Held W b' t' l' p') (hq : withinB l l' = q) (hV : Below W.heap.size W V) :
    Calls Tryd.prog 28 #[.slice t.A t.m t.c, .slice t'.A t'.m t'.c] V (fun e w' => e = .returned (.bool q) ∧ Below V.heap.size V w') :=
  within_val t.c t'.c q (h.tok.line.below hV) (h'.tok.line.below hV) hV.size hV.size (Nat.le_trans h.tok.mc h.tok.cm) (Nat.le_trans h'.tok.mc h'.tok.cm) hq
set_option maxRecDepth 100000 in
set_option maxHeartbeats 8000000 in
theorem holder_in {n m : Nat} {A1 A : Option Addr} (c1 c : Nat) {ks : List Int} {l : List GrantZ} (g : GrantZ) (now need : Int) (w : World) (hk : Bs w w.heap.size A1 n ks) (hl : Grants w w.heap.size A m l) (hg : GOk g) (h0 : 0 ≤ need) (h1 : need < 256) (hn : n ≤ 100) (hline : lineB l = true) (hm : m ≤ 3) (hmg : mayB g = true) (hF : LaidF w) (hK : LaidK w) :
    Calls Tryd.prog 7 #[.slice A1 n c1, .slice A m c, .agg #[.int .u8 g.r, .int .i64 g.x, .int .i64 g.s], .int .i64 now, .int .u8 need] w (fun e w' => e = .returned (.bool true) ∧ Below w.heap.size w w') := by
  have hlm := hl.len
  have hmay : mayT 1 l = true := by simp [mayT, hline]
  have hline2 := line_snoc hline (by omega) hmg
  have hmay2 : mayT 1 (l ++ [g]) = true := by simp [mayT, hline2]
  have hatt : attP ⟨1, l, tokTag ks 1 l⟩ g = (⟨1, l ++ [g], tokTag ks 1 (l ++ [g])⟩, 0) := by
    unfold attP
    simp only [hmay, hmg, Bool.and_self, if_true]
    rw [if_neg (by omega), tokTag_snoc _ _ _ _ (by have := may_len' hmay; omega)]
  obtain ⟨W0, hW0⟩ : ∃ W, W = w.alloc (.cells #[.int .u8 g.r, .int .i64 g.x, .int .i64 g.s] 33) := ⟨_, rfl⟩
  have b0 : Below w.heap.size w W0 := by rw [hW0]; exact (Below.refl _ _).alloc (Nat.le_refl _) _
  have G0 : Hid (GCell W0 w.heap.size g) := Lib.hid (by rw [hW0]; exact gcell_new w g _ _ rfl)
  have s0 : w.heap.size < W0.heap.size := by rw [hW0]; simp
  have KEY0 := Lib.hid ((hk.below b0).more b0.size)
  have LIN0 := Lib.hid ((hl.below b0).more b0.size)
  have HB0 := Lib.hid b0
  have HF0 := Lib.hid (hF.below b0 hF.lt)
  have HK0 := Lib.hid (hK.below b0 hK.lt)
  have HW0 := Lib.hid hW0
  have HGO := Lib.hid hg
  have HLINE := Lib.hid hline
  have HMG := Lib.hid hmg
  have HMAY := Lib.hid hmay
  have HMAY2 := Lib.hid hmay2
  have HATT := Lib.hid hatt
  have HWI := Lib.hid (within_snoc hline (by omega) hmg hg.r.1)
  have nI : ¬ (100 < (n : Int)) := by omega
  have mI : ¬ (3 < (m : Int)) := by omega
  have HVL : Hid (verifyP ks ⟨1, l ++ [g], tokTag ks 1 (l ++ [g])⟩ now need = 0 → verifyP ks ⟨1, l, tokTag ks 1 l⟩ now need = 0) := Lib.hid (fun h => verify_less ks l g hmay now need h0 h1 h hmay2)
  clear hk hl hg hline hmg hmay hmay2 hatt hline2 hF hK hW0 b0 hlm h0 h1
  go_enter Tryd.func7, Tryd.ntmps7
  go_upto_region 1 with fail
  rw [← HW0.out]
  go_upto_region 3 with (first
    | (go_at_call 25; refine (line_val c true LIN0.out (Nat.le_refl _) (by unfold maxLen; omega) HLINE.out).mono ?_; rintro e w1 ⟨rfl, hb1⟩; have B1 := Lib.hid hb1; obtain ⟨d0, d1, d2⟩ := G0.out.below hb1 s0; clear hb1)
    | (go_at_call 27; refine (may_val g true HMG.out _).mono ?_; rintro e w2 ⟨rfl, hb2⟩; have B2 := Lib.hid (B1.out.trans (hb2.mono B1.out.size)); clear hb2 d0 d1 d2))
  have HF2 := Lib.hid (HF0.out.below B2.out HF0.out.lt)
  have HK2 := Lib.hid (HK0.out.below B2.out HK0.out.lt)
  have MD := Lib.hid (made_any c1 c 1 (KEY0.out.below B2.out) (LIN0.out.below B2.out) B2.out.size B2.out.size (by omega) (show InR 1 from ⟨by decide, by decide⟩) HMAY.out HF2.out HK2.out)
  go_upto_region 4 with (first
    | (go_at_call 26; refine MD.out.mono ?_; rintro e w3 ⟨t, rfl, k3, p3, b3⟩; have T3 := Lib.hid (box_thereN w3 k3.len 28 _ rfl); have F3 := T3)
    | (have g := F3; clear g; refine wpList_store_as (op := ⟨none, .store 28 (.tmp 11) (.tmp 38), _, _, _, _⟩) rfl 28 (.tmp 11) (.tmp 38) rfl (w3.heap.size) 0 (tv t).toArray rfl rfl T3.out (tok_sizeA k3.len) (tok_one _) ?_; intro w4 hw4; clear F3))
  obtain ⟨t4, b4⟩ := held_new k3 p3 rfl hw4
  obtain ⟨vb, hvb⟩ : ∃ g, w3.heap.size = g := ⟨_, rfl⟩
  rw [hvb] at t4
  simp only [hvb]
  have KT4 := Lib.hid t4
  have B4 := Lib.hid (B2.out.trans ((b3.trans (b4.mono b3.size)).mono B2.out.size))
  clear hw4 t4 b4 hvb k3 p3 b3 T3 MD HF2 HK2
  obtain ⟨d0, d1, d2⟩ := G0.out.below B4.out s0
  have KB4 : Hid (Box w4 vb t) := Lib.hid KT4.out.box
  have L4 := KB4
  have HF4 := Lib.hid (HF0.out.below B4.out HF0.out.lt)
  have HK4 := Lib.hid (HK0.out.below B4.out HK0.out.lt)
  have AT := Lib.hid (att_val (⟨1, l ++ [g], tokTag ks 1 (l ++ [g])⟩, 0) KT4.out.tok (Nat.le_refl _) g HGO.out HF4.out HK4.out (by rw [KT4.out.is]; exact HATT.out))
  go_upto_region 5 with (first
    | (have g := L4; clear g; refine wpList_load_mid (op := ⟨some 41, .load 28 (.tmp 11), _, _, _, _⟩) rfl 28 (.tmp 11) rfl (vb) 0 rfl (tv t) _ KB4.out.range Tryd.underlying28 rfl (tok_size KB4.out.len) ?_; clear L4)
    | (go_at_call 14; refine AT.out.mono ?_; rintro e w5 ⟨u, lu, rfl, k5, p5, b5, _⟩; have T5 := Lib.hid (box_thereN w5 k5.len 28 _ rfl); have F5 := T5)
    | (have g := F5; clear g; refine wpList_store_as (op := ⟨none, .store 28 (.tmp 13) (.tmp 44), _, _, _, _⟩) rfl 28 (.tmp 13) (.tmp 44) rfl (w5.heap.size) 0 (tv u).toArray rfl rfl T5.out (tok_sizeA k5.len) (tok_one _) ?_; intro w6 hw6; clear F5))
  obtain ⟨t6, b6⟩ := held_new k5 p5 rfl hw6
  obtain ⟨ub, hub⟩ : ∃ g, w5.heap.size = g := ⟨_, rfl⟩
  rw [hub] at t6
  simp only [hub]
  obtain rfl : lu = l ++ [g] := by have := p5; unfold pt at this; injection this
  have KU := Lib.hid t6
  have B46 := Lib.hid (b5.trans (b6.mono b5.size))
  have KT := Lib.hid (KT4.out.grow B46.out)
  have B6 := Lib.hid (B4.out.trans (B46.out.mono B4.out.size))
  have KEY := Lib.hid ((KEY0.out.below B6.out).more B6.out.size)
  have FW := Lib.hid (HF0.out.below B6.out HF0.out.lt)
  have KW := Lib.hid (HK0.out.below B6.out HK0.out.lt)
  have BW := Lib.hid (HB0.out.trans (B6.out.mono HB0.out.size))
  clear hw6 t6 b6 hub k5 p5 b5 T5 AT d0 d1 d2 KT4 KB4 B46 B4 HF4 HK4 HF0 HK0 KEY0 LIN0 HB0 B2 B1 G0
  have CH : Hid (checkP ks ⟨1, l ++ [g], tokTag ks 1 (l ++ [g])⟩ = 0) := Lib.hid (by unfold checkP; simp only [HMAY2.out, if_true, eqB_self])
  have BU : Hid (∀ V, Below w6.heap.size w6 V → Box V ub u) := Lib.hid (fun V hV => (KU.out.grow hV).box)
  have BT : Hid (∀ V, Below w6.heap.size w6 V → Box V vb t) := Lib.hid (fun V hV => (KT.out.grow hV).box)
  have X6 := Lib.hid (BU.out _ (Below.refl _ _))
  have M6 := X6
  go_upto_region 7 with (first
    | (have g := M6; clear g; refine wpList_load_guard (op := ⟨some 54, .load 28 (.tmp 13), _, _, _, some (6, false)⟩) (by rfl) 28 (.tmp 13) rfl (ub) 0 rfl (tv u) _ X6.out.range Tryd.underlying28 rfl (tok_size X6.out.len) ?_; clear M6)
    | (go_at_call 23; refine (KU.out.ccall c1 0 KEY.out (by omega) FW.out KW.out CH.out (Below.refl _ _)).mono ?_; rintro e w7 ⟨rfl, hb7⟩; have B7 := Lib.hid hb7; clear hb7))
  obtain ⟨v1, hv1⟩ : ∃ v, verifyP ks ⟨1, l ++ [g], tokTag ks 1 (l ++ [g])⟩ now need = v := ⟨_, rfl⟩
  have HV1 := Lib.hid hv1
  have X7 := Lib.hid (BU.out _ B7.out)
  have M7 := X7
  have FV := HV1
  by_cases hz : v1 = 0
  · have HV2 := Lib.hid (HVL.out (hv1.trans hz))
    subst hz
    clear hv1
    go_wp2_with (first
      | (have g := M7; clear g; refine wpList_load_mid (op := ⟨some 59, .load 28 (.tmp 13), _, _, _, _⟩) rfl 28 (.tmp 13) rfl (ub) 0 rfl (tv u) _ X7.out.range Tryd.underlying28 rfl (tok_size X7.out.len) ?_; clear M7)
      | (have g := FV; clear g; go_at_call 24; refine (KU.out.vcall c1 now need 0 KEY.out (by omega) FW.out KW.out HV1.out B7.out).mono ?_; rintro e w8 ⟨rfl, hb8⟩; have B8 := Lib.hid (B7.out.trans (hb8.mono B7.out.size)); have X8 := Lib.hid (BT.out _ B8.out); have M8 := X8; clear hb8 FV)
      | (have g := M8; clear g; refine wpList_load_guard (op := ⟨some 66, .load 28 (.tmp 11), _, _, _, some (6, false)⟩) (by rfl) 28 (.tmp 11) rfl (vb) 0 rfl (tv t) _ X8.out.range Tryd.underlying28 rfl (tok_size X8.out.len) ?_; clear M8)
      | (go_at_call 24; refine (KT.out.vcall c1 now need 0 KEY.out (by omega) FW.out KW.out HV2.out B8.out).mono ?_; rintro e w9 ⟨rfl, hb9⟩; have B9 := Lib.hid (B8.out.trans (hb9.mono B8.out.size)); have e1 := (BU.out _ B9.out).c1; have e2 := (BT.out _ B9.out).c1; clear hb9)
      | (go_at_call 28; refine (KU.out.wcall true KT.out HWI.out B9.out).mono ?_; rintro e w10 ⟨rfl, hb10⟩; have B10 := Lib.hid (B9.out.trans (hb10.mono B9.out.size)); clear hb10)
      | (go_at_call 8; refine (tawake_any w10 (FW.out.below B10.out FW.out.lt) (KW.out.below B10.out KW.out.lt)).mono ?_; rintro e w11 ⟨rfl, hb11⟩; have B11 := Lib.hid (B10.out.trans (hb11.mono B10.out.size)); clear hb11))
    go_ret
    exact ⟨rfl, BW.out.trans (B11.out.mono BW.out.size)⟩
  · have hzI : (v1 == 0) = false := by simpa using hz
    have hzN : (v1 != 0) = true := by simp [bne, hzI]
    clear hz hv1
    have X8 := X7
    go_wp2_with (first
      | (have g := M7; clear g; refine wpList_load_mid (op := ⟨some 59, .load 28 (.tmp 13), _, _, _, _⟩) rfl 28 (.tmp 13) rfl (ub) 0 rfl (tv u) _ X7.out.range Tryd.underlying28 rfl (tok_size X7.out.len) ?_; clear M7)
      | (have g := FV; clear g; go_at_call 24; refine (KU.out.vcall c1 now need v1 KEY.out (by omega) FW.out KW.out HV1.out B7.out).mono ?_; rintro e w8 ⟨rfl, hb8⟩; have B8 := Lib.hid (B7.out.trans (hb8.mono B7.out.size)); have e1 := (BU.out _ B8.out).c1; have e2 := (BT.out _ B8.out).c1; clear hb8 FV)
      | (go_at_call 28; refine (KU.out.wcall true KT.out HWI.out B8.out).mono ?_; rintro e w10 ⟨rfl, hb10⟩; have B10 := Lib.hid (B8.out.trans (hb10.mono B8.out.size)); clear hb10)
      | (go_at_call 8; refine (tawake_any w10 (FW.out.below B10.out FW.out.lt) (KW.out.below B10.out KW.out.lt)).mono ?_; rintro e w11 ⟨rfl, hb11⟩; have B11 := Lib.hid (B10.out.trans (hb11.mono B10.out.size)); clear hb11))
    go_ret
    exact ⟨rfl, BW.out.trans (B11.out.mono BW.out.size)⟩
set_option maxRecDepth 100000 in
set_option maxHeartbeats 4000000 in
theorem holder_any (A1 : Option Addr) (n c1 : Nat) (ks : List Int) (A : Option Addr) (m c : Nat) (l : List GrantZ) (g : GrantZ) (now need : Int) (w : World) (hk : Bs w w.heap.size A1 n ks) (hn : n ≤ maxLen) (hl : Grants w w.heap.size A m l) (hm : m ≤ maxLen) (hg : GOk g) (hnow : -9223372036854775808 ≤ now ∧ now ≤ 9223372036854775807) (h0 : 0 ≤ need) (h1 : need < 256) (hF : LaidF w) (hK : LaidK w) :
    Calls Tryd.prog 7 #[.slice A1 n c1, .slice A m c, .agg #[.int .u8 g.r, .int .i64 g.x, .int .i64 g.s], .int .i64 now, .int .u8 need] w (fun e w' => e = .returned (.bool true) ∧ Below w.heap.size w w') := by
  have HF := Lib.hid hF
  have HK := Lib.hid hK
  have HM := Lib.hid hm
  obtain ⟨W0, hW0⟩ : ∃ W, W = w.alloc (.cells #[.int .u8 g.r, .int .i64 g.x, .int .i64 g.s] 33) := ⟨_, rfl⟩
  have b0 : Below w.heap.size w W0 := by rw [hW0]; exact (Below.refl _ _).alloc (Nat.le_refl _) _
  have s0 : w.heap.size < W0.heap.size := by rw [hW0]; simp
  have G0 : Hid (GCell W0 w.heap.size g) := Lib.hid (by rw [hW0]; exact gcell_new w g _ _ rfl)
  have LIN0 := Lib.hid ((hl.below b0).more b0.size)
  have HB0 := Lib.hid b0
  have HW0 := Lib.hid hW0
  by_cases h100 : 100 < n
  · have nI : 100 < (n : Int) := by omega
    clear hk hl hW0 hF hK hnow h0 h1 hg hm hn h100 b0
    go_enter Tryd.func7, Tryd.ntmps7
    go_upto_region 1 with fail
    rw [← HW0.out]
    go_wp2_with (go_at_call 8; refine (tawake_any _ (HF.out.below HB0.out HF.out.lt) (HK.out.below HB0.out HK.out.lt)).mono ?_; rintro e w11 ⟨rfl, hb11⟩; have B11 := Lib.hid (HB0.out.trans (hb11.mono HB0.out.size)); clear hb11)
    go_ret
    exact ⟨rfl, B11.out⟩
  have nI : ¬ (100 < (n : Int)) := by omega
  obtain ⟨q, hq⟩ : ∃ q, lineB l = q := ⟨_, rfl⟩
  have LV := Lib.hid (line_val c q LIN0.out (Nat.le_refl _) HM.out hq)
  cases q
  · clear hk hl hW0 hF hK hnow h0 h1 hg hm hn h100 b0 hq
    go_enter Tryd.func7, Tryd.ntmps7
    go_upto_region 1 with fail
    rw [← HW0.out]
    go_wp2_with (first
      | (go_at_call 25; refine LV.out.mono ?_; rintro e w1 ⟨rfl, hb1⟩; have B1 := Lib.hid (HB0.out.trans (hb1.mono HB0.out.size)); clear hb1)
      | (go_at_call 8; refine (tawake_any _ (HF.out.below B1.out HF.out.lt) (HK.out.below B1.out HK.out.lt)).mono ?_; rintro e w11 ⟨rfl, hb11⟩; have B11 := Lib.hid (B1.out.trans (hb11.mono B1.out.size)); clear hb11))
    go_ret
    exact ⟨rfl, B11.out⟩
  by_cases h3 : 3 < m
  · have mI : 3 < (m : Int) := by omega
    clear hk hl hW0 hF hK hnow h0 h1 hg hm hn h100 h3 b0 hq
    go_enter Tryd.func7, Tryd.ntmps7
    go_upto_region 1 with fail
    rw [← HW0.out]
    go_wp2_with (first
      | (go_at_call 25; refine LV.out.mono ?_; rintro e w1 ⟨rfl, hb1⟩; have B1 := Lib.hid (HB0.out.trans (hb1.mono HB0.out.size)); clear hb1)
      | (go_at_call 8; refine (tawake_any _ (HF.out.below B1.out HF.out.lt) (HK.out.below B1.out HK.out.lt)).mono ?_; rintro e w11 ⟨rfl, hb11⟩; have B11 := Lib.hid (B1.out.trans (hb11.mono B1.out.size)); clear hb11))
    go_ret
    exact ⟨rfl, B11.out⟩
  obtain ⟨q2, hq2⟩ : ∃ q, mayB g = q := ⟨_, rfl⟩
  cases q2
  · have HQ2 := Lib.hid hq2
    have mI : ¬ (3 < (m : Int)) := by omega
    clear hk hl hW0 hF hK hnow h0 h1 hg hm hn h100 h3 b0 hq hq2
    go_enter Tryd.func7, Tryd.ntmps7
    go_upto_region 1 with fail
    rw [← HW0.out]
    go_wp2_with (first
      | (go_at_call 25; refine LV.out.mono ?_; rintro e w1 ⟨rfl, hb1⟩; have B1 := Lib.hid (HB0.out.trans (hb1.mono HB0.out.size)); obtain ⟨d0, d1, d2⟩ := G0.out.below hb1 s0; clear hb1)
      | (go_at_call 27; refine (may_val g false HQ2.out _).mono ?_; rintro e w2 ⟨rfl, hb2⟩; have B2 := Lib.hid (B1.out.trans (hb2.mono B1.out.size)); clear hb2 d0 d1 d2)
      | (go_at_call 8; refine (tawake_any _ (HF.out.below B2.out HF.out.lt) (HK.out.below B2.out HK.out.lt)).mono ?_; rintro e w11 ⟨rfl, hb11⟩; have B11 := Lib.hid (B2.out.trans (hb11.mono B2.out.size)); clear hb11))
    go_ret
    exact ⟨rfl, B11.out⟩
  exact holder_in c1 c g now need w hk hl hg h0 h1 (by omega) hq (by omega) hq2 hF hK
end Go.Proofs.YtpamgeenknkjcaaDoor
