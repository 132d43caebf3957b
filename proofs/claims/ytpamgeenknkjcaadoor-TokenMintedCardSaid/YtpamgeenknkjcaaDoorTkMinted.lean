/- The law TokenMinted: what was minted verifies just what all of its grants allow. -/
import Derived.Test.YtpamgeenknkjcaaDoorTkNt
import Derived.Test.YtpamgeenknkjcaaDoorTkPs
import Derived.Test.YtpamgeenknkjcaaDoorTkEq
namespace Go.Proofs.YtpamgeenknkjcaaDoor
open Go.ChangeShapes Go.WideShapes Go.ChangeAt Go.RowKit
set_option linter.unusedVariables false
set_option linter.unusedSimpArgs false
open Plain Sha
theorem nine_of (a : Int) : ∃ k : Nat, k < 9 ∧ wrap64 ((IntKind.u64.wrap a).tmod 9) = (k : Int) := by
  have e : IntKind.u64.wrap a = a % 18446744073709551616 := IntKind.wrap_u64 a
  have h1 : 0 ≤ a % 18446744073709551616 := Int.emod_nonneg _ (by omega)
  refine ⟨((a % 18446744073709551616) % 9).toNat, by omega, ?_⟩
  rw [e, Int.tmod_eq_emod_of_nonneg h1]
  unfold wrap64
  omega
theorem Held.scall {W V : World} {b b' : Nat} {t t' : TokZ} {l l' : List GrantZ} {p p' : PTok} (q : Bool) (h : Held W b t l p) (h' : Held W b' t' l' p') (hq : sameP p p' = q) (hV : Below W.heap.size W V) :
    Calls Tryd.prog 20 #[.agg (tv t).toArray, .agg (tv t').toArray] V (fun e w' => e = .returned (.bool q) ∧ Below V.heap.size V w') := by
  subst hq
  rw [← h.is, ← h'.is]
  exact sameT_any (h.tok.below hV) (h'.tok.below hV) hV.size hV.size
theorem sameP_self (p : PTok) : sameP p p = true := by simp [sameP, eqL, eqB]
set_option maxRecDepth 100000 in
set_option maxHeartbeats 8000000 in
theorem minted_in {n m : Nat} {A1 A : Option Addr} (c1 c : Nat) {ks : List Int} {l : List GrantZ} (a : Int) (now need : Int) (w : World) (hk : Bs w w.heap.size A1 n ks) (hl : Grants w w.heap.size A m l) (h0 : 0 ≤ need) (h1 : need < 256) (hn : n ≤ 100) (hline : lineB l = true) (hF : LaidF w) (hK : LaidK w) :
    Calls Tryd.prog 6 #[.slice A1 n c1, .int .i64 a, .slice A m c, .int .i64 now, .int .u8 need] w (fun e w' => e = .returned (.bool true) ∧ Below w.heap.size w w') := by
  have hlm := hl.len
  obtain ⟨tn, htn9, htn⟩ := nine_of a
  have hmay : mayT (tn : Int) l = true := by simp [mayT, hline]; omega
  have h14 := may_len' hmay
  have hm4 : m ≤ 4 := by omega
  have hm0 : 0 < m := by omega
  have KEYw := Lib.hid hk
  have LINw := Lib.hid hl
  have HFw := Lib.hid hF
  have HKw := Lib.hid hK
  have HLINE := Lib.hid hline
  have HMAY := Lib.hid hmay
  have HLM := Lib.hid hlm
  have HTN : Hid (InR (tn : Int)) := Lib.hid (by unfold InR; omega)
  have nI : ¬ (100 < (n : Int)) := by omega
  have HOK := Lib.hid hl.ok
  obtain ⟨TT, hTT⟩ : ∃ T, tokTag ks (tn : Int) l = T := ⟨_, rfl⟩
  have HTT := Lib.hid hTT
  obtain ⟨LT, hLT⟩ : ∃ q, lateB now l = q := ⟨_, rfl⟩
  obtain ⟨LS, hLS⟩ : ∃ q, lessB need l = q := ⟨_, rfl⟩
  have HLT := Lib.hid hLT
  have HLS := Lib.hid hLS
  have CH : Hid (checkP ks ⟨(tn : Int), l, TT⟩ = 0) := Lib.hid (by unfold checkP; simp only [hmay, if_true, hTT, eqB_self])
  have HVV : Hid (verifyP ks ⟨(tn : Int), l, TT⟩ now need = if LT then 92 else if LS then 94 else 0) := Lib.hid (by
    unfold verifyP
    rw [CH.out, if_pos rfl]
    show (if lvX l ≤ now then (92 : Int) else if hasB (lvR l) need then 0 else 94) = _
    have e1 := late_iff hline now
    have e2 := less_iff hline hl.ok need h0 h1
    rw [hLT] at e1
    rw [hLS] at e2
    rw [e2]
    cases LT
    · rw [if_neg (by rw [e1]; decide)]
      cases LS <;> rfl
    · rw [if_pos (e1.2 rfl)]; rfl)
  clear hk hl hline hmay hlm hF hK hTT hLT hLS h14 h0 h1
  go_enter Tryd.func6, Tryd.ntmps6
  go_upto_region 2 with fail
  simp only [htn]
  clear htn
  go_upto_region 4 with (go_at_call 25; refine (line_val c true LINw.out (Nat.le_refl _) (by unfold maxLen; omega) HLINE.out).mono ?_; rintro e w2 ⟨rfl, hb2⟩; have B2 := Lib.hid hb2; clear hb2)
  have HF2 := Lib.hid (HFw.out.below B2.out HFw.out.lt)
  have HK2 := Lib.hid (HKw.out.below B2.out HKw.out.lt)
  have MD := Lib.hid (made_any c1 c (tn : Int) (KEYw.out.below B2.out) (LINw.out.below B2.out) B2.out.size B2.out.size (by omega) HTN.out HMAY.out HF2.out HK2.out)
  rw [HTT.out] at MD
  go_upto_region 5 with (first
    | (go_at_call 26; refine MD.out.mono ?_; rintro e w3 ⟨t, rfl, k3, p3, b3⟩; have T3 := Lib.hid (box_thereN w3 k3.len 28 _ rfl); have F3 := T3)
    | (have g := F3; clear g; refine wpList_store_as (op := ⟨none, .store 28 (.tmp 11) (.tmp 37), _, _, _, _⟩) rfl 28 (.tmp 11) (.tmp 37) rfl (w3.heap.size) 0 (tv t).toArray rfl rfl T3.out (tok_sizeA k3.len) (tok_one _) ?_; intro w4 hw4; clear F3))
  obtain ⟨t4, b4⟩ := held_new k3 p3 rfl hw4
  obtain ⟨vb, hvb⟩ : ∃ g, w3.heap.size = g := ⟨_, rfl⟩
  rw [hvb] at t4
  simp only [hvb]
  have KT4 := Lib.hid t4
  have B4 := Lib.hid (B2.out.trans ((b3.trans (b4.mono b3.size)).mono B2.out.size))
  clear hw4 t4 b4 hvb k3 p3 b3 T3 MD HF2 HK2 B2
  have KEY4 := Lib.hid ((KEYw.out.below B4.out).more B4.out.size)
  have LIN4 := Lib.hid ((LINw.out.below B4.out).more B4.out.size)
  have HF4 := Lib.hid (HFw.out.below B4.out HFw.out.lt)
  have HK4 := Lib.hid (HKw.out.below B4.out HKw.out.lt)
  have BT : Hid (∀ V, Below w4.heap.size w4 V → Box V vb t) := Lib.hid (fun V hV => (KT4.out.grow hV).box)
  have X4 := Lib.hid (BT.out _ (Below.refl _ _))
  have M4 := X4
  go_upto_region 7 with (first
    | (have g := M4; clear g; refine wpList_load_guard (op := ⟨some 43, .load 28 (.tmp 11), _, _, _, some (2, false)⟩) (by rfl) 28 (.tmp 11) rfl (vb) 0 rfl (tv t) _ X4.out.range Tryd.underlying28 rfl (tok_size X4.out.len) ?_; clear M4)
    | (go_at_call 23; refine (KT4.out.ccall c1 0 KEY4.out (by omega) HF4.out HK4.out CH.out (Below.refl _ _)).mono ?_; rintro e w5 ⟨rfl, hb5⟩; have B5 := Lib.hid hb5; clear hb5))
  have X5 := Lib.hid (BT.out _ B5.out)
  have M5 := X5
  obtain ⟨Z, hZ⟩ : ∃ Z, printP ⟨(tn : Int), l, TT⟩ = Z := ⟨_, rfl⟩
  have HPZ : Hid (parseP Z = (⟨(tn : Int), l, TT⟩, 0)) := Lib.hid (by
    rw [← hZ]
    exact parse_print HMAY.out (by rw [← HTT.out]; exact tokTag_len _ _ _) (fun g hg => (HOK.out g hg).r.1))
  have ZL : Hid (Z.length ≤ 1000) := Lib.hid (by
    rw [← hZ, printP_len _ (by rw [← HTT.out]; exact tokTag_len _ _ _)]
    split
    · next hm => have := may_len' hm; omega
    · omega)
  have ZB : Hid (IsBytes Z) := Lib.hid (by rw [← hZ]; exact printP_bytes _ (by rw [← HTT.out]; exact tokTag_bytes _ _ _))
  have HZ := Lib.hid hZ
  clear hZ
  go_upto_region 8 with (first
    | (have g := M5; clear g; refine wpList_load_mid (op := ⟨some 48, .load 28 (.tmp 11), _, _, _, _⟩) rfl 28 (.tmp 11) rfl (vb) 0 rfl (tv t) _ X5.out.range Tryd.underlying28 rfl (tok_size X5.out.len) ?_; clear M5)
    | (go_at_call 17; refine (KT4.out.pcall B5.out).mono ?_; rw [HZ.out]; intro e w6 hm6; obtain ⟨D6, d6, rfl, ho6, hb6, hd6, _⟩ := hm6.n rfl; have B6 := Lib.hid (B5.out.trans (hb6.mono B5.out.size)); have Z6 := Lib.hid (Made.bs ho6 ZB.out); clear hm6 ho6 hb6)
    | (go_at_call 18; refine (parse_any d6 Z6.out (Nat.le_refl _) (by have := ZL.out; omega) hd6).mono ?_; rw [HPZ.out]; rintro e w7 ⟨u, lu, rfl, k7, p7, b7, _⟩; have T7 := Lib.hid (box_thereN w7 k7.len 28 _ rfl); have F7 := T7)
    | (have g := F7; clear g; refine wpList_store_as (op := ⟨none, .store 28 (.tmp 13) (.tmp 51), _, _, _, _⟩) rfl 28 (.tmp 13) (.tmp 51) rfl (w7.heap.size) 0 (tv u).toArray rfl rfl T7.out (tok_sizeA k7.len) (tok_one _) ?_; intro w8 hw8; clear F7))
  obtain ⟨t8, b8⟩ := held_new k7 p7 rfl hw8
  obtain ⟨ub, hub⟩ : ∃ g, w7.heap.size = g := ⟨_, rfl⟩
  rw [hub] at t8
  simp only [hub]
  have B48 := Lib.hid (B6.out.trans ((b7.trans (b8.mono b7.size)).mono B6.out.size))
  have KU := Lib.hid t8
  have KT := Lib.hid (KT4.out.grow B48.out)
  have B8 := Lib.hid (B4.out.trans (B48.out.mono B4.out.size))
  have KEY := Lib.hid ((KEYw.out.below B8.out).more B8.out.size)
  have LIN := Lib.hid ((LINw.out.below B8.out).more B8.out.size)
  have FW := Lib.hid (HFw.out.below B8.out HFw.out.lt)
  have KW := Lib.hid (HKw.out.below B8.out HKw.out.lt)
  clear hw8 t8 b8 hub k7 p7 b7 T7 KT4 BT KEY4 LIN4 HF4 HK4 B48 B4 B5 B6 Z6 X4 X5 hd6
  have BT : Hid (∀ V, Below w8.heap.size w8 V → Box V vb t) := Lib.hid (fun V hV => (KT.out.grow hV).box)
  have BU : Hid (∀ V, Below w8.heap.size w8 V → Box V ub u) := Lib.hid (fun V hV => (KU.out.grow hV).box)
  have X9 := Lib.hid (BT.out _ (Below.refl _ _))
  have Y9 := Lib.hid (BU.out _ (Below.refl _ _))
  have M9 := X9
  have N9 := Y9
  have SM := Lib.hid (KT.out.scall true KU.out (sameP_self _) (Below.refl _ _))
  have hum : u.m = m := by
    have e1 := KU.out.tok.line.len
    have e2 := KU.out.is
    unfold pt at e2
    injection e2 with _ e2 _
    rw [e2] at e1
    have := HLM.out
    omega
  have HUM := Lib.hid hum
  clear hum
  go_upto_region 10 with (first
    | (have g := M9; clear g; refine wpList_load_guard (op := ⟨some 56, .load 28 (.tmp 11), _, _, _, some (2, false)⟩) (by rfl) 28 (.tmp 11) rfl (vb) 0 rfl (tv t) _ X9.out.range Tryd.underlying28 rfl (tok_size X9.out.len) ?_; clear M9)
    | (have g := N9; clear g; refine wpList_load_guard (op := ⟨some 57, .load 28 (.tmp 13), _, _, _, some (2, false)⟩) (by rfl) 28 (.tmp 13) rfl (ub) 0 rfl (tv u) _ Y9.out.range Tryd.underlying28 rfl (tok_size Y9.out.len) ?_; clear N9)
    | (go_at_call 20; refine SM.out.mono ?_; rintro e w9 ⟨rfl, hb9⟩; have B9 := Lib.hid hb9; have cu := (BU.out _ hb9).c1; rw [HUM.out] at cu; clear hb9))
  clear cu
  have B9w := Lib.hid (B8.out.trans (B9.out.mono B8.out.size))
  have LIN9 := Lib.hid (LIN.out.below B9.out)
  go_upto_region 12 with fail
  go_loopw [15, 16, 17] (fun lt ls i wr => ∃ k : Nat, k ≤ m ∧ i = .int .i64 k ∧ wr = w9 ∧ ∃ p q : Bool, lt = .bool p ∧ ls = .bool q ∧ Hid (lateB now (l.take k) = p) ∧ Hid (lessB need (l.take k) = q)) (fun _ _ i _ => m - (intOf i).toNat)
  case atStart => exact ⟨0, by omega, rfl, rfl, false, false, rfl, rfl, Lib.hid rfl, Lib.hid rfl⟩
  case round =>
    obtain ⟨k, hk, rfl, rfl, p, q, rfl, rfl, HP, HQ⟩ := hrel
    by_cases hlt : k < m
    · have hltI : (k : Int) < (m : Int) := by omega
      obtain ⟨gb, go, g, hA, hgb, HX, hgo, d0, d1, d2⟩ := LIN9.out.at_ hlt
      have hN1 : Hid (lateB now (l.take (k + 1)) = (p || decide (g.x ≤ now))) := Lib.hid (by rw [take_snocG l k g HX.out, lateB_snoc, HP.out])
      have hN2 : Hid (lessB need (l.take (k + 1)) = (q || bits .andNot .u8 need g.r != 0)) := Lib.hid (by rw [take_snocG l k g HX.out, lessB_snoc, HQ.out])
      obtain ⟨p', hp'⟩ : ∃ b, (p || decide (g.x ≤ now)) = b := ⟨_, rfl⟩
      obtain ⟨q', hq'⟩ : ∃ b, (q || bits .andNot .u8 need g.r != 0) = b := ⟨_, rfl⟩
      have HP' := Lib.hid hp'
      have HQ' := Lib.hid hq'
      rw [hp'] at hN1
      rw [hq'] at hN2
      clear hp' hq' hgo
      subst hA
      have key : ∀ (D : Prop), D → D := fun _ h => h
      cases p
      · cases q
        · go_wp2
          go_roundw
          case rel => exact ⟨k + 1, by omega, by go_num, by trivial, p', q', by rw [← HP'.out]; rfl, by rw [← HQ'.out]; rfl, hN1, hN2⟩
          case measure => simp [intOf]; omega
        · go_wp2
          go_roundw
          case rel => exact ⟨k + 1, by omega, by go_num, by trivial, p', q', by rw [← HP'.out]; rfl, by rw [← HQ'.out]; rfl, hN1, hN2⟩
          case measure => simp [intOf]; omega
      · cases q
        · go_wp2
          go_roundw
          case rel => exact ⟨k + 1, by omega, by go_num, by trivial, p', q', by rw [← HP'.out]; rfl, by rw [← HQ'.out]; rfl, hN1, hN2⟩
          case measure => simp [intOf]; omega
        · go_wp2
          go_roundw
          case rel => exact ⟨k + 1, by omega, by go_num, by trivial, p', q', by rw [← HP'.out]; rfl, by rw [← HQ'.out]; rfl, hN1, hN2⟩
          case measure => simp [intOf]; omega
    · have hkm : k = m := by omega
      have HLT2 : Hid (LT = p) := Lib.hid (by rw [← HLT.out, ← HP.out, hkm, List.take_of_length_le (by rw [HLM.out]; exact Nat.le_refl _)])
      have HLS2 : Hid (LS = q) := Lib.hid (by rw [← HLS.out, ← HQ.out, hkm, List.take_of_length_le (by rw [HLM.out]; exact Nat.le_refl _)])
      have HVV2 : Hid (verifyP ks ⟨(tn : Int), l, TT⟩ now need = if p then 92 else if q then 94 else 0) := Lib.hid (by rw [HVV.out, HLT2.out, HLS2.out])
      have hge : ¬ (k : Int) < (m : Int) := by omega
      have X10 := Lib.hid (BT.out _ B9.out)
      have M10 := X10
      clear hkm
      cases p <;> cases q
      · have HV : Hid (verifyP ks ⟨(tn : Int), l, TT⟩ now need = 0) := Lib.hid (by rw [HVV2.out]; rfl)
        go_wp2_with (first
          | (have g := M10; clear g; refine wpList_load_mid (op := ⟨some 97, .load 28 (.tmp 11), _, _, _, _⟩) rfl 28 (.tmp 11) rfl (vb) 0 rfl (tv t) _ X10.out.range Tryd.underlying28 rfl (tok_size X10.out.len) ?_; clear M10)
          | (go_at_call 24; refine (KT.out.vcall c1 now need 0 KEY.out (by omega) FW.out KW.out HV.out B9.out).mono ?_; rintro e w10 ⟨rfl, hb10⟩; have B10 := Lib.hid (B9.out.trans (hb10.mono B9.out.size)); clear hb10)
          | (go_at_call 8; refine (tawake_any w10 (FW.out.below B10.out FW.out.lt) (KW.out.below B10.out KW.out.lt)).mono ?_; rintro e w11 ⟨rfl, hb11⟩; have B11 := Lib.hid (B10.out.trans (hb11.mono B10.out.size)); clear hb11))
        go_ret
        exact ⟨rfl, B8.out.trans (B11.out.mono B8.out.size)⟩
      · have HV : Hid (verifyP ks ⟨(tn : Int), l, TT⟩ now need = 94) := Lib.hid (by rw [HVV2.out]; rfl)
        go_wp2_with (first
          | (have g := M10; clear g; refine wpList_load_mid (op := ⟨some 97, .load 28 (.tmp 11), _, _, _, _⟩) rfl 28 (.tmp 11) rfl (vb) 0 rfl (tv t) _ X10.out.range Tryd.underlying28 rfl (tok_size X10.out.len) ?_; clear M10)
          | (go_at_call 24; refine (KT.out.vcall c1 now need 94 KEY.out (by omega) FW.out KW.out HV.out B9.out).mono ?_; rintro e w10 ⟨rfl, hb10⟩; have B10 := Lib.hid (B9.out.trans (hb10.mono B9.out.size)); clear hb10)
          | (go_at_call 8; refine (tawake_any w10 (FW.out.below B10.out FW.out.lt) (KW.out.below B10.out KW.out.lt)).mono ?_; rintro e w11 ⟨rfl, hb11⟩; have B11 := Lib.hid (B10.out.trans (hb11.mono B10.out.size)); clear hb11))
        go_ret
        exact ⟨rfl, B8.out.trans (B11.out.mono B8.out.size)⟩
      · have HV : Hid (verifyP ks ⟨(tn : Int), l, TT⟩ now need = 92) := Lib.hid (by rw [HVV2.out]; rfl)
        go_wp2_with (first
          | (have g := M10; clear g; refine wpList_load_mid (op := ⟨some 97, .load 28 (.tmp 11), _, _, _, _⟩) rfl 28 (.tmp 11) rfl (vb) 0 rfl (tv t) _ X10.out.range Tryd.underlying28 rfl (tok_size X10.out.len) ?_; clear M10)
          | (go_at_call 24; refine (KT.out.vcall c1 now need 92 KEY.out (by omega) FW.out KW.out HV.out B9.out).mono ?_; rintro e w10 ⟨rfl, hb10⟩; have B10 := Lib.hid (B9.out.trans (hb10.mono B9.out.size)); clear hb10)
          | (go_at_call 8; refine (tawake_any w10 (FW.out.below B10.out FW.out.lt) (KW.out.below B10.out KW.out.lt)).mono ?_; rintro e w11 ⟨rfl, hb11⟩; have B11 := Lib.hid (B10.out.trans (hb11.mono B10.out.size)); clear hb11))
        go_ret
        exact ⟨rfl, B8.out.trans (B11.out.mono B8.out.size)⟩
      · have HV : Hid (verifyP ks ⟨(tn : Int), l, TT⟩ now need = 92) := Lib.hid (by rw [HVV2.out]; rfl)
        go_wp2_with (first
          | (have g := M10; clear g; refine wpList_load_mid (op := ⟨some 97, .load 28 (.tmp 11), _, _, _, _⟩) rfl 28 (.tmp 11) rfl (vb) 0 rfl (tv t) _ X10.out.range Tryd.underlying28 rfl (tok_size X10.out.len) ?_; clear M10)
          | (go_at_call 24; refine (KT.out.vcall c1 now need 92 KEY.out (by omega) FW.out KW.out HV.out B9.out).mono ?_; rintro e w10 ⟨rfl, hb10⟩; have B10 := Lib.hid (B9.out.trans (hb10.mono B9.out.size)); clear hb10)
          | (go_at_call 8; refine (tawake_any w10 (FW.out.below B10.out FW.out.lt) (KW.out.below B10.out KW.out.lt)).mono ?_; rintro e w11 ⟨rfl, hb11⟩; have B11 := Lib.hid (B10.out.trans (hb11.mono B10.out.size)); clear hb11))
        go_ret
        exact ⟨rfl, B8.out.trans (B11.out.mono B8.out.size)⟩
set_option maxRecDepth 100000 in
set_option maxHeartbeats 4000000 in
theorem minted_any (A1 : Option Addr) (n c1 : Nat) (ks : List Int) (a : Int) (A : Option Addr) (m c : Nat) (l : List GrantZ) (now need : Int) (w : World) (hk : Bs w w.heap.size A1 n ks) (hn : n ≤ maxLen) (ha : -9223372036854775808 ≤ a ∧ a ≤ 9223372036854775807) (hl : Grants w w.heap.size A m l) (hm : m ≤ maxLen) (hnow : -9223372036854775808 ≤ now ∧ now ≤ 9223372036854775807) (h0 : 0 ≤ need) (h1 : need < 256) (hF : LaidF w) (hK : LaidK w) :
    Calls Tryd.prog 6 #[.slice A1 n c1, .int .i64 a, .slice A m c, .int .i64 now, .int .u8 need] w (fun e w' => e = .returned (.bool true) ∧ Below w.heap.size w w') := by
  have HF := Lib.hid hF
  have HK := Lib.hid hK
  have HM := Lib.hid hm
  have LIN0 := Lib.hid hl
  by_cases h100 : 100 < n
  · have nI : 100 < (n : Int) := by omega
    obtain ⟨tn, htn9, htn⟩ := nine_of a
    clear hk hl hF hK hnow h0 h1 hm hn h100 ha
    go_enter Tryd.func6, Tryd.ntmps6
    go_upto_region 2 with fail
    simp only [htn]
    clear htn
    go_wp2_with (go_at_call 8; refine (tawake_any _ HF.out HK.out).mono ?_; rintro e w11 ⟨rfl, hb11⟩; have B11 := Lib.hid hb11; clear hb11)
    go_ret
    exact ⟨rfl, B11.out⟩
  have nI : ¬ (100 < (n : Int)) := by omega
  obtain ⟨q, hq⟩ : ∃ q, lineB l = q := ⟨_, rfl⟩
  have LV := Lib.hid (line_val c q LIN0.out (Nat.le_refl _) HM.out hq)
  cases q
  · obtain ⟨tn, htn9, htn⟩ := nine_of a
    clear hk hl hF hK hnow h0 h1 hm hn h100 hq ha
    go_enter Tryd.func6, Tryd.ntmps6
    go_upto_region 2 with fail
    simp only [htn]
    clear htn
    go_wp2_with (first
      | (go_at_call 25; refine LV.out.mono ?_; rintro e w1 ⟨rfl, hb1⟩; have B1 := Lib.hid hb1; clear hb1)
      | (go_at_call 8; refine (tawake_any _ (HF.out.below B1.out HF.out.lt) (HK.out.below B1.out HK.out.lt)).mono ?_; rintro e w11 ⟨rfl, hb11⟩; have B11 := Lib.hid (B1.out.trans (hb11.mono B1.out.size)); clear hb11))
    go_ret
    exact ⟨rfl, B11.out⟩
  exact minted_in c1 c a now need w hk hl h0 h1 (by omega) hq hF hK
end Go.Proofs.YtpamgeenknkjcaaDoor
