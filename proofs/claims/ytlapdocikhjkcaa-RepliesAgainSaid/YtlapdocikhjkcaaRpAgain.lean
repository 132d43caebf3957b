/- The statement RepliesAgain: the walk. -/
import Derived.Test.YtlapdocikhjkcaaRpV
namespace Go.Proofs.Ytlapdocikhjkcaa
open Go.ChangeShapes Go.WideShapes Go.ChangeAt Go.RowKit
set_option linter.unusedVariables false
set_option linter.unusedSimpArgs false
open Plain Sha Au Rp
set_option maxRecDepth 100000 in
set_option maxHeartbeats 32000000 in
theorem rpagain_in (A : Option Addr) (n c : Nat) (l : List LX) (w : World) (h : Las w w.heap.size A n l) (hn : n ≤ 140737488355328) (hk : ∀ x, x ∈ l → x.r.kn ≤ 140737488355328) :
    Calls Try.prog 6 #[.slice A n c] w (fun e w' => e = .returned (.bool true) ∧ Below w.heap.size w w') := by
  have AW := Lib.hid (fun V => awake_any V)
  by_cases h40 : 40 < n
  · have hI : 40 < (n : Int) := by omega
    clear h hn hk
    go_enter Try.func6, Try.ntmps6
    go_wp2_with (go_at_call 19; refine (AW.out _).mono ?_; rintro e2 w2 ⟨rfl, b2⟩; have B2 := Lib.hid b2; clear b2)
    go_ret
    exact ⟨rfl, B2.out⟩
  have hI : ¬ 40 < (n : Int) := by omega
  have HG := Lib.hid h
  have HLL := Lib.hid (fun (V : World) (hV : Below w.heap.size w V) => h.below hV (Nat.le_refl _))
  have HL := Lib.hid h.len
  have HK := Lib.hid hk
  obtain ⟨W1, hW1⟩ : ∃ W, W = w.alloc (.cells #[.int .i64 0, .int .i64 0, .int .i64 0, .int .i64 0] 58) := ⟨_, rfl⟩
  have b1 := Lib.hid (show Below w.heap.size w W1 by rw [hW1]; exact below_one _ _)
  have z1 := Lib.hid (show W1.heap.size = w.heap.size + 1 by rw [hW1]; simp)
  have AR1 := Lib.hid (show AR W1 w.heap.size (fun _ => 0) by rw [hW1]; exact ar_new w _)
  have HW1 := Lib.hid hW1
  clear h hn hk hW1 h40
  go_enter Try.func6, Try.ntmps6
  go_upto_region 5 with fail
  rw [← HW1.out]
  go_wp2
  go_loopw [3, 5] (fun tv i wr => ∃ k : Nat, k ≤ n ∧ i = .int .i64 k ∧ ∃ (T : Option Addr) (m d : Nat) (LT : List LX) (P : Nat → Nat), tv = .slice T m d ∧ Hid (Las wr wr.heap.size T m LT ∧ m ≤ d ∧ d ≤ maxLen) ∧ Hid (Below w.heap.size w wr ∧ w.heap.size < wr.heap.size) ∧ Hid (AR wr w.heap.size P) ∧ Hid (Inv l k LT P)) (fun _ i _ => n - (intOf i).toNat)
  case atStart => exact ⟨0, by omega, rfl, none, 0, 0, [], fun _ => 0, rfl, Lib.hid ⟨Las.nil, Nat.le_refl _, by simp [maxLen]⟩, Lib.hid ⟨b1.out, by rw [z1.out]; omega⟩, AR1, Lib.hid (inv_zero l)⟩
  case round =>
    obtain ⟨k, hkn, rfl, T, m, d, LT, P, rfl, HT, HW, HA, HI⟩ := hrel
    have hm4 : m ≤ 4 := by have := may_len HI.out.may; rw [HT.out.1.len] at this; exact this
    have hmx : m ≤ 9223372036854775807 := by omega
    have hsw := HW.out.2
    by_cases hlt : k < n
    · obtain ⟨b, off, x, rfl, hb, HX, hxo, hr⟩ := HG.out.at_ hlt
      have hkI : (k : Int) < (n : Int) := by omega
      have HC : Hid (∀ W, Below w.heap.size w W → W.rangeAt b (off + k * 77) (xc x)) := Lib.hid (fun W hW => rangeAt_same hr (hW.block _ hb))
      have HXO := Lib.hid hxo
      have hr2 := HC.out wr HW.out.1
      obtain ⟨c0, c1, r2⟩ := rng_x hr2
      obtain ⟨_, _, c2, _, _⟩ := rng_r r2
      have c2' : wr.cell? ⟨b, off + k * 77 + 2 + 2, none⟩ = some (.slice x.r.A x.r.kn x.r.kc) := c2
      clear hr hr2 r2 c2 hxo
      by_cases h20 : 20 < x.r.kn
      · have h20I : 20 < (x.r.kn : Int) := by omega
        go_wp2_with (go_at_call 19; refine (AW.out _).mono ?_; rintro e2 w2 ⟨rfl, b2⟩; have B2 := Lib.hid b2; clear b2)
        go_ret
        exact ⟨rfl, HW.out.1.trans (B2.out.mono HW.out.1.size)⟩
      have h20I : ¬ 20 < (x.r.kn : Int) := by omega
      obtain ⟨kc, hkc4, hkc⟩ := cl_of x.c
      obtain ⟨jd, hj9, hjd⟩ := id_of x.id
      have hkc : wrap64 ((IntKind.u64.wrap x.c).tmod 4) = (kc : Int) := hkc
      have HJD : Hid (idZ x.id = 1 + (jd : Int)) := Lib.hid (by unfold idZ; rw [hjd])
      have hw1 : IntKind.i64.wrap (1 + (jd : Int)) = 1 + (jd : Int) := by rw [IntKind.wrap_i64]; omega
      have HXK : Hid (x.r.ks.length ≤ 20) := Lib.hid (by rw [HXO.out.r.ks.len]; omega)
      go_upto_region 11 with fail
      try simp only [hkc]
      go_upto_region 12 with fail
      try simp only [hjd]
      try simp only [hw1]
      clear hkc hjd hw1 c0 c1 c2'
      obtain ⟨idv, hidv⟩ : ∃ z : Int, 1 + (jd : Int) = z := ⟨_, rfl⟩
      have HIDV := Lib.hid hidv
      try simp only [hidv]
      clear hidv
      obtain ⟨y, hy⟩ : ∃ y, lastX LT (kc : Int) = y := ⟨_, rfl⟩
      have OM := Lib.hid (of_any (w := wr) d (kc : Int) y HT.out.1 (Nat.le_refl _) hmx hy)
      have HY := Lib.hid hy
      clear hy
      go_upto_region 13 with (go_at_call 14; refine OM.out.mono ?_; rintro e3 w3 ⟨rfl, b3⟩; have B3 := Lib.hid b3; clear b3)
      have hs3 := B3.out.size
      have HW3 := Lib.hid (HW.out.1.trans (B3.out.mono HW.out.1.size))
      have HT3 := Lib.hid (HT.out.1.below B3.out (Nat.le_refl _))
      have HR3 := Lib.hid (rng_x (HC.out w3 HW3.out)).2.2
      have HX3 : Hid (ROk w3 wr.heap.size x.r) := Lib.hid ((HXO.out.r.below HW3.out (Nat.le_refl _)).more HW.out.1.size)
      have HKT : Hid (∀ z, z ∈ LT → z.r.kn ≤ 100000) := Lib.hid (fun z hz => by
        have h1 := HI.out.kn z hz
        rw [(HT.out.1.ok z hz).r.ks.len] at h1
        omega)
      have HASK : Hid (askB (kc : Int) idv = true) := Lib.hid (by rw [← HIDV.out]; exact ask_of kc jd hkc4 hj9)
      have NM := Lib.hid (fun (er : Int) (he : noteE LT (kc : Int) idv = er) => note_al2 (w := w3) (r := x.r) d (kc : Int) idv er HT3.out hs3 HX3.out hmx HT.out.2.1 HT.out.2.2 HKT.out (by omega) he)
      by_cases hcmp : idv ≤ y.id
      · have NS := Lib.hid (NM.out 140 (by unfold noteE; rw [HI.out.may, HASK.out, HY.out, if_neg (by simp), if_pos hcmp]))
        have hg1 : ¬ (y.id < idv) := by omega
        have hg2 : decide (y.id < idv) = false := by simp; omega
        clear NM hcmp
        have G1 := HT3
        have G2 := HT3
        go_upto_region 17 with (first
              | (have g := G1; clear g; show wpList _ _ _ (⟨some 64, .load 33 (.tmp 63), _, _, _, _⟩ :: _) _ _; refine wpList_load_mid (op := ⟨some 64, .load 33 (.tmp 63), _, _, _, _⟩) rfl 33 (.tmp 63) rfl (b) (off + k * 77 + 2) rfl (rc x.r) _ (HR3.out) Try.underlying33 rfl (r_size x.r) ?_; clear G1)
              | (have g0 := G2; clear g0; go_at_call 20; refine NS.out.mono ?_; rintro e8 w8 ⟨A8, m8, d8, L8, rfl, hz8, o8, x8, k8, b8⟩; have hz8 := Lib.hid hz8; have O8 := Lib.hid o8; have X8 := Lib.hid x8; have K8 := Lib.hid k8; have B8 := Lib.hid b8; clear o8 x8 k8 b8 G2))
        have HZ8 : Hid (L8 = []) := Lib.hid (by
          have := hz8.out
          unfold noteZ at this
          rw [if_neg (by decide)] at this
          exact List.map_eq_nil_iff.1 this)
        obtain rfl : m8 = 0 := by have := O8.out.1; rw [xvs_len, HZ8.out] at this; simp only [List.length_nil] at this; omega
        have HW8 := Lib.hid (HW3.out.trans (B8.out.mono HW3.out.size))
        have HT8 := Lib.hid (((HT.out.1.below B3.out (Nat.le_refl _)).below B8.out (by omega)).more (Nat.le_trans hs3 B8.out.size))
        have HA8 := Lib.hid ((HA.out.below B3.out hsw).below B8.out (by omega))
        have HI2 : Hid (Inv l (k + 1) LT P) := Lib.hid (inv_stay HI.out)
        have OM2 := Lib.hid (of_any (w := w8) d (kc : Int) y HT8.out (Nat.le_refl _) hmx HY.out)
        clear hz8 O8 X8 K8 NS HT3
        go_upto_region 19 with (go_at_call 14; refine OM2.out.mono ?_; rintro e9 w9 ⟨rfl, b9⟩; have B9 := Lib.hid b9; clear b9)
        have HWq := Lib.hid (HW8.out.trans (B9.out.mono HW8.out.size))
        have HTq := Lib.hid (HT8.out.grow B9.out (Nat.le_refl _))
        have HAq := Lib.hid (HA8.out.below B9.out (by have := B8.out.size; omega))
        have HMq := Lib.hid HT.out.2
        have hsq : w.heap.size < w9.heap.size := by have := B8.out.size; have := B9.out.size; omega
        have hmq : m ≤ 9223372036854775807 := hmx
        clear HW8 HT8 HA8 OM2 HT HA HI HW HY
        have HLT := Lib.hid (fun (V : World) (hV : Below w9.heap.size w9 V) => HTq.out.below hV (Nat.le_refl _))
        have HKQ : Hid (∀ z, z ∈ LT → z.r.kn ≤ 100000) := Lib.hid (fun z hz => by
          have h1 := HI2.out.kn z hz
          rw [(HTq.out.ok z hz).r.ks.len] at h1
          omega)
        go_wp2
        go_loopw [11] (fun i wq => ∃ dd : Nat, dd ≤ 4 ∧ i = .int .i64 dd ∧ Hid (Below w9.heap.size w9 wq)) (fun i _ => 4 - (intOf i).toNat)
        case atStart => exact ⟨0, by omega, rfl, Lib.hid (Below.refl _ _)⟩
        case round =>
          obtain ⟨dd, hd4, rfl, HV⟩ := hrel
          by_cases hdl : dd < 4
          · have hdI : (dd : Int) < 4 := by omega
            obtain ⟨p0, hp0⟩ : ∃ p, (P) dd = p := ⟨_, rfl⟩
            have hcd := (HAq.out.below HV.out hsq dd hdl).1
            rw [hp0] at hcd
            by_cases hz0 : p0 = 0
            · subst hz0
              have hcd : _ = some (Value.int .i64 0) := hcd
              clear hp0
              go_wp2
              go_roundw
              case rel => exact ⟨dd + 1, by omega, by go_num, HV⟩
              case measure => simp [intOf]; omega
            · obtain ⟨p, hpq⟩ : ∃ p, p0 = p + 1 := ⟨p0 - 1, by omega⟩
              have hpk : p + 1 ≤ k + 1 := by rw [← hpq, ← hp0]; exact HI2.out.le dd hdl
              have hpn : p < n := by omega
              obtain ⟨b2, o2, z, hA2, hb2, HZX, hzo, hzr⟩ := HG.out.at_ hpn
              injection hA2 with hA2
              injection hA2 with q1 q2
              subst q1 q2
              have HWV := Lib.hid (HWq.out.trans (HV.out.mono HWq.out.size))
              have HZR := Lib.hid (rangeAt_same hzr (HWV.out.block _ hb2))
              have HZO := Lib.hid hzo
              obtain ⟨jp, hjp9, hjp⟩ := id_of z.id
              have HJP : Hid (idZ z.id = 1 + (jp : Int)) := Lib.hid (by unfold idZ; rw [hjp])
              have hwp : IntKind.i64.wrap (1 + (jp : Int)) = 1 + (jp : Int) := by rw [IntKind.wrap_i64]; omega
              have hws : IntKind.i64.wrap ((p0 : Int) - 1) = (p : Int) := by rw [IntKind.wrap_i64]; omega
              have hne : ((p0 : Int) == 0) = false := by simp; omega
              have hne2 : ¬ ((p0 : Int) = 0) := by omega
              have hpI : (p : Int) < (n : Int) := by omega
              have HP0 := Lib.hid (hp0.trans hpq)
              clear hzr hzo hp0 hpk hpq hz0
              have TTZ := Lib.hid (pthere_new wr z 59 _ rfl)
              have zk := zTk
              have zs := zX_size
              have zn := zX_ne
              have G1 := HV
              have G2 := HV
              go_upto_region 24 with (first
                | (have g := G1; clear g; show wpList _ _ _ (⟨some 115, .load 59 (.tmp 114), _, _, _, _⟩ :: _) _ _; refine wpList_load_mid (op := ⟨some 115, .load 59 (.tmp 114), _, _, _, _⟩) rfl 59 (.tmp 114) rfl (b) (off + p * 77) rfl (xc z) _ (HZR.out) Try.underlying59 rfl (t_size z) ?_; clear G1)
                | (have g := G2; clear g; show wpList _ _ _ (⟨none, .store 59 (.tmp 12) (.tmp 115), _, _, _, _⟩ :: _) _ _; refine wpList_store_as (op := ⟨none, .store 59 (.tmp 12) (.tmp 115), _, _, _, _⟩) rfl 59 (.tmp 12) (.tmp 115) rfl (wr.heap.size) 0 (xc z).toArray rfl rfl (TTZ.out) (t_sizeA z) (x_oneA z) ?_; intro w5 hw5; clear G2))
              obtain ⟨V5, b5f⟩ := pbox_stored rfl hw5
              have B5 := Lib.hid (HV.out.trans (b5f.mono HV.out.size))
              clear hw5 zk zs zn
              obtain ⟨_, f1, r5⟩ := rng_x V5.range
              simp only [Nat.zero_add] at f1
              have V5 := Lib.hid V5
              clear b5f r5
              go_upto_region 25 with fail
              try simp only [hjp]
              try simp only [hwp]
              clear hjp hwp f1 hws hne hne2 hcd
              have AM := Lib.hid (ask_all (w := w5) d (dd : Int) (1 + (jp : Int)) z.r.z true 0 (HLT.out w5 B5.out) B5.out.size hmq HKQ.out (inv_ask HI2.out hdl HP0.out HZX.out hjp9 HJP.out))
              have OFM := Lib.hid (fun (V : World) (hV : Below w9.heap.size w9 V) => (show Calls Try.prog 14 #[.slice T m d, .int .i64 (dd : Int)] V (fun e w' => e = .returned (.int .i64 (1 + (jp : Int))) ∧ Below V.heap.size V w') by
                rw [← HJP.out, ← (inv_last HI2.out hdl HP0.out HZX.out).1]
                exact of_any d (dd : Int) _ (HLT.out V hV) hV.size hmq rfl))
              have zk := zRk
              have zs := zR_size
              have zn := zR_ne
              have G1 := HV
              have G2 := HV
              go_upto_region 26 with (first
                | (have g0 := G1; clear g0; go_at_call 10; refine AM.out.mono ?_; rintro e6 w6 ⟨RP, rfl, hzp, _, rpo, b6⟩; have HZP := Lib.hid hzp; have RPO := Lib.hid rpo; have B6 := Lib.hid b6; have TR6 := Lib.hid (rthere_new w6 RP 33 _ rfl); clear hzp rpo b6 G1)
                | (have g := G2; clear g; show wpList _ _ _ (⟨none, .store 33 (.tmp 14) (.tmp 127), _, _, _, _⟩ :: _) _ _; refine wpList_store_as (op := ⟨none, .store 33 (.tmp 14) (.tmp 127), _, _, _, _⟩) rfl 33 (.tmp 14) (.tmp 127) rfl (w6.heap.size) 0 (rc RP).toArray rfl rfl (TR6.out) (r_sizeA RP) (r_oneA RP) ?_; intro w7 hw7; clear G2))
              obtain ⟨V7, b7f⟩ := rbox_stored rfl hw7
              have V7 := Lib.hid V7
              have B7 := Lib.hid (B5.out.trans ((B6.out.trans (b7f.mono B6.out.size)).mono B5.out.size))
              have R57 : Hid (w7.rangeAt wr.heap.size 2 (rc z.r)) := Lib.hid (by have := (rng_x (V5.out.grow (B6.out.trans (b7f.mono B6.out.size))).range).2.2; simpa using this)
              have SM := Lib.hid (srep_any (w := w7) true (RPO.out.grow b7f (Nat.le_refl _)) (HZO.out.r.below (HWq.out.trans (B7.out.mono HWq.out.size)) (Nat.le_refl _)) (Nat.le_refl _) (Nat.le_trans HWq.out.size B7.out.size) (by rw [HZP.out]; exact repB_refl _))
              clear hw7 b7f zk zs zn AM
              have G1 := HV
              have G2 := HV
              have G3 := HV
              have G4 := HV
              go_wp2_with (first
                | (have g := G1; clear g; show wpList _ _ _ (⟨some 137, .load 33 (.tmp 14), _, _, _, some (6, false)⟩ :: _) _ _; refine wpList_load_guard (op := ⟨some 137, .load 33 (.tmp 14), _, _, _, some (6, false)⟩) (by rfl) 33 (.tmp 14) rfl (w6.heap.size) (0) rfl (rc RP) _ (V7.out.range) Try.underlying33 rfl (r_size RP) ?_; clear G1)
                | (have g := G2; clear g; show wpList _ _ _ (⟨some 139, .load 33 (.tmp 138), _, _, _, some (6, false)⟩ :: _) _ _; refine wpList_load_guard (op := ⟨some 139, .load 33 (.tmp 138), _, _, _, some (6, false)⟩) (by rfl) 33 (.tmp 138) rfl (wr.heap.size) (2) rfl (rc z.r) _ (R57.out) Try.underlying33 rfl (r_size z.r) ?_; clear G2)
                | (have g0 := G3; clear g0; go_at_call 23; refine SM.out.mono ?_; rintro e8 w8q ⟨rfl, b8q⟩; have B8q := Lib.hid (B7.out.trans (b8q.mono B7.out.size)); clear b8q G3)
                | (have g0 := G4; clear g0; go_at_call 14; refine (OFM.out w8q B8q.out).mono ?_; rintro e10 w10 ⟨rfl, b10⟩; have B10 := Lib.hid (B8q.out.trans (b10.mono B8q.out.size)); clear b10 G4))
              go_roundw
              case rel => exact ⟨dd + 1, by omega, by go_num, B10⟩
              case measure => simp [intOf]; omega
          · have hdI : ¬ (dd : Int) < 4 := by omega
            clear hd4 hdl
            go_wp2
            go_roundw
            case rel => exact ⟨k + 1, by omega, by go_num, T, m, d, LT, P, rfl, Lib.hid ⟨HTq.out.grow HV.out (Nat.le_refl _), HMq.out.1, HMq.out.2⟩, Lib.hid ⟨HWq.out.trans (HV.out.mono HWq.out.size), Nat.lt_of_lt_of_le hsq HV.out.size⟩, Lib.hid (HAq.out.below HV.out hsq), HI2⟩
            case measure => simp [intOf]; omega
      · have NS := Lib.hid (NM.out 0 (by unfold noteE; rw [HI.out.may, HASK.out, HY.out, if_neg (by simp), if_neg hcmp]))
        have hg1 : y.id < idv := by omega
        have hg2 : decide (y.id < idv) = true := by simp; omega
        clear NM hcmp
        have G1 := HT3
        have G2 := HT3
        go_upto_region 16 with (first
              | (have g := G1; clear g; show wpList _ _ _ (⟨some 64, .load 33 (.tmp 63), _, _, _, _⟩ :: _) _ _; refine wpList_load_mid (op := ⟨some 64, .load 33 (.tmp 63), _, _, _, _⟩) rfl 33 (.tmp 63) rfl (b) (off + k * 77 + 2) rfl (rc x.r) _ (HR3.out) Try.underlying33 rfl (r_size x.r) ?_; clear G1)
              | (have g0 := G2; clear g0; go_at_call 20; refine NS.out.mono ?_; rintro e8 w8 ⟨A8, m8, d8, L8, rfl, hz8, o8, x8, k8, b8⟩; have hz8 := Lib.hid hz8; have O8 := Lib.hid o8; have X8 := Lib.hid x8; have K8 := Lib.hid k8; have B8 := Lib.hid b8; clear o8 x8 k8 b8 G2))
        have HZ8 : Hid (L8.map LX.z = insG LastZ.c ⟨(kc : Int), 1 + (jd : Int), x.r.z⟩ (LT.map LX.z)) := Lib.hid (by
          have := hz8.out
          unfold noteZ at this
          rw [if_pos rfl] at this
          rw [HIDV.out]
          exact this)
        have HW8 := Lib.hid (HW3.out.trans (B8.out.mono HW3.out.size))
        have HA8 := Lib.hid ((HA.out.below B3.out hsw).below B8.out (by omega))
        obtain ⟨hc8, hf8⟩ := HA8.out kc hkc4
        have hkcI : (kc : Int) < 4 := by omega
        have hwk : IntKind.i64.wrap ((k : Int) + 1) = ((k + 1 : Nat) : Int) := by rw [IntKind.wrap_i64]; omega
        have HI2 : Hid (Inv l (k + 1) L8 (fun d => if d = kc then k + 1 else P d)) := Lib.hid (inv_step HI.out HX.out hkc4 hj9 HJD.out HXK.out HZ8.out)
        have HID8 : Hid ((lastX L8 (kc : Int)).id = idv) := Lib.hid (by rw [← HIDV.out]; exact note_last HI.out.may HZ8.out)
        obtain ⟨_, _, eo8, hmd8, hdm8⟩ := own_shapeA O8.out
        injection eo8 with q1 q2 q3
        subst q1 q3
        have HMD := Lib.hid hmd8
        have HDM := Lib.hid hdm8
        have LT8 := Lib.hid (las_of_own O8.out X8.out)
        clear hz8 NS HT3 hmd8 hdm8
        go_upto_region 17 with fail
        obtain ⟨wa, hwa⟩ : ∃ W, W = w8.setCell ⟨w.heap.size, kc, none⟩ (.int .i64 ((k + 1 : Nat) : Int)) := ⟨_, rfl⟩
        try rw [show ((k : Int) + 1) = ((k + 1 : Nat) : Int) by omega]
        rw [← hwa]
        have hsa : wa.heap.size = w8.heap.size := by rw [hwa]; simp
        have HAa : Hid (AR wa w.heap.size (fun d => if d = kc then k + 1 else P d)) := Lib.hid (by rw [hwa]; exact HA8.out.set hkc4)
        have HWa : Hid (Below w.heap.size w wa) := Lib.hid (by rw [hwa]; exact HW8.out.setCell (p := ⟨w.heap.size, kc, none⟩) (Nat.le_refl _) _)
        have hb3a : ∀ b, w3.heap.size ≤ b → wa.heap[b]? = w8.heap[b]? := fun b hb => by rw [hwa]; exact heap_setCell _ _ _ _ _ (by omega)
        have Oa := Lib.hid (own_keepB O8.out (fun g h1 _ => hb3a g h1))
        have Xa : Hid (∀ z, z ∈ L8 → XOk wa wa.heap.size z) := Lib.hid (fun z hz => by
          rcases Nat.eq_zero_or_pos m8 with h0 | h0
          · have hl := O8.out.1
            rw [xvs_len, h0] at hl
            have : L8 = [] := List.eq_nil_of_length_eq_zero (by omega)
            rw [this] at hz; simp at hz
          · obtain ⟨g, cap, hv, _, _⟩ := O8.out.form h0
            have hA8 : A8 = some ⟨g, 0, none⟩ := by injection hv
            exact xok_keep (X8.out z hz) (K8.out z g hz hA8) hb3a (by omega))
        have LTa := Lib.hid (las_of_own Oa.out Xa.out)
        clear hb3a Oa Xa K8
        have hm84 : m8 ≤ 9223372036854775807 := by have := may_len HI2.out.may; rw [LT8.out.len] at this; omega
        clear hwa hc8 hf8 O8 X8 LT8
        have OM2 : Hid (Calls Try.prog 14 #[.slice A8 m8 d8, .int .i64 (kc : Int)] wa (fun e w' => e = .returned (.int .i64 idv) ∧ Below wa.heap.size wa w')) := Lib.hid (by rw [← HID8.out]; exact of_any d8 (kc : Int) _ LTa.out (Nat.le_refl _) hm84 rfl)
        go_upto_region 19 with (go_at_call 14; refine OM2.out.mono ?_; rintro e9 w9 ⟨rfl, b9⟩; have B9 := Lib.hid b9; clear b9)
        have HWq := Lib.hid (HWa.out.trans (B9.out.mono HWa.out.size))
        have HTq := Lib.hid (LTa.out.grow B9.out (Nat.le_refl _))
        have HAq := Lib.hid (HAa.out.below B9.out (by have := B8.out.size; omega))
        have HMq := Lib.hid (And.intro HMD.out HDM.out)
        have hsq : w.heap.size < w9.heap.size := by have := B8.out.size; have := B9.out.size; omega
        have hmq : m8 ≤ 9223372036854775807 := hm84
        generalize hP8 : (fun d => if d = kc then k + 1 else P d) = P8 at HAq HI2
        clear hP8 HWa LTa HAa OM2 HT HA HI HW HY HW8 HA8 HMD HDM
        have HLT := Lib.hid (fun (V : World) (hV : Below w9.heap.size w9 V) => HTq.out.below hV (Nat.le_refl _))
        have HKQ : Hid (∀ z, z ∈ L8 → z.r.kn ≤ 100000) := Lib.hid (fun z hz => by
          have h1 := HI2.out.kn z hz
          rw [(HTq.out.ok z hz).r.ks.len] at h1
          omega)
        go_wp2
        go_loopw [11] (fun i wq => ∃ dd : Nat, dd ≤ 4 ∧ i = .int .i64 dd ∧ Hid (Below w9.heap.size w9 wq)) (fun i _ => 4 - (intOf i).toNat)
        case atStart => exact ⟨0, by omega, rfl, Lib.hid (Below.refl _ _)⟩
        case round =>
          obtain ⟨dd, hd4, rfl, HV⟩ := hrel
          by_cases hdl : dd < 4
          · have hdI : (dd : Int) < 4 := by omega
            obtain ⟨p0, hp0⟩ : ∃ p, (P8) dd = p := ⟨_, rfl⟩
            have hcd := (HAq.out.below HV.out hsq dd hdl).1
            rw [hp0] at hcd
            by_cases hz0 : p0 = 0
            · subst hz0
              have hcd : _ = some (Value.int .i64 0) := hcd
              clear hp0
              go_wp2
              go_roundw
              case rel => exact ⟨dd + 1, by omega, by go_num, HV⟩
              case measure => simp [intOf]; omega
            · obtain ⟨p, hpq⟩ : ∃ p, p0 = p + 1 := ⟨p0 - 1, by omega⟩
              have hpk : p + 1 ≤ k + 1 := by rw [← hpq, ← hp0]; exact HI2.out.le dd hdl
              have hpn : p < n := by omega
              obtain ⟨b2, o2, z, hA2, hb2, HZX, hzo, hzr⟩ := HG.out.at_ hpn
              injection hA2 with hA2
              injection hA2 with q1 q2
              subst q1 q2
              have HWV := Lib.hid (HWq.out.trans (HV.out.mono HWq.out.size))
              have HZR := Lib.hid (rangeAt_same hzr (HWV.out.block _ hb2))
              have HZO := Lib.hid hzo
              obtain ⟨jp, hjp9, hjp⟩ := id_of z.id
              have HJP : Hid (idZ z.id = 1 + (jp : Int)) := Lib.hid (by unfold idZ; rw [hjp])
              have hwp : IntKind.i64.wrap (1 + (jp : Int)) = 1 + (jp : Int) := by rw [IntKind.wrap_i64]; omega
              have hws : IntKind.i64.wrap ((p0 : Int) - 1) = (p : Int) := by rw [IntKind.wrap_i64]; omega
              have hne : ((p0 : Int) == 0) = false := by simp; omega
              have hne2 : ¬ ((p0 : Int) = 0) := by omega
              have hpI : (p : Int) < (n : Int) := by omega
              have HP0 := Lib.hid (hp0.trans hpq)
              clear hzr hzo hp0 hpk hpq hz0
              have TTZ := Lib.hid (pthere_new wr z 59 _ rfl)
              have zk := zTk
              have zs := zX_size
              have zn := zX_ne
              have G1 := HV
              have G2 := HV
              go_upto_region 24 with (first
                | (have g := G1; clear g; show wpList _ _ _ (⟨some 115, .load 59 (.tmp 114), _, _, _, _⟩ :: _) _ _; refine wpList_load_mid (op := ⟨some 115, .load 59 (.tmp 114), _, _, _, _⟩) rfl 59 (.tmp 114) rfl (b) (off + p * 77) rfl (xc z) _ (HZR.out) Try.underlying59 rfl (t_size z) ?_; clear G1)
                | (have g := G2; clear g; show wpList _ _ _ (⟨none, .store 59 (.tmp 12) (.tmp 115), _, _, _, _⟩ :: _) _ _; refine wpList_store_as (op := ⟨none, .store 59 (.tmp 12) (.tmp 115), _, _, _, _⟩) rfl 59 (.tmp 12) (.tmp 115) rfl (wr.heap.size) 0 (xc z).toArray rfl rfl (TTZ.out) (t_sizeA z) (x_oneA z) ?_; intro w5 hw5; clear G2))
              obtain ⟨V5, b5f⟩ := pbox_stored rfl hw5
              have B5 := Lib.hid (HV.out.trans (b5f.mono HV.out.size))
              clear hw5 zk zs zn
              obtain ⟨_, f1, r5⟩ := rng_x V5.range
              simp only [Nat.zero_add] at f1
              have V5 := Lib.hid V5
              clear b5f r5
              go_upto_region 25 with fail
              try simp only [hjp]
              try simp only [hwp]
              clear hjp hwp f1 hws hne hne2 hcd
              have AM := Lib.hid (ask_all (w := w5) d8 (dd : Int) (1 + (jp : Int)) z.r.z true 0 (HLT.out w5 B5.out) B5.out.size hmq HKQ.out (inv_ask HI2.out hdl HP0.out HZX.out hjp9 HJP.out))
              have OFM := Lib.hid (fun (V : World) (hV : Below w9.heap.size w9 V) => (show Calls Try.prog 14 #[.slice A8 m8 d8, .int .i64 (dd : Int)] V (fun e w' => e = .returned (.int .i64 (1 + (jp : Int))) ∧ Below V.heap.size V w') by
                rw [← HJP.out, ← (inv_last HI2.out hdl HP0.out HZX.out).1]
                exact of_any d8 (dd : Int) _ (HLT.out V hV) hV.size hmq rfl))
              have zk := zRk
              have zs := zR_size
              have zn := zR_ne
              have G1 := HV
              have G2 := HV
              go_upto_region 26 with (first
                | (have g0 := G1; clear g0; go_at_call 10; refine AM.out.mono ?_; rintro e6 w6 ⟨RP, rfl, hzp, _, rpo, b6⟩; have HZP := Lib.hid hzp; have RPO := Lib.hid rpo; have B6 := Lib.hid b6; have TR6 := Lib.hid (rthere_new w6 RP 33 _ rfl); clear hzp rpo b6 G1)
                | (have g := G2; clear g; show wpList _ _ _ (⟨none, .store 33 (.tmp 14) (.tmp 127), _, _, _, _⟩ :: _) _ _; refine wpList_store_as (op := ⟨none, .store 33 (.tmp 14) (.tmp 127), _, _, _, _⟩) rfl 33 (.tmp 14) (.tmp 127) rfl (w6.heap.size) 0 (rc RP).toArray rfl rfl (TR6.out) (r_sizeA RP) (r_oneA RP) ?_; intro w7 hw7; clear G2))
              obtain ⟨V7, b7f⟩ := rbox_stored rfl hw7
              have V7 := Lib.hid V7
              have B7 := Lib.hid (B5.out.trans ((B6.out.trans (b7f.mono B6.out.size)).mono B5.out.size))
              have R57 : Hid (w7.rangeAt wr.heap.size 2 (rc z.r)) := Lib.hid (by have := (rng_x (V5.out.grow (B6.out.trans (b7f.mono B6.out.size))).range).2.2; simpa using this)
              have SM := Lib.hid (srep_any (w := w7) true (RPO.out.grow b7f (Nat.le_refl _)) (HZO.out.r.below (HWq.out.trans (B7.out.mono HWq.out.size)) (Nat.le_refl _)) (Nat.le_refl _) (Nat.le_trans HWq.out.size B7.out.size) (by rw [HZP.out]; exact repB_refl _))
              clear hw7 b7f zk zs zn AM
              have G1 := HV
              have G2 := HV
              have G3 := HV
              have G4 := HV
              go_wp2_with (first
                | (have g := G1; clear g; show wpList _ _ _ (⟨some 137, .load 33 (.tmp 14), _, _, _, some (6, false)⟩ :: _) _ _; refine wpList_load_guard (op := ⟨some 137, .load 33 (.tmp 14), _, _, _, some (6, false)⟩) (by rfl) 33 (.tmp 14) rfl (w6.heap.size) (0) rfl (rc RP) _ (V7.out.range) Try.underlying33 rfl (r_size RP) ?_; clear G1)
                | (have g := G2; clear g; show wpList _ _ _ (⟨some 139, .load 33 (.tmp 138), _, _, _, some (6, false)⟩ :: _) _ _; refine wpList_load_guard (op := ⟨some 139, .load 33 (.tmp 138), _, _, _, some (6, false)⟩) (by rfl) 33 (.tmp 138) rfl (wr.heap.size) (2) rfl (rc z.r) _ (R57.out) Try.underlying33 rfl (r_size z.r) ?_; clear G2)
                | (have g0 := G3; clear g0; go_at_call 23; refine SM.out.mono ?_; rintro e8 w8q ⟨rfl, b8q⟩; have B8q := Lib.hid (B7.out.trans (b8q.mono B7.out.size)); clear b8q G3)
                | (have g0 := G4; clear g0; go_at_call 14; refine (OFM.out w8q B8q.out).mono ?_; rintro e10 w10 ⟨rfl, b10⟩; have B10 := Lib.hid (B8q.out.trans (b10.mono B8q.out.size)); clear b10 G4))
              go_roundw
              case rel => exact ⟨dd + 1, by omega, by go_num, B10⟩
              case measure => simp [intOf]; omega
          · have hdI : ¬ (dd : Int) < 4 := by omega
            clear hd4 hdl
            go_wp2
            go_roundw
            case rel => exact ⟨k + 1, by omega, by go_num, A8, m8, d8, L8, P8, rfl, Lib.hid ⟨HTq.out.grow HV.out (Nat.le_refl _), HMq.out.1, HMq.out.2⟩, Lib.hid ⟨HWq.out.trans (HV.out.mono HWq.out.size), Nat.lt_of_lt_of_le hsq HV.out.size⟩, Lib.hid (HAq.out.below HV.out hsq), HI2⟩
            case measure => simp [intOf]; omega
    · have hkI : ¬ (k : Int) < (n : Int) := by omega
      have PM := Lib.hid (pmay_any (w := wr) d true HT.out.1 (Nat.le_refl _) hmx HI.out.may)
      clear hlt hkn
      go_wp2_with (first
        | (go_at_call 15; refine PM.out.mono ?_; rintro e3 w3 ⟨rfl, b3⟩; have B3 := Lib.hid b3; clear b3)
        | (go_at_call 19; refine (AW.out _).mono ?_; rintro e4 w4 ⟨rfl, b4⟩; have B4 := Lib.hid b4; clear b4))
      go_ret
      exact ⟨rfl, HW.out.1.trans ((B3.out.trans (B4.out.mono B3.out.size)).mono HW.out.1.size)⟩
end Go.Proofs.Ytlapdocikhjkcaa
