/- MessageCut. Printed by gen_msw.py. -/
import Derived.Test.YtfihiandifnkpaaMsV
import Derived.Test.YtfihiandifnkpaaB1
namespace Go.Proofs.Ytfihiandifnkpaa
open Go.ChangeShapes Go.WideShapes Go.ChangeAt Go.RowKit
set_option linter.unusedVariables false
set_option maxRecDepth 100000
set_option linter.unusedSimpArgs false
open Plain Sha Ms
set_option maxHeartbeats 16000000 in
theorem mscut_in (x : MX) (cut : Int) (A : Option Addr) (n c : Nat) (bs : List Int) (w : World) (h : MXOk w w.heap.size x) (hM : x.n ≤ 140737488355328) (hE : ∀ e, e ∈ x.es → e.n ≤ 140737488355328) (hcut : -9223372036854775808 ≤ cut ∧ cut ≤ 9223372036854775807) (h0 : Bs w w.heap.size A n bs) (hn : n ≤ maxLen) : Calls Try.prog 7 #[.agg (mc x).toArray, .int .i64 cut, .slice A n c] w (fun e w' => e = .returned (.bool true) ∧ Below w.heap.size w w') := by
  obtain ⟨W1, hW1⟩ : ∃ W, W = w.alloc (.cells (mc x).toArray 28) := ⟨_, rfl⟩
  have b1 := Lib.hid (show Below w.heap.size w W1 by rw [hW1]; exact below_one _ _)
  obtain ⟨g, hg⟩ : ∃ g, w.heap.size = g := ⟨_, rfl⟩
  have Hg := Lib.hid hg
  have V1 := Lib.hid (show VBox W1 g 12 (mc x) by rw [hW1]; exact vbox_new _ _ _ _ _ hg rfl (by omega))
  have z1 := Lib.hid (show W1.heap.size = g + 1 by rw [hW1]; simp [hg])
  have HW1 := Lib.hid hW1
  clear hW1 hg
  have AW := Lib.hid (awake_anyM W1)
  have HBS := Lib.hid h0
  have HLN := Lib.hid h0.len
  have HISB := Lib.hid h0.isBytes
  have GR := Lib.hid (fun (W : World) (hW : Below w.heap.size w W) => great_anyM (h.below hW (Nat.le_refl _)) hW.size)
  have PR := Lib.hid (fun (W : World) (hW : Below w.heap.size w W) => print_anyM (h.below hW (Nat.le_refl _)) hW.size)
  have HX := Lib.hid h
  clear h h0
  go_enter Try.func7, Try.ntmps7
  go_upto_region 1 with fail
  rw [← HW1.out, Hg.out]
  go_upto_region 3 with (go_at_call 30; refine AW.out.mono ?_; rintro e w2 ⟨rfl, hb⟩; have B2 := Lib.hid hb; have V2 := Lib.hid (V1.out.grow hb); clear hb)
  have B2w := Lib.hid (b1.out.trans (B2.out.mono b1.out.size))
  by_cases hn5 : 50 < n
  · have hi5 : (50 : Int) < (n : Int) := by omega
    go_wp2_with (first
        | (with_reducible show wpList _ _ _ (⟨some 15, .load 28 (.tmp 3), _, _, _, _⟩ :: _) _ _; refine wpList_load_mid (op := ⟨some 15, .load 28 (.tmp 3), _, _, _, _⟩) rfl 28 (.tmp 3) rfl (g) (0) rfl (mc x) _ (V2.out.range) Try.underlying28 rfl (m_size _) ?_)
        | (go_at_call 10; refine (GR.out _ B2w.out).mono ?_; rintro e w3 ⟨q, rfl, hb⟩; have B3 := Lib.hid (B2w.out.trans (hb.mono B2w.out.size)); have V3 := Lib.hid (V2.out.grow hb); clear hb; cases q))
    · go_ret
      exact ⟨rfl, B3.out⟩
    · go_ret
      exact ⟨rfl, B3.out⟩
  · have hi5 : ¬ (50 : Int) < (n : Int) := by omega
    go_upto_region 5 with (first
        | (with_reducible show wpList _ _ _ (⟨some 15, .load 28 (.tmp 3), _, _, _, _⟩ :: _) _ _; refine wpList_load_mid (op := ⟨some 15, .load 28 (.tmp 3), _, _, _, _⟩) rfl 28 (.tmp 3) rfl (g) (0) rfl (mc x) _ (V2.out.range) Try.underlying28 rfl (m_size _) ?_)
        | (go_at_call 10; refine (GR.out _ B2w.out).mono ?_; rintro e w3 ⟨q, rfl, hb⟩; have B3 := Lib.hid (B2w.out.trans (hb.mono B2w.out.size)); have V3 := Lib.hid (V2.out.grow hb); clear hb; cases q))
    · have PR3 := Lib.hid (PR.out w3 B3.out)
      cases hm : mayM x.z with
      | false =>
        rw [hm] at PR3
        clear hm
        go_wp2_with (first
        | (with_reducible show wpList _ _ _ (⟨some 23, .load 28 (.tmp 3), _, _, _, _⟩ :: _) _ _; refine wpList_load_mid (op := ⟨some 23, .load 28 (.tmp 3), _, _, _, _⟩) rfl 28 (.tmp 3) rfl (g) (0) rfl (mc x) _ (V3.out.range) Try.underlying28 rfl (m_size _) ?_)
        | (go_at_call 12; refine PR3.out.mono ?_; rintro e w4 ⟨u, rfl, hu, hb⟩; have B4 := Lib.hid (B3.out.trans (hb.mono B3.out.size)); clear hu hb))
        go_ret
        exact ⟨rfl, B4.out⟩
      | true =>
        have ZO := Lib.hid (MXOk.z HX.out hm)
        obtain ⟨F, hF⟩ : ∃ F, formM x.z = F := ⟨_, rfl⟩
        obtain ⟨L, hL⟩ : ∃ L, F.length = L := ⟨_, rfl⟩
        have HF := Lib.hid hF
        have HL := Lib.hid hL
        have FB := Lib.hid (show IsBytes F by rw [← hF]; exact formM_isB ZO.out)
        have FS : L ≤ 20100 := by rw [← hL, ← hF]; exact formM_short hm
        have PF := Lib.hid (show parseM F = (x.z, 0) by rw [← hF]; exact parseM_form ZO.out hm)
        have HM := Lib.hid hm
        rw [hm, hF] at PR3
        have LFB : Hid ((F ++ bs).length = L + n) := Lib.hid (by rw [List.length_append, hL, HLN.out])
        have HFBB := Lib.hid (FB.out.app HISB.out)
        clear hm hF hL
        go_upto_region 8 with (first
        | (with_reducible show wpList _ _ _ (⟨some 23, .load 28 (.tmp 3), _, _, _, _⟩ :: _) _ _; refine wpList_load_mid (op := ⟨some 23, .load 28 (.tmp 3), _, _, _, _⟩) rfl 28 (.tmp 3) rfl (g) (0) rfl (mc x) _ (V3.out.range) Try.underlying28 rfl (m_size _) ?_)
        | (go_at_call 12; refine PR3.out.mono ?_; rintro e w4 ⟨u, rfl, hu, hb⟩; have HU := Lib.hid (show IsList u w4 w3.heap.size F from hu); have B4 := Lib.hid (B3.out.trans (hb.mono B3.out.size)); clear hu hb))
        obtain ⟨D, cD, eD, hs, hcD, hmD⟩ := HU.out.bs FB.out
        rw [HL.out] at eD hs hcD
        subst eD
        have HS := Lib.hid hs
        clear hs
        by_cases h1 : 0 < cut
        · by_cases h2 : cut ≤ (L : Int)
          · obtain ⟨m, hm⟩ : ∃ m : Nat, (L : Int) - cut = (m : Int) := ⟨((L : Int) - cut).toNat, by omega⟩
            have hw : IntKind.i64.wrap ((L : Int) - cut) = (m : Int) := by rw [IntKind.wrap_i64]; omega
            have hmL : m < L := by omega
            have hmd : m ≤ cD := by omega
            have CZ := Lib.hid (HS.out.cut (k := 0) (m := m) (by omega) D (fun b off e _ => by rw [e]; simp))
            rw [List.drop_zero] at CZ
            have RP := Lib.hid (parse_anyM (w := w4) (c := cD) CZ.out (Nat.le_refl _) (by omega))
            have PE : parseM (F.take m) = (mz0, 200) := by
              have := parseM_cut (z := x.z) ZO.out HM.out (by rw [HF.out]; exact FB.out) (c := m) (by rw [HF.out, HL.out]; exact hmL)
              rw [HF.out] at this
              exact this
            rw [PE] at RP
            have SL := cut_h D L cD m (m : Int) rfl hmd
            clear PE CZ
            go_upto_region 10 with (go_at_call 18; refine RP.out.mono ?_; rintro e w6 ⟨y, he, hz, hok, hnw, hb⟩; have he : e = .returned (.tuple #[.agg #[.int .u8 y.kind, .int .i64 y.client, .int .i64 y.id, .slice y.A y.n y.c, .int .i64 y.upto, .int .i64 y.frm, .slice y.EA y.en y.ecp, .int .i64 y.hav, .int .i64 y.don, .int .i64 y.ep, .slice y.MA y.mn y.mcp, .int .i64 y.since], .int .i64 200]) := he; subst he; have B6' := Lib.hid hb; clear hz hok hnw hb)
            obtain ⟨w7, hw7⟩ : ∃ W, W = w6.alloc (.cells #[.int .u8 y.kind, .int .i64 y.client, .int .i64 y.id, .slice y.A y.n y.c, .int .i64 y.upto, .int .i64 y.frm, .slice y.EA y.en y.ecp, .int .i64 y.hav, .int .i64 y.don, .int .i64 y.ep, .slice y.MA y.mn y.mcp, .int .i64 y.since] 28) := ⟨_, rfl⟩
            have B67 := Lib.hid (show Below w4.heap.size w4 w7 by rw [hw7]; exact B6'.out.trans ((below_one _ _).mono B6'.out.size))
            have B7 := Lib.hid (B4.out.trans (B67.out.mono B4.out.size))
            have SF := Lib.hid ((HS.out.belowM B67.out (Nat.le_refl _)).more B67.out.size)
            rw [← hw7]
            clear hw7 SL
            go_upto_region 12 with fail
            have CC := Lib.hid (cat2_any (w := w7) cD c 22 SF.out (HBS.out.belowM B7.out (Nat.le_refl _)) (Nat.le_refl _) B7.out.size (by omega) 2 w7.heap.size rfl)
            have PA := Lib.hid (B7.out.trans ((below_one w7 (.cells #[.slice D L cD, .slice A n c] 22)).mono B7.out.size))
            by_cases hn0 : n = 0
            · have hbs : bs = [] := List.eq_nil_of_length_eq_zero (by rw [HLN.out]; exact hn0)
              have RPW : Hid (∀ (W : World) (B : Nat) (A : Option Addr) (c : Nat), Bs W B A (L + n) (F ++ bs) → B ≤ W.heap.size → Calls Try.prog 18 #[.slice A (L + n) c] W (ParsesM W x.z 0)) := Lib.hid (fun W B A c hb hB => by
                have := parse_anyM (w := W) (c := c) hb hB (by omega)
                rw [hbs, List.append_nil, PF.out] at this
                exact this)
              have i0 : ((n : Int) == 0) = true := by simp [hn0]
              clear hbs hn0
              go_upto_region 13 with (first
                    | (go_at_call 32; refine CC.out.mono ?_; intro e w18 hm; obtain ⟨D8, d8, rfl, o8, hb, _, _⟩ := hm.n LFB.out; have B18 := Lib.hid (PA.out.trans (hb.mono PA.out.size)); have H8 := Lib.hid (Made.bs o8 HFBB.out); have RP8 := Lib.hid (RPW.out _ _ _ d8 H8.out (Nat.le_refl _)); clear hm o8 hb)
                    | (go_at_call 18; refine RP8.out.mono ?_; rintro e w19 ⟨y, he, hz, hok, hnw, hb⟩; have he : e = .returned (.tuple #[.agg #[.int .u8 y.kind, .int .i64 y.client, .int .i64 y.id, .slice y.A y.n y.c, .int .i64 y.upto, .int .i64 y.frm, .slice y.EA y.en y.ecp, .int .i64 y.hav, .int .i64 y.don, .int .i64 y.ep, .slice y.MA y.mn y.mcp, .int .i64 y.since], .int .i64 0]) := he; subst he; have B19 := Lib.hid (B18.out.trans (hb.mono B18.out.size)); clear hz hok hnw hb))
              have B20 := Lib.hid (show Below w.heap.size w (w19.alloc (.cells #[.int .u8 y.kind, .int .i64 y.client, .int .i64 y.id, .slice y.A y.n y.c, .int .i64 y.upto, .int .i64 y.frm, .slice y.EA y.en y.ecp, .int .i64 y.hav, .int .i64 y.don, .int .i64 y.ep, .slice y.MA y.mn y.mcp, .int .i64 y.since] 28)) from B19.out.trans ((below_one _ _).mono B19.out.size))
              go_wp2
              go_ret
              exact ⟨rfl, B20.out⟩
            · have hbs : bs ≠ [] := fun h => hn0 (by rw [← HLN.out, h]; rfl)
              have RPW : Hid (∀ (W : World) (B : Nat) (A : Option Addr) (c : Nat), Bs W B A (L + n) (F ++ bs) → B ≤ W.heap.size → Calls Try.prog 18 #[.slice A (L + n) c] W (ParsesM W mz0 200)) := Lib.hid (fun W B A c hb hB => by
                have := parse_anyM (w := W) (c := c) hb hB (by omega)
                rw [← HF.out, parseM_behind ZO.out HM.out hbs] at this
                exact this)
              have i0 : ((n : Int) == 0) = false := by simp; exact hn0
              clear hbs
              go_upto_region 13 with (first
                    | (go_at_call 32; refine CC.out.mono ?_; intro e w18 hm; obtain ⟨D8, d8, rfl, o8, hb, _, _⟩ := hm.n LFB.out; have B18 := Lib.hid (PA.out.trans (hb.mono PA.out.size)); have H8 := Lib.hid (Made.bs o8 HFBB.out); have RP8 := Lib.hid (RPW.out _ _ _ d8 H8.out (Nat.le_refl _)); clear hm o8 hb)
                    | (go_at_call 18; refine RP8.out.mono ?_; rintro e w19 ⟨y, he, hz, hok, hnw, hb⟩; have he : e = .returned (.tuple #[.agg #[.int .u8 y.kind, .int .i64 y.client, .int .i64 y.id, .slice y.A y.n y.c, .int .i64 y.upto, .int .i64 y.frm, .slice y.EA y.en y.ecp, .int .i64 y.hav, .int .i64 y.don, .int .i64 y.ep, .slice y.MA y.mn y.mcp, .int .i64 y.since], .int .i64 200]) := he; subst he; have B19 := Lib.hid (B18.out.trans (hb.mono B18.out.size)); clear hz hok hnw hb))
              have B20 := Lib.hid (show Below w.heap.size w (w19.alloc (.cells #[.int .u8 y.kind, .int .i64 y.client, .int .i64 y.id, .slice y.A y.n y.c, .int .i64 y.upto, .int .i64 y.frm, .slice y.EA y.en y.ecp, .int .i64 y.hav, .int .i64 y.don, .int .i64 y.ep, .slice y.MA y.mn y.mcp, .int .i64 y.since] 28)) from B19.out.trans ((below_one _ _).mono B19.out.size))
              go_wp2
              go_ret
              exact ⟨rfl, B20.out⟩
          · have h2' : ¬ cut ≤ (L : Int) := h2
            go_upto_region 12 with fail
            have CC := Lib.hid (cat2_any (w := w4) cD c 22 HS.out (HBS.out.belowM B4.out (Nat.le_refl _)) (Nat.le_refl _) B4.out.size (by omega) 2 w4.heap.size rfl)
            have PA := Lib.hid (B4.out.trans ((below_one w4 (.cells #[.slice D L cD, .slice A n c] 22)).mono B4.out.size))
            by_cases hn0 : n = 0
            · have hbs : bs = [] := List.eq_nil_of_length_eq_zero (by rw [HLN.out]; exact hn0)
              have RPW : Hid (∀ (W : World) (B : Nat) (A : Option Addr) (c : Nat), Bs W B A (L + n) (F ++ bs) → B ≤ W.heap.size → Calls Try.prog 18 #[.slice A (L + n) c] W (ParsesM W x.z 0)) := Lib.hid (fun W B A c hb hB => by
                have := parse_anyM (w := W) (c := c) hb hB (by omega)
                rw [hbs, List.append_nil, PF.out] at this
                exact this)
              have i0 : ((n : Int) == 0) = true := by simp [hn0]
              clear hbs hn0
              go_upto_region 13 with (first
                    | (go_at_call 32; refine CC.out.mono ?_; intro e w18 hm; obtain ⟨D8, d8, rfl, o8, hb, _, _⟩ := hm.n LFB.out; have B18 := Lib.hid (PA.out.trans (hb.mono PA.out.size)); have H8 := Lib.hid (Made.bs o8 HFBB.out); have RP8 := Lib.hid (RPW.out _ _ _ d8 H8.out (Nat.le_refl _)); clear hm o8 hb)
                    | (go_at_call 18; refine RP8.out.mono ?_; rintro e w19 ⟨y, he, hz, hok, hnw, hb⟩; have he : e = .returned (.tuple #[.agg #[.int .u8 y.kind, .int .i64 y.client, .int .i64 y.id, .slice y.A y.n y.c, .int .i64 y.upto, .int .i64 y.frm, .slice y.EA y.en y.ecp, .int .i64 y.hav, .int .i64 y.don, .int .i64 y.ep, .slice y.MA y.mn y.mcp, .int .i64 y.since], .int .i64 0]) := he; subst he; have B19 := Lib.hid (B18.out.trans (hb.mono B18.out.size)); clear hz hok hnw hb))
              have B20 := Lib.hid (show Below w.heap.size w (w19.alloc (.cells #[.int .u8 y.kind, .int .i64 y.client, .int .i64 y.id, .slice y.A y.n y.c, .int .i64 y.upto, .int .i64 y.frm, .slice y.EA y.en y.ecp, .int .i64 y.hav, .int .i64 y.don, .int .i64 y.ep, .slice y.MA y.mn y.mcp, .int .i64 y.since] 28)) from B19.out.trans ((below_one _ _).mono B19.out.size))
              go_wp2
              go_ret
              exact ⟨rfl, B20.out⟩
            · have hbs : bs ≠ [] := fun h => hn0 (by rw [← HLN.out, h]; rfl)
              have RPW : Hid (∀ (W : World) (B : Nat) (A : Option Addr) (c : Nat), Bs W B A (L + n) (F ++ bs) → B ≤ W.heap.size → Calls Try.prog 18 #[.slice A (L + n) c] W (ParsesM W mz0 200)) := Lib.hid (fun W B A c hb hB => by
                have := parse_anyM (w := W) (c := c) hb hB (by omega)
                rw [← HF.out, parseM_behind ZO.out HM.out hbs] at this
                exact this)
              have i0 : ((n : Int) == 0) = false := by simp; exact hn0
              clear hbs
              go_upto_region 13 with (first
                    | (go_at_call 32; refine CC.out.mono ?_; intro e w18 hm; obtain ⟨D8, d8, rfl, o8, hb, _, _⟩ := hm.n LFB.out; have B18 := Lib.hid (PA.out.trans (hb.mono PA.out.size)); have H8 := Lib.hid (Made.bs o8 HFBB.out); have RP8 := Lib.hid (RPW.out _ _ _ d8 H8.out (Nat.le_refl _)); clear hm o8 hb)
                    | (go_at_call 18; refine RP8.out.mono ?_; rintro e w19 ⟨y, he, hz, hok, hnw, hb⟩; have he : e = .returned (.tuple #[.agg #[.int .u8 y.kind, .int .i64 y.client, .int .i64 y.id, .slice y.A y.n y.c, .int .i64 y.upto, .int .i64 y.frm, .slice y.EA y.en y.ecp, .int .i64 y.hav, .int .i64 y.don, .int .i64 y.ep, .slice y.MA y.mn y.mcp, .int .i64 y.since], .int .i64 200]) := he; subst he; have B19 := Lib.hid (B18.out.trans (hb.mono B18.out.size)); clear hz hok hnw hb))
              have B20 := Lib.hid (show Below w.heap.size w (w19.alloc (.cells #[.int .u8 y.kind, .int .i64 y.client, .int .i64 y.id, .slice y.A y.n y.c, .int .i64 y.upto, .int .i64 y.frm, .slice y.EA y.en y.ecp, .int .i64 y.hav, .int .i64 y.don, .int .i64 y.ep, .slice y.MA y.mn y.mcp, .int .i64 y.since] 28)) from B19.out.trans ((below_one _ _).mono B19.out.size))
              go_wp2
              go_ret
              exact ⟨rfl, B20.out⟩
        · go_upto_region 12 with fail
          have CC := Lib.hid (cat2_any (w := w4) cD c 22 HS.out (HBS.out.belowM B4.out (Nat.le_refl _)) (Nat.le_refl _) B4.out.size (by omega) 2 w4.heap.size rfl)
          have PA := Lib.hid (B4.out.trans ((below_one w4 (.cells #[.slice D L cD, .slice A n c] 22)).mono B4.out.size))
          by_cases hn0 : n = 0
          · have hbs : bs = [] := List.eq_nil_of_length_eq_zero (by rw [HLN.out]; exact hn0)
            have RPW : Hid (∀ (W : World) (B : Nat) (A : Option Addr) (c : Nat), Bs W B A (L + n) (F ++ bs) → B ≤ W.heap.size → Calls Try.prog 18 #[.slice A (L + n) c] W (ParsesM W x.z 0)) := Lib.hid (fun W B A c hb hB => by
              have := parse_anyM (w := W) (c := c) hb hB (by omega)
              rw [hbs, List.append_nil, PF.out] at this
              exact this)
            have i0 : ((n : Int) == 0) = true := by simp [hn0]
            clear hbs hn0
            go_upto_region 13 with (first
                  | (go_at_call 32; refine CC.out.mono ?_; intro e w18 hm; obtain ⟨D8, d8, rfl, o8, hb, _, _⟩ := hm.n LFB.out; have B18 := Lib.hid (PA.out.trans (hb.mono PA.out.size)); have H8 := Lib.hid (Made.bs o8 HFBB.out); have RP8 := Lib.hid (RPW.out _ _ _ d8 H8.out (Nat.le_refl _)); clear hm o8 hb)
                  | (go_at_call 18; refine RP8.out.mono ?_; rintro e w19 ⟨y, he, hz, hok, hnw, hb⟩; have he : e = .returned (.tuple #[.agg #[.int .u8 y.kind, .int .i64 y.client, .int .i64 y.id, .slice y.A y.n y.c, .int .i64 y.upto, .int .i64 y.frm, .slice y.EA y.en y.ecp, .int .i64 y.hav, .int .i64 y.don, .int .i64 y.ep, .slice y.MA y.mn y.mcp, .int .i64 y.since], .int .i64 0]) := he; subst he; have B19 := Lib.hid (B18.out.trans (hb.mono B18.out.size)); clear hz hok hnw hb))
            have B20 := Lib.hid (show Below w.heap.size w (w19.alloc (.cells #[.int .u8 y.kind, .int .i64 y.client, .int .i64 y.id, .slice y.A y.n y.c, .int .i64 y.upto, .int .i64 y.frm, .slice y.EA y.en y.ecp, .int .i64 y.hav, .int .i64 y.don, .int .i64 y.ep, .slice y.MA y.mn y.mcp, .int .i64 y.since] 28)) from B19.out.trans ((below_one _ _).mono B19.out.size))
            go_wp2
            go_ret
            exact ⟨rfl, B20.out⟩
          · have hbs : bs ≠ [] := fun h => hn0 (by rw [← HLN.out, h]; rfl)
            have RPW : Hid (∀ (W : World) (B : Nat) (A : Option Addr) (c : Nat), Bs W B A (L + n) (F ++ bs) → B ≤ W.heap.size → Calls Try.prog 18 #[.slice A (L + n) c] W (ParsesM W mz0 200)) := Lib.hid (fun W B A c hb hB => by
              have := parse_anyM (w := W) (c := c) hb hB (by omega)
              rw [← HF.out, parseM_behind ZO.out HM.out hbs] at this
              exact this)
            have i0 : ((n : Int) == 0) = false := by simp; exact hn0
            clear hbs
            go_upto_region 13 with (first
                  | (go_at_call 32; refine CC.out.mono ?_; intro e w18 hm; obtain ⟨D8, d8, rfl, o8, hb, _, _⟩ := hm.n LFB.out; have B18 := Lib.hid (PA.out.trans (hb.mono PA.out.size)); have H8 := Lib.hid (Made.bs o8 HFBB.out); have RP8 := Lib.hid (RPW.out _ _ _ d8 H8.out (Nat.le_refl _)); clear hm o8 hb)
                  | (go_at_call 18; refine RP8.out.mono ?_; rintro e w19 ⟨y, he, hz, hok, hnw, hb⟩; have he : e = .returned (.tuple #[.agg #[.int .u8 y.kind, .int .i64 y.client, .int .i64 y.id, .slice y.A y.n y.c, .int .i64 y.upto, .int .i64 y.frm, .slice y.EA y.en y.ecp, .int .i64 y.hav, .int .i64 y.don, .int .i64 y.ep, .slice y.MA y.mn y.mcp, .int .i64 y.since], .int .i64 200]) := he; subst he; have B19 := Lib.hid (B18.out.trans (hb.mono B18.out.size)); clear hz hok hnw hb))
            have B20 := Lib.hid (show Below w.heap.size w (w19.alloc (.cells #[.int .u8 y.kind, .int .i64 y.client, .int .i64 y.id, .slice y.A y.n y.c, .int .i64 y.upto, .int .i64 y.frm, .slice y.EA y.en y.ecp, .int .i64 y.hav, .int .i64 y.don, .int .i64 y.ep, .slice y.MA y.mn y.mcp, .int .i64 y.since] 28)) from B19.out.trans ((below_one _ _).mono B19.out.size))
            go_wp2
            go_ret
            exact ⟨rfl, B20.out⟩
    · go_ret
      exact ⟨rfl, B3.out⟩
end Go.Proofs.Ytfihiandifnkpaa
