/- MessageBack. Printed by gen_msv.py. -/
import Derived.Test.YtfihiandifnkpaaMsU
import Derived.Test.YtfihiandifnkpaaMsR
namespace Go.Proofs.Ytfihiandifnkpaa
open Go.ChangeShapes Go.WideShapes Go.ChangeAt Go.RowKit
set_option linter.unusedVariables false
set_option maxRecDepth 100000
set_option linter.unusedSimpArgs false
open Plain Sha Ms
/-- A message that came in, and may be, fits. -/
theorem MXOk.z {w : World} {B : Nat} {x : MX} (h : MXOk w B x) (hm : mayM x.z = true) : MsgOk x.z := by
  obtain ⟨hk, hn, ha⟩ := mayM_parts hm
  have n := none_parts hn
  unfold askM at ha
  unfold othM at n
  have hb : x.body.length ≤ 65536 := by
    by_cases h1 : x.z.kind = 1 ∨ x.z.kind = 6
    · rw [if_pos h1] at ha
      simp only [Bool.and_eq_true, decide_eq_true_eq] at ha
      have := ha.2
      have : x.body.length ≤ 20000 := this
      omega
    · rw [if_neg h1] at n
      have : x.body = [] := by
        split at n
        · exact n.1.2.2
        · split at n
          · exact n.1.2.2
          · split at n
            · exact n.1.2.2
            · exact n.1.2.2
      rw [this]; simp
  have he : ∀ e, e ∈ x.z.es → EntOk e := by
    intro e he
    obtain ⟨y, hy, rfl⟩ := List.mem_map.1 he
    have o := h.es.ok y hy
    refine ⟨o.pos, o.stamp, o.client, o.id, o.body.isBytes, ?_⟩
    by_cases h1 : x.z.kind = 1 ∨ x.z.kind = 6
    · rw [if_pos h1] at n
      have : x.z.es = [] := n.2.1.2.2
      rw [this] at he; cases he
    · rw [if_neg h1] at n ha
      by_cases h2 : x.z.kind = 2
      · rw [if_pos h2] at ha
        have := ent_small ((app_small ha).2 y.z he)
        omega
      · rw [if_neg h2] at n
        have : x.z.es = [] := by
          split at n
          · exact n.2.1.2.2
          · split at n
            · exact n.2.1.2.2
            · exact n.2.1.2.2
        rw [this] at he; cases he
  exact ⟨h.kind, h.client, h.id, h.body.isBytes, hb, h.upto, h.frm, he, h.hav, h.don, h.ep, h.ms.ok, h.since⟩
theorem n64_isB (n : Int) : IsBytes (n64 n) := putZ_bytes _ _
theorem restF_isB {e : EntZ} (h : IsBytes e.body) : IsBytes (restF e) := by
  unfold restF bytesF
  exact (((n64_isB _).app (n64_isB _)).app (n64_isB _)).app ((putZ_bytes _ _).app h)
theorem memF_isB (m : MemZ) : IsBytes (memF m) := by
  unfold memF
  refine ((n64_isB _).app (n64_isB _)).app (isBytes_iff.2 fun z hz => ?_)
  rw [List.mem_singleton.1 hz]
  cases m.whole <;> decide
theorem flat_isB {α : Type} (f : α → List Int) : ∀ l : List α, (∀ x, x ∈ l → IsBytes (f x)) → IsBytes (l.flatMap f)
  | [], _ => IsBytes.nil
  | a :: l, h => by rw [List.flatMap_cons]; exact (h a List.mem_cons_self).app (flat_isB f l (fun x hx => h x (List.mem_cons_of_mem _ hx)))
theorem confF_isB (ep : Int) (ms : List MemZ) : IsBytes (confF ep ms) := by
  unfold confF msF
  exact ((n64_isB _).app (n64_isB _)).app (flat_isB _ _ (fun m _ => memF_isB m))
theorem formM_isB {z : MsgZ} (h : MsgOk z) : IsBytes (formM z) := by
  unfold formM ownF
  refine IsBytes.app (isBytes_iff.2 fun x hx => by rw [List.mem_singleton.1 hx]; exact h.kind) ?_
  split
  · unfold bytesF
    exact ((n64_isB _).app (n64_isB _)).app ((putZ_bytes _ _).app h.body)
  · split
    · unfold esF
      exact (((n64_isB _).app (n64_isB _)).app (n64_isB _)).app (flat_isB _ _ (fun e he => restF_isB (h.es e he).body))
    · split
      · exact (n64_isB _).app (n64_isB _)
      · split
        · exact confF_isB _ _
        · exact n64_isB _
set_option maxHeartbeats 16000000 in
theorem msback_in (x : MX) (A : Option Addr) (n c : Nat) (bs : List Int) (w : World) (h : MXOk w w.heap.size x) (hM : x.n ≤ 140737488355328) (hE : ∀ e, e ∈ x.es → e.n ≤ 140737488355328) (h0 : Bs w w.heap.size A n bs) (hc : n ≤ c) (hn : n ≤ maxLen) : Calls Try.prog 6 #[.agg (mc x).toArray, .slice A n c] w (fun e w' => e = .returned (.bool true) ∧ Below w.heap.size w w') := by
  obtain ⟨W1, hW1⟩ : ∃ W, W = w.alloc (.cells (mc x).toArray 28) := ⟨_, rfl⟩
  have b1 := Lib.hid (show Below w.heap.size w W1 by rw [hW1]; exact below_one _ _)
  obtain ⟨g, hg⟩ : ∃ g, w.heap.size = g := ⟨_, rfl⟩
  have Hg := Lib.hid hg
  have V1 := Lib.hid (show VBox W1 g 12 (mc x) by rw [hW1]; exact vbox_new _ _ _ _ _ hg rfl (by omega))
  have z1 := Lib.hid (show W1.heap.size = g + 1 by rw [hW1]; simp [hg])
  have HW1 := Lib.hid hW1
  clear hW1 hg
  have AW := Lib.hid (awake_anyM W1)
  have HBS := Lib.hid h0
  have HLN := Lib.hid h0.len
  have HISB := Lib.hid h0.isBytes
  have GR := Lib.hid (fun (W : World) (hW : Below w.heap.size w W) => great_anyM (h.below hW (Nat.le_refl _)) hW.size)
  have PR := Lib.hid (fun (W : World) (hW : Below w.heap.size w W) => print_anyM (h.below hW (Nat.le_refl _)) hW.size)
  have HX := Lib.hid h
  clear h h0
  go_enter Try.func6, Try.ntmps6
  go_upto_region 1 with fail
  rw [← HW1.out, Hg.out]
  go_upto_region 3 with (go_at_call 30; refine AW.out.mono ?_; rintro e w2 ⟨rfl, hb⟩; have B2 := Lib.hid hb; have V2 := Lib.hid (V1.out.grow hb); clear hb)
  have B2w := Lib.hid (b1.out.trans (B2.out.mono b1.out.size))
  by_cases hn5 : 5000 < n
  · have hi5 : (5000 : Int) < (n : Int) := by omega
    go_wp2_with (first
        | (with_reducible show wpList _ _ _ (⟨some 15, .load 28 (.tmp 2), _, _, _, _⟩ :: _) _ _; refine wpList_load_mid (op := ⟨some 15, .load 28 (.tmp 2), _, _, _, _⟩) rfl 28 (.tmp 2) rfl (g) (0) rfl (mc x) _ (V2.out.range) Try.underlying28 rfl (m_size _) ?_)
        | (go_at_call 10; refine (GR.out _ B2w.out).mono ?_; rintro e w3 ⟨q, rfl, hb⟩; have B3 := Lib.hid (B2w.out.trans (hb.mono B2w.out.size)); have V3 := Lib.hid (V2.out.grow hb); clear hb; cases q))
    · go_ret
      exact ⟨rfl, B3.out⟩
    · go_ret
      exact ⟨rfl, B3.out⟩
  · have hi5 : ¬ (5000 : Int) < (n : Int) := by omega
    go_upto_region 5 with (first
        | (with_reducible show wpList _ _ _ (⟨some 15, .load 28 (.tmp 2), _, _, _, _⟩ :: _) _ _; refine wpList_load_mid (op := ⟨some 15, .load 28 (.tmp 2), _, _, _, _⟩) rfl 28 (.tmp 2) rfl (g) (0) rfl (mc x) _ (V2.out.range) Try.underlying28 rfl (m_size _) ?_)
        | (go_at_call 10; refine (GR.out _ B2w.out).mono ?_; rintro e w3 ⟨q, rfl, hb⟩; have B3 := Lib.hid (B2w.out.trans (hb.mono B2w.out.size)); have V3 := Lib.hid (V2.out.grow hb); clear hb; cases q))
    · have PR3 := Lib.hid (PR.out w3 B3.out)
      cases hm : mayM x.z with
      | false =>
        rw [hm] at PR3
        clear hm
        go_upto_region 10 with (first
        | (with_reducible show wpList _ _ _ (⟨some 23, .load 28 (.tmp 2), _, _, _, _⟩ :: _) _ _; refine wpList_load_mid (op := ⟨some 23, .load 28 (.tmp 2), _, _, _, _⟩) rfl 28 (.tmp 2) rfl (g) (0) rfl (mc x) _ (V3.out.range) Try.underlying28 rfl (m_size _) ?_)
        | (go_at_call 12; refine PR3.out.mono ?_; rintro e w4 ⟨u, rfl, hu, hb⟩; have HU := Lib.hid hu; have B4 := Lib.hid (B3.out.trans (hb.mono B3.out.size)); clear hu hb))
        have PB := Lib.hid (parse_anyM (w := w4) (c := c) ((HBS.out.belowM B4.out (Nat.le_refl _))) B4.out.size (by omega))
        go_upto_region 11 with (go_at_call 18; refine PB.out.mono ?_; rintro e w20 ⟨y2, he, hz, hok, hnw, hb⟩; have he : e = .returned (.tuple #[.agg #[.int .u8 y2.kind, .int .i64 y2.client, .int .i64 y2.id, .slice y2.A y2.n y2.c, .int .i64 y2.upto, .int .i64 y2.frm, .slice y2.EA y2.en y2.ecp, .int .i64 y2.hav, .int .i64 y2.don, .int .i64 y2.ep, .slice y2.MA y2.mn y2.mcp, .int .i64 y2.since], .int .i64 (parseM bs).2]) := he; subst he; have B20 := Lib.hid (B4.out.trans (hb.mono B4.out.size)); have OK2 := Lib.hid hok; have HZ2 := Lib.hid hz; clear hz hok hnw hb)
        obtain ⟨w21, hw21⟩ : ∃ W, W = w20.alloc (.cells #[.int .u8 y2.kind, .int .i64 y2.client, .int .i64 y2.id, .slice y2.A y2.n y2.c, .int .i64 y2.upto, .int .i64 y2.frm, .slice y2.EA y2.en y2.ecp, .int .i64 y2.hav, .int .i64 y2.don, .int .i64 y2.ep, .slice y2.MA y2.mn y2.mcp, .int .i64 y2.since] 28) := ⟨_, rfl⟩
        obtain ⟨g9, hg9⟩ : ∃ g, w20.heap.size = g := ⟨_, rfl⟩
        have B21 := Lib.hid (show Below w.heap.size w w21 by rw [hw21]; exact B20.out.trans ((below_one _ _).mono B20.out.size))
        have V9 := Lib.hid (show VBox w21 g9 12 (mc y2) by rw [hw21]; exact vbox_new w20 (mc y2) _ _ _ hg9 rfl (by omega))
        have OK21 := Lib.hid (show MXOk w21 w21.heap.size y2 by rw [hw21]; exact OK2.out.grow (below_one _ _) (Nat.le_refl _))
        rw [← hw21, hg9]
        clear hw21 hg9
        rcases parseM_err bs with h0 | ⟨h1, h2⟩
        · have PE := parseM_back (by rw [HLN.out]; omega) HISB.out (z := y2.z) (Prod.ext HZ2.out.symm h0)
          have PR2 := Lib.hid (print_anyM OK21.out (Nat.le_refl _))
          rw [PE.2.1, PE.2.2] at PR2
          rw [h0]
          clear h0 PE
          go_upto_region 14 with (first
              | (with_reducible show wpList _ _ _ (⟨some 62, .load 28 (.tmp 9), _, _, _, _⟩ :: _) _ _; refine wpList_load_mid (op := ⟨some 62, .load 28 (.tmp 9), _, _, _, _⟩) rfl 28 (.tmp 9) rfl (g9) (0) rfl (mc y2) _ (V9.out.range) Try.underlying28 rfl (m_size _) ?_)
              | (go_at_call 12; refine PR2.out.mono ?_; rintro e w22 ⟨u2, rfl, hu, hb⟩; have HU2 := Lib.hid (show IsList u2 w22 w21.heap.size bs from hu); have B22 := Lib.hid (B21.out.trans (hb.mono B21.out.size)); clear hu hb))
          obtain ⟨A2, c2, rfl, hs2, hc2, hm2⟩ := HU2.out.bs HISB.out
          have SM := Lib.hid (same_any (w := w22) c2 c hs2 (HBS.out.belowM B22.out (Nat.le_refl _)) (by unfold maxLen at *; omega) (by unfold maxLen; omega))
          rw [eqB_refl] at SM
          clear hs2 hc2 hm2
          go_wp2_with (go_at_call 31; refine SM.out.mono ?_; rintro e w23 ⟨rfl, m23, rfl⟩)
          go_ret
          exact ⟨rfl, below_drewN B22.out _⟩
        · have SM := Lib.hid (same_anyM (w := w21) true OK21.out (mx0_ok w21 w21.heap.size) (Nat.le_refl _) (Nat.le_refl _) (by rw [HZ2.out, h1]; exact msgE_refl _))
          rw [h2]
          clear h1 h2
          go_wp2_with (first
              | (with_reducible show wpList _ _ _ (⟨some 57, .load 28 (.tmp 9), _, _, _, _⟩ :: _) _ _; refine wpList_load_guardL (op := ⟨some 57, .load 28 (.tmp 9), _, _, _, some (2, true)⟩) (by first | rfl | go_simp) 28 (.tmp 9) rfl (g9) (0) rfl (mc y2) _ (V9.out.range) Try.underlying28 rfl (m_size _) ?_)
              | (go_at_call 19; refine SM.out.mono ?_; rintro e w22 ⟨rfl, hb⟩; have B22 := Lib.hid (B21.out.trans (hb.mono B21.out.size)); clear hb))
          go_ret
          exact ⟨rfl, B22.out⟩
      | true =>
        have ZO := Lib.hid (MXOk.z HX.out hm)
        have FB := Lib.hid (formM_isB ZO.out)
        have FS := Lib.hid (formM_short hm)
        have PF := Lib.hid (parseM_form ZO.out hm)
        have HM := Lib.hid hm
        rw [hm] at PR3
        clear hm
        go_upto_region 7 with (first
        | (with_reducible show wpList _ _ _ (⟨some 23, .load 28 (.tmp 2), _, _, _, _⟩ :: _) _ _; refine wpList_load_mid (op := ⟨some 23, .load 28 (.tmp 2), _, _, _, _⟩) rfl 28 (.tmp 2) rfl (g) (0) rfl (mc x) _ (V3.out.range) Try.underlying28 rfl (m_size _) ?_)
        | (go_at_call 12; refine PR3.out.mono ?_; rintro e w4 ⟨u, rfl, hu, hb⟩; have HU := Lib.hid (show IsList u w4 w3.heap.size (formM x.z) from hu); have B4 := Lib.hid (B3.out.trans (hb.mono B3.out.size)); have V4 := Lib.hid (V3.out.grow hb); clear hu hb))
        obtain ⟨D, cD, rfl, hs, hcD, hmD⟩ := HU.out.bs FB.out
        have PB1 := Lib.hid (parse_anyM (w := w4) (c := cD) hs (Nat.le_refl _) (Nat.le_trans FS.out (by omega)))
        rw [PF.out] at PB1
        clear hs hcD hmD
        go_upto_region 8 with (go_at_call 18; refine PB1.out.mono ?_; rintro e w5 ⟨y, he, hz, hok, hnw, hb⟩; have he : e = .returned (.tuple #[.agg #[.int .u8 y.kind, .int .i64 y.client, .int .i64 y.id, .slice y.A y.n y.c, .int .i64 y.upto, .int .i64 y.frm, .slice y.EA y.en y.ecp, .int .i64 y.hav, .int .i64 y.don, .int .i64 y.ep, .slice y.MA y.mn y.mcp, .int .i64 y.since], .int .i64 0]) := he; subst he; have B5 := Lib.hid (B4.out.trans (hb.mono B4.out.size)); have V5 := Lib.hid (V4.out.grow hb); have OK1 := Lib.hid hok; have HZ1 := Lib.hid hz; clear hz hok hnw hb)
        obtain ⟨w6, hw6⟩ : ∃ W, W = w5.alloc (.cells #[.int .u8 y.kind, .int .i64 y.client, .int .i64 y.id, .slice y.A y.n y.c, .int .i64 y.upto, .int .i64 y.frm, .slice y.EA y.en y.ecp, .int .i64 y.hav, .int .i64 y.don, .int .i64 y.ep, .slice y.MA y.mn y.mcp, .int .i64 y.since] 28) := ⟨_, rfl⟩
        obtain ⟨g7, hg7⟩ : ∃ g, w5.heap.size = g := ⟨_, rfl⟩
        have B6 := Lib.hid (show Below w.heap.size w w6 by rw [hw6]; exact B5.out.trans ((below_one _ _).mono B5.out.size))
        have V6 := Lib.hid (show VBox w6 g 12 (mc x) by rw [hw6]; exact V5.out.grow (below_one _ _))
        have V7 := Lib.hid (show VBox w6 g7 12 (mc y) by rw [hw6]; exact vbox_new w5 (mc y) _ _ _ hg7 rfl (by omega))
        have OK6 := Lib.hid (show MXOk w6 w6.heap.size y by rw [hw6]; exact OK1.out.grow (below_one _ _) (Nat.le_refl _))
        have SM1 := Lib.hid (same_anyM (w := w6) true OK6.out (HX.out.below B6.out (Nat.le_refl _)) (Nat.le_refl _) B6.out.size (by rw [HZ1.out]; exact msgE_refl _))
        have MY := Lib.hid (fun (W : World) (hW : Below w6.heap.size w6 W) => may_any true (OK6.out.grow hW (Nat.le_refl _)) (Nat.le_refl _) (by rw [HZ1.out]; exact HM.out))
        rw [← hw6, hg7]
        clear hw6 hg7
        go_upto_region 10 with (first
        | (with_reducible show wpList _ _ _ (⟨some 37, .load 28 (.tmp 7), _, _, _, _⟩ :: _) _ _; refine wpList_load_guardL (op := ⟨some 37, .load 28 (.tmp 7), _, _, _, some (2, false)⟩) (by first | rfl | go_simp) 28 (.tmp 7) rfl (g7) (0) rfl (mc y) _ (V7.out.range) Try.underlying28 rfl (m_size _) ?_)
        | (with_reducible show wpList _ _ _ (⟨some 38, .load 28 (.tmp 2), _, _, _, _⟩ :: _) _ _; refine wpList_load_guardL (op := ⟨some 38, .load 28 (.tmp 2), _, _, _, some (2, false)⟩) (by first | rfl | go_simp) 28 (.tmp 2) rfl (g) (0) rfl (mc x) _ (V6.out.range) Try.underlying28 rfl (m_size _) ?_)
        | (go_at_call 19; refine SM1.out.mono ?_; rintro e w7 ⟨rfl, hb⟩; have B7' := Lib.hid hb; have V7b := Lib.hid (V7.out.grow hb); clear hb)
        | (with_reducible show wpList _ _ _ (⟨some 43, .load 28 (.tmp 7), _, _, _, _⟩ :: _) _ _; refine wpList_load_guardL (op := ⟨some 43, .load 28 (.tmp 7), _, _, _, some (8, false)⟩) (by first | rfl | go_simp) 28 (.tmp 7) rfl (g7) (0) rfl (mc y) _ (V7b.out.range) Try.underlying28 rfl (m_size _) ?_)
        | (go_at_call 13; refine (MY.out _ B7'.out).mono ?_; rintro e w8 ⟨rfl, hb⟩; have B8 := Lib.hid (B6.out.trans ((B7'.out.trans (hb.mono B7'.out.size)).mono B6.out.size)); clear hb))
        have PB := Lib.hid (parse_anyM (w := w8) (c := c) ((HBS.out.belowM B8.out (Nat.le_refl _))) B8.out.size (by omega))
        go_upto_region 11 with (go_at_call 18; refine PB.out.mono ?_; rintro e w20 ⟨y2, he, hz, hok, hnw, hb⟩; have he : e = .returned (.tuple #[.agg #[.int .u8 y2.kind, .int .i64 y2.client, .int .i64 y2.id, .slice y2.A y2.n y2.c, .int .i64 y2.upto, .int .i64 y2.frm, .slice y2.EA y2.en y2.ecp, .int .i64 y2.hav, .int .i64 y2.don, .int .i64 y2.ep, .slice y2.MA y2.mn y2.mcp, .int .i64 y2.since], .int .i64 (parseM bs).2]) := he; subst he; have B20 := Lib.hid (B8.out.trans (hb.mono B8.out.size)); have OK2 := Lib.hid hok; have HZ2 := Lib.hid hz; clear hz hok hnw hb)
        obtain ⟨w21, hw21⟩ : ∃ W, W = w20.alloc (.cells #[.int .u8 y2.kind, .int .i64 y2.client, .int .i64 y2.id, .slice y2.A y2.n y2.c, .int .i64 y2.upto, .int .i64 y2.frm, .slice y2.EA y2.en y2.ecp, .int .i64 y2.hav, .int .i64 y2.don, .int .i64 y2.ep, .slice y2.MA y2.mn y2.mcp, .int .i64 y2.since] 28) := ⟨_, rfl⟩
        obtain ⟨g9, hg9⟩ : ∃ g, w20.heap.size = g := ⟨_, rfl⟩
        have B21 := Lib.hid (show Below w.heap.size w w21 by rw [hw21]; exact B20.out.trans ((below_one _ _).mono B20.out.size))
        have V9 := Lib.hid (show VBox w21 g9 12 (mc y2) by rw [hw21]; exact vbox_new w20 (mc y2) _ _ _ hg9 rfl (by omega))
        have OK21 := Lib.hid (show MXOk w21 w21.heap.size y2 by rw [hw21]; exact OK2.out.grow (below_one _ _) (Nat.le_refl _))
        rw [← hw21, hg9]
        clear hw21 hg9
        rcases parseM_err bs with h0 | ⟨h1, h2⟩
        · have PE := parseM_back (by rw [HLN.out]; omega) HISB.out (z := y2.z) (Prod.ext HZ2.out.symm h0)
          have PR2 := Lib.hid (print_anyM OK21.out (Nat.le_refl _))
          rw [PE.2.1, PE.2.2] at PR2
          rw [h0]
          clear h0 PE
          go_upto_region 14 with (first
              | (with_reducible show wpList _ _ _ (⟨some 62, .load 28 (.tmp 9), _, _, _, _⟩ :: _) _ _; refine wpList_load_mid (op := ⟨some 62, .load 28 (.tmp 9), _, _, _, _⟩) rfl 28 (.tmp 9) rfl (g9) (0) rfl (mc y2) _ (V9.out.range) Try.underlying28 rfl (m_size _) ?_)
              | (go_at_call 12; refine PR2.out.mono ?_; rintro e w22 ⟨u2, rfl, hu, hb⟩; have HU2 := Lib.hid (show IsList u2 w22 w21.heap.size bs from hu); have B22 := Lib.hid (B21.out.trans (hb.mono B21.out.size)); clear hu hb))
          obtain ⟨A2, c2, rfl, hs2, hc2, hm2⟩ := HU2.out.bs HISB.out
          have SM := Lib.hid (same_any (w := w22) c2 c hs2 (HBS.out.belowM B22.out (Nat.le_refl _)) (by unfold maxLen at *; omega) (by unfold maxLen; omega))
          rw [eqB_refl] at SM
          clear hs2 hc2 hm2
          go_wp2_with (go_at_call 31; refine SM.out.mono ?_; rintro e w23 ⟨rfl, m23, rfl⟩)
          go_ret
          exact ⟨rfl, below_drewN B22.out _⟩
        · have SM := Lib.hid (same_anyM (w := w21) true OK21.out (mx0_ok w21 w21.heap.size) (Nat.le_refl _) (Nat.le_refl _) (by rw [HZ2.out, h1]; exact msgE_refl _))
          rw [h2]
          clear h1 h2
          go_wp2_with (first
              | (with_reducible show wpList _ _ _ (⟨some 57, .load 28 (.tmp 9), _, _, _, _⟩ :: _) _ _; refine wpList_load_guardL (op := ⟨some 57, .load 28 (.tmp 9), _, _, _, some (2, true)⟩) (by first | rfl | go_simp) 28 (.tmp 9) rfl (g9) (0) rfl (mc y2) _ (V9.out.range) Try.underlying28 rfl (m_size _) ?_)
              | (go_at_call 19; refine SM.out.mono ?_; rintro e w22 ⟨rfl, hb⟩; have B22 := Lib.hid (B21.out.trans (hb.mono B21.out.size)); clear hb))
          go_ret
          exact ⟨rfl, B22.out⟩
    · go_ret
      exact ⟨rfl, B3.out⟩
end Go.Proofs.Ytfihiandifnkpaa
