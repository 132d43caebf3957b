/- The chapter's examples. Printed by gen_msy.py. -/
import Derived.Test.YtfihiandifnkpaaMsZ2
namespace Go.Proofs.Ytfihiandifnkpaa
open Go.ChangeShapes Go.WideShapes Go.ChangeAt Go.RowKit
set_option linter.unusedVariables false
set_option maxRecDepth 100000
set_option linter.unusedSimpArgs false
open Plain Sha Ms
theorem in_small {n : Int} (h0 : 0 ≤ n) (h1 : n ≤ 1000) : InM n := by unfold InM; omega
theorem mx_nums (w : World) (B : Nat) (k c i u f h d e s : Int) (hk : 0 ≤ k ∧ k < 256) (hc : InM c) (hi : InM i) (hu : InM u) (hf : InM f) (hh : InM h) (hd : InM d) (he : InM e) (hs : InM s) : MXOk w B ⟨k, c, i, none, 0, 0, [], u, f, none, 0, 0, [], h, d, e, none, 0, 0, [], s⟩ :=
  ⟨hk, hc, hi, Nat.le_refl _, Nat.zero_le _, Bs.nil, hu, hf, Nat.le_refl _, Nat.zero_le _, ents0 _ _, hh, hd, he, Nat.le_refl _, Nat.zero_le _, mems0 _ _, hs⟩
def formH : List Int := [3, 0, 0, 0, 0, 0, 0, 0, 2, 0, 0, 0, 0, 0, 0, 0, 1]
theorem may_y1 : mayM (MX.z { mx0 with kind := 3, hav := 2, don := 1 }) = true := by kernel_rfl
theorem ok_y1 (w : World) (B : Nat) : MXOk w B { mx0 with kind := 3, hav := 2, don := 1 } := mx_nums w B _ _ _ _ _ _ _ _ _ (by first | decide | (constructor <;> decide)) (in_small (by decide) (by decide)) (in_small (by decide) (by decide)) (in_small (by decide) (by decide)) (in_small (by decide) (by decide)) (in_small (by decide) (by decide)) (in_small (by decide) (by decide)) (in_small (by decide) (by decide)) (in_small (by decide) (by decide))
theorem may_y2 : mayM (MX.z mx0) = false := by kernel_rfl
theorem ok_y2 (w : World) (B : Nat) : MXOk w B mx0 := mx_nums w B _ _ _ _ _ _ _ _ _ (by first | decide | (constructor <;> decide)) (in_small (by decide) (by decide)) (in_small (by decide) (by decide)) (in_small (by decide) (by decide)) (in_small (by decide) (by decide)) (in_small (by decide) (by decide)) (in_small (by decide) (by decide)) (in_small (by decide) (by decide)) (in_small (by decide) (by decide))
theorem may_y3 : mayM (MX.z { mx0 with kind := 3, hav := 1, don := 2 }) = false := by kernel_rfl
theorem ok_y3 (w : World) (B : Nat) : MXOk w B { mx0 with kind := 3, hav := 1, don := 2 } := mx_nums w B _ _ _ _ _ _ _ _ _ (by first | decide | (constructor <;> decide)) (in_small (by decide) (by decide)) (in_small (by decide) (by decide)) (in_small (by decide) (by decide)) (in_small (by decide) (by decide)) (in_small (by decide) (by decide)) (in_small (by decide) (by decide)) (in_small (by decide) (by decide)) (in_small (by decide) (by decide))
theorem may_y4 : mayM (MX.z { mx0 with kind := 5, client := 1, since := 1 }) = false := by kernel_rfl
theorem ok_y4 (w : World) (B : Nat) : MXOk w B { mx0 with kind := 5, client := 1, since := 1 } := mx_nums w B _ _ _ _ _ _ _ _ _ (by first | decide | (constructor <;> decide)) (in_small (by decide) (by decide)) (in_small (by decide) (by decide)) (in_small (by decide) (by decide)) (in_small (by decide) (by decide)) (in_small (by decide) (by decide)) (in_small (by decide) (by decide)) (in_small (by decide) (by decide)) (in_small (by decide) (by decide))
theorem may_y5 : mayM (MX.z { mx0 with kind := 5, since := 1 }) = true := by kernel_rfl
theorem ok_y5 (w : World) (B : Nat) : MXOk w B { mx0 with kind := 5, since := 1 } := mx_nums w B _ _ _ _ _ _ _ _ _ (by first | decide | (constructor <;> decide)) (in_small (by decide) (by decide)) (in_small (by decide) (by decide)) (in_small (by decide) (by decide)) (in_small (by decide) (by decide)) (in_small (by decide) (by decide)) (in_small (by decide) (by decide)) (in_small (by decide) (by decide)) (in_small (by decide) (by decide))
theorem form_y1 : formM (MX.z { mx0 with kind := 3, hav := 2, don := 1 }) = formH := by kernel_rfl
theorem parse_nilM : parseM [] = (mz0, 200) := by kernel_rfl
set_option maxHeartbeats 16000000 in
theorem awake_anyM (w : World) : Calls Try.prog 30 #[] w (fun e w' => e = .returned (.bool true) ∧ Below w.heap.size w w') := by
  obtain ⟨W1, hW1⟩ : ∃ W, W = w.alloc (.cells #[.int .u8 3, .int .i64 0, .int .i64 0, .slice none 0 0, .int .i64 0, .int .i64 0, .slice none 0 0, .int .i64 2, .int .i64 1, .int .i64 0, .slice none 0 0, .int .i64 0] 28) := ⟨_, rfl⟩
  have b1 := Lib.hid (show Below w.heap.size w W1 by rw [hW1]; exact below_one _ _)
  obtain ⟨g, hg⟩ : ∃ g, w.heap.size = g := ⟨_, rfl⟩
  have Hg := Lib.hid hg
  have V1 := Lib.hid (show VBox W1 g 12 (mc { mx0 with kind := 3, hav := 2, don := 1 }) by rw [hW1]; exact vbox_new _ (mc { mx0 with kind := 3, hav := 2, don := 1 }) _ _ _ hg rfl (by omega))
  have HW1 := Lib.hid hW1
  have PR := Lib.hid (print_anyM (ok_y1 W1 W1.heap.size) (Nat.le_refl _))
  rw [may_y1, form_y1] at PR
  have PN := Lib.hid (fun W => parse_anyM (w := W) (B := 0) (A := none) (n := 0) (c := 0) (bs := []) Bs.nil (Nat.zero_le _) (by omega))
  rw [parse_nilM] at PN
  have M1 := Lib.hid (fun W => may_any true (ok_y1 W W.heap.size) (Nat.le_refl _) may_y1)
  have M2 := Lib.hid (fun W => may_any false (ok_y2 W W.heap.size) (Nat.le_refl _) may_y2)
  have M3 := Lib.hid (fun W => may_any false (ok_y3 W W.heap.size) (Nat.le_refl _) may_y3)
  have M4 := Lib.hid (fun W => may_any false (ok_y4 W W.heap.size) (Nat.le_refl _) may_y4)
  have M5 := Lib.hid (fun W => may_any true (ok_y5 W W.heap.size) (Nat.le_refl _) may_y5)
  clear hW1 hg
  go_enter Try.func30, Try.ntmps30
  go_upto_region 2 with fail
  rw [← HW1.out, Hg.out]
  go_upto_region 3 with (first
        | (with_reducible show wpList _ _ _ (⟨some 8, .load 28 (.tmp 1), _, _, _, _⟩ :: _) _ _; refine wpList_load_mid (op := ⟨some 8, .load 28 (.tmp 1), _, _, _, _⟩) rfl 28 (.tmp 1) rfl (g) (0) rfl (mc { mx0 with kind := 3, hav := 2, don := 1 }) _ (V1.out.range) Try.underlying28 rfl (m_size _) ?_)
        | (go_at_call 12; refine PR.out.mono ?_; rintro e w2 ⟨u, rfl, hu, hb⟩; have HU := Lib.hid (show IsList u w2 W1.heap.size formH from hu); have B2 := Lib.hid hb; clear hu hb))
  obtain ⟨D, c, eu, ho, h1, h2⟩ := HU.out
  have eu : u = .slice D 17 c := eu
  subst eu
  have ho : w2.ownsRow W1.heap.size 5 1 (.slice D 17 c) 17 (vals formH) := ho
  have ZB := Lib.hid (bs_of_own ho (isBytes_iff.2 (by decide) : IsBytes formH))
  clear ho h1 h2
  go_upto_region 4 with (go_at_call 18; refine (PN.out _).mono ?_; rintro e w3 ⟨x, he, hz, hok, hnw, hb⟩; have he : e = .returned (.tuple #[.agg #[.int .u8 x.kind, .int .i64 x.client, .int .i64 x.id, .slice x.A x.n x.c, .int .i64 x.upto, .int .i64 x.frm, .slice x.EA x.en x.ecp, .int .i64 x.hav, .int .i64 x.don, .int .i64 x.ep, .slice x.MA x.mn x.mcp, .int .i64 x.since], .int .i64 200]) := he; subst he; have B3 := Lib.hid hb; clear hz hok hnw hb)
  obtain ⟨w4, hw4⟩ : ∃ W, W = w3.alloc (.cells #[.int .u8 x.kind, .int .i64 x.client, .int .i64 x.id, .slice x.A x.n x.c, .int .i64 x.upto, .int .i64 x.frm, .slice x.EA x.en x.ecp, .int .i64 x.hav, .int .i64 x.don, .int .i64 x.ep, .slice x.MA x.mn x.mcp, .int .i64 x.since] 28) := ⟨_, rfl⟩
  have B34 := Lib.hid (show Below w2.heap.size w2 w4 by rw [hw4]; exact B3.out.trans ((below_one _ _).mono B3.out.size))
  have V3 := Lib.hid ((V1.out.grow B2.out).grow B34.out)
  have B0' := Lib.hid (b1.out.trans ((B2.out.trans (B34.out.mono B2.out.size)).mono b1.out.size))
  rw [← hw4]
  clear hw4
  obtain ⟨bb, off, rfl, hbb, hc⟩ := (ZB.out.belowM B34.out (Nat.le_refl _)).row (by decide)
  have c0 : w4.cell? ⟨bb, off, none⟩ = some (.int .u8 3) := hc 0 (by decide)
  have c8 : w4.cell? ⟨bb, off + 8, none⟩ = some (.int .u8 2) := hc 8 (by decide)
  have c16 : w4.cell? ⟨bb, off + 16, none⟩ = some (.int .u8 1) := hc 16 (by decide)
  clear hc
  go_wp2_with (first
        | (with_reducible show wpList _ _ _ (⟨some 46, .load 28 (.tmp 1), _, _, _, _⟩ :: _) _ _; refine wpList_load_guardL (op := ⟨some 46, .load 28 (.tmp 1), _, _, _, some (29, true)⟩) (by first | rfl | go_simp) 28 (.tmp 1) rfl (g) (0) rfl (mc { mx0 with kind := 3, hav := 2, don := 1 }) _ (V3.out.range) Try.underlying28 rfl (m_size _) ?_)
        | (go_at_call 13; refine (M1.out w4).mono ?_; rintro e w5 ⟨rfl, hb⟩; have B1' := Lib.hid (B0'.out.trans (hb.mono B0'.out.size)); clear hb M1)
        | (go_at_call 13; refine (M2.out w5).mono ?_; rintro e w6 ⟨rfl, hb⟩; have B2' := Lib.hid (B1'.out.trans (hb.mono B1'.out.size)); clear hb M2)
        | (go_at_call 13; refine (M3.out w6).mono ?_; rintro e w7 ⟨rfl, hb⟩; have B3' := Lib.hid (B2'.out.trans (hb.mono B2'.out.size)); clear hb M3)
        | (go_at_call 13; refine (M4.out w7).mono ?_; rintro e w8 ⟨rfl, hb⟩; have B4' := Lib.hid (B3'.out.trans (hb.mono B3'.out.size)); clear hb M4)
        | (go_at_call 13; refine (M5.out w8).mono ?_; rintro e w9 ⟨rfl, hb⟩; have B5' := Lib.hid (B4'.out.trans (hb.mono B4'.out.size)); clear hb M5))
  go_ret
  exact ⟨rfl, B5'.out⟩
end Go.Proofs.Ytfihiandifnkpaa
