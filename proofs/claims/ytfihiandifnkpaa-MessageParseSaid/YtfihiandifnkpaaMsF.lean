/- A Kind; whether a message may be. Printed by gen_msf.py. -/
import Derived.Test.YtfihiandifnkpaaMsE
namespace Go.Proofs.Ytfihiandifnkpaa
open Go.ChangeShapes Go.WideShapes Go.ChangeAt Go.RowKit
set_option linter.unusedVariables false
set_option maxRecDepth 100000
set_option linter.unusedSimpArgs false
open Plain Sha Ms
theorem exec_indexM {P : Program} {a : Act} {op : Oper} {t : TypeId} {x y : Operand} {u v r : Value} {w : World} (ho : op.op = .index t x y) (hx : a.eval x = u) (hy : a.eval y = v) (h : (Instr.index t u v).run P w = .ok r w) : (execOp a.eval op).run P w = .ok (.value r) w := by
  subst hx hy
  unfold execOp
  simp only [ho]
  simp [h]
theorem kcell_no {x : Int} (h : kindB x = false) : kcell x = kc0 := by
  unfold kindB at h
  unfold kcell
  simp only [Bool.and_eq_false_iff, decide_eq_false_iff_not] at h
  rw [if_neg (by omega), if_neg (by omega), if_neg (by omega), if_neg (by omega), if_neg (by omega)]
set_option maxHeartbeats 4000000 in
theorem kindof_any (x : Int) (w : World) : Calls Try.prog 41 #[.int .u8 x] w (fun e w' => e = .returned (.tuple #[.agg (kcell x).toArray, .bool (kindB x)]) ∧ Below w.heap.size w w') := by
  obtain ⟨W1, hW1⟩ : ∃ W, W = w.alloc (.cells #[.nilFunc, .nilFunc, .nilFunc, .nilFunc] 71) := ⟨_, rfl⟩
  obtain ⟨g, hg⟩ : ∃ g, w.heap.size = g := ⟨_, rfl⟩
  have b1 := Lib.hid (show Below w.heap.size w W1 by rw [hW1]; exact below_one _ _)
  have V1 := Lib.hid (show VBox W1 g 4 kc0 by rw [hW1]; exact vbox_new _ kc0 _ _ _ hg rfl (by omega))
  have HW1 := Lib.hid hW1
  have Hg := Lib.hid hg
  clear hW1 hg
  by_cases h1 : x < 1
  · have e : kindB x = false := by unfold kindB; simp; omega
    have ek := kcell_no e
    rw [e, ek]
    have hst := fun (p : Addr) (W : World) => run_store Try.prog W p .nilFunc .plain rfl
    have VV := Lib.hid V1.out
    go_enter Try.func41, Try.ntmps41
    go_upto_region 1 with fail
    rw [← HW1.out, Hg.out]
    have x0 := V1.out.at1 (i := 0) rfl
    have y0 := V1.out.fr1 (i := 0) (by omega)
    have U1 := Lib.hid (V1.out.set1 (i := 0) (by omega) .nilFunc)
    have x1 := U1.out.at1 (i := 1) rfl
    have y1 := U1.out.fr1 (i := 1) (by omega)
    have U2 := Lib.hid (U1.out.set1 (i := 1) (by omega) .nilFunc)
    have x2 := U2.out.at1 (i := 2) rfl
    have y2 := U2.out.fr1 (i := 2) (by omega)
    have U3 := Lib.hid (U2.out.set1 (i := 2) (by omega) .nilFunc)
    have x3 := U3.out.at1 (i := 3) rfl
    have y3 := U3.out.fr1 (i := 3) (by omega)
    have U4 := Lib.hid (U3.out.set1 (i := 3) (by omega) .nilFunc)
    have B4 := Lib.hid (show Below w.heap.size w ((((W1.setCell ⟨g, 0, none⟩ .nilFunc).setCell ⟨g, 1, none⟩ .nilFunc).setCell ⟨g, 2, none⟩ .nilFunc).setCell ⟨g, 3, none⟩ .nilFunc) from (((b1.out.setCell (p := ⟨g, 0, none⟩) (by rw [Hg.out]; exact Nat.le_refl _) _).setCell (p := ⟨g, 1, none⟩) (by rw [Hg.out]; exact Nat.le_refl _) _).setCell (p := ⟨g, 2, none⟩) (by rw [Hg.out]; exact Nat.le_refl _) _).setCell (p := ⟨g, 3, none⟩) (by rw [Hg.out]; exact Nat.le_refl _) _)
    go_wp2_with fail
    exact bodyPost_ret (v := .tuple #[.agg kc0.toArray, .bool false]) (results_mid_tmp (p := 2) (u := 3) (ty := 71) rfl _ _ g 0 kc0 _ rfl U4.out.range Try.underlying71 rfl (kcell_size 0)) rfl ⟨rfl, B4.out⟩
  · by_cases h2 : 6 < x
    · have e : kindB x = false := by unfold kindB; simp; omega
      have ek := kcell_no e
      rw [e, ek]
      have hst := fun (p : Addr) (W : World) => run_store Try.prog W p .nilFunc .plain rfl
      have VV := Lib.hid V1.out
      go_enter Try.func41, Try.ntmps41
      go_upto_region 1 with fail
      rw [← HW1.out, Hg.out]
      have x0 := V1.out.at1 (i := 0) rfl
      have y0 := V1.out.fr1 (i := 0) (by omega)
      have U1 := Lib.hid (V1.out.set1 (i := 0) (by omega) .nilFunc)
      have x1 := U1.out.at1 (i := 1) rfl
      have y1 := U1.out.fr1 (i := 1) (by omega)
      have U2 := Lib.hid (U1.out.set1 (i := 1) (by omega) .nilFunc)
      have x2 := U2.out.at1 (i := 2) rfl
      have y2 := U2.out.fr1 (i := 2) (by omega)
      have U3 := Lib.hid (U2.out.set1 (i := 2) (by omega) .nilFunc)
      have x3 := U3.out.at1 (i := 3) rfl
      have y3 := U3.out.fr1 (i := 3) (by omega)
      have U4 := Lib.hid (U3.out.set1 (i := 3) (by omega) .nilFunc)
      have B4 := Lib.hid (show Below w.heap.size w ((((W1.setCell ⟨g, 0, none⟩ .nilFunc).setCell ⟨g, 1, none⟩ .nilFunc).setCell ⟨g, 2, none⟩ .nilFunc).setCell ⟨g, 3, none⟩ .nilFunc) from (((b1.out.setCell (p := ⟨g, 0, none⟩) (by rw [Hg.out]; exact Nat.le_refl _) _).setCell (p := ⟨g, 1, none⟩) (by rw [Hg.out]; exact Nat.le_refl _) _).setCell (p := ⟨g, 2, none⟩) (by rw [Hg.out]; exact Nat.le_refl _) _).setCell (p := ⟨g, 3, none⟩) (by rw [Hg.out]; exact Nat.le_refl _) _)
      go_wp2_with fail
      exact bodyPost_ret (v := .tuple #[.agg kc0.toArray, .bool false]) (results_mid_tmp (p := 2) (u := 3) (ty := 71) rfl _ _ g 0 kc0 _ rfl U4.out.range Try.underlying71 rfl (kcell_size 0)) rfl ⟨rfl, B4.out⟩
    · have e : kindB x = true := by unfold kindB; simp; omega
      rw [e]
      obtain ⟨k, rfl⟩ : ∃ k : Nat, x = (k : Int) := ⟨x.toNat, by omega⟩
      have ck := cut_kinds k (by omega) (by omega)
      have KA := Lib.hid (kinds_any W1)
      go_enter Try.func41, Try.ntmps41
      go_upto_region 1 with fail
      rw [← HW1.out, Hg.out]
      go_wp2_with (first
          | (go_at_call 73; refine KA.out.mono ?_; rintro e w5 ⟨rfl, hb⟩; have B5 := Lib.hid (b1.out.trans (hb.mono b1.out.size)); have V5 := Lib.hid (V1.out.grow hb); have VT := Lib.hid (vthere V5.out (us := kcell k) (kcell_len _)); clear hb)

          | (with_reducible show wpList _ _ _ (⟨none, .store 71 (.tmp 2) (.tmp 13), _, _, _, _⟩ :: _) _ _; refine wpList_store_as (op := ⟨none, .store 71 (.tmp 2) (.tmp 13), _, _, _, _⟩) rfl 71 (.tmp 2) (.tmp 13) rfl (g) 0 (kcell k).toArray rfl rfl (VT.out) (kcell_sizeA _) (kcell_oneA _) ?_; intro w9 hw9))
      obtain ⟨V9, b9⟩ := vstored V5.out (kcell_len k) hw9 (by rw [Hg.out]; exact Nat.le_refl _) B5.out
      exact bodyPost_ret (v := .tuple #[.agg (kcell k).toArray, .bool true]) (results_mid_tmp (p := 2) (u := 3) (ty := 71) rfl _ _ g 0 (kcell k) _ rfl V9.range Try.underlying71 rfl (kcell_size k)) rfl ⟨rfl, b9⟩
theorem noneX_z {x : MX} (hb : x.body.length = x.n) (he : x.es.length = x.en) (hm : x.ms.length = x.mn) : noneX x = noneB x.z := by
  rw [Bool.eq_iff_iff]
  unfold noneX noneB zA zB zC zD zE MX.z
  simp only [Bool.and_eq_true, decide_eq_true_eq, List.length_map, he, hm, and_assoc]
  rw [← hb, List.length_eq_zero_iff]
theorem othX_z (x : MX) : (othX x.kind x).z = othM x.z := by
  unfold othX othM
  show (if x.kind = 1 ∨ x.kind = 6 then _ else _ : MX).z = if x.kind = 1 ∨ x.kind = 6 then _ else if x.kind = 2 then _ else if x.kind = 3 then _ else if x.kind = 4 then _ else _
  split
  · rfl
  · split
    · rfl
    · split
      · rfl
      · split
        · rfl
        · rfl
theorem othX_ok {w : World} {B : Nat} {x : MX} (k : Int) (h : MXOk w B x) : MXOk w B (othX k x) := by
  unfold othX
  split
  · exact ⟨h.kind, inM0, inM0, Nat.le_refl _, Nat.zero_le _, Bs.nil, h.upto, h.frm, h.ecap, h.emax, h.es, h.hav, h.don, h.ep, h.mcap, h.mmax, h.ms, h.since⟩
  · split
    · exact ⟨h.kind, h.client, h.id, h.cap, h.max, h.body, inM0, inM0, Nat.le_refl _, Nat.zero_le _, ents0 w B, h.hav, h.don, h.ep, h.mcap, h.mmax, h.ms, h.since⟩
    · split
      · exact ⟨h.kind, h.client, h.id, h.cap, h.max, h.body, h.upto, h.frm, h.ecap, h.emax, h.es, inM0, inM0, h.ep, h.mcap, h.mmax, h.ms, h.since⟩
      · split
        · exact ⟨h.kind, h.client, h.id, h.cap, h.max, h.body, h.upto, h.frm, h.ecap, h.emax, h.es, h.hav, h.don, inM0, Nat.le_refl _, Nat.zero_le _, mems0 w B, h.since⟩
        · exact ⟨h.kind, h.client, h.id, h.cap, h.max, h.body, h.upto, h.frm, h.ecap, h.emax, h.es, h.hav, h.don, h.ep, h.mcap, h.mmax, h.ms, inM0⟩
theorem none_oth {w : World} {B : Nat} {x : MX} (h : MXOk w B x) : noneX (othX x.kind x) = noneB (othM x.z) := by
  have h' := othX_ok x.kind h
  rw [noneX_z h'.body.len h'.es.row.len h'.ms.row.len, othX_z]
theorem kind_cases {k : Int} (h : kindB k = true) : k = 1 ∨ k = 2 ∨ k = 3 ∨ k = 4 ∨ k = 5 ∨ k = 6 := by
  unfold kindB at h
  simp only [Bool.and_eq_true, decide_eq_true_eq] at h
  omega
end Go.Proofs.Ytfihiandifnkpaa
