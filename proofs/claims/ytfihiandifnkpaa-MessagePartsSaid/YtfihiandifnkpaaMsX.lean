/- MessageParted. Printed by gen_msx.py. -/
import Derived.Test.YtfihiandifnkpaaMsW
namespace Go.Proofs.Ytfihiandifnkpaa
open Go.ChangeShapes Go.WideShapes Go.ChangeAt Go.RowKit
set_option linter.unusedVariables false
set_option maxRecDepth 100000
set_option linter.unusedSimpArgs false
open Plain Sha Ms
set_option maxHeartbeats 4000000 in
theorem takeentry_own {w : World} {b : Nat} {B : Span} {s : St} (h : RdP b B w s) (t : StM s) : Calls Try.prog 34 #[.pointer (some ⟨b, 0, none⟩)] w (fun e w' => ∃ x : EX, e = .returned (.agg (ec x).toArray) ∧ x.z = (if (entR s).2.1 = 0 then (entR s).1 else ez0) ∧ RdP b B w' (entR s).2 ∧ w.grownBy w' (some b) ∧ EOk w' w'.heap.size x ∧ x.n ≤ 65536 ∧ w'.ownsRow w.heap.size 5 1 (.slice x.A x.n x.c) x.n (vals x.body)) := by
  obtain ⟨a1, s1, e1⟩ : ∃ a s', rInt s = (a, s') := ⟨_, _, rfl⟩
  obtain ⟨g1, t1⟩ := int_rm t e1
  obtain ⟨z, s2, e2⟩ : ∃ z s', restR a1 s1 = (z, s') := ⟨_, _, rfl⟩
  have HR : Hid (entR s = (z, s2)) := Lib.hid (by unfold entR; simp only [e1, e2])
  rw [HR.out]
  have E1 := Lib.hid e1
  have E2 := Lib.hid e2
  clear e1 e2
  have RK := Lib.hid (rdk_P (B := B) (Rd.lt h))
  obtain ⟨W1, hW1⟩ : ∃ W, W = w.alloc (.cells #[.int .i64 0, .int .i64 0, .int .i64 0, .int .i64 0, .slice none 0 0] 42) := ⟨_, rfl⟩
  obtain ⟨g, hg⟩ : ∃ g, w.heap.size = g := ⟨_, rfl⟩
  have Hg := Lib.hid hg
  have V1 := Lib.hid (show VBox W1 g 5 (ec ex0) by rw [hW1]; exact vbox_new _ (ec ex0) _ _ _ hg rfl (by omega))
  have G0 := Lib.hid (show w.grownBy W1 (some b) by rw [hW1]; exact grown_alloc w _ _)
  have R0 := Lib.hid (show RdP b B W1 s from RK.out.keep w W1 s none h (by rw [hW1]; exact grown_alloc w _ _) (fun j hj => by cases hj))
  have GW0 := Lib.hid (grown_refl W1 (some b))
  have HW1 := Lib.hid hW1
  clear hW1 hg h
  go_enter Try.func34, Try.ntmps34
  go_upto_region 1 with fail
  rw [← HW1.out, Hg.out]
  go_upto_region 2 with (first
        | (go_at_call 68; refine (int_st R0.out E1.out).mono ?_; rintro e v1 ⟨rfl, hr, hg⟩; have R1 := Lib.hid hr; have GW1 := Lib.hid (grown_trans GW0.out hg); clear hr hg; have TR := Lib.hid (takerest_any R1.out a1 g1 t1); clear E1)
        | (go_at_call 67; refine TR.out.mono ?_; rintro e v2 ⟨x, he, hz, hr, hg, ho, hx, hn⟩; have he : e = .returned (.agg #[.int .i64 x.pos, .int .i64 x.stamp, .int .i64 x.client, .int .i64 x.id, .slice x.A x.n x.c]) := he; subst he; have R2 := Lib.hid hr; have GW2 := Lib.hid (grown_trans GW1.out hg); have OX := Lib.hid hx; have HO := Lib.hid (own_base ho GW1.out.size); clear hr hg ho hx))
  obtain ⟨w7, hw7⟩ : ∃ W, W = v2.alloc (.cells (ec x).toArray 42) := ⟨_, rfl⟩
  have HZ : Hid (x.z = z) := Lib.hid (by rw [hz, E2.out])
  have R7 := Lib.hid (show RdP b B w7 s2 by rw [hw7]; have := R2.out; rw [E2.out] at this; exact RK.out.keep v2 _ _ none this (grown_alloc v2 _ _) (fun j hj => by cases hj))
  have V7 := Lib.hid (show VBox w7 v2.heap.size 5 (ec x) by rw [hw7]; exact vbox_new v2 (ec x) _ _ _ rfl rfl (by omega))
  have G7 := Lib.hid (show W1.grownBy w7 (some b) by rw [hw7]; exact grown_trans GW2.out (grown_alloc v2 _ _))
  have V17 := Lib.hid (show VBox w7 g 5 (ec ex0) from V1.out.same (G7.out.block g V1.out.lt (fun e => by injection e with e; have := RK.out.lt; have := Hg.out; omega)))
  have OX7 := Lib.hid (show EOk w7 w7.heap.size x by rw [hw7]; exact OX.out.grow (below_one _ _) (Nat.le_refl _))
  have ne3 : g < v2.heap.size := Nat.lt_of_lt_of_le V1.out.lt GW2.out.size
  have HO7 := Lib.hid (show w7.ownsRow W1.heap.size 5 1 (.slice x.A x.n x.c) x.n (vals x.body) by rw [hw7]; exact own_below HO.out (below_one _ _) (Nat.le_refl _))
  obtain ⟨g3, hg3⟩ : ∃ g, v2.heap.size = g := ⟨_, rfl⟩
  rw [hg3] at V7 ne3
  have ER := Lib.hid (err_any R7.out)
  have hex : (#[Value.int .i64 x.pos, .int .i64 x.stamp, .int .i64 x.client, .int .i64 x.id, .slice x.A x.n x.c] : Array Value) = (ec x).toArray := rfl
  rw [hex, ← hw7, hg3]
  clear hw7 hz hg3 hex
  by_cases hb : s2.1 = 0
  · have hbb : (s2.1 != 0) = false := by simp [hb]
    have VT := Lib.hid (vthere V17.out (us := ec x) rfl)
    have HB := Lib.hid hb
    clear hb
    go_wp2_with (first
          | (go_at_call 69; refine ER.out.mono ?_; rintro e v8 ⟨rfl, rfl⟩)
          | (with_reducible show wpList _ _ _ (⟨some 12, .load 42 (.tmp 3), _, _, _, _⟩ :: _) _ _; refine wpList_load_mid (op := ⟨some 12, .load 42 (.tmp 3), _, _, _, _⟩) rfl 42 (.tmp 3) rfl (g3) (0) rfl (ec x) _ (V7.out.range) Try.underlying42 rfl (e_size _) ?_)
          | (with_reducible show wpList _ _ _ (⟨none, .store 42 (.tmp 2) (.tmp 12), _, _, _, _⟩ :: _) _ _; refine wpList_store_as (op := ⟨none, .store 42 (.tmp 2) (.tmp 12), _, _, _, _⟩) rfl 42 (.tmp 2) (.tmp 12) rfl (g) 0 (ec x).toArray rfl rfl (VT.out) (e_sizeA _) (e_oneA _) ?_; intro w9 hw9))
    have e9 := hw9.out
    have V9 := V17.out.store (us := ec x) rfl hw9
    have g9 : w7.grownBy w9 (some g) := by rw [e9]; exact grown_cells g _ _ _
    have k9 : EOk w9 w9.heap.size x := ⟨OX7.out.pos, OX7.out.stamp, OX7.out.client, OX7.out.id, OX7.out.cap, OX7.out.max, bs_of_own (own_keepB HO7.out (fun k h1 h2 => by rw [e9]; exact heap_setCells g k (by have := V1.out.lt; omega) _ _ _)) OX7.out.body.isBytes⟩
    exact bodyPost_ret (v := .agg (ec x).toArray) (results_mid (p := 2) (ty := 42) rfl _ _ g 0 _ _ rfl V9.range Try.underlying42 rfl (e_size _)) rfl
      ⟨x, rfl, by first | exact HZ.out | (rw [if_pos HB.out]; exact HZ.out), RK.out.keep w7 w9 _ (some g) R7.out g9 (fun j hj => by injection hj with hj; have := Hg.out; omega), grown_new (grown_trans G0.out G7.out) g9 (fun j hj => by injection hj with hj; have := Hg.out; omega), k9, hn, own_base (own_keepB HO7.out (fun k h1 h2 => by rw [e9]; exact heap_setCells g k (by have := V1.out.lt; omega) _ _ _)) G0.out.size⟩
  · have hbb : (s2.1 != 0) = true := by simp [hb]
    have VT := Lib.hid (vthere V17.out (us := ec ex0) rfl)
    have HB := Lib.hid hb
    clear hb
    have VU := Lib.hid V17.out
    go_wp2_with (first
          | (go_at_call 69; refine ER.out.mono ?_; rintro e v8 ⟨rfl, rfl⟩)
          | (with_reducible show wpList _ _ _ (⟨some 11, .build 42 #[], _, _, _, _⟩ :: _) _ _; refine wpList_exec (op := ⟨some 11, .build 42 #[], _, _, _, _⟩) rfl (.agg (ec ex0).toArray) (by exact exec_e0 rfl rfl) ?_)
          | (with_reducible show wpList _ _ _ (⟨none, .store 42 (.tmp 2) (.tmp 11), _, _, _, _⟩ :: _) _ _; refine wpList_store_as (op := ⟨none, .store 42 (.tmp 2) (.tmp 11), _, _, _, _⟩) rfl 42 (.tmp 2) (.tmp 11) rfl (g) 0 (ec ex0).toArray rfl rfl (VT.out) (e_sizeA _) (e_oneA _) ?_; intro w9 hw9))
    have e9 := hw9.out
    have V9 := V17.out.store (us := ec ex0) rfl hw9
    have g9 : w7.grownBy w9 (some g) := by rw [e9]; exact grown_cells g _ _ _
    have k9 : EOk w9 w9.heap.size ex0 := ex0_ok _ _
    exact bodyPost_ret (v := .agg (ec ex0).toArray) (results_mid (p := 2) (ty := 42) rfl _ _ g 0 _ _ rfl V9.range Try.underlying42 rfl (e_size _)) rfl
      ⟨ex0, rfl, by first | rfl | (rw [if_neg HB.out]; rfl), RK.out.keep w7 w9 _ (some g) R7.out g9 (fun j hj => by injection hj with hj; have := Hg.out; omega), grown_new (grown_trans G0.out G7.out) g9 (fun j hj => by injection hj with hj; have := Hg.out; omega), k9, Nat.zero_le _, World.ownsRow_nil _ _ _ _⟩
theorem EOk.z {w : World} {B : Nat} {x : EX} (h : EOk w B x) (hn : x.n ≤ 2000) : EntOk x.z := ⟨h.pos, h.stamp, h.client, h.id, h.body.isBytes, by show x.body.length ≤ 65536; rw [h.body.len]; omega⟩
def partF (e : EntZ) (ep : Int) (ms : List MemZ) : List Int := entF e ++ (confF ep ms ++ entF e)
theorem part_puts (e : EntZ) (ep : Int) (ms : List MemZ) (h : e.body.length ≤ 2000) (hm : ms.length ≤ 5) : wPuts (wPuts (wPuts (some []) (n64 e.pos :: restP e)) (confP ep ms)) (n64 e.pos :: restP e) = some (partF e ep ms) ∧ (partF e ep ms).length ≤ 5000 := by
  have l1 : (n64 e.pos :: restP e).flatten = entF e := by rw [List.flatten_cons, restP_flat]; rfl
  have n1 : (entF e).length = 36 + e.body.length := by unfold entF; rw [List.length_append, n64_len', restF_len]; omega
  have n2 : (confF ep ms).length = 16 + ms.length * 17 := by unfold confF; simp only [List.length_append, n64_len', msF_len]
  have n3 : (partF e ep ms).length ≤ 5000 := by unfold partF; simp only [List.length_append, n1, n2]; omega
  refine ⟨?_, n3⟩
  rw [← wPuts_app, ← wPuts_app, wPuts_some _ _ (by simp only [List.flatten_append, l1, confP_flat, List.length_append, n1, n2, List.length_nil]; omega)]
  simp only [List.flatten_append, l1, confP_flat, List.nil_append, List.append_assoc]
  rfl
set_option maxHeartbeats 16000000 in
theorem msparted_in (x : EX) (ep : Int) (A : Option Addr) (n c : Nat) (l : List MemZ) (w : World) (h : EOk w w.heap.size x) (hxn : x.n ≤ 140737488355328) (hep : InM ep) (hms : Mems w w.heap.size A n l) (hc1 : n ≤ c) (hc2 : c ≤ maxLen) (hc3 : n ≤ 140737488355328) : Calls Try.prog 9 #[.agg (ec x).toArray, .agg (gc ep A n c).toArray] w (fun e w' => e = .returned (.bool true) ∧ Below w.heap.size w w') := by
  obtain ⟨W1, hW1⟩ : ∃ W, W = (w.alloc (.cells (ec x).toArray 42)).alloc (.cells (gc ep A n c).toArray 26) := ⟨_, rfl⟩
  have b1 := Lib.hid (show Below w.heap.size w W1 by rw [hW1]; exact ((Below.refl _ _).alloc (Nat.le_refl _) _).alloc (by simp) _)
  obtain ⟨g, hg⟩ : ∃ g, w.heap.size = g := ⟨_, rfl⟩
  have Hg := Lib.hid hg
  have V1 : Hid (VBox W1 g 5 (ec x)) := Lib.hid (by rw [hW1, ← hg]; exact (vbox_new w (ec x) _ _ 5 rfl rfl (by omega)).grow (below_one _ _))
  have U1 : Hid (VBox W1 (g + 1) 2 (gc ep A n c)) := Lib.hid (by rw [hW1, ← hg]; exact vbox_new _ (gc ep A n c) _ _ 2 (by simp) rfl (by omega))
  have HW1 := Lib.hid hW1
  have AW := Lib.hid (awake_anyM W1)
  have HX := Lib.hid h
  have HM := Lib.hid hms
  have HEP := Lib.hid hep
  clear hW1 hg h hms hep
  go_enter Try.func9, Try.ntmps9
  go_upto_region 1 with fail
  rw [← HW1.out, Hg.out]
  go_upto_region 3 with (go_at_call 30; refine AW.out.mono ?_; rintro e w2 ⟨rfl, hb⟩; have B2 := Lib.hid hb; clear hb)
  have B2w := Lib.hid (b1.out.trans (B2.out.mono b1.out.size))
  have V2 := Lib.hid (V1.out.grow B2.out)
  have U2 := Lib.hid (U1.out.grow B2.out)
  obtain ⟨q0, q1, q2, q3, q4⟩ := V2.out.e
  obtain ⟨p0, p1⟩ := U2.out.g
  by_cases h1 : 2000 < x.n
  · have i1 : (2000 : Int) < (x.n : Int) := by omega
    go_wp2
    go_ret
    exact ⟨rfl, B2w.out⟩
  · have i1 : ¬ (2000 : Int) < (x.n : Int) := by omega
    by_cases h2 : 5 < n
    · have i2 : (5 : Int) < (n : Int) := by omega
      go_wp2
      go_ret
      exact ⟨rfl, B2w.out⟩
    · have i2 : ¬ (5 : Int) < (n : Int) := by omega
      have hx2 : x.n ≤ 2000 := by omega
      have hn5 : n ≤ 5 := by omega
      have ZO := Lib.hid (EOk.z HX.out hx2)
      have PT := Lib.hid (part_puts x.z ep l (by show x.body.length ≤ 2000; rw [HX.out.body.len]; exact hx2) (by rw [HM.out.row.len]; exact hn5))
      obtain ⟨F, hF⟩ : ∃ F, partF x.z ep l = F := ⟨_, rfl⟩
      rw [hF] at PT
      have HF := Lib.hid hF
      have FB : Hid (IsBytes F) := Lib.hid (by
        rw [← hF]
        unfold partF entF
        have a := (n64_isB x.pos).app (restF_isB (e := x.z) HX.out.body.isBytes)
        exact a.app ((confF_isB _ _).app a))
      have NW := Lib.hid (newwriter_any w2)
      clear hF i1 i2 h1 h2
      go_upto_region 6 with (go_at_call 21; refine NW.out.mono ?_; rintro e w3 ⟨rfl, hr, hb, hs⟩; have R3 := Lib.hid hr; have B3 := Lib.hid hb; have S3 := Lib.hid hs; clear hr hb hs)
      obtain ⟨wb, hwb⟩ : ∃ b, w2.heap.size = b := ⟨_, rfl⟩
      rw [hwb] at R3 B3 S3 ⊢
      have Hwb := Lib.hid hwb
      have hgb : g + 1 < wb := by have := U2.out.lt; rw [hwb] at this; exact this
      have hwB : w.heap.size ≤ wb := by rw [← hwb]; exact B2w.out.size
      have B3w := Lib.hid (B2w.out.trans (B3.out.mono hwB))
      have V3 := Lib.hid (V2.out.below B3.out (by omega))
      have U3 := Lib.hid (U2.out.below B3.out hgb)
      have CP1 := Lib.hid (putentry_any R3.out (HX.out.below B3w.out (Nat.le_refl _)) hwB (by omega))
      clear hwb q0 q1 q2 q3 q4 p0 p1
      go_upto_region 7 with (first
        | (with_reducible show wpList _ _ _ (⟨some 26, .load 42 (.tmp 2), _, _, _, _⟩ :: _) _ _; refine wpList_load_mid (op := ⟨some 26, .load 42 (.tmp 2), _, _, _, _⟩) rfl 42 (.tmp 2) rfl (g) (0) rfl (ec x) _ (V3.out.range) Try.underlying42 rfl (e_size _) ?_)
        | (go_at_call 20; refine CP1.out.mono ?_; rintro e w4 ⟨rfl, g4, r4, o4, f4⟩))
      have B4 := Lib.hid (show Below wb w3 w4 from Wr.below R3.out o4 (Nat.le_refl _))
      have R4 := Lib.hid r4
      have B4w := Lib.hid (B3w.out.trans (B4.out.mono hwB))
      have V4 := Lib.hid (V3.out.below B4.out (by omega))
      have U4 := Lib.hid (U3.out.below B4.out hgb)
      obtain ⟨p0, p1⟩ := U4.out.g
      have CP2 := Lib.hid (putconf_any R4.out c ep HEP.out (HM.out.below B4w.out (Nat.le_refl _)) hwB (by omega))
      clear r4 o4 f4
      go_upto_region 8 with (go_at_call 23; refine CP2.out.mono ?_; rintro e w5 ⟨rfl, g5, r5, o5, f5⟩)
      have B5 := Lib.hid (show Below wb w4 w5 from Wr.below R4.out o5 (Nat.le_refl _))
      have R5 := Lib.hid r5
      have B5w := Lib.hid (B4w.out.trans (B5.out.mono hwB))
      have V5 := Lib.hid (V4.out.below B5.out (by omega))
      have U5 := Lib.hid (U4.out.below B5.out hgb)
      have CP3 := Lib.hid (putentry_any R5.out (HX.out.below B5w.out (Nat.le_refl _)) hwB (by omega))
      clear r5 o5 f5 p0 p1
      go_upto_region 9 with (first
        | (with_reducible show wpList _ _ _ (⟨some 32, .load 42 (.tmp 2), _, _, _, _⟩ :: _) _ _; refine wpList_load_mid (op := ⟨some 32, .load 42 (.tmp 2), _, _, _, _⟩) rfl 42 (.tmp 2) rfl (g) (0) rfl (ec x) _ (V5.out.range) Try.underlying42 rfl (e_size _) ?_)
        | (go_at_call 20; refine CP3.out.mono ?_; rintro e w6 ⟨rfl, g6, r6, o6, f6⟩))
      have B6 := Lib.hid (show Below wb w5 w6 from Wr.below R5.out o6 (Nat.le_refl _))
      have R6 := Lib.hid (show Wr w6 wb g6 (some F) by rw [← PT.out.1]; exact r6)
      have B6w := Lib.hid (B5w.out.trans (B6.out.mono hwB))
      have V6 := Lib.hid (V5.out.below B6.out (by omega))
      have U6 := Lib.hid (U5.out.below B6.out hgb)
      have DN := Lib.hid (done_ok R6.out)
      clear r6 o6 f6
      go_upto_region 10 with (go_at_call 22; refine DN.out.mono ?_; rintro e w7 ⟨u, rfl, hu, hb⟩; have HU := Lib.hid hu; have B7 := Lib.hid hb; clear hu hb)
      obtain ⟨D, cD, rfl, hs, hcD, hmD⟩ := HU.out.bs FB.out
      have B7w := Lib.hid (B6w.out.trans (B7.out.mono B6w.out.size))
      have V7 := Lib.hid (V6.out.grow B7.out)
      have U7 := Lib.hid (U6.out.grow B7.out)
      have NR := Lib.hid (newreader_any (w := w7) cD hs (Nat.le_refl _) (by have := PT.out.2; omega))
      have HW : Hid (newWhy F = (0, F)) := Lib.hid (by unfold newWhy; rw [if_pos (by have := PT.out.2; omega)])
      have HFL : 0 < F.length := by
        rw [← HF.out]; unfold partF entF; simp only [List.length_append, n64_len']; omega
      clear hs hcD hmD
      go_upto_region 11 with (go_at_call 33; refine NR.out.mono ?_; rintro e w8 ⟨rb, rfl, hrd, hbl, hb⟩; rw [HW.out] at hrd; have B8 := Lib.hid hb; have BL := Lib.hid hbl; have R8 := Lib.hid (show RdP rb ⟨w7.heap.size, rb⟩ w8 (0, F) from hrd); clear hrd hbl hb)
      have T0 : StM (0, F) := ⟨FB.out, by have := PT.out.2; show F.length ≤ 65536; omega⟩
      have e1 : entR (0, F) = (x.z, 0, confF ep l ++ entF x.z) := by rw [← HF.out]; exact entR_app ZO.out _
      have e2 : confR (0, confF ep l ++ entF x.z) = ((ep, l), 0, entF x.z) := confR_app HEP.out HM.out.ok (by rw [HM.out.row.len]; exact hn5) _
      have e3 : entR (0, entF x.z) = (x.z, 0, []) := by have := entR_app ZO.out []; rw [List.append_nil] at this; exact this
      have TB : IsBytes (confF ep l ++ entF x.z) ∧ IsBytes (entF x.z) := by
        have a := (n64_isB x.pos).app (restF_isB (e := x.z) HX.out.body.isBytes)
        exact ⟨(confF_isB _ _).app a, a⟩
      have hFl : (confF ep l ++ entF x.z).length ≤ 65536 ∧ (entF x.z).length ≤ 65536 := by
        have := PT.out.2
        rw [← HF.out] at this
        unfold partF at this
        simp only [List.length_append] at this ⊢
        omega
      have TK1 := Lib.hid (takeentry_own R8.out T0)
      rw [e1] at TK1
      have TK2 := Lib.hid (fun (W : World) (hW : RdP rb ⟨w7.heap.size, rb⟩ W (0, confF ep l ++ entF x.z)) => show Calls Try.prog 35 #[.pointer (some ⟨rb, 0, none⟩)] W (ReadsC (RdP rb ⟨w7.heap.size, rb⟩) rb W ep l (0, entF x.z)) from by have := takeconf_any hW ⟨TB.1, hFl.1⟩; rw [e2] at this; exact this)
      have TK3 := Lib.hid (fun (W : World) (hW : RdP rb ⟨w7.heap.size, rb⟩ W (0, entF x.z)) => by have := takeentry_own hW ⟨TB.2, hFl.2⟩; rw [e3] at this; exact this)
      clear e1 e2 e3 T0 TB hFl
      have lt8 := Rd.lt R8.out
      go_upto_region 12 with (first
        | (have gg := TK1; clear gg; go_at_call 34; refine TK1.out.mono ?_; rintro e w9 ⟨y, he, hz, hr, hg, hk, hnn, ho⟩; have he : e = .returned (.agg #[.int .i64 y.pos, .int .i64 y.stamp, .int .i64 y.client, .int .i64 y.id, .slice y.A y.n y.c]) := he; subst he; have R9 := Lib.hid (show RdP rb ⟨w7.heap.size, rb⟩ w9 (0, confF ep l ++ entF x.z) from hr); have G9 := Lib.hid hg; have Y1 := Lib.hid ho; have Z1 := Lib.hid (show y.z = x.z from hz); clear hr hg hk hnn ho hz TK1)
        | (go_at_call 35; refine (TK2.out _ R9.out).mono ?_; rintro e w10 ⟨AC, cC, he, hr, hg, ho, hm, hep, hc1, hc2⟩; have he : e = .returned (.agg #[.int .i64 ep, .slice AC l.length cC]) := he; subst he; have R10 := Lib.hid hr; have G10 := Lib.hid hg; have Y2 := Lib.hid ho; clear hr hg ho hm hep hc1 hc2)
        | (go_at_call 34; refine (TK3.out _ R10.out).mono ?_; rintro e w11 ⟨y3, he, hz, hr, hg, hk, hnn, ho⟩; have he : e = .returned (.agg #[.int .i64 y3.pos, .int .i64 y3.stamp, .int .i64 y3.client, .int .i64 y3.id, .slice y3.A y3.n y3.c]) := he; subst he; have R11 := Lib.hid (show RdP rb ⟨w7.heap.size, rb⟩ w11 (0, []) from hr); have G11 := Lib.hid hg; have Y3 := Lib.hid ho; have Z3 := Lib.hid (show y3.z = x.z from hz); clear hr hg hk hnn ho hz))
      obtain ⟨w12, hw12⟩ : ∃ W, W = ((w11.alloc (.cells #[.int .i64 y.pos, .int .i64 y.stamp, .int .i64 y.client, .int .i64 y.id, .slice y.A y.n y.c] 42)).alloc (.cells #[.int .i64 ep, .slice AC l.length cC] 26)).alloc (.cells #[.int .i64 y3.pos, .int .i64 y3.stamp, .int .i64 y3.client, .int .i64 y3.id, .slice y3.A y3.n y3.c] 42) := ⟨_, rfl⟩
      obtain ⟨g9, hg9⟩ : ∃ g, w11.heap.size = g := ⟨_, rfl⟩
      have b12 := Lib.hid (show Below w11.heap.size w11 w12 by rw [hw12]; exact (((Below.refl _ _).alloc (Nat.le_refl _) _).alloc (by simp) _).alloc (by simp; omega) _)
      have VA := Lib.hid (show VBox w12 g9 5 (ec y) by rw [hw12]; exact ((vbox_new w11 (ec y) _ _ 5 hg9 rfl (by omega)).grow (below_one _ _)).grow (below_one _ _))
      have VC := Lib.hid (show VBox w12 (g9 + 1) 2 (gc ep AC l.length cC) by rw [hw12]; exact (vbox_new _ (gc ep AC l.length cC) _ _ 2 (by simp [hg9]) rfl (by omega)).grow (below_one _ _))
      have VD := Lib.hid (show VBox w12 (g9 + 1 + 1) 5 (ec y3) by rw [hw12]; exact vbox_new _ (ec y3) _ _ 5 (by simp [hg9]) rfl (by omega))
      have hrb : w7.heap.size ≤ rb := BL.out
      have hw7 : w.heap.size ≤ w7.heap.size := B7w.out.size
      have B8w := Lib.hid (B7w.out.trans (B8.out.mono hw7))
      have GA := Lib.hid (grown_trans G9.out (grown_trans G10.out G11.out))
      have B11w := Lib.hid (B8w.out.trans (below_of_grown GA.out B8w.out.size (fun j hj => by injection hj with hj; omega)))
      have B12w := Lib.hid (B11w.out.trans (b12.out.mono B11w.out.size))
      have lv := V7.out.lt
      have lu := U7.out.lt
      have V12 := Lib.hid (((V7.out.grow B8.out).same (GA.out.block g (Nat.lt_of_lt_of_le lv B8.out.size) (fun e => by injection e with e; omega))).grow b12.out)
      have U12 := Lib.hid (((U7.out.grow B8.out).same (GA.out.block (g + 1) (Nat.lt_of_lt_of_le lu B8.out.size) (fun e => by injection e with e; omega))).grow b12.out)
      have R12 := Lib.hid ((rdk_P (B := ⟨w7.heap.size, rb⟩) (show rb < w11.heap.size by have := GA.out.size; omega)).keep w11 w12 _ none R11.out (grown_of_below b12.out none) (fun j hj => by cases hj))
      have kY : ∀ {T : TypeId} {sz n : Nat} {v : Value} {vs : List Value} {wa wb : World}, wa.ownsRow w8.heap.size T sz v n vs → wa.grownBy wb (some rb) → wb.ownsRow w8.heap.size T sz v n vs := fun ho hg => own_keepB ho (fun j h1 h2 => hg.block j h2 (fun e => by injection e with e; omega))
      have s9 := G9.out.size
      have s10 := G10.out.size
      have O1 := Lib.hid (own_below (kY (kY Y1.out G10.out) G11.out) b12.out (Nat.le_refl _))
      have O2 := Lib.hid (own_below (kY (own_base Y2.out s9) G11.out) b12.out (Nat.le_refl _))
      have O3 := Lib.hid (own_below Y3.out b12.out (Nat.le_refl _))
      have K1 := Lib.hid (show EOk w12 w12.heap.size y from eok_of_own O1.out (by rw [Z1.out]; exact ZO.out))
      have K3 := Lib.hid (show EOk w12 w12.heap.size y3 from eok_of_own O3.out (by rw [Z3.out]; exact ZO.out))
      have K2 := Lib.hid (show Mems w12 w12.heap.size AC l.length l from ⟨rws_of_own bc_len (by omega) O2.out, HM.out.ok⟩)
      have EM := Lib.hid (end_st R12.out 0 rfl)
      have SM1 := Lib.hid (sament_any (w := w12) true K1.out (HX.out.below B12w.out (Nat.le_refl _)) (Nat.le_refl _) B12w.out.size (by rw [Z1.out]; exact entE_refl _))
      have SC := Lib.hid (fun (W : World) (hW : Below w12.heap.size w12 W) => samconf_any (w := W) cC c ep ep true (K2.out.below hW (Nat.le_refl _)) ((HM.out.below B12w.out (Nat.le_refl _)).below hW B12w.out.size) hW.size (Nat.le_trans B12w.out.size hW.size) (by rw [HM.out.row.len]; omega) (by rw [msE_refl]; simp))
      have SM3 := Lib.hid (fun (W : World) (hW : Below w12.heap.size w12 W) => sament_any (w := W) true (K3.out.below hW (Nat.le_refl _)) ((HX.out.below B12w.out (Nat.le_refl _)).below hW B12w.out.size) hW.size (Nat.le_trans B12w.out.size hW.size) (by rw [Z3.out]; exact entE_refl _))
      have hFLi : (0 : Int) < (F.length : Int) := by omega
      rw [← hw12, hg9]
      clear hw12 hg9 lt8 hrb hw7 lv lu kY s9 s10
      go_wp2_with (first
        | (go_at_call 36; refine EM.out.mono ?_; rintro e v13 ⟨rfl, rfl⟩)
        | (with_reducible show wpList _ _ _ (⟨some 60, .load 42 (.tmp 9), _, _, _, _⟩ :: _) _ _; refine wpList_load_guardL (op := ⟨some 60, .load 42 (.tmp 9), _, _, _, some (12, true)⟩) (by first | rfl | go_simp) 42 (.tmp 9) rfl (g9) (0) rfl (ec y) _ (VA.out.range) Try.underlying42 rfl (e_size _) ?_)
        | (with_reducible show wpList _ _ _ (⟨some 61, .load 42 (.tmp 2), _, _, _, _⟩ :: _) _ _; refine wpList_load_guardL (op := ⟨some 61, .load 42 (.tmp 2), _, _, _, some (12, true)⟩) (by first | rfl | go_simp) 42 (.tmp 2) rfl (g) (0) rfl (ec x) _ (V12.out.range) Try.underlying42 rfl (e_size _) ?_)
        | (have gg := SM1; clear gg; go_at_call 37; refine SM1.out.mono ?_; rintro e w13 ⟨rfl, hb⟩; have B13 := Lib.hid hb; obtain ⟨c0, c1⟩ := (VC.out.grow hb).g; obtain ⟨p0, p1⟩ := (U12.out.grow hb).g; clear hb SM1)
        | (go_at_call 38; refine (SC.out _ B13.out).mono ?_; rintro e w14 ⟨rfl, hb⟩; have B14 := Lib.hid (B13.out.trans (hb.mono B13.out.size)); have VD2 := Lib.hid (VD.out.grow B14.out); have V14 := Lib.hid (V12.out.grow B14.out); clear hb)
        | (with_reducible show wpList _ _ _ (⟨some 70, .load 42 (.tmp 11), _, _, _, _⟩ :: _) _ _; refine wpList_load_guardL (op := ⟨some 70, .load 42 (.tmp 11), _, _, _, some (22, true)⟩) (by first | rfl | go_simp) 42 (.tmp 11) rfl (g9 + 1 + 1) (0) rfl (ec y3) _ (VD2.out.range) Try.underlying42 rfl (e_size _) ?_)
        | (with_reducible show wpList _ _ _ (⟨some 71, .load 42 (.tmp 2), _, _, _, _⟩ :: _) _ _; refine wpList_load_guardL (op := ⟨some 71, .load 42 (.tmp 2), _, _, _, some (22, true)⟩) (by first | rfl | go_simp) 42 (.tmp 2) rfl (g) (0) rfl (ec x) _ (V14.out.range) Try.underlying42 rfl (e_size _) ?_)
        | (go_at_call 37; refine (SM3.out _ B14.out).mono ?_; rintro e w15 ⟨rfl, hb⟩; have B15 := Lib.hid (B14.out.trans (hb.mono B14.out.size)); clear hb))
      go_ret
      exact ⟨rfl, B12w.out.trans (B15.out.mono B12w.out.size)⟩
end Go.Proofs.Ytfihiandifnkpaa
