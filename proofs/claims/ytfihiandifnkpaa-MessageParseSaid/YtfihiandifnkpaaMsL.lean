/- Entries, configurations that are read: the program's. Printed by gen_msl.py. -/
import Derived.Test.YtfihiandifnkpaaMsK
namespace Go.Proofs.Ytfihiandifnkpaa
open Go.ChangeShapes Go.WideShapes Go.ChangeAt Go.RowKit
set_option linter.unusedVariables false
set_option maxRecDepth 100000
set_option linter.unusedSimpArgs false
open Plain Sha Ms
theorem grown_cells (b : Nat) : ∀ (vs : List Value) (o : Nat) (w : World), w.grownBy (w.setCells b o vs) (some b)
  | [], _, w => grown_refl w _
  | v :: r, o, w => by
    rw [World.setCells]
    exact grown_trans (grown_cell w ⟨b, o, none⟩ v) (grown_cells b r (o + 1) _)
set_option maxHeartbeats 4000000 in
theorem takerest_any {w : World} {b : Nat} {B : Span} {s : St} (h : RdP b B w s) (pos : Int) (hp : InM pos) (t : StM s) : Calls Try.prog 67 #[.pointer (some ⟨b, 0, none⟩), .int .i64 pos] w (ReadsE (RdP b B) b w (restR pos s).1 (restR pos s).2) := by
  have HE := Lib.hid (rest_rm t hp)
  obtain ⟨a1, s1, e1⟩ : ∃ a s', rInt s = (a, s') := ⟨_, _, rfl⟩
  obtain ⟨a2, s2, e2⟩ : ∃ a s', rInt s1 = (a, s') := ⟨_, _, rfl⟩
  obtain ⟨a3, s3, e3⟩ : ∃ a s', rInt s2 = (a, s') := ⟨_, _, rfl⟩
  obtain ⟨a4, s4, e4⟩ : ∃ a s', rBytes s3 = (a, s') := ⟨_, _, rfl⟩
  have HR : Hid (restR pos s = (⟨pos, a1, a2, a3, a4⟩, s4)) := Lib.hid (by unfold restR; simp only [e1, e2, e3, e4])
  rw [HR.out]
  rw [HR.out] at HE
  have E1 := Lib.hid e1
  have E2 := Lib.hid e2
  have E3 := Lib.hid e3
  have E4 := Lib.hid e4
  clear e1 e2 e3 e4
  have RK := Lib.hid (rdk_P (B := B) (Rd.lt h))
  obtain ⟨W1, hW1⟩ : ∃ W, W = w.alloc (.cells #[.int .i64 0, .int .i64 0, .int .i64 0, .int .i64 0, .slice none 0 0] 42) := ⟨_, rfl⟩
  obtain ⟨g, hg⟩ : ∃ g, w.heap.size = g := ⟨_, rfl⟩
  have Hg := Lib.hid hg
  have V1 := Lib.hid (show VBox W1 g 5 (ec ex0) by rw [hW1]; exact vbox_new _ (ec ex0) _ _ _ hg rfl (by omega))
  have G0 := Lib.hid (show w.grownBy W1 (some b) by rw [hW1]; exact grown_alloc w _ _)
  have R0 := Lib.hid (show RdP b B W1 s from RK.out.keep w W1 s none h (by rw [hW1]; exact grown_alloc w _ _) (fun j hj => by cases hj))
  have GW0 := Lib.hid (grown_refl W1 (some b))
  have HW1 := Lib.hid hW1
  clear hW1 hg h
  go_enter Try.func67, Try.ntmps67
  go_upto_region 1 with fail
  rw [← HW1.out, Hg.out]
  go_wp2_with (first
        | (go_at_call 68; refine (int_st R0.out E1.out).mono ?_; rintro e v1 ⟨rfl, hr, hg⟩; have R1 := Lib.hid hr; have GW1 := Lib.hid (grown_trans GW0.out hg); clear hr hg; clear E1)
        | (go_at_call 68; refine (int_st R1.out E2.out).mono ?_; rintro e v2 ⟨rfl, hr, hg⟩; have R2 := Lib.hid hr; have GW2 := Lib.hid (grown_trans GW1.out hg); clear hr hg; clear E2)
        | (go_at_call 68; refine (int_st R2.out E3.out).mono ?_; rintro e v3 ⟨rfl, hr, hg⟩; have R3 := Lib.hid hr; have GW3 := Lib.hid (grown_trans GW2.out hg); clear hr hg; clear E3)
        | (go_at_call 83; refine (bytes_st R3.out E4.out).mono ?_; rintro e v4 ⟨T, rfl, hr, hg, hl⟩; have R4 := Lib.hid hr; have GW4 := Lib.hid (grown_trans GW3.out hg); clear hr hg; obtain ⟨AT, cT, rfl, hoT, hn1, hn2⟩ := hl; have V4 := Lib.hid (V1.out.same (GW4.out.block g V1.out.lt (fun e => by injection e with e; have := RK.out.lt; have := Hg.out; omega))); have VT := Lib.hid (vthere V4.out (us := ec ⟨pos, a1, a2, a3, AT, a4.length, cT, a4⟩) rfl); clear E4)
        | (with_reducible show wpList _ _ _ (⟨none, .store 42 (.tmp 4) (.tmp 14), _, _, _, _⟩ :: _) _ _; refine wpList_store_as (op := ⟨none, .store 42 (.tmp 4) (.tmp 14), _, _, _, _⟩) rfl 42 (.tmp 4) (.tmp 14) rfl (g) 0 (ec ⟨pos, a1, a2, a3, AT, a4.length, cT, a4⟩).toArray rfl rfl (VT.out) (e_sizeA _) (e_oneA _) ?_; intro w9 hw9))
  have e9 := hw9.out
  have k9 : ∀ k, k ≠ g → w9.heap[k]? = v4.heap[k]? := fun k hk => by rw [e9]; exact heap_setCells g k hk _ _ _
  have V9 := V4.out.store (us := ec ⟨pos, a1, a2, a3, AT, a4.length, cT, a4⟩) rfl hw9
  have g9 : v4.grownBy w9 (some g) := by rw [e9]; exact grown_cells g _ _ _
  have hsz := G0.out.size
  have hsz3 := GW3.out.size
  have O9 : w9.ownsRow v3.heap.size 5 1 (.slice AT a4.length cT) a4.length (vals a4) := own_keepB hoT (fun k h1 h2 => k9 k (by have := V1.out.lt; omega))
  have O9w : w9.ownsRow w.heap.size 5 1 (.slice AT a4.length cT) a4.length (vals a4) := own_base O9 (by omega)
  obtain ⟨z1, z2⟩ := HE.out
  exact bodyPost_ret (v := .agg (ec ⟨pos, a1, a2, a3, AT, a4.length, cT, a4⟩).toArray) (results_mid (p := 4) (ty := 42) rfl _ _ g 0 _ _ rfl V9.range Try.underlying42 rfl (e_size _)) rfl
    ⟨⟨pos, a1, a2, a3, AT, a4.length, cT, a4⟩, rfl, rfl, RK.out.keep v4 w9 _ (some g) R4.out g9 (fun j hj => by injection hj with hj; have := Hg.out; omega), grown_new (grown_trans G0.out GW4.out) g9 (fun j hj => by injection hj with hj; have := Hg.out; omega), O9w, ⟨hp, z1.stamp, z1.client, z1.id, hn1, hn2, bs_of_own O9w z1.body⟩, z1.len⟩
theorem build_e0 (W : World) : (Instr.build 42 #[]).run Try.prog W = .ok (.agg (ec ex0).toArray) W := run_build W 42 _ _ (by kernel_rfl)
theorem exec_e0 {P : Program} {a : Act} {op : Oper} {w : World} (hP : P = Try.prog) (ho : op.op = .build 42 #[]) : (execOp a.eval op).run P w = .ok (.value (.agg (ec ex0).toArray)) w := by
  subst hP
  have hb := build_e0 w
  unfold execOp
  simp only [ho]
  simp [hb]
set_option maxHeartbeats 4000000 in
theorem takeentry_any {w : World} {b : Nat} {B : Span} {s : St} (h : RdP b B w s) (t : StM s) : Calls Try.prog 34 #[.pointer (some ⟨b, 0, none⟩)] w (fun e w' => ∃ x : EX, e = .returned (.agg (ec x).toArray) ∧ x.z = (if (entR s).2.1 = 0 then (entR s).1 else ez0) ∧ RdP b B w' (entR s).2 ∧ w.grownBy w' (some b) ∧ EOk w' w'.heap.size x ∧ x.n ≤ 65536) := by
  obtain ⟨a1, s1, e1⟩ : ∃ a s', rInt s = (a, s') := ⟨_, _, rfl⟩
  obtain ⟨g1, t1⟩ := int_rm t e1
  obtain ⟨z, s2, e2⟩ : ∃ z s', restR a1 s1 = (z, s') := ⟨_, _, rfl⟩
  have HR : Hid (entR s = (z, s2)) := Lib.hid (by unfold entR; simp only [e1, e2])
  rw [HR.out]
  have E1 := Lib.hid e1
  have E2 := Lib.hid e2
  clear e1 e2
  have RK := Lib.hid (rdk_P (B := B) (Rd.lt h))
  obtain ⟨W1, hW1⟩ : ∃ W, W = w.alloc (.cells #[.int .i64 0, .int .i64 0, .int .i64 0, .int .i64 0, .slice none 0 0] 42) := ⟨_, rfl⟩
  obtain ⟨g, hg⟩ : ∃ g, w.heap.size = g := ⟨_, rfl⟩
  have Hg := Lib.hid hg
  have V1 := Lib.hid (show VBox W1 g 5 (ec ex0) by rw [hW1]; exact vbox_new _ (ec ex0) _ _ _ hg rfl (by omega))
  have G0 := Lib.hid (show w.grownBy W1 (some b) by rw [hW1]; exact grown_alloc w _ _)
  have R0 := Lib.hid (show RdP b B W1 s from RK.out.keep w W1 s none h (by rw [hW1]; exact grown_alloc w _ _) (fun j hj => by cases hj))
  have GW0 := Lib.hid (grown_refl W1 (some b))
  have HW1 := Lib.hid hW1
  clear hW1 hg h
  go_enter Try.func34, Try.ntmps34
  go_upto_region 1 with fail
  rw [← HW1.out, Hg.out]
  go_upto_region 2 with (first
        | (go_at_call 68; refine (int_st R0.out E1.out).mono ?_; rintro e v1 ⟨rfl, hr, hg⟩; have R1 := Lib.hid hr; have GW1 := Lib.hid (grown_trans GW0.out hg); clear hr hg; have TR := Lib.hid (takerest_any R1.out a1 g1 t1); clear E1)
        | (go_at_call 67; refine TR.out.mono ?_; rintro e v2 ⟨x, he, hz, hr, hg, ho, hx, hn⟩; have he : e = .returned (.agg #[.int .i64 x.pos, .int .i64 x.stamp, .int .i64 x.client, .int .i64 x.id, .slice x.A x.n x.c]) := he; subst he; have R2 := Lib.hid hr; have GW2 := Lib.hid (grown_trans GW1.out hg); have OX := Lib.hid hx; have HO := Lib.hid (own_base ho GW1.out.size); clear hr hg ho hx))
  obtain ⟨w7, hw7⟩ : ∃ W, W = v2.alloc (.cells (ec x).toArray 42) := ⟨_, rfl⟩
  have HZ : Hid (x.z = z) := Lib.hid (by rw [hz, E2.out])
  have R7 := Lib.hid (show RdP b B w7 s2 by rw [hw7]; have := R2.out; rw [E2.out] at this; exact RK.out.keep v2 _ _ none this (grown_alloc v2 _ _) (fun j hj => by cases hj))
  have V7 := Lib.hid (show VBox w7 v2.heap.size 5 (ec x) by rw [hw7]; exact vbox_new v2 (ec x) _ _ _ rfl rfl (by omega))
  have G7 := Lib.hid (show W1.grownBy w7 (some b) by rw [hw7]; exact grown_trans GW2.out (grown_alloc v2 _ _))
  have V17 := Lib.hid (show VBox w7 g 5 (ec ex0) from V1.out.same (G7.out.block g V1.out.lt (fun e => by injection e with e; have := RK.out.lt; have := Hg.out; omega)))
  have OX7 := Lib.hid (show EOk w7 w7.heap.size x by rw [hw7]; exact OX.out.grow (below_one _ _) (Nat.le_refl _))
  have ne3 : g < v2.heap.size := Nat.lt_of_lt_of_le V1.out.lt GW2.out.size
  have HO7 := Lib.hid (show w7.ownsRow W1.heap.size 5 1 (.slice x.A x.n x.c) x.n (vals x.body) by rw [hw7]; exact own_below HO.out (below_one _ _) (Nat.le_refl _))
  obtain ⟨g3, hg3⟩ : ∃ g, v2.heap.size = g := ⟨_, rfl⟩
  rw [hg3] at V7 ne3
  have ER := Lib.hid (err_any R7.out)
  have hex : (#[Value.int .i64 x.pos, .int .i64 x.stamp, .int .i64 x.client, .int .i64 x.id, .slice x.A x.n x.c] : Array Value) = (ec x).toArray := rfl
  rw [hex, ← hw7, hg3]
  clear hw7 hz hg3 hex
  by_cases hb : s2.1 = 0
  · have hbb : (s2.1 != 0) = false := by simp [hb]
    have VT := Lib.hid (vthere V17.out (us := ec x) rfl)
    have HB := Lib.hid hb
    clear hb
    go_wp2_with (first
          | (go_at_call 69; refine ER.out.mono ?_; rintro e v8 ⟨rfl, rfl⟩)
          | (with_reducible show wpList _ _ _ (⟨some 12, .load 42 (.tmp 3), _, _, _, _⟩ :: _) _ _; refine wpList_load_mid (op := ⟨some 12, .load 42 (.tmp 3), _, _, _, _⟩) rfl 42 (.tmp 3) rfl (g3) (0) rfl (ec x) _ (V7.out.range) Try.underlying42 rfl (e_size _) ?_)
          | (with_reducible show wpList _ _ _ (⟨none, .store 42 (.tmp 2) (.tmp 12), _, _, _, _⟩ :: _) _ _; refine wpList_store_as (op := ⟨none, .store 42 (.tmp 2) (.tmp 12), _, _, _, _⟩) rfl 42 (.tmp 2) (.tmp 12) rfl (g) 0 (ec x).toArray rfl rfl (VT.out) (e_sizeA _) (e_oneA _) ?_; intro w9 hw9))
    have e9 := hw9.out
    have V9 := V17.out.store (us := ec x) rfl hw9
    have g9 : w7.grownBy w9 (some g) := by rw [e9]; exact grown_cells g _ _ _
    have k9 : EOk w9 w9.heap.size x := ⟨OX7.out.pos, OX7.out.stamp, OX7.out.client, OX7.out.id, OX7.out.cap, OX7.out.max, bs_of_own (own_keepB HO7.out (fun k h1 h2 => by rw [e9]; exact heap_setCells g k (by have := V1.out.lt; omega) _ _ _)) OX7.out.body.isBytes⟩
    exact bodyPost_ret (v := .agg (ec x).toArray) (results_mid (p := 2) (ty := 42) rfl _ _ g 0 _ _ rfl V9.range Try.underlying42 rfl (e_size _)) rfl
      ⟨x, rfl, by first | exact HZ.out | (rw [if_pos HB.out]; exact HZ.out), RK.out.keep w7 w9 _ (some g) R7.out g9 (fun j hj => by injection hj with hj; have := Hg.out; omega), grown_new (grown_trans G0.out G7.out) g9 (fun j hj => by injection hj with hj; have := Hg.out; omega), k9, hn⟩
  · have hbb : (s2.1 != 0) = true := by simp [hb]
    have VT := Lib.hid (vthere V17.out (us := ec ex0) rfl)
    have HB := Lib.hid hb
    clear hb
    have VU := Lib.hid V17.out
    go_wp2_with (first
          | (go_at_call 69; refine ER.out.mono ?_; rintro e v8 ⟨rfl, rfl⟩)
          | (with_reducible show wpList _ _ _ (⟨some 11, .build 42 #[], _, _, _, _⟩ :: _) _ _; refine wpList_exec (op := ⟨some 11, .build 42 #[], _, _, _, _⟩) rfl (.agg (ec ex0).toArray) (by exact exec_e0 rfl rfl) ?_)
          | (with_reducible show wpList _ _ _ (⟨none, .store 42 (.tmp 2) (.tmp 11), _, _, _, _⟩ :: _) _ _; refine wpList_store_as (op := ⟨none, .store 42 (.tmp 2) (.tmp 11), _, _, _, _⟩) rfl 42 (.tmp 2) (.tmp 11) rfl (g) 0 (ec ex0).toArray rfl rfl (VT.out) (e_sizeA _) (e_oneA _) ?_; intro w9 hw9))
    have e9 := hw9.out
    have V9 := V17.out.store (us := ec ex0) rfl hw9
    have g9 : w7.grownBy w9 (some g) := by rw [e9]; exact grown_cells g _ _ _
    have k9 : EOk w9 w9.heap.size ex0 := ex0_ok _ _
    exact bodyPost_ret (v := .agg (ec ex0).toArray) (results_mid (p := 2) (ty := 42) rfl _ _ g 0 _ _ rfl V9.range Try.underlying42 rfl (e_size _)) rfl
      ⟨ex0, rfl, by first | rfl | (rw [if_neg HB.out]; rfl), RK.out.keep w7 w9 _ (some g) R7.out g9 (fun j hj => by injection hj with hj; have := Hg.out; omega), grown_new (grown_trans G0.out G7.out) g9 (fun j hj => by injection hj with hj; have := Hg.out; omega), k9, Nat.zero_le _⟩
end Go.Proofs.Ytfihiandifnkpaa
