/- Which batches, configurations may be; what each Kind asks. Printed by gen_msd.py. -/
import Derived.Test.YtfihiandifnkpaaMsC
namespace Go.Proofs.Ytfihiandifnkpaa
open Go.ChangeShapes Go.WideShapes Go.ChangeAt Go.RowKit
set_option linter.unusedVariables false
set_option maxRecDepth 100000
set_option linter.unusedSimpArgs false
open Plain Sha Ms
set_option maxHeartbeats 4000000 in
theorem appclos_any {w : World} {B : Nat} {x : EX} (k : Nat) (frm : Int) (gm : Nat) (q : Bool) (hc : w.cell? ⟨gm, 5, none⟩ = some (.int .i64 frm)) (h : EOk w B x) (hB : B ≤ w.heap.size) (hq : (decide (x.pos = wrap64 (frm + k)) && entB x.z) = q) :
    Calls Try.prog 117 #[.int .i64 k, .agg (ec x).toArray, .pointer (some ⟨gm, 0, none⟩)] w (fun e w' => e = .returned (.bool q) ∧ Below w.heap.size w w') := by
  obtain ⟨cv, hcv⟩ : ∃ c, entB x.z = c := ⟨_, rfl⟩
  obtain ⟨pv, hpv⟩ : ∃ p, wrap64 (frm + k) = p := ⟨_, rfl⟩
  have HQ : Hid ((decide (x.pos = pv) && cv) = q) := Lib.hid (by rw [← hq, ← hcv, ← hpv])
  have hw : IntKind.i64.wrap (frm + k) = pv := by rw [← hpv, IntKind.wrap_i64]; unfold wrap64; omega
  obtain ⟨W1, hW1⟩ : ∃ W, W = w.alloc (.cells (ec x).toArray 42) := ⟨_, rfl⟩
  have b1 := Lib.hid (show Below w.heap.size w W1 by rw [hW1]; exact below_one _ _)
  obtain ⟨g, hg⟩ : ∃ g, w.heap.size = g := ⟨_, rfl⟩
  have Hg := Lib.hid hg
  have V1 := Lib.hid (show VBox W1 g 5 (ec x) by rw [hW1]; exact vbox_new _ _ _ _ _ hg rfl (by omega))
  have z1 := Lib.hid (show W1.heap.size = g + 1 by rw [hW1]; simp [hg])
  have HW1 := Lib.hid hW1
  obtain ⟨q0, q1, q2, q3, q4⟩ := V1.out.e
  clear hW1 hg
  have HC := Lib.hid (mayentry_any cv ((h.below b1.out hB).more (Nat.le_trans hB b1.out.size)) hcv)
  have c5 : W1.cell? ⟨gm, 5, none⟩ = some (.int .i64 frm) := (b1.out.cell (p := ⟨gm, 5, none⟩) (World.block_lt_of_cell? _ _ hc)).trans hc
  clear hq hcv h hpv hc
  by_cases h0 : x.pos = pv
  · subst h0
    have e : cv = q := by rw [← HQ.out]; simp []
    clear HQ
    go_enter Try.func117, Try.ntmps117
    go_upto_region 1 with fail
    rw [← HW1.out, Hg.out]
    have B5 := b1
    go_wp2_with (first
          | (with_reducible show wpList _ _ _ (⟨some 14, .load 42 (.tmp 4), _, _, _, _⟩ :: _) _ _; refine wpList_load_guardL (op := ⟨some 14, .load 42 (.tmp 4), _, _, _, some (7, true)⟩) (by first | rfl | go_simp) 42 (.tmp 4) rfl (g) (0) rfl (ec x) _ (V1.out.range) Try.underlying42 rfl (e_size _) ?_)
          | (go_at_call 26; refine (HC.out).mono ?_; rintro e w5 ⟨rfl, hb⟩; have B5 := Lib.hid (b1.out.trans (hb.mono b1.out.size)); clear hb))
    go_ret
    exact ⟨(by rw [← e] <;> rfl), B5.out⟩
  · have e : false = q := by rw [← HQ.out]; simp [h0]
    subst e
    clear HQ
    go_enter Try.func117, Try.ntmps117
    go_upto_region 1 with fail
    rw [← HW1.out, Hg.out]
    have B5 := b1
    go_wp2
    go_ret
    exact ⟨rfl, B5.out⟩
set_option maxHeartbeats 4000000 in
theorem mayapp_any {w : World} {B : Nat} {x : MX} (q : Bool) (h : MXOk w B x) (hB : B ≤ w.heap.size) (hn : x.en ≤ 9223372036854775807) (hq : appB x.upto x.frm (x.es.map EX.z) = q) : Calls Try.prog 95 #[.agg (mc x).toArray] w (fun e w' => e = .returned (.bool q) ∧ Below w.heap.size w w') := by
  obtain ⟨cv, hcv⟩ : ∃ c, allT (rowB x.frm (x.es.map EX.z)) x.en = c := ⟨_, rfl⟩
  have HQ : Hid ((decide (0 ≤ x.upto) && decide (1 ≤ x.frm) && decide (x.en ≤ 4) && cv) = q) := Lib.hid (by rw [← hq, ← hcv]; unfold appB; rw [List.length_map, h.es.row.len])
  obtain ⟨W1, hW1⟩ : ∃ W, W = w.alloc (.cells (mc x).toArray 28) := ⟨_, rfl⟩
  have b1 := Lib.hid (show Below w.heap.size w W1 by rw [hW1]; exact below_one _ _)
  obtain ⟨g, hg⟩ : ∃ g, w.heap.size = g := ⟨_, rfl⟩
  have Hg := Lib.hid hg
  have V1 := Lib.hid (show VBox W1 g 12 (mc x) by rw [hW1]; exact vbox_new _ _ _ _ _ hg rfl (by omega))
  have z1 := Lib.hid (show W1.heap.size = g + 1 by rw [hW1]; simp [hg])
  have HW1 := Lib.hid hW1
  obtain ⟨q0, q1, q2, q3, q4, q5, q6, q7, q8, q9, q10, q11⟩ := V1.out.m
  clear hW1 hg
  have HO := Lib.hid ((h.es.below b1.out hB).more (Nat.le_trans hB b1.out.size))
  have HC := Lib.hid (allE_any x.ecp 117 (.pointer (some ⟨g, 0, none⟩)) (rowB x.frm (x.es.map EX.z)) cv HO.out (Nat.le_refl _) hn hcv (fun W k y hW hy hk => appclos_any k x.frm g _ ((hW.cell (p := ⟨g, 5, none⟩) (World.block_lt_of_cell? _ _ q5)).trans q5) (((HO.out.ok y (List.mem_of_getElem? hy)).below hW (Nat.le_refl _)).more hW.size) (Nat.le_refl _) (by unfold rowB; rw [getD_map0 _ _ _ hy]; rfl)) (fun _ _ => rfl))
  clear hq hcv h HO
  by_cases h0 : 0 ≤ x.upto
  · by_cases h1 : 1 ≤ x.frm
    · by_cases h2 : x.en ≤ 4
      · have i2 : (x.en : Int) ≤ 4 := by omega
        have e : cv = q := by rw [← HQ.out]; simp [h0, h1, h2]
        clear HQ
        go_enter Try.func95, Try.ntmps95
        go_upto_region 1 with fail
        rw [← HW1.out, Hg.out]
        have B5 := b1
        go_wp2_with (go_at_call 116; refine (HC.out).mono ?_; rintro e w5 ⟨rfl, hb⟩; have B5 := Lib.hid (b1.out.trans (hb.mono b1.out.size)); clear hb)
        go_ret
        exact ⟨(by rw [← e] <;> rfl), B5.out⟩
      · have i2 : ¬ (x.en : Int) ≤ 4 := by omega
        have e : false = q := by rw [← HQ.out]; simp [h0, h1, h2]
        subst e
        clear HQ
        go_enter Try.func95, Try.ntmps95
        go_upto_region 1 with fail
        rw [← HW1.out, Hg.out]
        have B5 := b1
        go_wp2_with (go_at_call 116; refine (HC.out).mono ?_; rintro e w5 ⟨rfl, hb⟩; have B5 := Lib.hid (b1.out.trans (hb.mono b1.out.size)); clear hb)
        go_ret
        exact ⟨rfl, B5.out⟩
    · have e : false = q := by rw [← HQ.out]; simp [h0, h1]
      subst e
      clear HQ
      go_enter Try.func95, Try.ntmps95
      go_upto_region 1 with fail
      rw [← HW1.out, Hg.out]
      have B5 := b1
      go_wp2_with (go_at_call 116; refine (HC.out).mono ?_; rintro e w5 ⟨rfl, hb⟩; have B5 := Lib.hid (b1.out.trans (hb.mono b1.out.size)); clear hb)
      go_ret
      exact ⟨rfl, B5.out⟩
  · have e : false = q := by rw [← HQ.out]; simp [h0]
    subst e
    clear HQ
    go_enter Try.func95, Try.ntmps95
    go_upto_region 1 with fail
    rw [← HW1.out, Hg.out]
    have B5 := b1
    go_wp2_with (go_at_call 116; refine (HC.out).mono ?_; rintro e w5 ⟨rfl, hb⟩; have B5 := Lib.hid (b1.out.trans (hb.mono b1.out.size)); clear hb)
    go_ret
    exact ⟨rfl, B5.out⟩
set_option maxHeartbeats 4000000 in
theorem nodeclos_any {w : World} (k : Nat) (x y : MemZ) (gm : Nat) (hc : w.cell? ⟨gm, 0, none⟩ = some (.int .i64 y.node)) :
    Calls Try.prog 66 #[.int .i64 k, .agg (bc x).toArray, .pointer (some ⟨gm, 0, none⟩)] w (fun e w' => e = .returned (.bool (!decide (x.node = y.node))) ∧ Below w.heap.size w w') := by
  obtain ⟨W1, hW1⟩ : ∃ W, W = w.alloc (.cells (bc x).toArray 91) := ⟨_, rfl⟩
  have b1 := Lib.hid (show Below w.heap.size w W1 by rw [hW1]; exact below_one _ _)
  obtain ⟨g, hg⟩ : ∃ g, w.heap.size = g := ⟨_, rfl⟩
  have Hg := Lib.hid hg
  have V1 := Lib.hid (show VBox W1 g 3 (bc x) by rw [hW1]; exact vbox_new _ _ _ _ _ hg rfl (by omega))
  have z1 := Lib.hid (show W1.heap.size = g + 1 by rw [hW1]; simp [hg])
  have HW1 := Lib.hid hW1
  obtain ⟨q0, q1, q2⟩ := V1.out.mb
  clear hW1 hg
  have c5 : W1.cell? ⟨gm, 0, none⟩ = some (.int .i64 y.node) := (b1.out.cell (p := ⟨gm, 0, none⟩) (World.block_lt_of_cell? _ _ hc)).trans hc
  clear hc
  go_enter Try.func66, Try.ntmps66
  go_upto_region 1 with fail
  rw [← HW1.out, Hg.out]
  go_wp2
  go_ret
  exact ⟨rfl, b1.out⟩
set_option maxHeartbeats 4000000 in
theorem memclos_any {w : World} {B n : Nat} {A : Option Addr} {ms : List MemZ} {x : MemZ} (k c : Nat) (ep : Int) (gm : Nat) (q : Bool) (hc0 : w.cell? ⟨gm, 0, none⟩ = some (.int .i64 ep)) (hc1 : w.cell? ⟨gm, 1, none⟩ = some (.slice A n c)) (h : Mems w B A n ms) (hB : B ≤ w.heap.size) (hn : n ≤ c) (hcm : c ≤ maxLen) (hx : ms[k]? = some x) (hk : k < n) (hq : memB ep ms k = q) :
    Calls Try.prog 65 #[.int .i64 k, .agg (bc x).toArray, .pointer (some ⟨gm, 0, none⟩)] w (fun e w' => e = .returned (.bool q) ∧ Below w.heap.size w w') := by
  obtain ⟨cv, hcv⟩ : ∃ c, allT (fun j => !decide ((ms.getD j mm0).node = x.node)) k = c := ⟨_, rfl⟩
  have HQ : Hid ((decide (0 ≤ x.node) && decide (x.node < 5) && decide (1 ≤ x.since) && decide (x.since ≤ ep) && cv) = q) := Lib.hid (by rw [← hq, ← hcv]; unfold memB; rw [getD_at hx])
  obtain ⟨W1, hW1⟩ : ∃ W, W = w.alloc (.cells (bc x).toArray 91) := ⟨_, rfl⟩
  have b1 := Lib.hid (show Below w.heap.size w W1 by rw [hW1]; exact below_one _ _)
  obtain ⟨g, hg⟩ : ∃ g, w.heap.size = g := ⟨_, rfl⟩
  have Hg := Lib.hid hg
  have V1 := Lib.hid (show VBox W1 g 3 (bc x) by rw [hW1]; exact vbox_new _ _ _ _ _ hg rfl (by omega))
  have z1 := Lib.hid (show W1.heap.size = g + 1 by rw [hW1]; simp [hg])
  have HW1 := Lib.hid hW1
  obtain ⟨q0, q1, q2⟩ := V1.out.mb
  clear hW1 hg
  have c0 : W1.cell? ⟨gm, 0, none⟩ = some (.int .i64 ep) := (b1.out.cell (p := ⟨gm, 0, none⟩) (World.block_lt_of_cell? _ _ hc0)).trans hc0
  have c1 : W1.cell? ⟨gm, 1, none⟩ = some (.slice A n c) := (b1.out.cell (p := ⟨gm, 1, none⟩) (World.block_lt_of_cell? _ _ hc1)).trans hc1
  have hf := h.row.front k (by omega)
  have HO : Hid (Mems W1 W1.heap.size A k (ms.take k)) := Lib.hid (((show Mems w B A k (ms.take k) from ⟨hf, fun y hy => h.ok y (List.mem_of_mem_take hy)⟩).below b1.out hB).more (Nat.le_trans hB b1.out.size))
  unfold maxLen at hcm
  have HC := Lib.hid (fun c' => allB_any c' 66 (.pointer (some ⟨g, 0, none⟩)) (fun j => !decide ((ms.getD j mm0).node = x.node)) cv HO.out (Nat.le_refl _) (by omega) hcv (fun W j y hW hy hj => (nodeclos_any j y x g ((hW.cell (p := ⟨g, 0, none⟩) (World.block_lt_of_cell? _ _ q0)).trans q0)).mono (fun e w' he => by
    have hy2 : ms[j]? = some y := by rw [List.getElem?_take_of_lt hj] at hy; exact hy
    have e1 : ms.getD j mm0 = y := getD_at hy2
    rw [e1]; exact he)) (fun _ _ => rfl))
  have hk1 : (k : Int) ≤ c := by omega
  have hk2 : ¬ (c : Int) < k := by omega
  clear hq hcv h HO hf hc0 hc1 hx
  by_cases h0 : 0 ≤ x.node
  · by_cases h1 : x.node < 5
    · by_cases h2 : 1 ≤ x.since
      · by_cases h3 : x.since ≤ ep
        · have e : cv = q := by rw [← HQ.out]; simp [h0, h1, h2, h3]
          clear HQ
          go_enter Try.func65, Try.ntmps65
          go_upto_region 1 with fail
          rw [← HW1.out, Hg.out]
          have B5 := b1
          go_wp2_with (go_at_call 64; refine (HC.out _).mono ?_; rintro e w5 ⟨rfl, hb⟩; have B5 := Lib.hid (b1.out.trans (hb.mono b1.out.size)); clear hb)
          go_ret
          exact ⟨(by rw [← e] <;> rfl), B5.out⟩
        · have e : false = q := by rw [← HQ.out]; simp [h0, h1, h2, h3]
          subst e
          clear HQ
          go_enter Try.func65, Try.ntmps65
          go_upto_region 1 with fail
          rw [← HW1.out, Hg.out]
          have B5 := b1
          go_wp2_with (go_at_call 64; refine (HC.out _).mono ?_; rintro e w5 ⟨rfl, hb⟩; have B5 := Lib.hid (b1.out.trans (hb.mono b1.out.size)); clear hb)
          go_ret
          exact ⟨rfl, B5.out⟩
      · have e : false = q := by rw [← HQ.out]; simp [h0, h1, h2]
        subst e
        clear HQ
        go_enter Try.func65, Try.ntmps65
        go_upto_region 1 with fail
        rw [← HW1.out, Hg.out]
        have B5 := b1
        go_wp2_with (go_at_call 64; refine (HC.out _).mono ?_; rintro e w5 ⟨rfl, hb⟩; have B5 := Lib.hid (b1.out.trans (hb.mono b1.out.size)); clear hb)
        go_ret
        exact ⟨rfl, B5.out⟩
    · have e : false = q := by rw [← HQ.out]; simp [h0, h1]
      subst e
      clear HQ
      go_enter Try.func65, Try.ntmps65
      go_upto_region 1 with fail
      rw [← HW1.out, Hg.out]
      have B5 := b1
      go_wp2_with (go_at_call 64; refine (HC.out _).mono ?_; rintro e w5 ⟨rfl, hb⟩; have B5 := Lib.hid (b1.out.trans (hb.mono b1.out.size)); clear hb)
      go_ret
      exact ⟨rfl, B5.out⟩
  · have e : false = q := by rw [← HQ.out]; simp [h0]
    subst e
    clear HQ
    go_enter Try.func65, Try.ntmps65
    go_upto_region 1 with fail
    rw [← HW1.out, Hg.out]
    have B5 := b1
    go_wp2_with (go_at_call 64; refine (HC.out _).mono ?_; rintro e w5 ⟨rfl, hb⟩; have B5 := Lib.hid (b1.out.trans (hb.mono b1.out.size)); clear hb)
    go_ret
    exact ⟨rfl, B5.out⟩
set_option maxHeartbeats 4000000 in
theorem mayconf_any {w : World} {B n : Nat} {A : Option Addr} {ms : List MemZ} (c : Nat) (ep : Int) (q : Bool) (h : Mems w B A n ms) (hB : B ≤ w.heap.size) (hn : n ≤ c) (hcm : c ≤ maxLen) (hq : confB ep ms = q) :
    Calls Try.prog 28 #[.agg (gc ep A n c).toArray] w (fun e w' => e = .returned (.bool q) ∧ Below w.heap.size w w') := by
  obtain ⟨cv, hcv⟩ : ∃ c, allT (memB ep ms) n = c := ⟨_, rfl⟩
  have HQ : Hid ((decide (1 ≤ ep) && decide (n ≤ 5) && cv) = q) := Lib.hid (by rw [← hq, ← hcv]; unfold confB; rw [h.row.len])
  obtain ⟨W1, hW1⟩ : ∃ W, W = w.alloc (.cells (gc ep A n c).toArray 26) := ⟨_, rfl⟩
  have b1 := Lib.hid (show Below w.heap.size w W1 by rw [hW1]; exact below_one _ _)
  obtain ⟨g, hg⟩ : ∃ g, w.heap.size = g := ⟨_, rfl⟩
  have Hg := Lib.hid hg
  have V1 := Lib.hid (show VBox W1 g 2 (gc ep A n c) by rw [hW1]; exact vbox_new _ _ _ _ _ hg rfl (by omega))
  have z1 := Lib.hid (show W1.heap.size = g + 1 by rw [hW1]; simp [hg])
  have HW1 := Lib.hid hW1
  obtain ⟨q0, q1⟩ := V1.out.g
  clear hW1 hg
  have HO := Lib.hid ((h.below b1.out hB).more (Nat.le_trans hB b1.out.size))
  have hn2 : n ≤ 9223372036854775807 := by unfold maxLen at hcm; omega
  have HC := Lib.hid (allB_any c 65 (.pointer (some ⟨g, 0, none⟩)) (memB ep ms) cv HO.out (Nat.le_refl _) hn2 hcv (fun W k y hW hy hk => memclos_any k c ep g _ ((hW.cell (p := ⟨g, 0, none⟩) (World.block_lt_of_cell? _ _ q0)).trans q0) ((hW.cell (p := ⟨g, 1, none⟩) (World.block_lt_of_cell? _ _ q1)).trans q1) (HO.out.grow hW (Nat.le_refl _)) (Nat.le_refl _) hn hcm hy hk rfl) (fun _ _ => rfl))
  clear hq hcv h HO
  by_cases h0 : 1 ≤ ep
  · by_cases h1 : n ≤ 5
    · have i1 : (n : Int) ≤ 5 := by omega
      have e : cv = q := by rw [← HQ.out]; simp [h0, h1]
      clear HQ
      go_enter Try.func28, Try.ntmps28
      go_upto_region 1 with fail
      rw [← HW1.out, Hg.out]
      have B5 := b1
      go_wp2_with (go_at_call 64; refine (HC.out).mono ?_; rintro e w5 ⟨rfl, hb⟩; have B5 := Lib.hid (b1.out.trans (hb.mono b1.out.size)); clear hb)
      go_ret
      exact ⟨(by rw [← e] <;> rfl), B5.out⟩
    · have i1 : ¬ (n : Int) ≤ 5 := by omega
      have e : false = q := by rw [← HQ.out]; simp [h0, h1]
      subst e
      clear HQ
      go_enter Try.func28, Try.ntmps28
      go_upto_region 1 with fail
      rw [← HW1.out, Hg.out]
      have B5 := b1
      go_wp2_with (go_at_call 64; refine (HC.out).mono ?_; rintro e w5 ⟨rfl, hb⟩; have B5 := Lib.hid (b1.out.trans (hb.mono b1.out.size)); clear hb)
      go_ret
      exact ⟨rfl, B5.out⟩
  · have e : false = q := by rw [← HQ.out]; simp [h0]
    subst e
    clear HQ
    go_enter Try.func28, Try.ntmps28
    go_upto_region 1 with fail
    rw [← HW1.out, Hg.out]
    have B5 := b1
    go_wp2_with (go_at_call 64; refine (HC.out).mono ?_; rintro e w5 ⟨rfl, hb⟩; have B5 := Lib.hid (b1.out.trans (hb.mono b1.out.size)); clear hb)
    go_ret
    exact ⟨rfl, B5.out⟩
set_option maxHeartbeats 4000000 in
theorem ask1_any (x : MX) (q : Bool) (hq : (cliB x.client x.id && decide (x.n ≤ 20000)) = q) (w : World) : Calls Try.prog 91 #[.agg (mc x).toArray] w (fun e w' => e = .returned (.bool q) ∧ Below w.heap.size w w') := by
  obtain ⟨cv, hcv⟩ : ∃ c, cliB x.client x.id = c := ⟨_, rfl⟩
  have HQ : Hid ((cv && decide (x.n ≤ 20000)) = q) := Lib.hid (by rw [← hq, ← hcv])
  have HC := Lib.hid (mayid_any x.client x.id cv hcv)
  clear hq hcv
  obtain ⟨W1, hW1⟩ : ∃ W, W = w.alloc (.cells (mc x).toArray 28) := ⟨_, rfl⟩
  have b1 := Lib.hid (show Below w.heap.size w W1 by rw [hW1]; exact below_one _ _)
  obtain ⟨g, hg⟩ : ∃ g, w.heap.size = g := ⟨_, rfl⟩
  have Hg := Lib.hid hg
  have V1 := Lib.hid (show VBox W1 g 12 (mc x) by rw [hW1]; exact vbox_new _ _ _ _ _ hg rfl (by omega))
  have z1 := Lib.hid (show W1.heap.size = g + 1 by rw [hW1]; simp [hg])
  have HW1 := Lib.hid hW1
  obtain ⟨q0, q1, q2, q3, q4, q5, q6, q7, q8, q9, q10, q11⟩ := V1.out.m
  clear hW1 hg
  by_cases h0 : cv = true
  · subst h0
    have hi1 : (x.n ≤ 20000) ↔ ((x.n : Int) ≤ 20000) := by omega
    have e : decide ((x.n : Int) ≤ 20000) = q := by rw [← HQ.out]; simp [hi1]
    clear HQ
    go_enter Try.func91, Try.ntmps91
    go_upto_region 1 with fail
    rw [← HW1.out, Hg.out]
    go_wp2_with (go_at_call 63; refine (HC.out _).mono ?_; rintro e w5 ⟨rfl, rfl⟩)
    go_ret
    exact ⟨(by rw [← e] <;> rfl), b1.out⟩
  · have h0 : cv = false := by simpa using h0
    subst h0
    have e : false = q := by rw [← HQ.out]; simp []
    subst e
    clear HQ
    go_enter Try.func91, Try.ntmps91
    go_upto_region 1 with fail
    rw [← HW1.out, Hg.out]
    go_wp2_with (go_at_call 63; refine (HC.out _).mono ?_; rintro e w5 ⟨rfl, rfl⟩)
    go_ret
    exact ⟨rfl, b1.out⟩
set_option maxHeartbeats 4000000 in
theorem ask3_any (x : MX) (q : Bool) (hq : (decide (0 ≤ x.don) && decide (x.don ≤ x.hav)) = q) (w : World) : Calls Try.prog 99 #[.agg (mc x).toArray] w (fun e w' => e = .returned (.bool q) ∧ Below w.heap.size w w') := by
  have HQ := Lib.hid hq
  clear hq
  obtain ⟨W1, hW1⟩ : ∃ W, W = w.alloc (.cells (mc x).toArray 28) := ⟨_, rfl⟩
  have b1 := Lib.hid (show Below w.heap.size w W1 by rw [hW1]; exact below_one _ _)
  obtain ⟨g, hg⟩ : ∃ g, w.heap.size = g := ⟨_, rfl⟩
  have Hg := Lib.hid hg
  have V1 := Lib.hid (show VBox W1 g 12 (mc x) by rw [hW1]; exact vbox_new _ _ _ _ _ hg rfl (by omega))
  have z1 := Lib.hid (show W1.heap.size = g + 1 by rw [hW1]; simp [hg])
  have HW1 := Lib.hid hW1
  obtain ⟨q0, q1, q2, q3, q4, q5, q6, q7, q8, q9, q10, q11⟩ := V1.out.m
  clear hW1 hg
  by_cases h0 : 0 ≤ x.don
  · have e : decide (x.don ≤ x.hav) = q := by rw [← HQ.out]; simp [h0]
    clear HQ
    go_enter Try.func99, Try.ntmps99
    go_upto_region 1 with fail
    rw [← HW1.out, Hg.out]
    go_wp2
    go_ret
    exact ⟨(by rw [← e] <;> rfl), b1.out⟩
  · have e : false = q := by rw [← HQ.out]; simp [h0]
    subst e
    clear HQ
    go_enter Try.func99, Try.ntmps99
    go_upto_region 1 with fail
    rw [← HW1.out, Hg.out]
    go_wp2
    go_ret
    exact ⟨rfl, b1.out⟩
set_option maxHeartbeats 4000000 in
theorem ask4_any {w : World} {B : Nat} {x : MX} (q : Bool) (h : MXOk w B x) (hB : B ≤ w.heap.size) (hq : confB x.ep x.ms = q) : Calls Try.prog 103 #[.agg (mc x).toArray] w (fun e w' => e = .returned (.bool q) ∧ Below w.heap.size w w') := by
  obtain ⟨W1, hW1⟩ : ∃ W, W = w.alloc (.cells (mc x).toArray 28) := ⟨_, rfl⟩
  have b1 := Lib.hid (show Below w.heap.size w W1 by rw [hW1]; exact below_one _ _)
  obtain ⟨g, hg⟩ : ∃ g, w.heap.size = g := ⟨_, rfl⟩
  have Hg := Lib.hid hg
  have V1 := Lib.hid (show VBox W1 g 12 (mc x) by rw [hW1]; exact vbox_new _ _ _ _ _ hg rfl (by omega))
  have z1 := Lib.hid (show W1.heap.size = g + 1 by rw [hW1]; simp [hg])
  have HW1 := Lib.hid hW1
  obtain ⟨q0, q1, q2, q3, q4, q5, q6, q7, q8, q9, q10, q11⟩ := V1.out.m
  clear hW1 hg
  have HC := Lib.hid (mayconf_any x.mcp x.ep q ((h.ms.below b1.out hB).more (Nat.le_trans hB b1.out.size)) (Nat.le_refl _) h.mcap h.mmax hq)
  clear hq h
  go_enter Try.func103, Try.ntmps103
  go_upto_region 1 with fail
  rw [← HW1.out, Hg.out]
  go_wp2_with (go_at_call 28; refine (HC.out).mono ?_; rintro e w5 ⟨rfl, hb⟩; have B5 := Lib.hid (b1.out.trans (hb.mono b1.out.size)); clear hb)
  go_ret
  exact ⟨rfl, B5.out⟩
set_option maxHeartbeats 4000000 in
theorem ask5_any (x : MX) (q : Bool) (hq : decide (1 ≤ x.since) = q) (w : World) : Calls Try.prog 107 #[.agg (mc x).toArray] w (fun e w' => e = .returned (.bool q) ∧ Below w.heap.size w w') := by
  have HQ := Lib.hid hq
  clear hq
  obtain ⟨W1, hW1⟩ : ∃ W, W = w.alloc (.cells (mc x).toArray 28) := ⟨_, rfl⟩
  have b1 := Lib.hid (show Below w.heap.size w W1 by rw [hW1]; exact below_one _ _)
  obtain ⟨g, hg⟩ : ∃ g, w.heap.size = g := ⟨_, rfl⟩
  have Hg := Lib.hid hg
  have V1 := Lib.hid (show VBox W1 g 12 (mc x) by rw [hW1]; exact vbox_new _ _ _ _ _ hg rfl (by omega))
  have z1 := Lib.hid (show W1.heap.size = g + 1 by rw [hW1]; simp [hg])
  have HW1 := Lib.hid hW1
  obtain ⟨q0, q1, q2, q3, q4, q5, q6, q7, q8, q9, q10, q11⟩ := V1.out.m
  clear hW1 hg
  go_enter Try.func107, Try.ntmps107
  go_upto_region 1 with fail
  rw [← HW1.out, Hg.out]
  go_wp2
  go_ret
  exact ⟨by rw [← HQ.out] <;> rfl, b1.out⟩
end Go.Proofs.Ytfihiandifnkpaa
