/- A message that is read: the program's. Printed by gen_msp.py. -/
import Derived.Test.YtfihiandifnkpaaMsO
namespace Go.Proofs.Ytfihiandifnkpaa
open Go.ChangeShapes Go.WideShapes Go.ChangeAt Go.RowKit
set_option linter.unusedVariables false
set_option maxRecDepth 100000
set_option linter.unusedSimpArgs false
open Plain Sha Ms
/-- What is asked of a Kind's reader. -/
def PkM (k : Int) (s : St) (z : MsgZ) : Prop := (ownR k s).2.1 = 0 → z = { (ownR k s).1 with kind := 0 }
def ReadK (F : FuncId) (k : Int) : Prop := ∀ (w : World) (b : Nat) (B : Span) (s : St), RdP b B w s → StM s → Calls Try.prog F #[.pointer (some ⟨b, 0, none⟩)] w (ReadsM (RdP b B) b w (PkM k s) (ownR k s).2)
theorem own_kind (k : Int) (s : St) : (ownR k s).1.kind = k := by
  unfold ownR
  by_cases h1 : k = 1 ∨ k = 6
  · simp only [if_pos h1]
  · simp only [if_neg h1]
    by_cases h2 : k = 2
    · simp only [if_pos h2]
    · simp only [if_neg h2]
      by_cases h3 : k = 3
      · simp only [if_pos h3]
      · simp only [if_neg h3]
        by_cases h4 : k = 4
        · simp only [if_pos h4]
        · simp only [if_neg h4]
          by_cases h5 : k = 5
          · simp only [if_pos h5]
          · simp only [if_neg h5]
theorem kind_back (m : MsgZ) (k : Int) (h : m.kind = k) : { { m with kind := 0 } with kind := k } = m := by subst h; rfl
set_option maxHeartbeats 4000000 in
theorem rk1 : ReadK 93 1 := by
  intro w b B s h t
  obtain ⟨a1, s1, e1⟩ : ∃ a s', rInt s = (a, s') := ⟨_, _, rfl⟩
  obtain ⟨a2, s2, e2⟩ : ∃ a s', rInt s1 = (a, s') := ⟨_, _, rfl⟩
  obtain ⟨a3, s3, e3⟩ : ∃ a s', rBytes s2 = (a, s') := ⟨_, _, rfl⟩
  obtain ⟨g1, t1⟩ := int_rm t e1
  obtain ⟨g2, t2⟩ := int_rm t1 e2
  obtain ⟨g3, t3⟩ := bytes_rm t2 e3
  have HR : Hid (ownR 1 s = ({ mz0 with kind := 1, client := a1, id := a2, body := a3 }, s3)) := Lib.hid (by unfold ownR; simp [e1, e2, e3])
  have HP : Hid (PkM 1 s ⟨0, a1, a2, a3, 0, 0, [], 0, 0, 0, [], 0⟩) := Lib.hid (fun _ => by rw [HR.out]; rfl)
  rw [HR.out]
  have E1 := Lib.hid e1
  have E2 := Lib.hid e2
  have E3 := Lib.hid e3
  clear e1 e2 e3
  have RK := Lib.hid (rdk_P (B := B) (Rd.lt h))
  obtain ⟨W1, hW1⟩ : ∃ W, W = w.alloc (.cells #[.int .u8 0, .int .i64 0, .int .i64 0, .slice none 0 0, .int .i64 0, .int .i64 0, .slice none 0 0, .int .i64 0, .int .i64 0, .int .i64 0, .slice none 0 0, .int .i64 0] 28) := ⟨_, rfl⟩
  obtain ⟨g, hg⟩ : ∃ g, w.heap.size = g := ⟨_, rfl⟩
  have Hg := Lib.hid hg
  have V1 := Lib.hid (show VBox W1 g 12 (mc mx0) by rw [hW1]; exact vbox_new _ (mc mx0) _ _ _ hg rfl (by omega))
  have G0 := Lib.hid (show w.grownBy W1 (some b) by rw [hW1]; exact grown_alloc w _ _)
  have R0 := Lib.hid (show RdP b B W1 s from RK.out.keep w W1 s none h (by rw [hW1]; exact grown_alloc w _ _) (fun j hj => by cases hj))
  have GW0 := Lib.hid (grown_refl W1 (some b))
  have HW1 := Lib.hid hW1
  clear hW1 hg h
  go_enter Try.func93, Try.ntmps93
  go_upto_region 1 with fail
  rw [← HW1.out, Hg.out]
  go_wp2_with (first
        | (go_at_call 68; refine (int_st R0.out E1.out).mono ?_; rintro e v1 ⟨rfl, hr, hg⟩; have R1 := Lib.hid hr; have GW1 := Lib.hid (grown_trans GW0.out hg); clear hr hg; clear E1)
        | (go_at_call 68; refine (int_st R1.out E2.out).mono ?_; rintro e v2 ⟨rfl, hr, hg⟩; have R2 := Lib.hid hr; have GW2 := Lib.hid (grown_trans GW1.out hg); clear hr hg; clear E2)
        | (go_at_call 83; refine (bytes_st R2.out E3.out).mono ?_; rintro e v3 ⟨T, rfl, hr, hg, hl⟩; have R3 := Lib.hid hr; have GW3 := Lib.hid (grown_trans GW2.out hg); clear hr hg; obtain ⟨AT, cT, rfl, hoT, hn1, hn2⟩ := hl; have V4 := Lib.hid (V1.out.same (GW3.out.block g V1.out.lt (fun e => by injection e with e; have := RK.out.lt; have := Hg.out; omega))); have VT := Lib.hid (vthere V4.out (us := mc { mx0 with client := a1, id := a2, A := AT, n := a3.length, c := cT, body := a3 }) rfl); clear E3)
        | (with_reducible show wpList _ _ _ (⟨none, .store 28 (.tmp 2) (.tmp 9), _, _, _, _⟩ :: _) _ _; refine wpList_store_as (op := ⟨none, .store 28 (.tmp 2) (.tmp 9), _, _, _, _⟩) rfl 28 (.tmp 2) (.tmp 9) rfl (g) 0 (mc { mx0 with client := a1, id := a2, A := AT, n := a3.length, c := cT, body := a3 }).toArray rfl rfl (VT.out) (m_sizeA _) (m_oneA _) ?_; intro w9 hw9))
  have GWL := GW3
  have e9 := hw9.out
  have g9 : v3.grownBy w9 (some g) := by rw [e9]; exact grown_cells g _ _ _
  have V9 := V4.out.store (us := mc { mx0 with client := a1, id := a2, A := AT, n := a3.length, c := cT, body := a3 }) rfl hw9
  have hsz := Hg.out
  have kb : ∀ j, g < j → j < v3.heap.size → w9.heap[j]? = v3.heap[j]? := fun j h1 h2 => by rw [e9]; exact heap_setCells g j (by omega) _ _ _
  have OB : w9.ownsRow w.heap.size 5 1 (.slice AT a3.length cT) a3.length (vals a3) := own_base (own_keepB hoT (fun j h1 h2 => kb j (by have := V1.out.lt; have := GW2.out.size; omega) h2)) (by have := G0.out.size; have := GW2.out.size; omega)
  exact bodyPost_ret (v := .agg (mc { mx0 with client := a1, id := a2, A := AT, n := a3.length, c := cT, body := a3 }).toArray) (results_mid (p := 2) (ty := 28) rfl _ _ g 0 _ _ rfl V9.range Try.underlying28 rfl (m_size _)) rfl
    ⟨{ mx0 with client := a1, id := a2, A := AT, n := a3.length, c := cT, body := a3 }, rfl, HP.out, RK.out.keep v3 w9 _ (some g) R3.out g9 (fun j hj => by injection hj with hj; omega), grown_new (grown_trans G0.out GWL.out) g9 (fun j hj => by injection hj with hj; omega), ⟨own_base OB (Nat.le_refl _), World.ownsRow_nil _ _ _ _, fun x hx => (by cases hx), World.ownsRow_nil _ _ _ _⟩, ⟨by show (0 : Int) ≤ 0 ∧ (0 : Int) < 256; omega, g1, g2, hn1, hn2, bs_of_own OB g3.1, inM0, inM0, Nat.le_refl _, Nat.zero_le _, ents0 _ _, inM0, inM0, inM0, Nat.le_refl _, Nat.zero_le _, mems0 _ _, inM0⟩⟩
set_option maxHeartbeats 4000000 in
theorem rk6 : ReadK 93 6 := by
  intro w b B s h t
  obtain ⟨a1, s1, e1⟩ : ∃ a s', rInt s = (a, s') := ⟨_, _, rfl⟩
  obtain ⟨a2, s2, e2⟩ : ∃ a s', rInt s1 = (a, s') := ⟨_, _, rfl⟩
  obtain ⟨a3, s3, e3⟩ : ∃ a s', rBytes s2 = (a, s') := ⟨_, _, rfl⟩
  obtain ⟨g1, t1⟩ := int_rm t e1
  obtain ⟨g2, t2⟩ := int_rm t1 e2
  obtain ⟨g3, t3⟩ := bytes_rm t2 e3
  have HR : Hid (ownR 6 s = ({ mz0 with kind := 6, client := a1, id := a2, body := a3 }, s3)) := Lib.hid (by unfold ownR; simp [e1, e2, e3])
  have HP : Hid (PkM 6 s ⟨0, a1, a2, a3, 0, 0, [], 0, 0, 0, [], 0⟩) := Lib.hid (fun _ => by rw [HR.out]; rfl)
  rw [HR.out]
  have E1 := Lib.hid e1
  have E2 := Lib.hid e2
  have E3 := Lib.hid e3
  clear e1 e2 e3
  have RK := Lib.hid (rdk_P (B := B) (Rd.lt h))
  obtain ⟨W1, hW1⟩ : ∃ W, W = w.alloc (.cells #[.int .u8 0, .int .i64 0, .int .i64 0, .slice none 0 0, .int .i64 0, .int .i64 0, .slice none 0 0, .int .i64 0, .int .i64 0, .int .i64 0, .slice none 0 0, .int .i64 0] 28) := ⟨_, rfl⟩
  obtain ⟨g, hg⟩ : ∃ g, w.heap.size = g := ⟨_, rfl⟩
  have Hg := Lib.hid hg
  have V1 := Lib.hid (show VBox W1 g 12 (mc mx0) by rw [hW1]; exact vbox_new _ (mc mx0) _ _ _ hg rfl (by omega))
  have G0 := Lib.hid (show w.grownBy W1 (some b) by rw [hW1]; exact grown_alloc w _ _)
  have R0 := Lib.hid (show RdP b B W1 s from RK.out.keep w W1 s none h (by rw [hW1]; exact grown_alloc w _ _) (fun j hj => by cases hj))
  have GW0 := Lib.hid (grown_refl W1 (some b))
  have HW1 := Lib.hid hW1
  clear hW1 hg h
  go_enter Try.func93, Try.ntmps93
  go_upto_region 1 with fail
  rw [← HW1.out, Hg.out]
  go_wp2_with (first
        | (go_at_call 68; refine (int_st R0.out E1.out).mono ?_; rintro e v1 ⟨rfl, hr, hg⟩; have R1 := Lib.hid hr; have GW1 := Lib.hid (grown_trans GW0.out hg); clear hr hg; clear E1)
        | (go_at_call 68; refine (int_st R1.out E2.out).mono ?_; rintro e v2 ⟨rfl, hr, hg⟩; have R2 := Lib.hid hr; have GW2 := Lib.hid (grown_trans GW1.out hg); clear hr hg; clear E2)
        | (go_at_call 83; refine (bytes_st R2.out E3.out).mono ?_; rintro e v3 ⟨T, rfl, hr, hg, hl⟩; have R3 := Lib.hid hr; have GW3 := Lib.hid (grown_trans GW2.out hg); clear hr hg; obtain ⟨AT, cT, rfl, hoT, hn1, hn2⟩ := hl; have V4 := Lib.hid (V1.out.same (GW3.out.block g V1.out.lt (fun e => by injection e with e; have := RK.out.lt; have := Hg.out; omega))); have VT := Lib.hid (vthere V4.out (us := mc { mx0 with client := a1, id := a2, A := AT, n := a3.length, c := cT, body := a3 }) rfl); clear E3)
        | (with_reducible show wpList _ _ _ (⟨none, .store 28 (.tmp 2) (.tmp 9), _, _, _, _⟩ :: _) _ _; refine wpList_store_as (op := ⟨none, .store 28 (.tmp 2) (.tmp 9), _, _, _, _⟩) rfl 28 (.tmp 2) (.tmp 9) rfl (g) 0 (mc { mx0 with client := a1, id := a2, A := AT, n := a3.length, c := cT, body := a3 }).toArray rfl rfl (VT.out) (m_sizeA _) (m_oneA _) ?_; intro w9 hw9))
  have GWL := GW3
  have e9 := hw9.out
  have g9 : v3.grownBy w9 (some g) := by rw [e9]; exact grown_cells g _ _ _
  have V9 := V4.out.store (us := mc { mx0 with client := a1, id := a2, A := AT, n := a3.length, c := cT, body := a3 }) rfl hw9
  have hsz := Hg.out
  have kb : ∀ j, g < j → j < v3.heap.size → w9.heap[j]? = v3.heap[j]? := fun j h1 h2 => by rw [e9]; exact heap_setCells g j (by omega) _ _ _
  have OB : w9.ownsRow w.heap.size 5 1 (.slice AT a3.length cT) a3.length (vals a3) := own_base (own_keepB hoT (fun j h1 h2 => kb j (by have := V1.out.lt; have := GW2.out.size; omega) h2)) (by have := G0.out.size; have := GW2.out.size; omega)
  exact bodyPost_ret (v := .agg (mc { mx0 with client := a1, id := a2, A := AT, n := a3.length, c := cT, body := a3 }).toArray) (results_mid (p := 2) (ty := 28) rfl _ _ g 0 _ _ rfl V9.range Try.underlying28 rfl (m_size _)) rfl
    ⟨{ mx0 with client := a1, id := a2, A := AT, n := a3.length, c := cT, body := a3 }, rfl, HP.out, RK.out.keep v3 w9 _ (some g) R3.out g9 (fun j hj => by injection hj with hj; omega), grown_new (grown_trans G0.out GWL.out) g9 (fun j hj => by injection hj with hj; omega), ⟨own_base OB (Nat.le_refl _), World.ownsRow_nil _ _ _ _, fun x hx => (by cases hx), World.ownsRow_nil _ _ _ _⟩, ⟨by show (0 : Int) ≤ 0 ∧ (0 : Int) < 256; omega, g1, g2, hn1, hn2, bs_of_own OB g3.1, inM0, inM0, Nat.le_refl _, Nat.zero_le _, ents0 _ _, inM0, inM0, inM0, Nat.le_refl _, Nat.zero_le _, mems0 _ _, inM0⟩⟩
set_option maxHeartbeats 4000000 in
theorem rk3 : ReadK 101 3 := by
  intro w b B s h t
  obtain ⟨a1, s1, e1⟩ : ∃ a s', rInt s = (a, s') := ⟨_, _, rfl⟩
  obtain ⟨a2, s2, e2⟩ : ∃ a s', rInt s1 = (a, s') := ⟨_, _, rfl⟩
  obtain ⟨g1, t1⟩ := int_rm t e1
  obtain ⟨g2, t2⟩ := int_rm t1 e2
  have HR : Hid (ownR 3 s = ({ mz0 with kind := 3, hav := a1, don := a2 }, s2)) := Lib.hid (by unfold ownR; simp [e1, e2])
  have HP : Hid (PkM 3 s ⟨0, 0, 0, [], 0, 0, [], a1, a2, 0, [], 0⟩) := Lib.hid (fun _ => by rw [HR.out]; rfl)
  rw [HR.out]
  have E1 := Lib.hid e1
  have E2 := Lib.hid e2
  clear e1 e2
  have RK := Lib.hid (rdk_P (B := B) (Rd.lt h))
  obtain ⟨W1, hW1⟩ : ∃ W, W = w.alloc (.cells #[.int .u8 0, .int .i64 0, .int .i64 0, .slice none 0 0, .int .i64 0, .int .i64 0, .slice none 0 0, .int .i64 0, .int .i64 0, .int .i64 0, .slice none 0 0, .int .i64 0] 28) := ⟨_, rfl⟩
  obtain ⟨g, hg⟩ : ∃ g, w.heap.size = g := ⟨_, rfl⟩
  have Hg := Lib.hid hg
  have V1 := Lib.hid (show VBox W1 g 12 (mc mx0) by rw [hW1]; exact vbox_new _ (mc mx0) _ _ _ hg rfl (by omega))
  have G0 := Lib.hid (show w.grownBy W1 (some b) by rw [hW1]; exact grown_alloc w _ _)
  have R0 := Lib.hid (show RdP b B W1 s from RK.out.keep w W1 s none h (by rw [hW1]; exact grown_alloc w _ _) (fun j hj => by cases hj))
  have GW0 := Lib.hid (grown_refl W1 (some b))
  have HW1 := Lib.hid hW1
  clear hW1 hg h
  go_enter Try.func101, Try.ntmps101
  go_upto_region 1 with fail
  rw [← HW1.out, Hg.out]
  go_wp2_with (first
        | (go_at_call 68; refine (int_st R0.out E1.out).mono ?_; rintro e v1 ⟨rfl, hr, hg⟩; have R1 := Lib.hid hr; have GW1 := Lib.hid (grown_trans GW0.out hg); clear hr hg; clear E1)
        | (go_at_call 68; refine (int_st R1.out E2.out).mono ?_; rintro e v2 ⟨rfl, hr, hg⟩; have R2 := Lib.hid hr; have GW2 := Lib.hid (grown_trans GW1.out hg); clear hr hg; have V4 := Lib.hid (V1.out.same (GW2.out.block g V1.out.lt (fun e => by injection e with e; have := RK.out.lt; have := Hg.out; omega))); have VT := Lib.hid (vthere V4.out (us := mc { mx0 with hav := a1, don := a2 }) rfl); clear E2)
        | (with_reducible show wpList _ _ _ (⟨none, .store 28 (.tmp 2) (.tmp 7), _, _, _, _⟩ :: _) _ _; refine wpList_store_as (op := ⟨none, .store 28 (.tmp 2) (.tmp 7), _, _, _, _⟩) rfl 28 (.tmp 2) (.tmp 7) rfl (g) 0 (mc { mx0 with hav := a1, don := a2 }).toArray rfl rfl (VT.out) (m_sizeA _) (m_oneA _) ?_; intro w9 hw9))
  have GWL := GW2
  have e9 := hw9.out
  have g9 : v2.grownBy w9 (some g) := by rw [e9]; exact grown_cells g _ _ _
  have V9 := V4.out.store (us := mc { mx0 with hav := a1, don := a2 }) rfl hw9
  have hsz := Hg.out
  have kb : ∀ j, g < j → j < v2.heap.size → w9.heap[j]? = v2.heap[j]? := fun j h1 h2 => by rw [e9]; exact heap_setCells g j (by omega) _ _ _
  exact bodyPost_ret (v := .agg (mc { mx0 with hav := a1, don := a2 }).toArray) (results_mid (p := 2) (ty := 28) rfl _ _ g 0 _ _ rfl V9.range Try.underlying28 rfl (m_size _)) rfl
    ⟨{ mx0 with hav := a1, don := a2 }, rfl, HP.out, RK.out.keep v2 w9 _ (some g) R2.out g9 (fun j hj => by injection hj with hj; omega), grown_new (grown_trans G0.out GWL.out) g9 (fun j hj => by injection hj with hj; omega), ⟨World.ownsRow_nil _ _ _ _, World.ownsRow_nil _ _ _ _, fun x hx => (by cases hx), World.ownsRow_nil _ _ _ _⟩, ⟨by show (0 : Int) ≤ 0 ∧ (0 : Int) < 256; omega, inM0, inM0, Nat.le_refl _, Nat.zero_le _, Bs.nil, inM0, inM0, Nat.le_refl _, Nat.zero_le _, ents0 _ _, g1, g2, inM0, Nat.le_refl _, Nat.zero_le _, mems0 _ _, inM0⟩⟩
set_option maxHeartbeats 4000000 in
theorem rk5 : ReadK 109 5 := by
  intro w b B s h t
  obtain ⟨a1, s1, e1⟩ : ∃ a s', rInt s = (a, s') := ⟨_, _, rfl⟩
  obtain ⟨g1, t1⟩ := int_rm t e1
  have HR : Hid (ownR 5 s = ({ mz0 with kind := 5, since := a1 }, s1)) := Lib.hid (by unfold ownR; simp [e1])
  have HP : Hid (PkM 5 s ⟨0, 0, 0, [], 0, 0, [], 0, 0, 0, [], a1⟩) := Lib.hid (fun _ => by rw [HR.out]; rfl)
  rw [HR.out]
  have E1 := Lib.hid e1
  clear e1
  have RK := Lib.hid (rdk_P (B := B) (Rd.lt h))
  obtain ⟨W1, hW1⟩ : ∃ W, W = w.alloc (.cells #[.int .u8 0, .int .i64 0, .int .i64 0, .slice none 0 0, .int .i64 0, .int .i64 0, .slice none 0 0, .int .i64 0, .int .i64 0, .int .i64 0, .slice none 0 0, .int .i64 0] 28) := ⟨_, rfl⟩
  obtain ⟨g, hg⟩ : ∃ g, w.heap.size = g := ⟨_, rfl⟩
  have Hg := Lib.hid hg
  have V1 := Lib.hid (show VBox W1 g 12 (mc mx0) by rw [hW1]; exact vbox_new _ (mc mx0) _ _ _ hg rfl (by omega))
  have G0 := Lib.hid (show w.grownBy W1 (some b) by rw [hW1]; exact grown_alloc w _ _)
  have R0 := Lib.hid (show RdP b B W1 s from RK.out.keep w W1 s none h (by rw [hW1]; exact grown_alloc w _ _) (fun j hj => by cases hj))
  have GW0 := Lib.hid (grown_refl W1 (some b))
  have HW1 := Lib.hid hW1
  clear hW1 hg h
  go_enter Try.func109, Try.ntmps109
  go_upto_region 1 with fail
  rw [← HW1.out, Hg.out]
  go_wp2_with (first
        | (go_at_call 68; refine (int_st R0.out E1.out).mono ?_; rintro e v1 ⟨rfl, hr, hg⟩; have R1 := Lib.hid hr; have GW1 := Lib.hid (grown_trans GW0.out hg); clear hr hg; have V4 := Lib.hid (V1.out.same (GW1.out.block g V1.out.lt (fun e => by injection e with e; have := RK.out.lt; have := Hg.out; omega))); have VT := Lib.hid (vthere V4.out (us := mc { mx0 with since := a1 }) rfl); clear E1)
        | (with_reducible show wpList _ _ _ (⟨none, .store 28 (.tmp 2) (.tmp 5), _, _, _, _⟩ :: _) _ _; refine wpList_store_as (op := ⟨none, .store 28 (.tmp 2) (.tmp 5), _, _, _, _⟩) rfl 28 (.tmp 2) (.tmp 5) rfl (g) 0 (mc { mx0 with since := a1 }).toArray rfl rfl (VT.out) (m_sizeA _) (m_oneA _) ?_; intro w9 hw9))
  have GWL := GW1
  have e9 := hw9.out
  have g9 : v1.grownBy w9 (some g) := by rw [e9]; exact grown_cells g _ _ _
  have V9 := V4.out.store (us := mc { mx0 with since := a1 }) rfl hw9
  have hsz := Hg.out
  have kb : ∀ j, g < j → j < v1.heap.size → w9.heap[j]? = v1.heap[j]? := fun j h1 h2 => by rw [e9]; exact heap_setCells g j (by omega) _ _ _
  exact bodyPost_ret (v := .agg (mc { mx0 with since := a1 }).toArray) (results_mid (p := 2) (ty := 28) rfl _ _ g 0 _ _ rfl V9.range Try.underlying28 rfl (m_size _)) rfl
    ⟨{ mx0 with since := a1 }, rfl, HP.out, RK.out.keep v1 w9 _ (some g) R1.out g9 (fun j hj => by injection hj with hj; omega), grown_new (grown_trans G0.out GWL.out) g9 (fun j hj => by injection hj with hj; omega), ⟨World.ownsRow_nil _ _ _ _, World.ownsRow_nil _ _ _ _, fun x hx => (by cases hx), World.ownsRow_nil _ _ _ _⟩, ⟨by show (0 : Int) ≤ 0 ∧ (0 : Int) < 256; omega, inM0, inM0, Nat.le_refl _, Nat.zero_le _, Bs.nil, inM0, inM0, Nat.le_refl _, Nat.zero_le _, ents0 _ _, inM0, inM0, inM0, Nat.le_refl _, Nat.zero_le _, mems0 _ _, g1⟩⟩
set_option maxHeartbeats 4000000 in
theorem rk4 : ReadK 105 4 := by
  intro w b B s h t
  obtain ⟨a1, s1, e1⟩ : ∃ a s', confR s = (a, s') := ⟨_, _, rfl⟩
  have HR : Hid (ownR 4 s = ({ mz0 with kind := 4, ep := a1.1, ms := a1.2 }, s1)) := Lib.hid (by unfold ownR; simp [e1])
  obtain ⟨EV, hEV⟩ : ∃ v, (if s1.1 = 0 then a1.1 else 0) = v := ⟨_, rfl⟩
  obtain ⟨MV, hMV⟩ : ∃ v, (if s1.1 = 0 then a1.2 else []) = v := ⟨_, rfl⟩
  have HP : Hid (PkM 4 s ⟨0, 0, 0, [], 0, 0, [], 0, 0, EV, MV, 0⟩) := Lib.hid (fun h0 => by rw [HR.out] at h0 ⊢; rw [← hEV, ← hMV, if_pos h0, if_pos h0]; rfl)
  rw [HR.out]
  have CT := Lib.hid (fun (W : World) (hW : RdP b B W s) => (show Calls Try.prog 35 #[.pointer (some ⟨b, 0, none⟩)] W (ReadsC (RdP b B) b W EV MV s1) from by have := takeconf_any hW t; rw [e1, hEV, hMV] at this; exact this))
  clear hEV hMV e1
  have RK := Lib.hid (rdk_P (B := B) (Rd.lt h))
  obtain ⟨W1, hW1⟩ : ∃ W, W = w.alloc (.cells #[.int .u8 0, .int .i64 0, .int .i64 0, .slice none 0 0, .int .i64 0, .int .i64 0, .slice none 0 0, .int .i64 0, .int .i64 0, .int .i64 0, .slice none 0 0, .int .i64 0] 28) := ⟨_, rfl⟩
  obtain ⟨g, hg⟩ : ∃ g, w.heap.size = g := ⟨_, rfl⟩
  have Hg := Lib.hid hg
  have V1 := Lib.hid (show VBox W1 g 12 (mc mx0) by rw [hW1]; exact vbox_new _ (mc mx0) _ _ _ hg rfl (by omega))
  have G0 := Lib.hid (show w.grownBy W1 (some b) by rw [hW1]; exact grown_alloc w _ _)
  have R0 := Lib.hid (show RdP b B W1 s from RK.out.keep w W1 s none h (by rw [hW1]; exact grown_alloc w _ _) (fun j hj => by cases hj))
  have GW0 := Lib.hid (grown_refl W1 (some b))
  have HW1 := Lib.hid hW1
  clear hW1 hg h
  go_enter Try.func105, Try.ntmps105
  go_upto_region 1 with fail
  rw [← HW1.out, Hg.out]
  go_wp2_with (first
        | (go_at_call 35; refine (CT.out _ R0.out).mono ?_; rintro e v1 ⟨AC, cC, he, hr, hg, ho, hm, hep, hn1, hn2⟩; have he : e = .returned (.agg #[.int .i64 EV, .slice AC MV.length cC]) := he; subst he; have R1 := Lib.hid hr; have GW1 := Lib.hid (grown_trans GW0.out hg); have HO := Lib.hid ho; have HM := Lib.hid hm; have V4 := Lib.hid (V1.out.same (GW1.out.block g V1.out.lt (fun e => by injection e with e; have := RK.out.lt; have := Hg.out; omega))); have VT := Lib.hid (vthere V4.out (us := mc { mx0 with ep := EV, MA := AC, mn := MV.length, mcp := cC, ms := MV }) rfl); clear hr hg ho hm)
        | (with_reducible show wpList _ _ _ (⟨none, .store 28 (.tmp 2) (.tmp 5), _, _, _, _⟩ :: _) _ _; refine wpList_store_as (op := ⟨none, .store 28 (.tmp 2) (.tmp 5), _, _, _, _⟩) rfl 28 (.tmp 2) (.tmp 5) rfl (g) 0 (mc { mx0 with ep := EV, MA := AC, mn := MV.length, mcp := cC, ms := MV }).toArray rfl rfl (VT.out) (m_sizeA _) (m_oneA _) ?_; intro w9 hw9))
  have GWL := GW1
  have e9 := hw9.out
  have g9 : v1.grownBy w9 (some g) := by rw [e9]; exact grown_cells g _ _ _
  have V9 := V4.out.store (us := mc { mx0 with ep := EV, MA := AC, mn := MV.length, mcp := cC, ms := MV }) rfl hw9
  have hsz := Hg.out
  have kb : ∀ j, g < j → j < v1.heap.size → w9.heap[j]? = v1.heap[j]? := fun j h1 h2 => by rw [e9]; exact heap_setCells g j (by omega) _ _ _
  have OB : w9.ownsRow w.heap.size 91 3 (.slice AC MV.length cC) MV.length (MV.flatMap bc) := own_base (own_keepB HO.out (fun j h1 h2 => kb j (by have := V1.out.lt; omega) h2)) (by have := G0.out.size; omega)
  exact bodyPost_ret (v := .agg (mc { mx0 with ep := EV, MA := AC, mn := MV.length, mcp := cC, ms := MV }).toArray) (results_mid (p := 2) (ty := 28) rfl _ _ g 0 _ _ rfl V9.range Try.underlying28 rfl (m_size _)) rfl
    ⟨{ mx0 with ep := EV, MA := AC, mn := MV.length, mcp := cC, ms := MV }, rfl, HP.out, RK.out.keep v1 w9 _ (some g) R1.out g9 (fun j hj => by injection hj with hj; omega), grown_new (grown_trans G0.out GWL.out) g9 (fun j hj => by injection hj with hj; omega), ⟨World.ownsRow_nil _ _ _ _, World.ownsRow_nil _ _ _ _, fun x hx => (by cases hx), OB⟩, ⟨by show (0 : Int) ≤ 0 ∧ (0 : Int) < 256; omega, inM0, inM0, Nat.le_refl _, Nat.zero_le _, Bs.nil, inM0, inM0, Nat.le_refl _, Nat.zero_le _, ents0 _ _, inM0, inM0, hep, hn1, hn2, ⟨rws_of_own bc_len (by omega) OB, HM.out⟩, inM0⟩⟩
theorem rk2 : ReadK 97 2 := fun w b B s h t => (takeapp_any h t).mono fun e w' ⟨x, h1, h2, h3⟩ => ⟨x, h1, fun _ => h2, h3⟩
end Go.Proofs.Ytfihiandifnkpaa
