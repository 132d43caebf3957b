/- MessageRow. Printed by gen_msl1.py. -/
import Derived.Test.YtfihiandifnkpaaMsY
namespace Go.Proofs.Ytfihiandifnkpaa
open Go.ChangeShapes Go.WideShapes Go.ChangeAt Go.RowKit
set_option linter.unusedVariables false
set_option maxRecDepth 100000
set_option linter.unusedSimpArgs false
open Plain Sha Ms
namespace Ms
def rowE (a : Int) (s i : Nat) : EX := ⟨if i = s then a else a + i, 0, 0, 1, none, 0, 0, []⟩
def rowL (a : Int) (s n : Nat) : List EX := (List.range n).map (rowE a s)
def rowX (a : Int) (A : Option Addr) (n c : Nat) (l : List EX) : MX := { mx0 with kind := 2, frm := a, EA := A, en := n, ecp := c, es := l }
def rowC (a : Int) (A : Option Addr) (n c : Nat) : List Value := mc (rowX a A n c [])
end Ms
theorem rowL_succ (a : Int) (s n : Nat) : rowL a s (n + 1) = rowL a s n ++ [rowE a s n] := by unfold rowL; rw [List.range_succ, List.map_append]; rfl
theorem rowL_len (a : Int) (s n : Nat) : (rowL a s n).length = n := by simp [rowL]
theorem rowL_at (a : Int) (s n k : Nat) (h : k < n) : ((rowL a s n).map EX.z).getD k ez0 = (rowE a s k).z := by
  rw [List.getD_eq_getElem?_getD, rowL, List.map_map, List.getElem?_map, List.getElem?_range h]
  rfl
theorem row_at (a : Int) (s n k : Nat) (h1 : 1 ≤ a) (h2 : a ≤ 1073741824) (h : k < n) (hn : n ≤ 6) : rowB a ((rowL a s n).map EX.z) k = decide (k ≠ s ∨ s = 0) := by
  unfold rowB
  rw [rowL_at _ _ _ _ h]
  have hw : wrap64 (a + k) = a + k := by unfold wrap64; omega
  rw [hw]
  by_cases e : k = s
  · subst e
    by_cases h0 : k = 0
    · subst h0
      simp [rowE, EX.z, entB, cliB, h1]
    · have : ¬ (a = a + (k : Int)) := by omega
      simp [rowE, EX.z, this, h0]
  · have : 1 ≤ a + (k : Int) := by omega
    simp [rowE, EX.z, entB, cliB, e, this]
/-- May the message be? -/
theorem row_may (a : Int) (A : Option Addr) (s n c : Nat) (h1 : 1 ≤ a) (h2 : a ≤ 1073741824) (hn : n ≤ 6) : mayM (rowX a A n c (rowL a s n)).z = (decide (n ≤ 4) && decide (s = 0 ∨ n ≤ s)) := by
  have e : mayM (rowX a A n c (rowL a s n)).z = appB 0 a ((rowL a s n).map EX.z) := rfl
  rw [e]
  unfold appB
  rw [List.length_map, rowL_len]
  have e1 : decide ((0 : Int) ≤ 0) = true := rfl
  rw [e1, decide_eq_true h1, Bool.true_and, Bool.true_and]
  congr 1
  by_cases hs : s = 0 ∨ n ≤ s
  · rw [decide_eq_true hs]
    exact allT_yes.2 (fun k hk => by rw [row_at a s n k h1 h2 hk hn]; exact decide_eq_true (by omega))
  · rw [decide_eq_false hs]
    exact allT_no (k := s) (by omega) (by rw [row_at a s n s h1 h2 (by omega) hn]; exact decide_eq_false (by omega))
theorem row_ok {w : World} {m : Nat} {a : Int} {A : Option Addr} {s n c : Nat} (h1 : 1 ≤ a) (h2 : a ≤ 1073741824) (hn : n ≤ 6) (h : w.ownsRow m 42 5 (.slice A n c) n ((rowL a s n).flatMap ec)) : MXOk w w.heap.size (rowX a A n c (rowL a s n)) := by
  obtain ⟨A', c', e, k1, k2⟩ := own_shapeM h
  injection e with _ _ e
  subst e
  have hp : ∀ x, x ∈ rowL a s n → ∃ i, i < n ∧ x = rowE a s i := fun x hx => by
    obtain ⟨i, hi, rfl⟩ := List.mem_map.1 hx
    exact ⟨i, List.mem_range.1 hi, rfl⟩
  have hb : Bodies w m (rowL a s n) := fun x hx => by
    obtain ⟨i, _, rfl⟩ := hp x hx
    exact World.ownsRow_nil _ _ _ _
  have he := ents_of_own h hb (fun z hz => by
    obtain ⟨x, hx, rfl⟩ := List.mem_map.1 hz
    obtain ⟨i, hi, rfl⟩ := hp x hx
    refine ⟨?_, inM0, inM0, in_small (show (0 : Int) ≤ 1 by decide) (show (1 : Int) ≤ 1000 by decide), IsBytes.nil, Nat.zero_le _⟩
    show InM (if i = s then a else a + i)
    unfold InM
    split <;> omega)
  exact ⟨⟨by show (0 : Int) ≤ 2; omega, by show (2 : Int) < 256; omega⟩, inM0, inM0, Nat.le_refl _, Nat.zero_le _, Bs.nil, inM0, by unfold InM rowX; dsimp only; omega, k1, k2, he, inM0, inM0, inM0, Nat.le_refl _, Nat.zero_le _, mems0 _ _, inM0⟩
set_option maxHeartbeats 8000000 in
theorem msrow_in (a b s : Int) (w : World) (ha : -9223372036854775808 ≤ a ∧ a ≤ 9223372036854775807) (hb : -9223372036854775808 ≤ b ∧ b ≤ 9223372036854775807) (hs : -9223372036854775808 ≤ s ∧ s ≤ 9223372036854775807) : Calls Try.prog 8 #[.int .i64 a, .int .i64 b, .int .i64 s] w (fun e w' => e = .returned (.bool true) ∧ Below w.heap.size w w') := by
  have AW := Lib.hid (awake_anyM w)
  by_cases h0 : 1 ≤ a
  · skip
    by_cases h1 : a ≤ 1073741824
    · skip
      by_cases h2 : 0 ≤ b
      · skip
        by_cases h3 : b ≤ 6
        · skip
          by_cases h4 : 0 ≤ s
          · skip
            by_cases h5 : s ≤ 5
            · skip
              obtain ⟨n, rfl⟩ : ∃ n : Nat, b = (n : Int) := ⟨b.toNat, by omega⟩
              obtain ⟨s, rfl⟩ : ∃ n : Nat, s = (n : Int) := ⟨s.toNat, by omega⟩
              have hn6 : n ≤ 6 := by omega
              go_enter Try.func8, Try.ntmps8
              go_upto_region 6 with (go_at_call 30; refine AW.out.mono ?_; rintro e w1 ⟨rfl, hb⟩; have B1 := Lib.hid hb; clear hb)
              obtain ⟨W2, hW2⟩ : ∃ W, W = w1.alloc (.cells #[.int .u8 2, .int .i64 0, .int .i64 0, .slice none 0 0, .int .i64 0, .int .i64 a, .slice none 0 0, .int .i64 0, .int .i64 0, .int .i64 0, .slice none 0 0, .int .i64 0] 28) := ⟨_, rfl⟩
              obtain ⟨g, hg⟩ : ∃ g, w1.heap.size = g := ⟨_, rfl⟩
              have Hg := Lib.hid hg
              have b2 := Lib.hid (show Below w1.heap.size w1 W2 by rw [hW2]; exact below_one _ _)
              have V2 := Lib.hid (show VBox W2 g 12 (rowC a none 0 0) by rw [hW2]; exact vbox_new _ (rowC a none 0 0) _ _ _ hg rfl (by omega))
              have B2 := Lib.hid (B1.out.trans (b2.out.mono B1.out.size))
              have S2 := Lib.hid (show g + 1 ≤ W2.heap.size by rw [hW2]; simp [hg])
              have O2 := Lib.hid (World.ownsRow_nil W2 (g + 1) 42 5)
              have hgw : w.heap.size ≤ g := by rw [← hg]; exact B1.out.size
              rw [← hW2, hg]
              clear hW2 hg
              go_wp2
              go_loopw [8] (fun i wr => ∃ (k : Nat) (A : Option Addr) (c : Nat), k ≤ n ∧ i = .int .i64 k ∧ Hid (Below w.heap.size w wr) ∧ Hid (VBox wr g 12 (rowC a A k c)) ∧ Hid (wr.ownsRow (g + 1) 42 5 (.slice A k c) k ((rowL a s k).flatMap ec)) ∧ Hid (g + 1 ≤ wr.heap.size)) (fun i _ => n - (intOf i).toNat)
              case atStart => exact ⟨0, none, 0, by omega, rfl, B2, V2, O2, S2⟩
              case round =>
                obtain ⟨k, A, c, hk, rfl, BR, VR, OR, SR⟩ := hrel
                by_cases hlt : k < n
                · have hki : (k : Int) < (n : Int) := by omega
                  have hw : IntKind.i64.wrap (a + k) = a + k := by rw [IntKind.wrap_i64]; omega
                  obtain ⟨p, hp⟩ : ∃ p, (rowE a s k).pos = p := ⟨_, rfl⟩
                  have HPE : Hid (rowE a s k = ⟨p, 0, 0, 1, none, 0, 0, []⟩) := Lib.hid (by rw [← hp]; rfl)
                  obtain ⟨W3, hW3⟩ : ∃ W, W = wr.alloc (.cells #[.int .i64 p, .int .i64 0, .int .i64 0, .int .i64 1, .slice none 0 0] 42) := ⟨_, rfl⟩
                  obtain ⟨g2, hg2⟩ : ∃ g, wr.heap.size = g := ⟨_, rfl⟩
                  have z3 : W3.heap.size = g2 + 1 := by rw [hW3]; simp [hg2]
                  have V5 := Lib.hid (show VBox W3 g2 5 (ec ⟨p, 0, 0, 1, none, 0, 0, []⟩) by rw [hW3]; exact vbox_new wr (ec ⟨p, 0, 0, 1, none, 0, 0, []⟩) _ _ _ hg2 rfl (by omega))
                  obtain ⟨W4, hW4⟩ : ∃ W, W = W3.alloc (.cells #[.int .i64 p, .int .i64 0, .int .i64 0, .int .i64 1, .slice none 0 0] 42) := ⟨_, rfl⟩
                  have V3 := Lib.hid (show VBox W4 g 12 (rowC a A k c) by rw [hW4, hW3]; exact (VR.out.grow (below_one _ _)).grow (below_one _ _))
                  have V3b := Lib.hid (show VBox W3 g 12 (rowC a A k c) by rw [hW3]; exact VR.out.grow (below_one _ _))
                  have OW3 := Lib.hid (show W4.ownsRow (g + 1) 42 5 (.slice A k c) k ((rowL a s k).flatMap ec) by rw [hW4, hW3]; exact (OR.out.alloc _).alloc _)
                  have HS3 := Lib.hid (show g + 1 ≤ W4.heap.size by rw [hW4, hW3]; simp; have := SR.out; omega)
                  have BR4 := Lib.hid (show Below w.heap.size w W4 by rw [hW4, hW3]; exact (BR.out.trans ((below_one _ _).mono BR.out.size)).trans ((below_one _ _).mono (Nat.le_trans BR.out.size (below_one _ _).size)))
                  have LI := Lib.hid (show Lies W4 5 (some ⟨g2 + 1, 0, none⟩) 1 ([(⟨p, 0, 0, 1, none, 0, 0, []⟩ : EX)].flatMap ec) ∧ Sourced (some ⟨g2 + 1, 0, none⟩) 1 by
                    have := (rws_new (f := ec) W3 ⟨p, 0, 0, 1, none, 0, 0, []⟩ 42).lies ec_len (by omega)
                    rw [z3] at this
                    rw [hW4]
                    exact this)
                  have HW3 := Lib.hid hW3
                  have HW4 := Lib.hid hW4
                  have Hg2 := Lib.hid hg2
                  have Z3 := Lib.hid z3
                  clear hW3 hW4 hg2 z3
                  have hfin : ∀ (w9 : World) (A9 : Option Addr) (c9 : Nat), Hid (w9.ownsRow (g + 1) 42 5 (.slice A9 (k + 1) c9) (k + 1) ((rowL a s k).flatMap ec ++ [(⟨p, 0, 0, 1, none, 0, 0, []⟩ : EX)].flatMap ec)) → Hid (W4.grownBy w9 (Value.slice A k c).ownBlock) → Hid (VBox w9 g 12 (rowC a A k c)) → Hid (Below w.heap.size w (w9.setCell ⟨g, 6, none⟩ (.slice A9 ((k + 1 : Nat)) c9))) ∧ Hid (VBox (w9.setCell ⟨g, 6, none⟩ (.slice A9 ((k + 1 : Nat)) c9)) g 12 (rowC a A9 (k + 1) c9)) ∧ Hid ((w9.setCell ⟨g, 6, none⟩ (.slice A9 ((k + 1 : Nat)) c9)).ownsRow (g + 1) 42 5 (.slice A9 (k + 1) c9) (k + 1) ((rowL a s (k + 1)).flatMap ec)) ∧ Hid (g + 1 ≤ (w9.setCell ⟨g, 6, none⟩ (.slice A9 ((k + 1 : Nat)) c9)).heap.size) := by
                    intro w9 A9 c9 O9 G9 V9
                    have hb9 : Below w.heap.size w w9 := BR4.out.grown G9.out BR4.out.size (fun j hj => by have := (OW3.out.lt j hj).1; omega)
                    refine ⟨Lib.hid (hb9.setCell (p := ⟨g, 6, none⟩) hgw _), Lib.hid (V9.out.set1 (i := 6) (by omega) _), Lib.hid ?_, Lib.hid ?_⟩
                    · rw [rowL_succ, List.flatMap_append, HPE.out]
                      exact own_keepB O9.out (fun j h1 h2 => Below.heap_setCell _ _ _ _ (by show j ≠ g; omega))
                    · have := G9.out.size
                      have := HS3.out
                      simp [World.setCell]; omega
                  by_cases hks : k = s
                  · have hpa : a = p := by rw [← hp]; simp [rowE, hks]
                    have hks' : (k : Int) = (s : Int) := by omega
                    subst hpa hks
                    clear hp hks'
                    have x6a : W3.cell? ⟨g, 6, none⟩ = some (.slice A k c) := V3b.out.at1 (i := 6) rfl
                    obtain ⟨d0, d1, d2, d3, d4⟩ := V5.out.e
                    go_upto_region 12 with fail
                    rw [← HW3.out]
                    have hz3 := Z3.out
                    have hzz := Hg2.out
                    have hw4 := HW4.out
                    rw [hzz]
                    go_wp2_with (at_builtin; rw [← hw4]; refine wpList_app _ rfl (.tmp 52) (.tmp 54) 23 rfl (g + 1) 42 5 56 Try.underlying23 e_info (by omega) (.slice A k c) k ((rowL a k k).flatMap ec) rfl OW3.out (some ⟨g2 + 1, 0, none⟩) 1 1 ([(⟨a, 0, 0, 1, none, 0, 0, []⟩ : EX)].flatMap ec) rfl LI.out.1 LI.out.2 (flat_one ec_one _) (by unfold maxLen; omega) (by omega) HS3.out ?_; intro v1 w9 ho1 hg1; obtain ⟨A9, c9, rfl, _, _⟩ := own_shapeM ho1; have O9 := Lib.hid ho1; have G9 := Lib.hid hg1; have V9 := Lib.hid (V3.out.same (hg1.block g V3.out.lt (fun e => by have := (OW3.out.lt g e.symm).1; omega))); have x6 : w9.cell? ⟨g, 6, none⟩ = some (.slice A k c) := V9.out.at1 (i := 6) rfl; have y6 := V9.out.fr1 (i := 6) (by omega); clear ho1 hg1)
                    obtain ⟨f1, f2, f3, f4⟩ := hfin w9 A9 c9 O9 G9 V9
                    go_roundw
                    case rel => exact ⟨k + 1, A9, c9, by omega, by go_num, f1, f2, f3, f4⟩
                    case measure => simp [intOf]; omega
                  · have hpa : a + (k : Int) = p := by rw [← hp]; simp [rowE, hks]
                    have hks' : ¬ (k : Int) = (s : Int) := by omega
                    subst hpa
                    clear hp
                    have x6a : W3.cell? ⟨g, 6, none⟩ = some (.slice A k c) := V3b.out.at1 (i := 6) rfl
                    obtain ⟨d0, d1, d2, d3, d4⟩ := V5.out.e
                    go_upto_region 12 with fail
                    rw [← HW3.out]
                    have hz3 := Z3.out
                    have hzz := Hg2.out
                    have hw4 := HW4.out
                    rw [hzz]
                    go_wp2_with (at_builtin; rw [← hw4]; refine wpList_app _ rfl (.tmp 52) (.tmp 54) 23 rfl (g + 1) 42 5 56 Try.underlying23 e_info (by omega) (.slice A k c) k ((rowL a s k).flatMap ec) rfl OW3.out (some ⟨g2 + 1, 0, none⟩) 1 1 ([(⟨a + k, 0, 0, 1, none, 0, 0, []⟩ : EX)].flatMap ec) rfl LI.out.1 LI.out.2 (flat_one ec_one _) (by unfold maxLen; omega) (by omega) HS3.out ?_; intro v1 w9 ho1 hg1; obtain ⟨A9, c9, rfl, _, _⟩ := own_shapeM ho1; have O9 := Lib.hid ho1; have G9 := Lib.hid hg1; have V9 := Lib.hid (V3.out.same (hg1.block g V3.out.lt (fun e => by have := (OW3.out.lt g e.symm).1; omega))); have x6 : w9.cell? ⟨g, 6, none⟩ = some (.slice A k c) := V9.out.at1 (i := 6) rfl; have y6 := V9.out.fr1 (i := 6) (by omega); clear ho1 hg1)
                    obtain ⟨f1, f2, f3, f4⟩ := hfin w9 A9 c9 O9 G9 V9
                    go_roundw
                    case rel => exact ⟨k + 1, A9, c9, by omega, by go_num, f1, f2, f3, f4⟩
                    case measure => simp [intOf]; omega
                · have hki : ¬ (k : Int) < (n : Int) := by omega
                  obtain rfl : k = n := by omega
                  have hm := row_may a A s k c h0 h1 hn6
                  have OK := Lib.hid (row_ok h0 h1 hn6 OR.out)
                  have VX := Lib.hid VR.out
                  have ME := Lib.hid (fun (q : Bool) (hq : mayM (rowX a A k c (rowL a s k)).z = q) => may_any q OK.out (Nat.le_refl _) hq)
                  by_cases h4 : k ≤ 4
                  · have i4 : (k : Int) ≤ 4 := by omega
                    by_cases h5 : s = 0
                    · have i5 : (s : Int) = 0 := by omega
                      have CM := Lib.hid (ME.out true (by rw [hm]; simp [h4, h5]))
                      clear h5
                      clear ME hm
                      have HRG := VX.out.range
                      have hms : (Try.prog.info? 28).map (·.size) = some (rowC a A k c).length := m_size (rowX a A k c [])
                      go_upto_region 14 with fail
                      go_wp2_with (first
                            | (with_reducible show wpList _ _ _ (⟨some 68, .load 28 (.tmp 7), _, _, _, _⟩ :: _) _ _; refine wpList_load_mid (op := ⟨some 68, .load 28 (.tmp 7), _, _, _, _⟩) rfl 28 (.tmp 7) rfl (g) (0) rfl (rowC a A k c) _ (HRG) Try.underlying28 rfl (hms) ?_)
                            | (go_at_call 13; refine CM.out.mono ?_; rintro e w5 ⟨rfl, hb⟩; have B5 := Lib.hid (BR.out.trans (hb.mono BR.out.size)); clear hb))
                      go_ret
                      exact ⟨rfl, B5.out⟩
                    · have i5 : ¬ (s : Int) = 0 := by omega
                      have i5b : ((s : Int) == 0) = false := by simp; omega
                      by_cases h6 : k ≤ s
                      · have i6 : (k : Int) ≤ (s : Int) := by omega
                        have CM := Lib.hid (ME.out true (by rw [hm]; simp [h4, h6]))
                        clear ME hm
                        have HRG := VX.out.range
                        have hms : (Try.prog.info? 28).map (·.size) = some (rowC a A k c).length := m_size (rowX a A k c [])
                        go_upto_region 14 with fail
                        go_wp2_with (first
                              | (with_reducible show wpList _ _ _ (⟨some 68, .load 28 (.tmp 7), _, _, _, _⟩ :: _) _ _; refine wpList_load_mid (op := ⟨some 68, .load 28 (.tmp 7), _, _, _, _⟩) rfl 28 (.tmp 7) rfl (g) (0) rfl (rowC a A k c) _ (HRG) Try.underlying28 rfl (hms) ?_)
                              | (go_at_call 13; refine CM.out.mono ?_; rintro e w5 ⟨rfl, hb⟩; have B5 := Lib.hid (BR.out.trans (hb.mono BR.out.size)); clear hb))
                        go_ret
                        exact ⟨rfl, B5.out⟩
                      · have i6 : ¬ (k : Int) ≤ (s : Int) := by omega
                        have CM := Lib.hid (ME.out false (by rw [hm]; simp [h5, h6]))
                        clear ME hm
                        have HRG := VX.out.range
                        have hms : (Try.prog.info? 28).map (·.size) = some (rowC a A k c).length := m_size (rowX a A k c [])
                        go_upto_region 14 with fail
                        go_wp2_with (first
                              | (with_reducible show wpList _ _ _ (⟨some 68, .load 28 (.tmp 7), _, _, _, _⟩ :: _) _ _; refine wpList_load_mid (op := ⟨some 68, .load 28 (.tmp 7), _, _, _, _⟩) rfl 28 (.tmp 7) rfl (g) (0) rfl (rowC a A k c) _ (HRG) Try.underlying28 rfl (hms) ?_)
                              | (go_at_call 13; refine CM.out.mono ?_; rintro e w5 ⟨rfl, hb⟩; have B5 := Lib.hid (BR.out.trans (hb.mono BR.out.size)); clear hb))
                        go_ret
                        exact ⟨rfl, B5.out⟩
                  · have i4 : ¬ (k : Int) ≤ 4 := by omega
                    have CM := Lib.hid (ME.out false (by rw [hm]; simp [h4]))
                    clear ME hm
                    have HRG := VX.out.range
                    have hms : (Try.prog.info? 28).map (·.size) = some (rowC a A k c).length := m_size (rowX a A k c [])
                    go_upto_region 14 with fail
                    go_wp2_with (first
                          | (with_reducible show wpList _ _ _ (⟨some 68, .load 28 (.tmp 7), _, _, _, _⟩ :: _) _ _; refine wpList_load_mid (op := ⟨some 68, .load 28 (.tmp 7), _, _, _, _⟩) rfl 28 (.tmp 7) rfl (g) (0) rfl (rowC a A k c) _ (HRG) Try.underlying28 rfl (hms) ?_)
                          | (go_at_call 13; refine CM.out.mono ?_; rintro e w5 ⟨rfl, hb⟩; have B5 := Lib.hid (BR.out.trans (hb.mono BR.out.size)); clear hb))
                    go_ret
                    exact ⟨rfl, B5.out⟩
            · go_enter Try.func8, Try.ntmps8
              go_wp2_with (go_at_call 30; refine AW.out.mono ?_; rintro e w1 ⟨rfl, hb⟩; have B1 := Lib.hid hb; clear hb)
              go_ret
              exact ⟨rfl, B1.out⟩
          · go_enter Try.func8, Try.ntmps8
            go_wp2_with (go_at_call 30; refine AW.out.mono ?_; rintro e w1 ⟨rfl, hb⟩; have B1 := Lib.hid hb; clear hb)
            go_ret
            exact ⟨rfl, B1.out⟩
        · go_enter Try.func8, Try.ntmps8
          go_wp2_with (go_at_call 30; refine AW.out.mono ?_; rintro e w1 ⟨rfl, hb⟩; have B1 := Lib.hid hb; clear hb)
          go_ret
          exact ⟨rfl, B1.out⟩
      · go_enter Try.func8, Try.ntmps8
        go_wp2_with (go_at_call 30; refine AW.out.mono ?_; rintro e w1 ⟨rfl, hb⟩; have B1 := Lib.hid hb; clear hb)
        go_ret
        exact ⟨rfl, B1.out⟩
    · go_enter Try.func8, Try.ntmps8
      go_wp2_with (go_at_call 30; refine AW.out.mono ?_; rintro e w1 ⟨rfl, hb⟩; have B1 := Lib.hid hb; clear hb)
      go_ret
      exact ⟨rfl, B1.out⟩
  · go_enter Try.func8, Try.ntmps8
    go_wp2_with (go_at_call 30; refine AW.out.mono ?_; rintro e w1 ⟨rfl, hb⟩; have B1 := Lib.hid hb; clear hb)
    go_ret
    exact ⟨rfl, B1.out⟩
end Go.Proofs.Ytfihiandifnkpaa
