/- The statement QuotaPuts: the walk. -/
import Derived.Test.YtpodpbhbagkblaaQtBack
import Derived.Test.YtpodpbhbagkblaaQtRD
namespace Go.Proofs.Ytpodpbhbagkblaa
open Go.ChangeShapes Go.WideShapes Go.ChangeAt Go.RowKit
set_option linter.unusedVariables false
set_option linter.unusedSimpArgs false
open Plain Qt
theorem res_ok {l : List ShZ} {x : ShZ} {r : List ShZ × Int} (hr : resR l x = r) (h0 : r.2 = 0) : mayB l = true ∧ shB x = true ∧ (ofR l x.t).isSome = false ∧ r.1 = insR l x ∧ fitB (insR l x) = true := by
  subst hr
  unfold resR at h0 ⊢
  split at h0
  · next h =>
    rw [if_pos h]
    obtain ⟨h1, h2⟩ := Bool.and_eq_true_iff.1 h
    split at h0
    · simp at h0
    · next h3 =>
      rw [if_neg h3]
      unfold toldR at h0 ⊢
      split at h0
      · next h4 => rw [if_pos h4]; exact ⟨h1, h2, by simpa using h3, rfl, h4⟩
      · simp at h0
  · simp at h0
theorem res_none {l : List ShZ} {x : ShZ} {r : List ShZ × Int} (hr : resR l x = r) (h0 : r.2 ≠ 0) : r.1 = [] := by
  subst hr
  unfold resR at h0 ⊢
  split
  · next h =>
    rw [if_pos h] at h0
    split
    · rfl
    · next h3 =>
      rw [if_neg h3] at h0
      unfold toldR at h0 ⊢
      split
      · next h4 => rw [if_pos h4] at h0; exact absurd rfl h0
      · rfl
  · rfl
theorem siz_none {l : List ShZ} {x : ShZ} {r : List ShZ × Int} (hr : sizR l x = r) (h0 : r.2 ≠ 0) : r.1 = [] := by
  subst hr
  unfold sizR at h0 ⊢
  split
  · next h =>
    rw [if_pos h] at h0
    split
    · next h3 =>
      rw [if_pos h3] at h0
      unfold toldR at h0 ⊢
      split
      · next h4 => rw [if_pos h4] at h0; exact absurd rfl h0
      · rfl
    · rfl
  · rfl
theorem res_rows {l : List ShZ} {x : ShZ} {r : List ShZ × Int} (hr : resR l x = r) : (∀ g, g ∈ r.1 → SOk g) ∧ r.1.length ≤ 8 := by
  by_cases h0 : r.2 = 0
  · obtain ⟨h1, h2, h3, h4, h5⟩ := res_ok hr h0
    rw [h4]
    have h6 := (may_parts (ins_may h1 h2 h5)).1
    exact ⟨fun g hg => sok_in (rise_in h6 g hg).1, rise_len8 h6⟩
  · rw [res_none hr h0]
    exact ⟨fun g hg => by simp at hg, by simp⟩
theorem GivesR.shs {w w' : World} {r : List ShZ × Int} {e : Ending} (h : GivesR w r e w') (hok : ∀ g, g ∈ r.1 → SOk g) :
    ∃ N D d, e = .returned (.tuple #[.slice D N d, .int .i64 r.2]) ∧ Shs w' w'.heap.size D N r.1 ∧ Below w.heap.size w w' := by
  obtain ⟨N, D, d, rfl, ho, hb⟩ := h
  exact ⟨N, D, d, rfl, shs_of_own ho hok, hb⟩
set_option maxRecDepth 100000 in
set_option maxHeartbeats 8000000 in
theorem qtPuts_any (A : Option Addr) (n c : Nat) (l : List ShZ) (x : ShZ) (b : Bool) (w : World) (h : Shs w w.heap.size A n l) (hn : n * 24 ≤ 140737488355328) (hx : SOk x) :
    Calls Try.prog 3 #[.slice A n c, .agg #[.int .i64 x.t, .int .i64 x.k, .int .i64 x.s], .bool b] w (fun e w' => e = .returned (.bool true) ∧ Below w.heap.size w w') := by
  obtain ⟨t, k, s⟩ := x
  show Calls Try.prog 3 #[.slice A n c, .agg #[.int .i64 t, .int .i64 k, .int .i64 s], .bool b] w _
  obtain ⟨W1, hW1⟩ : ∃ W, W = w.alloc (.cells #[.int .i64 t, .int .i64 k, .int .i64 s] 24) := ⟨_, rfl⟩
  have b1 := Lib.hid (show Below w.heap.size w W1 by rw [hW1]; exact below_oneQ _ _)
  have X1 := Lib.hid (show QBox W1 w.heap.size t k s by rw [hW1]; exact qbox_new _ _ _ _ _ _ rfl)
  have HW1 := Lib.hid hW1
  have HG := Lib.hid (h.grow b1.out)
  clear hW1 h hx
  by_cases hg : 20 < n
  · have hI : (20 : Int) < (n : Int) := by omega
    clear hg
    go_enter Try.func3, Try.ntmps3
    go_upto_region 1 with fail
    rw [← HW1.out]
    go_wp2
    go_ret
    exact ⟨rfl, b1.out⟩
  have hI : ¬ (20 : Int) < (n : Int) := by omega
  have hmx : n ≤ maxLen := by unfold maxLen; omega
  have AW := Lib.hid (fun V => qtawake_any (w := V))
  have TM := Lib.hid (to_anyQ (c := c) HG.out (Nat.le_refl _) hn)
  clear hg hn
  cases b with
  | true =>
    obtain ⟨⟨rl, re⟩, hr⟩ : ∃ r, sizR l ⟨t, k, s⟩ = r := ⟨_, rfl⟩
    have hrows := Lib.hid (siz_rows hr)
    have PM := Lib.hid (fun (V : World) (D : Option Addr) (d : Nat) (hV : Shs V V.heap.size D n l) => resize_any (c := d) t k s (rl, re) hV (Nat.le_refl _) hmx hr)
    have RM := Lib.hid (fun (V : World) (hV : Below W1.heap.size W1 V) => rsiz_any (c := c) t k s (rl, re) (HG.out.grow hV) (Nat.le_refl _) hmx hr)
    clear hr
    go_enter Try.func3, Try.ntmps3
    go_upto_region 1 with fail
    rw [← HW1.out]
    go_upto_region 5 with (go_at_call 8; refine TM.out.mono ?_; rintro e w2 ⟨D, d, rfl, o1, b2⟩; have B2 := Lib.hid b2; have H2 := Lib.hid (shs_of_own o1 HG.out.ok); obtain ⟨h1, h2, h3⟩ := X1.out.grow b2; clear o1 b2)
    obtain ⟨g3, hg3⟩ : ∃ g, w2.heap.size = g := ⟨_, rfl⟩
    obtain ⟨W3, hW3⟩ : ∃ W, W = w2.alloc (.cells #[.int .i64 t, .int .i64 k, .int .i64 s] 27) := ⟨_, rfl⟩
    rw [hg3, ← hW3]
    have b23 : Below w2.heap.size w2 W3 := by rw [hW3]; exact below_oneQ _ _
    have B3 := Lib.hid (B2.out.trans (b23.mono B2.out.size))
    have H3 := Lib.hid (H2.out.grow b23)
    have X3 := Lib.hid (show QBox W3 g3 t k s by rw [hW3]; exact qbox_new _ _ _ _ _ _ hg3)
    clear hg3 hW3 b23 h1 h2 h3 B2 H2
    obtain ⟨h1, h2, h3⟩ := X3.out
    go_upto_region 13 with (first
      | (go_at_call 9; refine (PM.out _ _ _ H3.out).mono ?_; rintro e w4 ⟨N, D4, d4, rfl, o4, hb⟩; have B4 := Lib.hid hb; have O4 := Lib.hid o4; obtain ⟨i1, i2, i3⟩ := X1.out.grow (B3.out.trans (hb.mono B3.out.size)); clear o4 hb)
      | (go_at_call 10; refine (RM.out _ (B3.out.trans (B4.out.mono B3.out.size))).mono ?_; intro e w5 hgv; obtain ⟨N5, D5, d5, rfl, hs5, hb⟩ := hgv.shs hrows.out.1; have B5 := Lib.hid (B4.out.trans (hb.mono B4.out.size)); have O5 := Lib.hid (own_below O4.out hb (Nat.le_refl _)); have H5 := Lib.hid hs5; clear hgv hs5 hb)
      | fail)
    have hN8 : N ≤ 8 := by
      have e1 : (svs rl).length = N * 3 := O5.out.1
      have e2 : rl.length ≤ 8 := hrows.out.2
      rw [svs_len] at e1
      omega
    have hN5 : N5 ≤ maxLen := by
      have e1 : rl.length = N5 := H5.out.len
      have e2 : rl.length ≤ 8 := hrows.out.2
      unfold maxLen; omega
    have IM := Lib.hid (is_anyQ d4 d5 true (shs_of_own O5.out hrows.out.1) H5.out (by unfold maxLen; omega) hN5 (by simp))
    clear h1 h2 h3 i1 i2 i3 hN5
    go_upto_region 14 with (go_at_call 13; refine IM.out.mono ?_; rintro e w6 ⟨rfl, m6, rfl⟩; have B6 := Lib.hid (below_drewN B5.out m6); have O6 : Hid ((w5.drewN m6).ownsRow W3.heap.size 27 3 (.slice D4 N d4) N (svs rl)) := O5)
    go_wp2
    go_loopw [14] (fun i wr => ∃ j : Nat, j ≤ N ∧ i = .int .i64 j ∧ Hid (Below W3.heap.size W3 wr) ∧ Hid (∃ xs, wr.ownsRow W3.heap.size 27 3 (.slice D4 N d4) N xs)) (fun i _ => N - (intOf i).toNat)
    case atStart => exact ⟨0, by omega, rfl, B6, Lib.hid ⟨_, O6.out⟩⟩
    case round =>
      obtain ⟨j, hj, rfl, HW, HO⟩ := hrel
      by_cases hlt : j < N
      · have hltI : (j : Int) < (N : Int) := by omega
        obtain ⟨xs, ho⟩ := HO.out
        obtain ⟨g, cap, hD, hgb, hgs⟩ := ho.form (by omega)
        obtain ⟨rfl, rfl⟩ : D4 = some ⟨g, 0, none⟩ ∧ d4 = cap := (by injection hD with e1 e2 e3; exact ⟨e1, e3⟩)
        have hsm := own_isSome ho (j * 3 + 1) (by omega)
        obtain ⟨u, hu⟩ := Option.isSome_iff_exists.1 hsm
        have hf := ho.frozenAt (j * 3 + 1)
        have HO2 := Lib.hid (⟨_, (ho.stored (j * 3 + 1) (.int .i64 (-9))).1⟩ : ∃ xs, (wr.setCell ⟨g, j * 3 + 1, none⟩ (.int .i64 (-9))).ownsRow W3.heap.size 27 3 (.slice (some ⟨g, 0, none⟩) N d4) N xs)
        have HW2 := Lib.hid (HW.out.setCell (p := ⟨g, j * 3 + 1, none⟩) hgb (.int .i64 (-9)))
        clear ho hD hgb hgs hsm HO
        go_wp2
        go_roundw
        case rel => exact ⟨j + 1, by omega, by go_num, HW2, HO2⟩
        case measure => simp [intOf]; omega
      · have e : j = N := by omega
        subst e
        have B7 := Lib.hid (B3.out.trans (HW.out.mono B3.out.size))
        have IN := Lib.hid (is_anyQ (w := wr) d c true (H3.out.below HW.out (Nat.le_refl _)) (HG.out.grow B7.out) hmx hmx (by simp))
        clear IM O6 HO
        go_wp2_with (first
          | (go_at_call 13; refine IN.out.mono ?_; rintro e w8 ⟨rfl, m8, rfl⟩; have B8 := Lib.hid (below_drewN (b1.out.trans (B7.out.mono b1.out.size)) m8))
          | (go_at_call 14; refine (AW.out _).mono ?_; rintro e v5 ⟨rfl, hb⟩; have C5 := Lib.hid (B8.out.trans (hb.mono B8.out.size)); clear hb)
          | fail)
        go_ret
        exact ⟨rfl, C5.out⟩
  | false =>
    obtain ⟨⟨rl, re⟩, hr⟩ : ∃ r, resR l ⟨t, k, s⟩ = r := ⟨_, rfl⟩
    have hrows := Lib.hid (res_rows hr)
    have PM := Lib.hid (fun (V : World) (D : Option Addr) (d : Nat) (hV : Shs V V.heap.size D n l) => reserve_any (c := d) t k s (rl, re) hV (Nat.le_refl _) hmx hr)
    have RM := Lib.hid (fun (V : World) (hV : Below W1.heap.size W1 V) => rres_any (c := c) t k s (rl, re) (HG.out.grow hV) (Nat.le_refl _) hmx hr)
    clear hr
    go_enter Try.func3, Try.ntmps3
    go_upto_region 1 with fail
    rw [← HW1.out]
    go_upto_region 5 with (go_at_call 8; refine TM.out.mono ?_; rintro e w2 ⟨D, d, rfl, o1, b2⟩; have B2 := Lib.hid b2; have H2 := Lib.hid (shs_of_own o1 HG.out.ok); obtain ⟨h1, h2, h3⟩ := X1.out.grow b2; clear o1 b2)
    obtain ⟨g3, hg3⟩ : ∃ g, w2.heap.size = g := ⟨_, rfl⟩
    obtain ⟨W3, hW3⟩ : ∃ W, W = w2.alloc (.cells #[.int .i64 t, .int .i64 k, .int .i64 s] 27) := ⟨_, rfl⟩
    rw [hg3, ← hW3]
    have b23 : Below w2.heap.size w2 W3 := by rw [hW3]; exact below_oneQ _ _
    have B3 := Lib.hid (B2.out.trans (b23.mono B2.out.size))
    have H3 := Lib.hid (H2.out.grow b23)
    have X3 := Lib.hid (show QBox W3 g3 t k s by rw [hW3]; exact qbox_new _ _ _ _ _ _ hg3)
    clear hg3 hW3 b23 h1 h2 h3 B2 H2
    obtain ⟨h1, h2, h3⟩ := X3.out
    go_upto_region 13 with (first
      | (go_at_call 11; refine (PM.out _ _ _ H3.out).mono ?_; rintro e w4 ⟨N, D4, d4, rfl, o4, hb⟩; have B4 := Lib.hid hb; have O4 := Lib.hid o4; obtain ⟨i1, i2, i3⟩ := X1.out.grow (B3.out.trans (hb.mono B3.out.size)); clear o4 hb)
      | (go_at_call 12; refine (RM.out _ (B3.out.trans (B4.out.mono B3.out.size))).mono ?_; intro e w5 hgv; obtain ⟨N5, D5, d5, rfl, hs5, hb⟩ := hgv.shs hrows.out.1; have B5 := Lib.hid (B4.out.trans (hb.mono B4.out.size)); have O5 := Lib.hid (own_below O4.out hb (Nat.le_refl _)); have H5 := Lib.hid hs5; clear hgv hs5 hb)
      | fail)
    have hN8 : N ≤ 8 := by
      have e1 : (svs rl).length = N * 3 := O5.out.1
      have e2 : rl.length ≤ 8 := hrows.out.2
      rw [svs_len] at e1
      omega
    have hN5 : N5 ≤ maxLen := by
      have e1 : rl.length = N5 := H5.out.len
      have e2 : rl.length ≤ 8 := hrows.out.2
      unfold maxLen; omega
    have IM := Lib.hid (is_anyQ d4 d5 true (shs_of_own O5.out hrows.out.1) H5.out (by unfold maxLen; omega) hN5 (by simp))
    clear h1 h2 h3 i1 i2 i3 hN5
    go_upto_region 14 with (go_at_call 13; refine IM.out.mono ?_; rintro e w6 ⟨rfl, m6, rfl⟩; have B6 := Lib.hid (below_drewN B5.out m6); have O6 : Hid ((w5.drewN m6).ownsRow W3.heap.size 27 3 (.slice D4 N d4) N (svs rl)) := O5)
    go_wp2
    go_loopw [14] (fun i wr => ∃ j : Nat, j ≤ N ∧ i = .int .i64 j ∧ Hid (Below W3.heap.size W3 wr) ∧ Hid (∃ xs, wr.ownsRow W3.heap.size 27 3 (.slice D4 N d4) N xs)) (fun i _ => N - (intOf i).toNat)
    case atStart => exact ⟨0, by omega, rfl, B6, Lib.hid ⟨_, O6.out⟩⟩
    case round =>
      obtain ⟨j, hj, rfl, HW, HO⟩ := hrel
      by_cases hlt : j < N
      · have hltI : (j : Int) < (N : Int) := by omega
        obtain ⟨xs, ho⟩ := HO.out
        obtain ⟨g, cap, hD, hgb, hgs⟩ := ho.form (by omega)
        obtain ⟨rfl, rfl⟩ : D4 = some ⟨g, 0, none⟩ ∧ d4 = cap := (by injection hD with e1 e2 e3; exact ⟨e1, e3⟩)
        have hsm := own_isSome ho (j * 3 + 1) (by omega)
        obtain ⟨u, hu⟩ := Option.isSome_iff_exists.1 hsm
        have hf := ho.frozenAt (j * 3 + 1)
        have HO2 := Lib.hid (⟨_, (ho.stored (j * 3 + 1) (.int .i64 (-9))).1⟩ : ∃ xs, (wr.setCell ⟨g, j * 3 + 1, none⟩ (.int .i64 (-9))).ownsRow W3.heap.size 27 3 (.slice (some ⟨g, 0, none⟩) N d4) N xs)
        have HW2 := Lib.hid (HW.out.setCell (p := ⟨g, j * 3 + 1, none⟩) hgb (.int .i64 (-9)))
        clear ho hD hgb hgs hsm HO
        go_wp2
        go_roundw
        case rel => exact ⟨j + 1, by omega, by go_num, HW2, HO2⟩
        case measure => simp [intOf]; omega
      · have e : j = N := by omega
        subst e
        have B7 := Lib.hid (B3.out.trans (HW.out.mono B3.out.size))
        have IN := Lib.hid (is_anyQ (w := wr) d c true (H3.out.below HW.out (Nat.le_refl _)) (HG.out.grow B7.out) hmx hmx (by simp))
        clear IM O6 HO
        go_wp2_with (first
          | (go_at_call 13; refine IN.out.mono ?_; rintro e w8 ⟨rfl, m8, rfl⟩; have B8 := Lib.hid (below_drewN (b1.out.trans (B7.out.mono b1.out.size)) m8))
          | (go_at_call 14; refine (AW.out _).mono ?_; rintro e v5 ⟨rfl, hb⟩; have C5 := Lib.hid (B8.out.trans (hb.mono B8.out.size)); clear hb)
          | fail)
        go_ret
        exact ⟨rfl, C5.out⟩
theorem qtPuts_in (A : Option Addr) (n c : Nat) (l : List ShZ) (x : ShZ) (b : Bool) (w : World) (h : Shs w w.heap.size A n l) (hn : n * 24 ≤ 140737488355328) (hx : SOk x) :
    Calls Try.prog 3 #[.slice A n c, .agg (shc x).toArray, .bool b] w (fun e w' => e = .returned (.bool true) ∧ Below w.heap.size w w') := qtPuts_any A n c l x b w h hn hx
end Go.Proofs.Ytpodpbhbagkblaa
