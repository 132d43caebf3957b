/- The statement QuotaBack: the walk. -/
import Derived.Test.YtpodpbhbagkblaaQtL
import Derived.Test.YtpodpbhbagkblaaQtN
namespace Go.Proofs.Ytpodpbhbagkblaa
open Go.ChangeShapes Go.WideShapes Go.ChangeAt Go.RowKit
set_option linter.unusedVariables false
set_option linter.unusedSimpArgs false
open Plain Qt
theorem idx_ofQ (a : Int) (m : Nat) (h0 : 0 < m) (hm : m ≤ 20) : ∃ k : Nat, k < m ∧ wrap64 ((IntKind.u64.wrap a).tmod (m : Int)) = (k : Int) := by
  have e : IntKind.u64.wrap a = a % 18446744073709551616 := IntKind.wrap_u64 a
  have h1 : 0 ≤ a % 18446744073709551616 := Int.emod_nonneg _ (by omega)
  refine ⟨((a % 18446744073709551616) % (m : Int)).toNat, ?_, ?_⟩
  · have h2 := Int.emod_lt_of_pos (a % 18446744073709551616) (show (0 : Int) < m by omega)
    have h3 := Int.emod_nonneg (a % 18446744073709551616) (show (m : Int) ≠ 0 by omega)
    omega
  · rw [e, Int.tmod_eq_emod_of_nonneg h1]
    have h2 := Int.emod_lt_of_pos (a % 18446744073709551616) (show (0 : Int) < m by omega)
    have h3 := Int.emod_nonneg (a % 18446744073709551616) (show (m : Int) ≠ 0 by omega)
    unfold wrap64
    omega
theorem siz_ok {l : List ShZ} {x : ShZ} {r : List ShZ × Int} (hr : sizR l x = r) (h0 : r.2 = 0) : mayB l = true ∧ shB x = true ∧ (ofR l x.t).isSome = true ∧ r.1 = insR l x ∧ fitB (insR l x) = true := by
  subst hr
  unfold sizR at h0 ⊢
  split at h0
  · next h =>
    rw [if_pos h]
    obtain ⟨h1, h2⟩ := Bool.and_eq_true_iff.1 h
    split at h0
    · next h3 =>
      rw [if_pos h3]
      unfold toldR at h0 ⊢
      split at h0
      · next h4 => rw [if_pos h4]; exact ⟨h1, h2, h3, rfl, h4⟩
      · simp at h0
    · simp at h0
  · simp at h0
theorem ins_may {l : List ShZ} {x : ShZ} (h1 : mayB l = true) (h2 : shB x = true) (h3 : fitB (insR l x) = true) : mayB (insR l x) = true := by
  unfold mayB
  rw [ins_rise (may_parts h1).1 h2 (by have := (shB_in h2).t1; omega), h3]; rfl
theorem ins_back {l : List ShZ} {x y : ShZ} (hm : mayB l = true) (hx : ofR l x.t = some x) (hy : y.t = x.t) (hyB : shB y = true) : insR (insR l y) x = l := by
  have hr := (may_parts hm).1
  have hxm := of_t hx
  have hxB := shB_of (rise_in hr x hxm.2).1
  have h1 : riseQ 0 (insR l y) = true := ins_rise hr hyB (by have := (shB_in hyB).t1; omega)
  have h2 : riseQ 0 (insR (insR l y) x) = true := ins_rise h1 hxB (by have := (shB_in hxB).t1; omega)
  refine rise_ext h2 hr fun t => ?_
  rw [of_ins, of_ins]
  by_cases e : x.t = t
  · rw [if_pos e, ← e, hx]
  · rw [if_neg e, if_neg (by omega)]
theorem siz_back {l : List ShZ} {x y : ShZ} {r : List ShZ × Int} (hx : ofR l x.t = some x) (hy : y.t = x.t) (hr : sizR l y = r) (h0 : r.2 = 0) : sizR r.1 x = (l, 0) := by
  obtain ⟨h1, h2, h3, h4, h5⟩ := siz_ok hr h0
  have hxm := of_t hx
  have hxB := shB_of (rise_in (may_parts h1).1 x hxm.2).1
  rw [h4]
  unfold sizR
  rw [ins_may h1 h2 h5, hxB, of_ins, if_pos hy, ins_back h1 hx hy h2]
  unfold toldR
  rw [(may_parts h1).2]
  rfl
theorem of_at : ∀ {l : List ShZ} {p : Int}, riseQ p l = true → ∀ {k : Nat} {x : ShZ}, l[k]? = some x → ofR l x.t = some x
  | [], _, _, k, x, h => by simp at h
  | y :: l, p, hr, 0, x, h => by
    obtain rfl : y = x := by simpa using h
    rw [of_cons, if_pos rfl]
  | y :: l, p, hr, k + 1, x, h => by
    simp only [riseQ, Bool.and_eq_true, decide_eq_true_eq] at hr
    have h' : l[k]? = some x := by simpa using h
    have := (rise_in hr.2 x (List.mem_of_getElem? h')).2
    rw [of_cons, if_neg (by omega)]
    exact of_at hr.2 h'
theorem siz_rows {l : List ShZ} {x : ShZ} {r : List ShZ × Int} (hr : sizR l x = r) : (∀ g, g ∈ r.1 → SOk g) ∧ r.1.length ≤ 8 := by
  by_cases h0 : r.2 = 0
  · obtain ⟨h1, h2, h3, h4, h5⟩ := siz_ok hr h0
    rw [h4]
    have h6 := (may_parts (ins_may h1 h2 h5)).1
    exact ⟨fun g hg => sok_in (rise_in h6 g hg).1, rise_len8 h6⟩
  · have : r.1 = [] := by
      subst hr
      unfold sizR at h0 ⊢
      split
      · next h =>
        rw [if_pos h] at h0
        split
        · next h3 =>
          rw [if_pos h3] at h0
          unfold toldR at h0 ⊢
          split
          · next h4 => rw [if_pos h4] at h0; exact absurd rfl h0
          · rfl
        · rfl
      · rfl
    rw [this]
    exact ⟨fun g hg => by simp at hg, by simp⟩
theorem GivesQ.shs {w w' : World} {r : List ShZ × Int} {e : Ending} (h : GivesQ w r e w') (hok : ∀ g, g ∈ r.1 → SOk g) :
    ∃ N D d, e = .returned (.tuple #[.slice D N d, .int .i64 r.2]) ∧ Shs w' w'.heap.size D N r.1 ∧ Below w.heap.size w w' := by
  obtain ⟨N, D, d, rfl, ho, hb⟩ := h
  exact ⟨N, D, d, rfl, shs_of_own ho hok, hb⟩
set_option maxRecDepth 100000 in
set_option maxHeartbeats 8000000 in
theorem qtBack_any (A : Option Addr) (n c : Nat) (l : List ShZ) (a b2 b3 : Int) (w : World) (h : Shs w w.heap.size A n l) (hn : n * 24 ≤ 140737488355328) (ha : -9223372036854775808 ≤ a ∧ a ≤ 9223372036854775807) (hb2 : -9223372036854775808 ≤ b2 ∧ b2 ≤ 9223372036854775807) (hb3 : -9223372036854775808 ≤ b3 ∧ b3 ≤ 9223372036854775807) :
    Calls Try.prog 7 #[.slice A n c, .int .i64 a, .int .i64 b2, .int .i64 b3] w (fun e w' => e = .returned (.bool true) ∧ Below w.heap.size w w') := by
  have hmx : n ≤ maxLen := by unfold maxLen; omega
  have AW := Lib.hid (fun V => qtawake_any (w := V))
  have TM := Lib.hid (to_anyQ (c := c) h (Nat.le_refl _) hn)
  have HG := Lib.hid h
  have L := Lib.hid h.len
  clear ha hb2 hb3 h
  -- the three ways to the examples alone
  by_cases h0 : n = 0
  · subst h0
    go_enter Try.func7, Try.ntmps7
    go_wp2_with (first
      | (go_at_call 8; refine TM.out.mono ?_; rintro e w1 ⟨D, d, rfl, o1, b1⟩; have B1 := Lib.hid b1; clear o1 b1)
      | (go_at_call 14; refine (AW.out _).mono ?_; rintro e v5 ⟨rfl, hb⟩; have C5 := Lib.hid (B1.out.trans (hb.mono B1.out.size)); clear hb)
      | fail)
    go_ret
    exact ⟨rfl, C5.out⟩
  have h0I : ¬ ((n : Int) = 0) := by omega
  by_cases hg : 20 < n
  · have hI : (20 : Int) < (n : Int) := by omega
    clear hg h0
    go_enter Try.func7, Try.ntmps7
    go_wp2_with (first
      | (go_at_call 8; refine TM.out.mono ?_; rintro e w1 ⟨D, d, rfl, o1, b1⟩; have B1 := Lib.hid b1; clear o1 b1)
      | (go_at_call 14; refine (AW.out _).mono ?_; rintro e v5 ⟨rfl, hb⟩; have C5 := Lib.hid (B1.out.trans (hb.mono B1.out.size)); clear hb)
      | fail)
    go_ret
    exact ⟨rfl, C5.out⟩
  have hI : ¬ (20 : Int) < (n : Int) := by omega
  obtain ⟨m, hm⟩ : ∃ m, mayB l = m := ⟨_, rfl⟩
  have MM := Lib.hid (fun (V : World) (D : Option Addr) (d : Nat) (hV : Shs V V.heap.size D n l) => may_anyQ d m hV (Nat.le_refl _) hmx hm)
  cases m with
  | false =>
    clear hm hg h0
    go_enter Try.func7, Try.ntmps7
    go_wp2_with (first
      | (go_at_call 8; refine TM.out.mono ?_; rintro e w1 ⟨D, d, rfl, o1, b1⟩; have B1 := Lib.hid b1; have H1 := Lib.hid (shs_of_own o1 HG.out.ok); clear o1 b1)
      | (go_at_call 19; refine (MM.out _ _ _ H1.out).mono ?_; rintro e v3 ⟨rfl, hb⟩; have B2 := Lib.hid (B1.out.trans (hb.mono B1.out.size)); clear hb)
      | (go_at_call 14; refine (AW.out _).mono ?_; rintro e v5 ⟨rfl, hb⟩; have C5 := Lib.hid (B2.out.trans (hb.mono B2.out.size)); clear hb)
      | fail)
    go_ret
    exact ⟨rfl, C5.out⟩
  | true =>
  have D0 : ((n : Int) == 0) = false := by simpa using h0I
  have D1 : decide ((20 : Int) < (n : Int)) = false := by simpa using hI
  obtain ⟨k, hk, hka⟩ := idx_ofQ a n (by omega) (by omega)
  have hkI : (k : Int) < (n : Int) := by omega
  have hwu : IntKind.u64.wrap (n : Int) = (n : Int) := by rw [IntKind.wrap_u64]; omega
  have hnz : (n : Int) ≠ 0 := by omega
  have HM := Lib.hid hm
  have HN := Lib.hid (show n ≤ 20 by omega)
  clear hm hg h0 hn
  go_enter Try.func7, Try.ntmps7
  go_upto_region 4 with (first
    | (go_at_call 8; refine TM.out.mono ?_; rintro e w1 ⟨D, d, rfl, o1, b1⟩; have B1 := Lib.hid b1; have H1 := Lib.hid (shs_of_own o1 HG.out.ok); clear o1 b1)
    | (go_at_call 19; refine (MM.out _ _ _ H1.out).mono ?_; rintro e w2 ⟨rfl, hb⟩; have B2 := Lib.hid (B1.out.trans (hb.mono B1.out.size)); have H2 := Lib.hid (H1.out.grow hb); clear hb)
    | fail)
  obtain ⟨bb, off, g, rfl, hbb, HK, hgo, c0, c1, c2⟩ := H2.out.at_ hk
  obtain ⟨t, kk, s⟩ := g
  simp only at c0 c1 c2
  clear hgo hbb
  go_upto_region 5 with fail
  obtain ⟨g3, hg3⟩ : ∃ g, w2.heap.size = g := ⟨_, rfl⟩
  obtain ⟨W3, hW3⟩ : ∃ W, W = w2.alloc (.cells #[.int .i64 t, .int .i64 kk, .int .i64 s] 27) := ⟨_, rfl⟩
  rw [hg3, ← hW3]
  have b23 : Below w2.heap.size w2 W3 := by rw [hW3]; exact below_oneQ _ _
  have B3 := Lib.hid (B2.out.trans (b23.mono B2.out.size))
  have H3 := Lib.hid (H2.out.grow b23)
  have X3 := Lib.hid (show QBox W3 g3 t kk s by rw [hW3]; exact qbox_new _ _ _ _ _ _ hg3)
  have hof := Lib.hid (of_at (may_parts HM.out).1 HK.out)
  clear hg3 hW3 b23 c0 c1 c2 hka hwu hnz D0 D1 h0I hI hkI TM MM
  obtain ⟨⟨rl, re⟩, hr⟩ : ∃ r, sizR l ⟨t, b2, b3⟩ = r := ⟨_, rfl⟩
  have hrows := Lib.hid (siz_rows hr)
  have RM := Lib.hid (resize_any (c := d) t b2 b3 (rl, re) H3.out (Nat.le_refl _) hmx hr)
  by_cases hre : re = 0
  · subst hre
    have hback := Lib.hid (siz_back (y := ⟨t, b2, b3⟩) hof.out rfl hr rfl)
    obtain ⟨h1, h2, h3⟩ := X3.out
    clear hr
    go_upto_region 6 with (go_at_call 9; refine RM.out.mono ?_; intro e w4 hgv; obtain ⟨N, D4, d4, rfl, hs4, hb⟩ := hgv.shs hrows.out.1; have B4 := Lib.hid (B3.out.trans (hb.mono B3.out.size)); have H4 := Lib.hid hs4; have X4 := Lib.hid (X3.out.grow hb); clear hgv hs4 hb)
    have hN : N ≤ maxLen := by
      have e1 : rl.length = N := H4.out.len
      have e2 : rl.length ≤ 8 := hrows.out.2
      unfold maxLen; omega
    have SM := Lib.hid (resize_any (c := d4) t kk s (l, 0) H4.out (Nat.le_refl _) hN hback.out)
    obtain ⟨i1, i2, i3⟩ := X4.out
    clear h1 h2 h3 hN
    go_wp2_with (first
      | (go_at_call 9; refine SM.out.mono ?_; intro e w5 hgv; obtain ⟨N5, D5, d5, rfl, hs5, hb⟩ := hgv.shs HG.out.ok; have B5 := Lib.hid (B4.out.trans (hb.mono B4.out.size)); have H5 := Lib.hid hs5; have IM := Lib.hid (is_anyQ d5 c true H5.out (HG.out.grow B5.out) (by have e1 : l.length = N5 := H5.out.len; have e2 := L.out; have e3 := HN.out; unfold maxLen; omega) hmx (by simp)); clear hgv hs5 hb)
      | (go_at_call 13; refine IM.out.mono ?_; rintro e w6 ⟨rfl, m6, rfl⟩; have B6 := Lib.hid (below_drewN B5.out m6))
      | (go_at_call 14; refine (AW.out _).mono ?_; rintro e w7 ⟨rfl, hb⟩; have B7 := Lib.hid (B6.out.trans (hb.mono B6.out.size)); clear hb)
      | fail)
    go_ret
    exact ⟨rfl, B7.out⟩
  · have hreI : ¬ (re = 0) := hre
    have E0 : (re == 0) = false := by simpa using hre
    obtain ⟨h1, h2, h3⟩ := X3.out
    clear hr hre
    go_wp2_with (first
      | (go_at_call 9; refine RM.out.mono ?_; intro e w4 hgv; obtain ⟨N, D4, d4, rfl, hs4, hb⟩ := hgv.shs hrows.out.1; have B4 := Lib.hid (B3.out.trans (hb.mono B3.out.size)); clear hgv hs4 hb)
      | (go_at_call 14; refine (AW.out _).mono ?_; rintro e w7 ⟨rfl, hb⟩; have B7 := Lib.hid (B4.out.trans (hb.mono B4.out.size)); clear hb)
      | fail)
    go_ret
    exact ⟨rfl, B7.out⟩
end Go.Proofs.Ytpodpbhbagkblaa
