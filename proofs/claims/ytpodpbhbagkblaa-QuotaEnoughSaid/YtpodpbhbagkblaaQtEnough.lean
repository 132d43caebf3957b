/- The statement QuotaEnough: the walk. -/
import Derived.Test.YtpodpbhbagkblaaQtBack
namespace Go.Proofs.Ytpodpbhbagkblaa
open Go.ChangeShapes Go.WideShapes Go.ChangeAt Go.RowKit
set_option linter.unusedVariables false
set_option linter.unusedSimpArgs false
open Plain Qt
theorem rem_of (a m : Int) (h0 : 0 < m) (hm : m ≤ 10000) : ∃ k : Int, 0 ≤ k ∧ k < m ∧ wrap64 ((IntKind.u64.wrap a).tmod m) = k := by
  have e : IntKind.u64.wrap a = a % 18446744073709551616 := IntKind.wrap_u64 a
  have h1 : 0 ≤ a % 18446744073709551616 := Int.emod_nonneg _ (by omega)
  have h2 := Int.emod_lt_of_pos (a % 18446744073709551616) h0
  have h3 := Int.emod_nonneg (a % 18446744073709551616) (show m ≠ 0 by omega)
  refine ⟨(a % 18446744073709551616) % m, h3, h2, ?_⟩
  rw [e, Int.tmod_eq_emod_of_nonneg h1]
  unfold wrap64
  omega
/-- A new tenant's share: how much is left then. -/
theorem enough {l : List ShZ} {t k s x y : Int} (hm : mayB l = true) (ho : ofR l t = none) (hx : shB ⟨t, k, s⟩ = true) (hL : leftR l = (x, y)) :
    (0 ≤ x ∧ x ≤ 64 ∧ 0 ≤ y ∧ y ≤ 4096) ∧ (x < k ∨ y < s → resR l ⟨t, k, s⟩ = ([], 120)) ∧ (k ≤ x → s ≤ y → resR l ⟨t, k, s⟩ = (insR l ⟨t, k, s⟩, 0) ∧ leftR (insR l ⟨t, k, s⟩) = (x - k, y - s) ∧ mayB (insR l ⟨t, k, s⟩) = true ∧ (insR l ⟨t, k, s⟩).length = l.length + 1) := by
  have hr := (may_parts hm).1
  have hf := (may_parts hm).2
  have hs := rise_sums hr
  have hi := ins_sums (x := ⟨t, k, s⟩) hr
  rw [show ofR l (ShZ.mk t k s).t = none from ho] at hi
  simp only [Option.getD_none, sh0] at hi
  have hl := ins_len (x := ⟨t, k, s⟩) hr
  rw [show ofR l (ShZ.mk t k s).t = none from ho] at hl
  have hxi := shB_in hx
  obtain ⟨_, _, k0, k1, s0, s1⟩ := hxi
  simp only at k0 k1 s0 s1
  simp only [fitB, Bool.and_eq_true, decide_eq_true_eq] at hf
  unfold leftR at hL
  rw [hm, if_pos rfl] at hL
  obtain ⟨e1, e2⟩ := Prod.mk.inj hL
  have hres : resR l ⟨t, k, s⟩ = toldR (insR l ⟨t, k, s⟩) := by
    unfold resR
    rw [hm, hx, show ofR l (ShZ.mk t k s).t = none from ho]; rfl
  refine ⟨by omega, fun h => ?_, fun h1 h2 => ?_⟩
  · rw [hres]
    unfold toldR
    rw [if_neg]
    simp only [fitB, Bool.and_eq_true, decide_eq_true_eq]
    omega
  · have hfit : fitB (insR l ⟨t, k, s⟩) = true := by
      simp only [fitB, Bool.and_eq_true, decide_eq_true_eq]
      omega
    have hm2 := ins_may hm hx hfit
    refine ⟨?_, ?_, hm2, by simpa using hl⟩
    · rw [hres]; unfold toldR; rw [hfit]; rfl
    · unfold leftR
      rw [hm2, if_pos rfl, hi.1, hi.2]
      congr 1 <;> omega
set_option maxRecDepth 100000 in
set_option maxHeartbeats 8000000 in
theorem qtEnough_any (A : Option Addr) (n c : Nat) (l : List ShZ) (a b2 b3 : Int) (w : World) (h : Shs w w.heap.size A n l) (hn : n * 24 ≤ 140737488355328) (ha : -9223372036854775808 ≤ a ∧ a ≤ 9223372036854775807) (hb2 : -9223372036854775808 ≤ b2 ∧ b2 ≤ 9223372036854775807) (hb3 : -9223372036854775808 ≤ b3 ∧ b3 ≤ 9223372036854775807) :
    Calls Try.prog 6 #[.slice A n c, .int .i64 a, .int .i64 b2, .int .i64 b3] w (fun e w' => e = .returned (.bool true) ∧ Below w.heap.size w w') := by
  have hmx : n ≤ maxLen := by unfold maxLen; omega
  have AW := Lib.hid (fun V => qtawake_any (w := V))
  have TM := Lib.hid (to_anyQ (c := c) h (Nat.le_refl _) hn)
  have HG := Lib.hid h
  have L := Lib.hid h.len
  obtain ⟨k1, k10, k11, ek1⟩ := rem_of a 8 (by omega) (by omega)
  obtain ⟨k2, k20, k21, ek2⟩ := rem_of b2 65 (by omega) (by omega)
  obtain ⟨k3, k30, k31, ek3⟩ := rem_of b3 4097 (by omega) (by omega)
  obtain ⟨t, ht⟩ : ∃ t, 1 + k1 = t := ⟨_, rfl⟩
  have et : IntKind.i64.wrap (1 + k1) = t := by rw [IntKind.wrap_i64]; omega
  have HX := Lib.hid (show shB ⟨t, k2, k3⟩ = true from shB_of ⟨by show 1 ≤ t; omega, by show t ≤ 8; omega, k20, by show k2 ≤ 64; omega, k30, by show k3 ≤ 4096; omega⟩)
  have K20 := Lib.hid k20
  have K21 := Lib.hid k21
  have K30 := Lib.hid k30
  have K31 := Lib.hid k31
  obtain ⟨o, ho⟩ : ∃ o, ofR l t = o := ⟨_, rfl⟩
  obtain ⟨yt, yk, ys, ok, hoV⟩ : ∃ yt yk ys ok, ofV o = .tuple #[.agg #[.int .i64 yt, .int .i64 yk, .int .i64 ys], .bool ok] := ⟨_, _, _, _, rfl⟩
  obtain ⟨m, hm⟩ : ∃ m, mayB l = m := ⟨_, rfl⟩
  have OM := Lib.hid (fun (V : World) (D : Option Addr) (d : Nat) (hV : Shs V V.heap.size D n l) => of_anyQ d t o hV (Nat.le_refl _) hmx ho)
  have MM := Lib.hid (fun (V : World) (D : Option Addr) (d : Nat) (hV : Shs V V.heap.size D n l) => may_anyQ d m hV (Nat.le_refl _) hmx hm)
  rw [hoV] at OM
  have HO := Lib.hid ho
  have HOV := Lib.hid hoV
  have HM := Lib.hid hm
  clear ha hb2 hb3 h ht k10 k11 k20 k21 k30 k31 ho hoV hm hn
  by_cases hg : 20 < n
  · have D1 : decide ((20 : Int) < (n : Int)) = true := by simp; omega
    have hI : (20 : Int) < (n : Int) := by omega
    clear hg
    go_enter Try.func6, Try.ntmps6
    go_upto_region 6 with (first
      | (go_at_call 8; refine TM.out.mono ?_; rintro e w1 ⟨D, d, rfl, o1, b1⟩; have B1 := Lib.hid b1; have H1 := Lib.hid (shs_of_own o1 HG.out.ok); clear o1 b1)
      | (go_at_call 15; refine (OM.out _ _ _ H1.out).mono ?_; rintro e w2 ⟨rfl, hb⟩; have B2 := Lib.hid (B1.out.trans (hb.mono B1.out.size)); have H2 := Lib.hid (H1.out.grow hb); clear hb)
      | fail)
    obtain ⟨g3, hg3⟩ : ∃ g, w2.heap.size = g := ⟨_, rfl⟩
    obtain ⟨W3, hW3⟩ : ∃ W, W = w2.alloc (.cells #[.int .i64 yt, .int .i64 yk, .int .i64 ys] 27) := ⟨_, rfl⟩
    rw [hg3, ← hW3]
    have b23 : Below w2.heap.size w2 W3 := by rw [hW3]; exact below_oneQ _ _
    have B3 := Lib.hid (B2.out.trans (b23.mono B2.out.size))
    have H3 := Lib.hid (H2.out.grow b23)
    clear hg3 hW3 b23 B1 B2 H1 H2 TM OM
    go_wp2_with (first
      | (go_at_call 14; refine (AW.out _).mono ?_; rintro e v5 ⟨rfl, hb⟩; have C5 := Lib.hid (B3.out.trans (hb.mono B3.out.size)); clear hb)
      | fail)
    go_ret
    exact ⟨rfl, C5.out⟩
  have D1 : decide ((20 : Int) < (n : Int)) = false := by simp; omega
  have hI : ¬ (20 : Int) < (n : Int) := by omega
  have HN := Lib.hid (show n ≤ 20 by omega)
  clear hg
  cases m with
  | false =>
    go_enter Try.func6, Try.ntmps6
    go_upto_region 6 with (first
      | (go_at_call 8; refine TM.out.mono ?_; rintro e w1 ⟨D, d, rfl, o1, b1⟩; have B1 := Lib.hid b1; have H1 := Lib.hid (shs_of_own o1 HG.out.ok); clear o1 b1)
      | (go_at_call 15; refine (OM.out _ _ _ H1.out).mono ?_; rintro e w2 ⟨rfl, hb⟩; have B2 := Lib.hid (B1.out.trans (hb.mono B1.out.size)); have H2 := Lib.hid (H1.out.grow hb); clear hb)
      | fail)
    obtain ⟨g3, hg3⟩ : ∃ g, w2.heap.size = g := ⟨_, rfl⟩
    obtain ⟨W3, hW3⟩ : ∃ W, W = w2.alloc (.cells #[.int .i64 yt, .int .i64 yk, .int .i64 ys] 27) := ⟨_, rfl⟩
    rw [hg3, ← hW3]
    have b23 : Below w2.heap.size w2 W3 := by rw [hW3]; exact below_oneQ _ _
    have B3 := Lib.hid (B2.out.trans (b23.mono B2.out.size))
    have H3 := Lib.hid (H2.out.grow b23)
    clear hg3 hW3 b23 B1 B2 H1 H2 TM OM
    go_wp2_with (first
      | (go_at_call 19; refine (MM.out _ _ _ H3.out).mono ?_; rintro e w4 ⟨rfl, hb⟩; have B4 := Lib.hid (B3.out.trans (hb.mono B3.out.size)); clear hb)
      | (go_at_call 14; refine (AW.out _).mono ?_; rintro e v5 ⟨rfl, hb⟩; have C5 := Lib.hid (B4.out.trans (hb.mono B4.out.size)); clear hb)
      | fail)
    go_ret
    exact ⟨rfl, C5.out⟩
  | true =>
  cases ok with
  | true =>
    go_enter Try.func6, Try.ntmps6
    go_upto_region 6 with (first
      | (go_at_call 8; refine TM.out.mono ?_; rintro e w1 ⟨D, d, rfl, o1, b1⟩; have B1 := Lib.hid b1; have H1 := Lib.hid (shs_of_own o1 HG.out.ok); clear o1 b1)
      | (go_at_call 15; refine (OM.out _ _ _ H1.out).mono ?_; rintro e w2 ⟨rfl, hb⟩; have B2 := Lib.hid (B1.out.trans (hb.mono B1.out.size)); have H2 := Lib.hid (H1.out.grow hb); clear hb)
      | fail)
    obtain ⟨g3, hg3⟩ : ∃ g, w2.heap.size = g := ⟨_, rfl⟩
    obtain ⟨W3, hW3⟩ : ∃ W, W = w2.alloc (.cells #[.int .i64 yt, .int .i64 yk, .int .i64 ys] 27) := ⟨_, rfl⟩
    rw [hg3, ← hW3]
    have b23 : Below w2.heap.size w2 W3 := by rw [hW3]; exact below_oneQ _ _
    have B3 := Lib.hid (B2.out.trans (b23.mono B2.out.size))
    have H3 := Lib.hid (H2.out.grow b23)
    clear hg3 hW3 b23 B1 B2 H1 H2 TM OM
    go_wp2_with (first
      | (go_at_call 19; refine (MM.out _ _ _ H3.out).mono ?_; rintro e w4 ⟨rfl, hb⟩; have B4 := Lib.hid (B3.out.trans (hb.mono B3.out.size)); clear hb)
      | (go_at_call 14; refine (AW.out _).mono ?_; rintro e v5 ⟨rfl, hb⟩; have C5 := Lib.hid (B4.out.trans (hb.mono B4.out.size)); clear hb)
      | fail)
    go_ret
    exact ⟨rfl, C5.out⟩
  | false =>
  have hon : o = none := by
    have h1 := HOV.out
    cases o with
    | none => rfl
    | some g => simp [ofV] at h1
  subst hon
  obtain ⟨x, y, hL⟩ : ∃ x y, leftR l = (x, y) := ⟨_, _, rfl⟩
  obtain ⟨⟨x0, x1, y0, y1⟩, hno, hyes⟩ := enough HM.out HO.out HX.out hL
  have LM := Lib.hid (fun (V : World) (D : Option Addr) (d : Nat) (hV : Shs V V.heap.size D n l) => left_anyQ d x y hV (Nat.le_refl _) hmx hL)
  have RM := Lib.hid (fun (V : World) (D : Option Addr) (d : Nat) (r : List ShZ × Int) (hV : Shs V V.heap.size D n l) (hr : resR l ⟨t, k2, k3⟩ = r) => reserve_any (c := d) t k2 k3 r hV (Nat.le_refl _) hmx hr)
  clear hL
  by_cases hk : x < k2
  · have HR := Lib.hid (hno (.inl hk))
    clear hno hyes
    have D2 : decide (x < k2) = true := by simpa using hk
    go_enter Try.func6, Try.ntmps6
    go_upto_region 6 with (first
      | (go_at_call 8; refine TM.out.mono ?_; rintro e w1 ⟨D, d, rfl, o1, b1⟩; have B1 := Lib.hid b1; have H1 := Lib.hid (shs_of_own o1 HG.out.ok); clear o1 b1)
      | (go_at_call 15; refine (OM.out _ _ _ H1.out).mono ?_; rintro e w2 ⟨rfl, hb⟩; have B2 := Lib.hid (B1.out.trans (hb.mono B1.out.size)); have H2 := Lib.hid (H1.out.grow hb); clear hb)
      | fail)
    obtain ⟨g3, hg3⟩ : ∃ g, w2.heap.size = g := ⟨_, rfl⟩
    obtain ⟨W3, hW3⟩ : ∃ W, W = w2.alloc (.cells #[.int .i64 yt, .int .i64 yk, .int .i64 ys] 27) := ⟨_, rfl⟩
    rw [hg3, ← hW3]
    have b23 : Below w2.heap.size w2 W3 := by rw [hW3]; exact below_oneQ _ _
    have B3 := Lib.hid (B2.out.trans (b23.mono B2.out.size))
    have H3 := Lib.hid (H2.out.grow b23)
    clear hg3 hW3 b23 B1 B2 H1 H2 TM OM
    go_wp2_with (first
      | (go_at_call 19; refine (MM.out _ _ _ H3.out).mono ?_; rintro e w4 ⟨rfl, hb⟩; have B4 := Lib.hid (B3.out.trans (hb.mono B3.out.size)); have H4 := Lib.hid (H3.out.grow hb); clear hb)
      | (go_at_call 17; refine (LM.out _ _ _ H4.out).mono ?_; rintro e w5 ⟨rfl, hb⟩; have B5 := Lib.hid (B4.out.trans (hb.mono B4.out.size)); have H5 := Lib.hid (H4.out.grow hb); clear hb)
      | (go_at_call 11; refine (RM.out _ _ _ _ H5.out HR.out).mono ?_; intro e w6 hgv; obtain ⟨N, D6, d6, rfl, hs6, hb⟩ := hgv.shs (fun g hg => by simp at hg); obtain rfl : N = 0 := hs6.len.symm; have B6 := Lib.hid (B5.out.trans (hb.mono B5.out.size)); clear hgv hs6 hb)
      | (go_at_call 14; refine (AW.out _).mono ?_; rintro e v5 ⟨rfl, hb⟩; have C5 := Lib.hid (B6.out.trans (hb.mono B6.out.size)); clear hb)
      | fail)
    go_ret
    exact ⟨rfl, C5.out⟩
  by_cases hs : y < k3
  · have HR := Lib.hid (hno (.inr hs))
    clear hno hyes
    have D2 : decide (x < k2) = false := by simpa using hk
    have D3 : decide (y < k3) = true := by simpa using hs
    go_enter Try.func6, Try.ntmps6
    go_upto_region 6 with (first
      | (go_at_call 8; refine TM.out.mono ?_; rintro e w1 ⟨D, d, rfl, o1, b1⟩; have B1 := Lib.hid b1; have H1 := Lib.hid (shs_of_own o1 HG.out.ok); clear o1 b1)
      | (go_at_call 15; refine (OM.out _ _ _ H1.out).mono ?_; rintro e w2 ⟨rfl, hb⟩; have B2 := Lib.hid (B1.out.trans (hb.mono B1.out.size)); have H2 := Lib.hid (H1.out.grow hb); clear hb)
      | fail)
    obtain ⟨g3, hg3⟩ : ∃ g, w2.heap.size = g := ⟨_, rfl⟩
    obtain ⟨W3, hW3⟩ : ∃ W, W = w2.alloc (.cells #[.int .i64 yt, .int .i64 yk, .int .i64 ys] 27) := ⟨_, rfl⟩
    rw [hg3, ← hW3]
    have b23 : Below w2.heap.size w2 W3 := by rw [hW3]; exact below_oneQ _ _
    have B3 := Lib.hid (B2.out.trans (b23.mono B2.out.size))
    have H3 := Lib.hid (H2.out.grow b23)
    clear hg3 hW3 b23 B1 B2 H1 H2 TM OM
    go_wp2_with (first
      | (go_at_call 19; refine (MM.out _ _ _ H3.out).mono ?_; rintro e w4 ⟨rfl, hb⟩; have B4 := Lib.hid (B3.out.trans (hb.mono B3.out.size)); have H4 := Lib.hid (H3.out.grow hb); clear hb)
      | (go_at_call 17; refine (LM.out _ _ _ H4.out).mono ?_; rintro e w5 ⟨rfl, hb⟩; have B5 := Lib.hid (B4.out.trans (hb.mono B4.out.size)); have H5 := Lib.hid (H4.out.grow hb); clear hb)
      | (go_at_call 11; refine (RM.out _ _ _ _ H5.out HR.out).mono ?_; intro e w6 hgv; obtain ⟨N, D6, d6, rfl, hs6, hb⟩ := hgv.shs (fun g hg => by simp at hg); obtain rfl : N = 0 := hs6.len.symm; have B6 := Lib.hid (B5.out.trans (hb.mono B5.out.size)); clear hgv hs6 hb)
      | (go_at_call 14; refine (AW.out _).mono ?_; rintro e v5 ⟨rfl, hb⟩; have C5 := Lib.hid (B6.out.trans (hb.mono B6.out.size)); clear hb)
      | fail)
    go_ret
    exact ⟨rfl, C5.out⟩
  obtain ⟨h1, h2, h3, h4⟩ := hyes (by omega) (by omega)
  have HR := Lib.hid h1
  have HL2 := Lib.hid h2
  have HM2 := Lib.hid h3
  have D2 : decide (x < k2) = false := by simpa using hk
  have D3 : decide (y < k3) = false := by simpa using hs
  have HI : Hid ((insR l ⟨t, k2, k3⟩).length = n + 1) := Lib.hid (by rw [h4, L.out])
  have hok := Lib.hid (show ∀ g, g ∈ insR l ⟨t, k2, k3⟩ → SOk g from fun g hg => sok_in (rise_in (may_parts HM2.out).1 g hg).1)
  have e1 : IntKind.i64.wrap (x - k2) = x - k2 := by have := K20.out; have := K21.out; rw [IntKind.wrap_i64]; omega
  have e2 : IntKind.i64.wrap (y - k3) = y - k3 := by have := K30.out; have := K31.out; rw [IntKind.wrap_i64]; omega
  have e3 : IntKind.i64.wrap ((n : Int) + 1) = ((n + 1 : Nat) : Int) := by have := HN.out; rw [IntKind.wrap_i64]; omega
  have e4 : IntKind.i64.wrap ((n : Int) + 1) = (n : Int) + 1 := by have := HN.out; rw [IntKind.wrap_i64]; omega
  clear h1 h2 h3 h4 hno hyes x0 x1 y0 y1 e3
  go_enter Try.func6, Try.ntmps6
  go_upto_region 6 with (first
    | (go_at_call 8; refine TM.out.mono ?_; rintro e w1 ⟨D, d, rfl, o1, b1⟩; have B1 := Lib.hid b1; have H1 := Lib.hid (shs_of_own o1 HG.out.ok); clear o1 b1)
    | (go_at_call 15; refine (OM.out _ _ _ H1.out).mono ?_; rintro e w2 ⟨rfl, hb⟩; have B2 := Lib.hid (B1.out.trans (hb.mono B1.out.size)); have H2 := Lib.hid (H1.out.grow hb); clear hb)
    | fail)
  obtain ⟨g3, hg3⟩ : ∃ g, w2.heap.size = g := ⟨_, rfl⟩
  obtain ⟨W3, hW3⟩ : ∃ W, W = w2.alloc (.cells #[.int .i64 yt, .int .i64 yk, .int .i64 ys] 27) := ⟨_, rfl⟩
  rw [hg3, ← hW3]
  have b23 : Below w2.heap.size w2 W3 := by rw [hW3]; exact below_oneQ _ _
  have B3 := Lib.hid (B2.out.trans (b23.mono B2.out.size))
  have H3 := Lib.hid (H2.out.grow b23)
  clear hg3 hW3 b23 B1 B2 H1 H2 TM OM
  go_wp2_with (first
    | (go_at_call 19; refine (MM.out _ _ _ H3.out).mono ?_; rintro e w4 ⟨rfl, hb⟩; have B4 := Lib.hid (B3.out.trans (hb.mono B3.out.size)); have H4 := Lib.hid (H3.out.grow hb); clear hb)
    | (go_at_call 17; refine (LM.out _ _ _ H4.out).mono ?_; rintro e w5 ⟨rfl, hb⟩; have B5 := Lib.hid (B4.out.trans (hb.mono B4.out.size)); have H5 := Lib.hid (H4.out.grow hb); clear hb LM)
    | (go_at_call 11; refine (RM.out _ _ _ _ H5.out HR.out).mono ?_; intro e w6 hgv; obtain ⟨N, D6, d6, rfl, hs6, hb⟩ := hgv.shs hok.out; obtain rfl : N = n + 1 := hs6.len.symm.trans HI.out; have B6 := Lib.hid (B5.out.trans (hb.mono B5.out.size)); have LN := Lib.hid (left_anyQ d6 (x - k2) (y - k3) hs6 (Nat.le_refl _) (by have := HN.out; unfold maxLen; omega) HL2.out); clear hgv hs6 hb)
    | (go_at_call 17; refine LN.out.mono ?_; rintro e w7 ⟨rfl, hb⟩; have B7 := Lib.hid (B6.out.trans (hb.mono B6.out.size)); clear hb)
    | (go_at_call 14; refine (AW.out _).mono ?_; rintro e v5 ⟨rfl, hb⟩; have C5 := Lib.hid (B7.out.trans (hb.mono B7.out.size)); clear hb)
    | fail)
  go_ret
  exact ⟨rfl, C5.out⟩
end Go.Proofs.Ytpodpbhbagkblaa
