/- Which entries, configurations, messages may be. Printed by gen_msc.py. -/
import Derived.Test.YtfihiandifnkpaaMsB
namespace Go.Proofs.Ytfihiandifnkpaa
open Go.ChangeShapes Go.WideShapes Go.ChangeAt Go.RowKit
set_option linter.unusedVariables false
set_option maxRecDepth 100000
set_option linter.unusedSimpArgs false
open Plain Sha Ms
theorem getD_map0 (l : List EX) (k : Nat) (x : EX) (h : l[k]? = some x) : (l.map EX.z).getD k ez0 = x.z := by
  rw [List.getD_eq_getElem?_getD, List.getElem?_map, h]; rfl
theorem getD_at {l : List MemZ} {k : Nat} {x : MemZ} (h : l[k]? = some x) : l.getD k mm0 = x := by
  rw [List.getD_eq_getElem?_getD, h]; rfl
set_option maxHeartbeats 4000000 in
theorem mayentry_any {w : World} {B : Nat} {x : EX} (q : Bool) (h : EOk w B x) (hq : entB x.z = q) : Calls Try.prog 26 #[.agg (ec x).toArray] w (fun e w' => e = .returned (.bool q) ∧ Below w.heap.size w w') := by
  obtain ⟨cv, hcv⟩ : ∃ c, cliB x.client x.id = c := ⟨_, rfl⟩
  have HQ : Hid ((decide (1 ≤ x.pos) && decide (0 ≤ x.stamp) && cv && decide (x.n ≤ 1024)) = q) := Lib.hid (by rw [← hq, ← hcv, ← h.body.len]; rfl)
  have HC := Lib.hid (mayid_any x.client x.id cv hcv)
  clear hq hcv h
  obtain ⟨W1, hW1⟩ : ∃ W, W = w.alloc (.cells (ec x).toArray 42) := ⟨_, rfl⟩
  have b1 := Lib.hid (show Below w.heap.size w W1 by rw [hW1]; exact below_one _ _)
  obtain ⟨g, hg⟩ : ∃ g, w.heap.size = g := ⟨_, rfl⟩
  have Hg := Lib.hid hg
  have V1 := Lib.hid (show VBox W1 g 5 (ec x) by rw [hW1]; exact vbox_new _ _ _ _ _ hg rfl (by omega))
  have z1 := Lib.hid (show W1.heap.size = g + 1 by rw [hW1]; simp [hg])
  have HW1 := Lib.hid hW1
  obtain ⟨q0, q1, q2, q3, q4⟩ := V1.out.e
  clear hW1 hg
  by_cases h0 : 1 ≤ x.pos
  · by_cases h1 : 0 ≤ x.stamp
    · by_cases h2 : cv = true
      · subst h2
        have hi3 : (x.n ≤ 1024) ↔ ((x.n : Int) ≤ 1024) := by omega
        have e : decide ((x.n : Int) ≤ 1024) = q := by rw [← HQ.out]; simp [h0, h1, hi3]
        clear HQ
        go_enter Try.func26, Try.ntmps26
        go_upto_region 1 with fail
        rw [← HW1.out, Hg.out]
        go_wp2_with (go_at_call 63; refine (HC.out _).mono ?_; rintro e w5 ⟨rfl, rfl⟩)
        go_ret
        exact ⟨(by rw [← e] <;> rfl), b1.out⟩
      · have h2 : cv = false := by simpa using h2
        subst h2
        have e : false = q := by rw [← HQ.out]; simp [h0, h1]
        subst e
        clear HQ
        go_enter Try.func26, Try.ntmps26
        go_upto_region 1 with fail
        rw [← HW1.out, Hg.out]
        go_wp2_with (go_at_call 63; refine (HC.out _).mono ?_; rintro e w5 ⟨rfl, rfl⟩)
        go_ret
        exact ⟨rfl, b1.out⟩
    · have e : false = q := by rw [← HQ.out]; simp [h0, h1]
      subst e
      clear HQ
      go_enter Try.func26, Try.ntmps26
      go_upto_region 1 with fail
      rw [← HW1.out, Hg.out]
      go_wp2_with (go_at_call 63; refine (HC.out _).mono ?_; rintro e w5 ⟨rfl, rfl⟩)
      go_ret
      exact ⟨rfl, b1.out⟩
  · have e : false = q := by rw [← HQ.out]; simp [h0]
    subst e
    clear HQ
    go_enter Try.func26, Try.ntmps26
    go_upto_region 1 with fail
    rw [← HW1.out, Hg.out]
    go_wp2_with (go_at_call 63; refine (HC.out _).mono ?_; rintro e w5 ⟨rfl, rfl⟩)
    go_ret
    exact ⟨rfl, b1.out⟩
set_option maxHeartbeats 4000000 in
theorem allE_any {w : World} {B n : Nat} {A : Option Addr} {l : List EX} (c : Nat) (F : FuncId) (cap : Value) (p : Nat → Bool) (q : Bool) (h : Ents w B A n l) (hB : B ≤ w.heap.size) (hn : n ≤ 9223372036854775807) (hq : allT p n = q)
    (hF : ∀ (W : World) (k : Nat) (x : EX), Below w.heap.size w W → l[k]? = some x → k < n → Calls Try.prog F #[.int .i64 k, .agg (ec x).toArray, cap] W (fun e w' => e = .returned (.bool (p k)) ∧ Below W.heap.size W w')) (hin : ∀ args W, (callFunc F args).run Try.prog W = .ok (.enter F args) W) :
    Calls Try.prog 116 #[.slice A n c, .func (.func F) #[] #[cap]] w (fun e w' => e = .returned (.bool q) ∧ Below w.heap.size w w') := by
  have HF := Lib.hid hF
  have HH := Lib.hid h
  have HQ := Lib.hid hq
  have b0 := Lib.hid (Below.refl w.heap.size w)
  clear hF h hq
  go_enter Try.func116, Try.ntmps116
  go_wp2
  go_loopw [9] (fun i wr => ∃ k : Nat, k ≤ n ∧ i = .int .i64 k ∧ Hid (Below w.heap.size w wr) ∧ Hid (allT p k = true)) (fun i _ => n - (intOf i).toNat)
  case atStart => exact ⟨0, by omega, rfl, b0, Lib.hid rfl⟩
  case round =>
    obtain ⟨k, hk, rfl, BR, PR⟩ := hrel
    by_cases hlt : k < n
    · have hki : (k : Int) < (n : Int) := by omega
      obtain ⟨b, off, x, hA, hb, hx, hm, hr⟩ := (HH.out.below BR.out hB).row.at_ ec_len hlt
      obtain ⟨c0, c1, c2, c3, c4⟩ := rng_e hr
      subst hA
      obtain ⟨W2, hW2⟩ : ∃ W, W = wr.alloc (.cells #[.int .i64 x.pos, .int .i64 x.stamp, .int .i64 x.client, .int .i64 x.id, .slice x.A x.n x.c] 42) := ⟨_, rfl⟩
      obtain ⟨g, hg⟩ : ∃ g, wr.heap.size = g := ⟨_, rfl⟩
      have Hg := Lib.hid hg
      have b2 := Lib.hid (show Below wr.heap.size wr W2 by rw [hW2]; exact below_one _ _)
      have V2 := Lib.hid (show VBox W2 g 5 (ec x) by rw [hW2]; exact vbox_new wr (ec x) _ _ _ hg rfl (by omega))
      have B2 := Lib.hid (BR.out.trans (b2.out.mono BR.out.size))
      obtain ⟨v, hv⟩ : ∃ v, p k = v := ⟨_, rfl⟩
      have CF := Lib.hid (HF.out W2 k x B2.out hx.out hlt)
      rw [hv] at CF
      have HW2 := Lib.hid hW2
      clear hm hr hW2 hg
      go_upto_region 4 with fail
      rw [← HW2.out, Hg.out]
      clear c0 c1 c2
      cases v with
      | false =>
        have e : false = q := by rw [← HQ.out]; exact (allT_no hlt hv).symm
        subst e
        go_wp2_with (first
            | (with_reducible show wpList _ _ _ (⟨some 16, .load 42 (.tmp 6), _, _, _, _⟩ :: _) _ _; refine wpList_load_mid (op := ⟨some 16, .load 42 (.tmp 6), _, _, _, _⟩) rfl 42 (.tmp 6) rfl (g) (0) rfl (ec x) _ (V2.out.range) Try.underlying42 rfl (e_size _) ?_)
            | (first | (refine wpList_call_value _ rfl rfl (hin _ _) ?_) | skip; refine CF.out.mono ?_; rintro e w5 ⟨rfl, hb5⟩; have B5 := Lib.hid (B2.out.trans (hb5.mono B2.out.size)); clear hb5))
        go_ret
        exact ⟨rfl, B5.out⟩
      | true =>
        have PR2 : Hid (allT p (k + 1) = true) := Lib.hid (by show (allT p k && p k) = true; rw [PR.out, hv]; rfl)
        go_wp2_with (first
            | (with_reducible show wpList _ _ _ (⟨some 16, .load 42 (.tmp 6), _, _, _, _⟩ :: _) _ _; refine wpList_load_mid (op := ⟨some 16, .load 42 (.tmp 6), _, _, _, _⟩) rfl 42 (.tmp 6) rfl (g) (0) rfl (ec x) _ (V2.out.range) Try.underlying42 rfl (e_size _) ?_)
            | (refine CF.out.mono ?_; rintro e w5 ⟨rfl, hb5⟩; have B5 := Lib.hid (B2.out.trans (hb5.mono B2.out.size)); clear hb5))
        go_roundw
        case rel => exact ⟨k + 1, by omega, by go_num, B5, PR2⟩
        case measure => simp [intOf]; omega
    · have hki : ¬ (k : Int) < (n : Int) := by omega
      have hkn : k = n := by omega
      have e : true = q := by rw [← HQ.out, ← hkn, PR.out]
      subst e
      go_wp2
      go_ret
      exact ⟨rfl, BR.out⟩
set_option maxHeartbeats 4000000 in
theorem allB_any {w : World} {B n : Nat} {A : Option Addr} {l : List MemZ} (c : Nat) (F : FuncId) (cap : Value) (p : Nat → Bool) (q : Bool) (h : Mems w B A n l) (hB : B ≤ w.heap.size) (hn : n ≤ 9223372036854775807) (hq : allT p n = q)
    (hF : ∀ (W : World) (k : Nat) (x : MemZ), Below w.heap.size w W → l[k]? = some x → k < n → Calls Try.prog F #[.int .i64 k, .agg (bc x).toArray, cap] W (fun e w' => e = .returned (.bool (p k)) ∧ Below W.heap.size W w')) (hin : ∀ args W, (callFunc F args).run Try.prog W = .ok (.enter F args) W) :
    Calls Try.prog 64 #[.slice A n c, .func (.func F) #[] #[cap]] w (fun e w' => e = .returned (.bool q) ∧ Below w.heap.size w w') := by
  have HF := Lib.hid hF
  have HH := Lib.hid h
  have HQ := Lib.hid hq
  have b0 := Lib.hid (Below.refl w.heap.size w)
  clear hF h hq
  go_enter Try.func64, Try.ntmps64
  go_wp2
  go_loopw [9] (fun i wr => ∃ k : Nat, k ≤ n ∧ i = .int .i64 k ∧ Hid (Below w.heap.size w wr) ∧ Hid (allT p k = true)) (fun i _ => n - (intOf i).toNat)
  case atStart => exact ⟨0, by omega, rfl, b0, Lib.hid rfl⟩
  case round =>
    obtain ⟨k, hk, rfl, BR, PR⟩ := hrel
    by_cases hlt : k < n
    · have hki : (k : Int) < (n : Int) := by omega
      obtain ⟨b, off, x, hA, hb, hx, hm, hr⟩ := (HH.out.below BR.out hB).row.at_ bc_len hlt
      obtain ⟨c0, c1, c2⟩ := rng_b hr
      subst hA
      obtain ⟨W2, hW2⟩ : ∃ W, W = wr.alloc (.cells #[.int .i64 x.node, .int .i64 x.since, .bool x.whole] 91) := ⟨_, rfl⟩
      obtain ⟨g, hg⟩ : ∃ g, wr.heap.size = g := ⟨_, rfl⟩
      have Hg := Lib.hid hg
      have b2 := Lib.hid (show Below wr.heap.size wr W2 by rw [hW2]; exact below_one _ _)
      have V2 := Lib.hid (show VBox W2 g 3 (bc x) by rw [hW2]; exact vbox_new wr (bc x) _ _ _ hg rfl (by omega))
      have B2 := Lib.hid (BR.out.trans (b2.out.mono BR.out.size))
      obtain ⟨v, hv⟩ : ∃ v, p k = v := ⟨_, rfl⟩
      have CF := Lib.hid (HF.out W2 k x B2.out hx.out hlt)
      rw [hv] at CF
      have HW2 := Lib.hid hW2
      clear hm hr hW2 hg
      go_upto_region 4 with fail
      rw [← HW2.out, Hg.out]
      clear c0 c1 c2
      cases v with
      | false =>
        have e : false = q := by rw [← HQ.out]; exact (allT_no hlt hv).symm
        subst e
        go_wp2_with (first
            | (with_reducible show wpList _ _ _ (⟨some 16, .load 91 (.tmp 6), _, _, _, _⟩ :: _) _ _; refine wpList_load_mid (op := ⟨some 16, .load 91 (.tmp 6), _, _, _, _⟩) rfl 91 (.tmp 6) rfl (g) (0) rfl (bc x) _ (V2.out.range) Try.underlying91 rfl (b_size _) ?_)
            | (first | (refine wpList_call_value _ rfl rfl (hin _ _) ?_) | skip; refine CF.out.mono ?_; rintro e w5 ⟨rfl, hb5⟩; have B5 := Lib.hid (B2.out.trans (hb5.mono B2.out.size)); clear hb5))
        go_ret
        exact ⟨rfl, B5.out⟩
      | true =>
        have PR2 : Hid (allT p (k + 1) = true) := Lib.hid (by show (allT p k && p k) = true; rw [PR.out, hv]; rfl)
        go_wp2_with (first
            | (with_reducible show wpList _ _ _ (⟨some 16, .load 91 (.tmp 6), _, _, _, _⟩ :: _) _ _; refine wpList_load_mid (op := ⟨some 16, .load 91 (.tmp 6), _, _, _, _⟩) rfl 91 (.tmp 6) rfl (g) (0) rfl (bc x) _ (V2.out.range) Try.underlying91 rfl (b_size _) ?_)
            | (refine CF.out.mono ?_; rintro e w5 ⟨rfl, hb5⟩; have B5 := Lib.hid (B2.out.trans (hb5.mono B2.out.size)); clear hb5))
        go_roundw
        case rel => exact ⟨k + 1, by omega, by go_num, B5, PR2⟩
        case measure => simp [intOf]; omega
    · have hki : ¬ (k : Int) < (n : Int) := by omega
      have hkn : k = n := by omega
      have e : true = q := by rw [← HQ.out, ← hkn, PR.out]
      subst e
      go_wp2
      go_ret
      exact ⟨rfl, BR.out⟩
end Go.Proofs.Ytfihiandifnkpaa
