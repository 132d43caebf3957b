/- The statement WireLimits: the walk. -/
import Derived.Test.YthkbldgffagopaaWAwake
import Derived.Deep.Cut
import Derived.Deep.CutRange
namespace Go.Proofs.Ythkbldgffagopaa
open Go.ChangeShapes Go.WideShapes Go.ChangeAt Go.RowKit
set_option linter.unusedVariables false
open Plain
theorem done_any {w : World} {b : Nat} {g : Option Nat} {st : Option (List Int)} (h : Wr w b g st) : Calls Try.prog 16 #[.pointer (some ⟨b, 0, none⟩)] w (fun e w' => ∃ A c, e = .returned (.tuple #[.slice A (st.getD []).length c, .int .i64 (if st.isNone then 3 else 0)]) ∧ Below w.heap.size w w') := by
  cases st with
  | none =>
    refine (done_long h).mono ?_
    rintro e w' ⟨rfl, rfl⟩
    exact ⟨none, 0, rfl, Below.refl _ _⟩
  | some fs =>
    refine (done_ok h).mono ?_
    rintro e w' ⟨x, rfl, ⟨A, c, rfl, _⟩, hb⟩
    exact ⟨A, c, rfl, hb⟩
theorem bytesF_len (zs : List Int) : (bytesF zs).length = 4 + zs.length := by unfold bytesF; rw [List.length_append, putZ_len]
/-- What the two calls of the first statement come to. -/
theorem limits_first (R : List Int) (k : Nat) (hl : R.length = k) : ((wPut (some []) (bytesF R)).getD []).length = (if k ≤ 65532 then 4 + k else 0) ∧ (if (wPut (some []) (bytesF R)).isNone then (3 : Int) else 0) = (if k ≤ 65532 then 0 else 3) := by
  by_cases h : k ≤ 65532
  · rw [wPut_yes _ _ (by rw [bytesF_len, hl]; simp; omega), if_pos h, if_pos h]
    exact ⟨by show ([] ++ bytesF R).length = _; rw [List.nil_append, bytesF_len, hl], rfl⟩
  · rw [wPut_no _ _ (by rw [bytesF_len, hl]; simp; omega), if_neg h, if_neg h]
    exact ⟨rfl, rfl⟩
theorem newwriter_at (w : World) (g : Nat) (hg : w.heap.size = g) : Calls Try.prog 12 #[] w (fun e w' => e = .returned (.pointer (some ⟨g, 0, none⟩)) ∧ Wr w' g none (some []) ∧ Below g w w' ∧ g < w'.heap.size) := by
  subst hg
  exact newwriter_any w
set_option maxRecDepth 100000 in
set_option maxHeartbeats 2000000 in
theorem wireLimits_walk (a0 : Int) (w0 : (Lit.int .i64 a0).wf = true) (w : World) :
    Calls Try.prog 5 #[.int .i64 a0] w fun e w' => e = .returned (.bool true) ∧ Below w.heap.size w w' := by
  obtain ⟨h0, h1⟩ := wf_i64 w0
  clear w0
  by_cases hneg : a0 < 65526
  · go_enter Try.func5, Try.ntmps5
    go_wp2
    go_ret
    exact ⟨rfl, Below.refl _ _⟩
  by_cases hbig : 65540 < a0
  · go_enter Try.func5, Try.ntmps5
    go_wp2
    go_ret
    exact ⟨rfl, Below.refl _ _⟩
  obtain ⟨k, rfl⟩ := Int.eq_ofNat_of_zero_le (show 0 ≤ a0 by omega)
  have hk1 : 65526 ≤ k := by omega
  have hk2 : k ≤ 65540 := by omega
  have hmk := make_u8 k (by omega)
  rw [madeCells_vals] at hmk
  generalize hRk : List.replicate k (0 : Int) = R at *
  have HRB : Hid (IsBytes R) := Lib.hid (by rw [← hRk]; exact rep_bytes _ _ (by omega) (by omega))
  have HRL : Hid (R.length = k) := Lib.hid (by rw [← hRk]; exact List.length_replicate ..)
  obtain ⟨N, hN⟩ : ∃ N : Nat, (if k ≤ 65532 then 4 + k else 0) = N := ⟨_, rfl⟩
  obtain ⟨E, hE⟩ : ∃ E : Int, (if k ≤ 65532 then (0 : Int) else 3) = E := ⟨_, rfl⟩
  have HF := Lib.hid (limits_first R k HRL.out)
  rw [hN, hE] at HF
  have HN := Lib.hid hN
  have HE := Lib.hid hE
  clear hN hE
  clear hRk
  go_enter Try.func5, Try.ntmps5
  go_upto_region 3 with fail
  go_cut [3, 4] from 12 (fun s3 s4 wx => (∃ A c, s3 = .slice A N c) ∧ s4 = .int .i64 E ∧ Below w.heap.size w wx)
  case first =>
    clear HN HE
    go_region_with (first
      | (go_at_call 12; (with_reducible (show Calls Try.prog 12 _ (World.drew (World.alloc w _)) _)); refine (newwriter_at _ (w.heap.size + 1) (by simp)).mono ?_; rintro e w1 ⟨rfl, r1, b1, _⟩; have q1 : Below w.heap.size w w1 := (((Below.refl w.heap.size w).alloc (Nat.le_refl _) _).drew).trans (b1.mono (by omega)); have z1 : Bs w1 (w.heap.size + 1) (some ⟨w.heap.size, 0, none⟩) k R := ((bs_new w R k HRL.out HRB.out 5 _ rfl).drew).below b1; have s1 := r1.lt; clear b1)
      | (go_at_call 12; refine (newwriter_at _ w.heap.size (by simp)).mono ?_; rintro e w1 ⟨rfl, r1, b1, _⟩; have q1 : Below w.heap.size w w1 := ((Below.refl w.heap.size w).drew).trans b1; clear b1)
      | (go_at_call 26; (with_reducible (show Calls Try.prog 26 _ (World.alloc w1 _) _)); refine (bytes_wr (w := w1.alloc (.cells (vals R).toArray 5)) (r1.grown (grown_alloc _ _ none) (by simp) (by simp)) (B := w1.heap.size + 1) (n := k) (zs := R) k (bs_new w1 R k HRL.out HRB.out 5 _ rfl) (by simp) (by omega) (apart_new r1 _ (Nat.le_refl _))).mono ?_; intro e w2 hw; have hu := Puts.under (r1.grown (grown_alloc _ (.cells (vals R).toArray 5) none) (by simp) (by simp)) hw (B := w.heap.size) (Nat.le_refl _); obtain ⟨rfl, g2, r2, b2⟩ := hu; have q2 : Below w.heap.size w w2 := (q1.alloc q1.size _).trans b2; clear hw r1 b2)
      | (go_at_call 26; refine (bytes_wr (w := w1) r1 (B := w.heap.size + 1) (n := k) (zs := R) k z1 (by omega) (by omega) (fun a ha => by injection ha with ha; subst ha; exact ⟨by simp, fun e => by cases e⟩)).mono ?_; intro e w2 hw; have hu := Puts.under r1 hw (B := w.heap.size) (by omega); obtain ⟨rfl, g2, r2, b2⟩ := hu; have q2 : Below w.heap.size w w2 := q1.trans b2; clear hw r1 b2)
      | (go_at_call 16; refine (done_any r2).mono ?_; rw [HF.out.1, HF.out.2]; rintro e w3 ⟨A3, c3, rfl, b3⟩; have q3 : Below w.heap.size w w3 := q2.trans (b3.mono q2.size); clear r2 b3 q2))
    all_goals (go_wp2; go_meet; exact ⟨⟨_, _, rfl⟩, rfl, q3⟩)
  case rest =>
    obtain ⟨⟨A, c, rfl⟩, rfl, q⟩ := hcut
    have Q := Lib.hid q
    have HC := Lib.hid (newreader_any (w := wc.alloc (.cells (vals R).toArray 5)) k (bs_new wc R k HRL.out HRB.out 5 _ rfl) (by simp) (by omega))
    have QA := Lib.hid (q.alloc q.size (.cells (vals R).toArray 5))
    have sQ := q.size
    have K1 := Lib.hid hk1
    have K2 := Lib.hid hk2
    clear q HF hk1 hk2
    by_cases hfit : k ≤ 65532
    · have hN : N = 4 + k := by rw [← HN.out, if_pos hfit]
      have hE : E = 0 := by rw [← HE.out, if_pos hfit]
      have HW : Hid (newWhy R = (0, R)) := Lib.hid (by unfold newWhy; rw [if_pos (by have := K2.out; rw [HRL.out]; omega)])
      rw [HW.out] at HC
      clear HN HE
      subst hN hE
      have e1 : ¬ 65536 < (k : Int) + 4 := by omega
      have e2 : ((4 + k : Nat) : Int) = (k : Int) + 4 := by omega
      have e3 : ¬ 65536 < (k : Int) := by omega
      have K3 := Lib.hid hfit
      clear hfit
      go_wp2_with fail
      refine HC.out.mono ?_
      rintro e w1 ⟨b, rfl, r1, hb, b1⟩
      have HE := Lib.hid (err_any r1)
      have HL := Lib.hid (left_any r1)
      have HD := Lib.hid (end_rd r1)
      rw [HRL.out] at HL
      rw [show endZ 0 R = 40 from by unfold endZ; rw [if_neg (by simp), if_neg (by have := K1.out; rw [HRL.out]; omega)]] at HD
      have Q1 := Lib.hid (QA.out.trans (b1.mono QA.out.size))
      clear r1 HC e1
      go_wp2_with (first | (go_at_call 23; refine HE.out.mono ?_; rintro e w8 ⟨rfl, rfl⟩) | (go_at_call 21; refine HL.out.mono ?_; rintro e w8 ⟨rfl, rfl⟩) | (go_at_call 24; refine HD.out.mono ?_; rintro e w8 ⟨rfl, rfl⟩))
      go_ret
      exact ⟨rfl, Q1.out⟩
    have hN : N = 0 := by rw [← HN.out, if_neg hfit]
    have hE : E = 3 := by rw [← HE.out, if_neg hfit]
    clear HN HE
    subst hN hE
    have e1 : 65536 < (k : Int) + 4 := by omega
    by_cases hl : k ≤ 65536
    · have HW : Hid (newWhy R = (0, R)) := Lib.hid (by unfold newWhy; rw [if_pos (by have := K2.out; rw [HRL.out]; omega)])
      rw [HW.out] at HC
      have e3 : ¬ 65536 < (k : Int) := by omega
      clear hl hfit
      go_wp2_with fail
      refine HC.out.mono ?_
      rintro e w1 ⟨b, rfl, r1, hb, b1⟩
      have HE := Lib.hid (err_any r1)
      have HL := Lib.hid (left_any r1)
      have HD := Lib.hid (end_rd r1)
      rw [HRL.out] at HL
      rw [show endZ 0 R = 40 from by unfold endZ; rw [if_neg (by simp), if_neg (by have := K1.out; rw [HRL.out]; omega)]] at HD
      have Q1 := Lib.hid (QA.out.trans (b1.mono QA.out.size))
      clear r1 HC e1
      go_wp2_with (first | (go_at_call 23; refine HE.out.mono ?_; rintro e w8 ⟨rfl, rfl⟩) | (go_at_call 21; refine HL.out.mono ?_; rintro e w8 ⟨rfl, rfl⟩) | (go_at_call 24; refine HD.out.mono ?_; rintro e w8 ⟨rfl, rfl⟩))
      go_ret
      exact ⟨rfl, Q1.out⟩
    · have HW : Hid (newWhy R = (3, [])) := Lib.hid (by unfold newWhy; rw [if_neg (by rw [HRL.out]; omega)])
      rw [HW.out] at HC
      have e3 : 65536 < (k : Int) := by omega
      clear hl hfit
      go_wp2_with fail
      refine HC.out.mono ?_
      rintro e w1 ⟨b, rfl, r1, hb, b1⟩
      have HE := Lib.hid (err_any r1)
      have HL := Lib.hid (left_any r1)
      have HD := Lib.hid (end_rd r1)
      have HB := Lib.hid (byte_rd r1)
      rw [show endZ 3 [] = 3 from by decide] at HD
      rw [show rByte (3, []) = (0, 3, []) from by decide] at HB
      have Q1 := Lib.hid (QA.out.trans (b1.mono QA.out.size))
      clear r1 HC e1
      go_wp2_with (first | (go_at_call 23; refine HE.out.mono ?_; rintro e w8 ⟨rfl, rfl⟩) | (go_at_call 21; refine HL.out.mono ?_; rintro e w8 ⟨rfl, rfl⟩) | (go_at_call 24; refine HD.out.mono ?_; rintro e w8 ⟨rfl, rfl⟩) | (go_at_call 27; refine HB.out.mono ?_; rintro e w8 ⟨rfl, _, g8⟩))
      go_ret
      exact ⟨rfl, Q1.out.grown g8 Q1.out.size (fun k hk => by injection hk with hk; simp at hb; omega)⟩
end Go.Proofs.Ythkbldgffagopaa
