/- The document's checks: which share may be, the tenant's share. -/
import Derived.Test.YtpodpbhbagkblaaQtE
namespace Go.Proofs.Ytpodpbhbagkblaa
open Go.ChangeShapes Go.WideShapes Go.ChangeAt Go.RowKit
set_option linter.unusedVariables false
set_option linter.unusedSimpArgs false
open Plain Qt
set_option maxRecDepth 100000 in
set_option maxHeartbeats 4000000 in
theorem rshare_any (t k s : Int) (q : Bool) (h : shB ⟨t, k, s⟩ = q) (w : World) : Calls Try.prog 26 #[.agg #[.int .i64 t, .int .i64 k, .int .i64 s]] w (fun e w' => e = .returned (.bool q) ∧ Below w.heap.size w w') := by
  have HB := Lib.hid (below_oneQ w (.cells #[.int .i64 t, .int .i64 k, .int .i64 s] 24))
  have HQ := Lib.hid h
  have e1 : Hid (∀ p : Prop, [Decidable p] → (p ↔ ShIn ⟨t, k, s⟩) → decide p = q) := Lib.hid (fun p _ hp => by
    rw [← h]
    by_cases hs : ShIn ⟨t, k, s⟩
    · rw [shB_of hs]; exact decide_eq_true (hp.2 hs)
    · have : shB ⟨t, k, s⟩ = false := by
        cases hb : shB ⟨t, k, s⟩ with
        | true => exact absurd (shB_in hb) hs
        | false => rfl
      rw [this]; exact decide_eq_false (fun hh => hs (hp.1 hh)))
  clear h
  by_cases h1 : 0 < t
  · by_cases h2 : t < 9
    · by_cases h3 : 0 ≤ k
      · by_cases h4 : k ≤ 64
        · by_cases h5 : 0 ≤ s
          · by_cases h6 : s ≤ 4096
            · have e : q = true := by rw [← HQ.out]; exact shB_of ⟨by show 1 ≤ t; omega, by show t ≤ 8; omega, h3, h4, h5, h6⟩
              subst e
              clear e1 HQ
              go_enter Try.func26, Try.ntmps26
              go_wp2
              go_ret
              exact ⟨rfl, HB.out⟩
            · have e : q = false := by rw [← HQ.out]; simp [shB, h6]
              subst e
              clear e1 HQ
              go_enter Try.func26, Try.ntmps26
              go_wp2
              go_ret
              exact ⟨rfl, HB.out⟩
          · have e : q = false := by rw [← HQ.out]; simp [shB, h5]
            subst e
            clear e1 HQ
            go_enter Try.func26, Try.ntmps26
            go_wp2
            go_ret
            exact ⟨rfl, HB.out⟩
        · have e : q = false := by rw [← HQ.out]; simp [shB, h4]
          subst e
          clear e1 HQ
          go_enter Try.func26, Try.ntmps26
          go_wp2
          go_ret
          exact ⟨rfl, HB.out⟩
      · have e : q = false := by rw [← HQ.out]; simp [shB, h3]
        subst e
        clear e1 HQ
        go_enter Try.func26, Try.ntmps26
        go_wp2
        go_ret
        exact ⟨rfl, HB.out⟩
    · have e : q = false := by rw [← HQ.out]; simp [shB, show ¬ t ≤ 8 by omega]
      subst e
      clear e1 HQ
      go_enter Try.func26, Try.ntmps26
      go_wp2
      go_ret
      exact ⟨rfl, HB.out⟩
  · have e : q = false := by rw [← HQ.out]; simp [shB, show ¬ 1 ≤ t by omega]
    subst e
    clear e1 HQ
    go_enter Try.func26, Try.ntmps26
    go_wp2
    go_ret
    exact ⟨rfl, HB.out⟩
set_option maxRecDepth 100000 in
set_option maxHeartbeats 4000000 in
theorem rof_any {w : World} {B n : Nat} {A : Option Addr} {l : List ShZ} (c : Nat) (t : Int) (o : Option ShZ) (h : Shs w B A n l) (hB : B ≤ w.heap.size) (hn : n ≤ maxLen) (ho : ofR l t = o) :
    Calls Try.prog 16 #[.slice A n c, .int .i64 t] w (fun e w' => e = .returned (ofV o) ∧ Below w.heap.size w w') := by
  obtain ⟨W1, hW1⟩ : ∃ W, W = w.alloc (.cells #[.int .i64 0, .int .i64 0, .int .i64 0] 24) := ⟨_, rfl⟩
  have b1 := Lib.hid (show Below w.heap.size w W1 by rw [hW1]; exact below_oneQ _ _)
  have V1 := Lib.hid (show QVar W1 w.heap.size by rw [hW1]; exact qvar_new _ _ _ _ _ _ rfl)
  have HG := Lib.hid (h.below b1.out hB)
  have L := Lib.hid h.len
  have HO := Lib.hid ho
  have HW1 := Lib.hid hW1
  have HS := Lib.hid q_sizeR
  clear hW1 h ho
  unfold maxLen at hn
  go_enter Try.func16, Try.ntmps16
  go_upto_region 1 with fail
  rw [← HW1.out]
  go_wp2
  go_loopw [6] (fun i wr => ∃ k : Nat, k ≤ n ∧ i = .int .i64 k ∧ wr = W1 ∧ Hid (ofR (l.drop k) t = o)) (fun i _ => n - (intOf i).toNat)
  case atStart => exact ⟨0, by omega, rfl, rfl, Lib.hid (by rw [List.drop_zero]; exact HO.out)⟩
  case round =>
    obtain ⟨k, hk, rfl, rfl, HY⟩ := hrel
    by_cases hlt : k < n
    · have hltI : (k : Int) < (n : Int) := by omega
      obtain ⟨b, off, g, rfl, hb, HK, _, c0, c1, c2⟩ := HG.out.at_ hlt
      have HD := HY.out
      rw [drop_atQ HK.out, of_cons] at HD
      by_cases he : g.t = t
      · rw [if_pos he] at HD
        subst HD
        have hE : (g.t == t) = true := by simpa using he
        clear he
        go_upto_region 5 with fail
        go_wp2_with (first
          | (refine q_store_as (op := ⟨none, .store 24 (.tmp 4) (.tmp 23), _, _, _, _⟩) rfl 24 (.tmp 4) (.tmp 23) rfl w.heap.size 0 #[.int .i64 g.t, .int .i64 g.k, .int .i64 g.s] rfl rfl V1.out.th HS.out (q_one _ _ _) ?_; intro w6 hw6)
          | fail)
        obtain ⟨R6, B6⟩ := q_stored V1.out hw6 (Nat.le_refl _) b1.out
        exact bodyPost_ret (v := ofV (some g)) (q_results2 (p := 4) (u := 5) (ty := 24) rfl _ _ w.heap.size 0 [.int .i64 g.t, .int .i64 g.k, .int .i64 g.s] _ rfl R6 Try.underlying24 rfl HS.out) rfl ⟨rfl, B6⟩
      · rw [if_neg he] at HD
        have hE : (g.t == t) = false := by simpa using he
        have HD2 := Lib.hid HD
        clear he HD
        go_wp2
        go_roundw
        case rel => exact ⟨k + 1, by omega, by go_num, by trivial, HD2⟩
        case measure => simp [intOf]; omega
    · have e : o = none := by
        have := HY.out
        rw [List.drop_eq_nil_of_le (by rw [L.out]; omega)] at this
        rw [← this]; rfl
      subst e
      go_wp2_with (first
        | (refine q_store_as (op := ⟨none, .store 24 (.tmp 4) (.tmp 24), _, _, _, _⟩) rfl 24 (.tmp 4) (.tmp 24) rfl w.heap.size 0 #[.int .i64 0, .int .i64 0, .int .i64 0] rfl rfl V1.out.th HS.out (q_one _ _ _) ?_; intro w6 hw6)
        | fail)
      obtain ⟨R6, B6⟩ := q_stored V1.out hw6 (Nat.le_refl _) b1.out
      exact bodyPost_ret (v := ofV none) (q_results2 (p := 4) (u := 5) (ty := 24) rfl _ _ w.heap.size 0 [.int .i64 0, .int .i64 0, .int .i64 0] _ rfl R6 Try.underlying24 rfl HS.out) rfl ⟨rfl, B6⟩
end Go.Proofs.Ytpodpbhbagkblaa
