/- The document's own May. -/
import Derived.Test.YtmlkcedhjnmfgaaSpU
namespace Go.Proofs.Ytmlkcedhjnmfgaa
open Go.ChangeShapes Go.WideShapes Go.ChangeAt Go.RowKit
set_option linter.unusedVariables false
set_option linter.unusedSimpArgs false
open Plain Sp
theorem rise_step0 {l : List PairZ} {k : Nat} {p : PairZ} {y : ByteArray} {q : Bool} (h : l[k]? = some p) (hq : riseP y (l.drop k) = q) (hy : k = 0 → y = ⟨#[]⟩) :
    (keyB p.k = false → q = false) ∧ (valB p.v = false → q = false) ∧ (ltB y p.k = false → 0 < k → q = false) ∧ (keyB p.k = true → valB p.v = true → (0 < k → ltB y p.k = true) → riseP p.k (l.drop (k + 1)) = q) := by
  obtain ⟨h1, h2, h3, h4⟩ := rise_step h hq
  refine ⟨h1, h2, fun a _ => h3 a, fun a b d => h4 a b ?_⟩
  rcases Nat.eq_zero_or_pos k with h0 | h0
  · rw [hy h0]
    simp only [keyB, Bool.and_eq_true, decide_eq_true_eq] at a
    exact empty_lt a.1
  · exact d h0
set_option maxRecDepth 100000 in
set_option maxHeartbeats 4000000 in
theorem rmay_any {w : World} {B n : Nat} {A : Option Addr} {l : List PairZ} (K Y : Int) (c : Nat) (q : Bool) (h : Prs w B A n l) (hB : B ≤ w.heap.size) (hn : n ≤ 1000) (hq : mayB ⟨K, Y, l⟩ = q) :
    Calls Try.prog 25 #[.agg #[.int .i64 K, .int .i64 Y, .slice A n c]] w (fun e w' => e = .returned (.bool q) ∧ Below w.heap.size w w') := by
  obtain ⟨W1, hW1⟩ : ∃ W, W = w.alloc (.cells #[.int .i64 K, .int .i64 Y, .slice A n c] 24) := ⟨_, rfl⟩
  have b1 := Lib.hid (show Below w.heap.size w W1 by rw [hW1]; exact below_one _ _)
  have X1 := Lib.hid (show SBox W1 w.heap.size K Y A n c by rw [hW1]; exact sbox_new _ _ _ _ _ _ _ _ rfl)
  have HG := Lib.hid ((h.below b1.out hB).more hB)
  have L := Lib.hid h.len
  have HW1 := Lib.hid hW1
  clear hW1 h
  cases hl : limB K Y with
  | false =>
    have e : q = false := by rw [← hq]; simp [mayB, hl]
    subst e
    have LM := Lib.hid (rlim_any K Y false hl)
    clear hq hl HG
    go_enter Try.func25, Try.ntmps25
    go_upto_region 1 with fail
    rw [← HW1.out]
    obtain ⟨h1, h2, h3⟩ := X1.out
    go_wp2_with (go_at_call 33; refine (LM.out _).mono ?_; rintro e w5 ⟨rfl, m, rfl⟩)
    go_ret
    exact ⟨rfl, below_drewN b1.out m⟩
  | true =>
  have LM := Lib.hid (rlim_any K Y true hl)
  by_cases hK : K < (n : Int)
  · have e : q = false := by
      rw [← hq]; simp [mayB, fitB, L.out]; intros; omega
    subst e
    clear hq hl HG
    go_enter Try.func25, Try.ntmps25
    go_upto_region 1 with fail
    rw [← HW1.out]
    obtain ⟨h1, h2, h3⟩ := X1.out
    go_wp2_with (go_at_call 33; refine (LM.out _).mono ?_; rintro e w5 ⟨rfl, m, rfl⟩; have k1 : (W1.drewN m).cell? ⟨w.heap.size, 0, none⟩ = some (.int .i64 K) := h1; have k2 : (W1.drewN m).cell? ⟨w.heap.size, 2, none⟩ = some (.slice A n c) := h3; clear h1 h2 h3)
    go_ret
    exact ⟨rfl, below_drewN b1.out m⟩
  obtain ⟨r, hr⟩ : ∃ r, riseP ⟨#[]⟩ l = r := ⟨_, rfl⟩
  have HRQ := Lib.hid (show (r = false → q = false) ∧ (r = true → decide ((cnt l : Int) ≤ Y) = q) from by
    rw [← hq]
    constructor
    · intro e; simp [mayB, hr, e]
    · intro e; simp [mayB, hl, hr, e, fitB, L.out]; omega)
  have HR := Lib.hid hr
  have HX := Lib.hid (fun (m : Nat) => show (W1.drewN m).cell? ⟨w.heap.size, 0, none⟩ = some (.int .i64 K) ∧ (W1.drewN m).cell? ⟨w.heap.size, 1, none⟩ = some (.int .i64 Y) ∧ (W1.drewN m).cell? ⟨w.heap.size, 2, none⟩ = some (.slice A n c) from X1.out)
  clear hq hl hr
  go_enter Try.func25, Try.ntmps25
  go_upto_region 1 with fail
  rw [← HW1.out]
  obtain ⟨h1, h2, h3⟩ := X1.out
  go_upto_region 3 with (go_at_call 33; refine (LM.out _).mono ?_; rintro e w5 ⟨rfl, m0, rfl⟩; obtain ⟨k1, k2, k3⟩ := HX.out m0; clear h1 h2 h3)
  clear k1 k2 k3
  go_wp2
  go_loopw [3] (fun i wr => ∃ k : Nat, k ≤ n ∧ i = .int .i64 k ∧ Hid (∃ m, wr = W1.drewN m) ∧ ∃ y : ByteArray, Hid (k = 0 → y = ⟨#[]⟩) ∧ Hid (0 < k → ∃ p, l[k - 1]? = some p ∧ y = p.k) ∧ Hid (riseP y (l.drop k) = r)) (fun i _ => n - (intOf i).toNat)
  case atStart => exact ⟨0, by omega, rfl, Lib.hid ⟨m0, rfl⟩, ⟨#[]⟩, Lib.hid (fun _ => rfl), Lib.hid (fun h => absurd h (by omega)), Lib.hid (by rw [List.drop_zero]; exact HR.out)⟩
  case round =>
    obtain ⟨k, hk, rfl, HW, y, HY0, HYP, HRR⟩ := hrel
    have HA := Lib.hid (show Prs wr w.heap.size A n l ∧ Below w.heap.size w wr from by
      obtain ⟨m, hm⟩ := HW.out
      rw [hm]; exact ⟨(HG.out.drewN m).more (Nat.le_refl _), below_drewN b1.out m⟩)
    obtain ⟨k1, k2, k3⟩ : wr.cell? ⟨w.heap.size, 0, none⟩ = some (.int .i64 K) ∧ wr.cell? ⟨w.heap.size, 1, none⟩ = some (.int .i64 Y) ∧ wr.cell? ⟨w.heap.size, 2, none⟩ = some (.slice A n c) := by
      obtain ⟨m, hm⟩ := HW.out
      rw [hm]; exact HX.out m
    by_cases hlt : k < n
    · have hltI : (k : Int) < (n : Int) := by omega
      obtain ⟨b, off, p, rfl, hb, HK, hpo, c0, c1⟩ := HA.out.1.at_ hlt
      have HD := Lib.hid (rise_step0 HK.out HRR.out HY0.out)
      have HN := Lib.hid (show 0 < k + 1 → ∃ p', l[k + 1 - 1]? = some p' ∧ p.k = p'.k from fun _ => ⟨p, HK.out, rfl⟩)
      have HP := Lib.hid (show 0 < k → wr.cell? ⟨b, off + (k - 1) * 2, none⟩ = some (.string y) from fun h0 => by
        obtain ⟨b', off', p', e, _, HK', _, c0', _⟩ := HA.out.1.at_ (k := k - 1) (by omega)
        injection e with e; injection e with e1 e2 e3
        subst e1 e2
        obtain ⟨p'', e3, e4⟩ := HYP.out h0
        rw [HK'.out] at e3
        obtain rfl := Option.some.inj e3
        rw [e4]; exact c0')
      clear hpo
      cases hkb : keyB p.k with
      | false =>
        have e : r = false := HD.out.1 hkb
        have e2 : q = false := HRQ.out.1 e
        subst e2
        have CK := fun w => rkey_any p.k false hkb w
        clear hkb
        go_wp2
        go_quiet ((go_at_call 39; first | exact quiet_at (CK) | exact quiet_add CK))
        go_wp2
        go_ret
        exact ⟨rfl, below_drewN HA.out.2 _⟩
      | true =>
      have CK := fun w => rkey_any p.k true hkb w
      cases hvb : valB p.v with
      | false =>
        have e : r = false := HD.out.2.1 hvb
        have e2 : q = false := HRQ.out.1 e
        subst e2
        have CV := fun w => rval_any p.v false hvb w
        clear hkb hvb
        go_wp2
        go_quiet ((first
          | (go_at_call 39; first | exact quiet_at (CK) | exact quiet_add CK)
          | (go_at_call 40; first | exact quiet_at (CV) | exact quiet_add CV)))
        go_wp2
        go_ret
        exact ⟨rfl, below_drewN HA.out.2 _⟩
      | true =>
      have CV := fun w => rval_any p.v true hvb w
      by_cases h0 : k = 0
      · have h0I : decide (0 < k) = false := by simp; omega
        have HD2 := Lib.hid (HD.out.2.2.2 hkb hvb (fun h => by omega))
        have H0 := Lib.hid h0
        clear h0 hkb hvb
        go_wp2
        go_quiet ((first
          | (go_at_call 39; first | exact quiet_at (CK) | exact quiet_add CK)
          | (go_at_call 40; first | exact quiet_at (CV) | exact quiet_add CV)))
        go_wp2
        go_roundw
        case rel => exact ⟨k + 1, by omega, by go_num, sq_on HW ⟨_, rfl⟩, p.k, Lib.hid (fun h => absurd h (by omega)), HN, HD2⟩
        case measure => simp [intOf]; omega
      have h0I : decide (0 < k) = true := by simp; omega
      have hp := HP.out (by omega)
      obtain ⟨P, hP1⟩ : ∃ P, k - 1 = P := ⟨_, rfl⟩
      have w1 : IntKind.i64.wrap ((k : Int) - 1) = (P : Int) := by rw [IntKind.wrap_i64]; omega
      have w2 : (P : Int) < (n : Int) := by omega
      rw [hP1] at hp
      clear hP1
      cases hyk : ltB y p.k with
      | false =>
        have e : r = false := HD.out.2.2.1 hyk (by omega)
        have e2 : q = false := HRQ.out.1 e
        subst e2
        have hle : (Op.bytesLess p.k.toList y.toList || p.k.toList == y.toList) = true := by rw [leq_of, hyk]; rfl
        clear hkb hvb hyk
        go_wp2
        go_quiet ((first
          | (go_at_call 39; first | exact quiet_at (CK) | exact quiet_add CK)
          | (go_at_call 40; first | exact quiet_at (CV) | exact quiet_add CV)))
        go_wp2
        go_ret
        exact ⟨rfl, below_drewN HA.out.2 _⟩
      | true =>
        have hle : (Op.bytesLess p.k.toList y.toList || p.k.toList == y.toList) = false := by rw [leq_of, hyk]; rfl
        have HD2 := Lib.hid (HD.out.2.2.2 hkb hvb (fun _ => hyk))
        clear hkb hvb hyk
        go_wp2
        go_quiet ((first
          | (go_at_call 39; first | exact quiet_at (CK) | exact quiet_add CK)
          | (go_at_call 40; first | exact quiet_at (CV) | exact quiet_add CV)))
        go_wp2
        go_roundw
        case rel => exact ⟨k + 1, by omega, by go_num, sq_on HW ⟨_, rfl⟩, p.k, Lib.hid (fun h => absurd h (by omega)), HN, HD2⟩
        case measure => simp [intOf]; omega
    · have e : r = true := by
        rw [← HRR.out, List.drop_eq_nil_of_le (by rw [L.out]; omega)]; rfl
      have hf := HRQ.out.2 e
      have hcl : cnt l ≤ 1152921504606846976 := by
        have h1 := rise_len (HR.out.trans e)
        rw [L.out] at h1
        omega
      obtain ⟨x, hx⟩ : ∃ x, cnt l = x := ⟨_, rfl⟩
      rw [hx] at hf hcl
      have CC := fun (m' : Nat) => rcount_any (w := wr.drewN m') c x (HA.out.1.drewN m') (by unfold maxLen; omega) hx hcl
      clear hx hcl e
      go_wp2
      go_quiet ((go_at_call 26; first | exact quiet_rel CC | exact quiet_rel_add CC))
      go_wp2
      go_ret
      exact ⟨by rw [← hf]; simp, below_drewN HA.out.2 _⟩
end Go.Proofs.Ytmlkcedhjnmfgaa
