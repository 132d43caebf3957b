/- Two lines are held against each other; two tokens. -/
import Derived.Test.YtmeafjehcckibaaDoorB8
namespace Go.Proofs.YtmeafjehcckibaaDoor
open Go.ChangeShapes Go.WideShapes Go.ChangeAt Go.RowKit
set_option linter.unusedVariables false
set_option linter.unusedSimpArgs false
open Plain Sha
instance : DecidableEq GrantZ := fun a b =>
  if h : a.r = b.r ∧ a.x = b.x ∧ a.s = b.s then isTrue (by obtain ⟨h1, h2, h3⟩ := h; cases a; cases b; simp only at h1 h2 h3; subst h1 h2 h3; rfl)
  else isFalse (fun e => h (by subst e; exact ⟨rfl, rfl, rfl⟩))
def eqL (a b : List GrantZ) : Bool := decide (a = b)
theorem eqL_no_len {a b : List GrantZ} (h : a.length ≠ b.length) : eqL a b = false := decide_eq_false (fun e => h (by rw [e]))
theorem eqL_no_at {a b : List GrantZ} {k : Nat} {x y : GrantZ} (hx : a[k]? = some x) (hy : b[k]? = some y) (h : x ≠ y) : eqL a b = false := decide_eq_false (fun e => h (by
  rw [e, hy] at hx
  exact (Option.some.inj hx).symm))
theorem eqL_yes {a b : List GrantZ} {n : Nat} (ha : a.length = n) (hb : b.length = n) (h : a.take n = b.take n) : eqL a b = true := by
  rw [List.take_of_length_le (by omega), List.take_of_length_le (by omega)] at h
  exact decide_eq_true h
set_option maxRecDepth 100000 in
set_option maxHeartbeats 2000000 in
theorem equalG_any {B1 B2 n1 n2 : Nat} {A1 A2 : Option Addr} (c1 c2 : Nat) {l1 l2 : List GrantZ} {w : World} (h1 : Grants w B1 A1 n1 l1) (h2 : Grants w B2 A2 n2 l2) (hn1 : n1 ≤ maxLen) (hn2 : n2 ≤ maxLen) :
    Calls Tryd.prog 22 #[.slice A1 n1 c1, .slice A2 n2 c2] w (Quiet (.bool (eqL l1 l2)) w) := by
  unfold maxLen at hn1 hn2
  have hl1 := h1.len
  have hl2 := h2.len
  by_cases hn : n1 = n2
  · subst hn
    have H1 := Lib.hid hl1
    have H2 := Lib.hid hl2
    have HG1 := Lib.hid h1
    have HG2 := Lib.hid h2
    clear hl1 hl2 h1 h2
    go_enter Tryd.func22, Tryd.ntmps22
    go_wp2
    go_loopw [13] (fun i wr => ∃ k m : Nat, k ≤ n1 ∧ i = .int .i64 k ∧ wr = w.drewN m ∧ Hid (l1.take k = l2.take k)) (fun i _ => n1 - (intOf i).toNat)
    case atStart => exact ⟨0, 0, by omega, rfl, rfl, Lib.hid (by simp)⟩
    case round =>
      obtain ⟨k, m, hk, rfl, rfl, HT⟩ := hrel
      by_cases hlt : k < n1
      · have hltI : (k : Int) < (n1 : Int) := by omega
        obtain ⟨b1, o1, ⟨r1, x1, s1⟩, rfl, _, HU1, _, c0, c1', c2'⟩ := HG1.out.at_ hlt
        obtain ⟨b2, o2, ⟨r2, x2, s2⟩, rfl, _, HU2, _, d0, d1, d2⟩ := HG2.out.at_ hlt
        simp only at c0 c1' c2' d0 d1 d2
        by_cases hr : r1 = r2
        · subst hr
          by_cases hx : x1 = x2
          · subst hx
            by_cases hs : s1 = s2
            · subst hs
              have HT' : Hid (l1.take (k + 1) = l2.take (k + 1)) := Lib.hid (by rw [take_snocG _ _ _ HU1.out, take_snocG _ _ _ HU2.out, HT.out])
              go_wp2
              go_quiet (fail)
              go_wp2
              go_roundw
              case rel => exact ⟨k + 1, _, by omega, by go_num, rfl, HT'⟩
              case measure => simp [intOf]; omega
            · have HF := Lib.hid (eqL_no_at HU1.out HU2.out (fun e => hs (by injection e)))
              go_wp2
              go_quiet (fail)
              go_wp2
              go_ret
              exact ⟨ret_bool HF.out.symm, _, World.drewN_drewN ..⟩
          · have HF := Lib.hid (eqL_no_at HU1.out HU2.out (fun e => hx (by injection e)))
            go_wp2
            go_quiet (fail)
            go_wp2
            go_ret
            exact ⟨ret_bool HF.out.symm, _, World.drewN_drewN ..⟩
        · have HF := Lib.hid (eqL_no_at HU1.out HU2.out (fun e => hr (by injection e)))
          go_wp2
          go_quiet (fail)
          go_wp2
          go_ret
          exact ⟨ret_bool HF.out.symm, _, World.drewN_drewN ..⟩
      · have hkn : k = n1 := by omega
        have HF := Lib.hid (eqL_yes H1.out H2.out (by rw [← hkn]; exact HT.out))
        have hge : ¬ (k : Int) < (n1 : Int) := by omega
        clear hkn
        go_wp2
        go_ret
        exact ⟨ret_bool HF.out.symm, _, rfl⟩
  · have hne : ((n1 : Int) == (n2 : Int)) = false := by simp; omega
    have hne' : ((n1 : Int) != (n2 : Int)) = true := by simp [bne, hne]
    have HF := Lib.hid (eqL_no_len (a := l1) (b := l2) (by omega))
    clear hl1 hl2 h1 h2 hn
    go_enter Tryd.func22, Tryd.ntmps22
    go_wp2
    go_ret
    exact ⟨ret_bool HF.out.symm, 0, rfl⟩
theorem equalG_val {B1 B2 n1 n2 : Nat} {A1 A2 : Option Addr} (c1 c2 : Nat) {l1 l2 : List GrantZ} (q : Bool) {w : World} (h1 : Grants w B1 A1 n1 l1) (h2 : Grants w B2 A2 n2 l2) (hn1 : n1 ≤ maxLen) (hn2 : n2 ≤ maxLen) (hq : eqL l1 l2 = q) :
    Calls Tryd.prog 22 #[.slice A1 n1 c1, .slice A2 n2 c2] w (Quiet (.bool q) w) := by
  subst hq
  exact equalG_any c1 c2 h1 h2 hn1 hn2
/-- Whether two tokens are the same. -/
def sameP (p q : PTok) : Bool := decide (p.tn = q.tn) && eqL p.l q.l && eqB p.T q.T
set_option maxRecDepth 100000 in
set_option maxHeartbeats 2000000 in
theorem sameT_any {w : World} {B1 B2 : Nat} {t1 t2 : TokZ} {l1 l2 : List GrantZ} (h1 : Tok w B1 t1 l1) (h2 : Tok w B2 t2 l2) (hB1 : B1 ≤ w.heap.size) (hB2 : B2 ≤ w.heap.size) :
    Calls Tryd.prog 11 #[.agg (tv t1).toArray, .agg (tv t2).toArray] w (fun e w' => e = .returned (.bool (sameP (pt t1 l1) (pt t2 l2))) ∧ Below w.heap.size w w') := by
  obtain ⟨W2, hW2⟩ : ∃ W, W = (w.alloc (.cells (tv t1).toArray 26)).alloc (.cells (tv t2).toArray 26) := ⟨_, rfl⟩
  have b2 : Below w.heap.size w W2 := by rw [hW2]; exact ((Below.refl _ _).alloc (Nat.le_refl _) _).alloc (by simp) _
  have X1 : Hid (∀ W, Below W2.heap.size W2 W → Box W w.heap.size t1) := Lib.hid (fun W hW => Box.grow (by rw [hW2]; exact (box_new w t1 h1.len _ _ rfl).grow ((Below.refl _ _).alloc (Nat.le_refl _) _)) hW)
  have X2 : Hid (∀ W, Below W2.heap.size W2 W → Box W (w.heap.size + 1) t2) := Lib.hid (fun W hW => Box.grow (by rw [hW2]; exact box_new _ t2 h2.len _ _ (by simp)) hW)
  have HB2 := Lib.hid b2
  have HT1 := Lib.hid (h1.belowM b2 hB1)
  have HT2 := Lib.hid (h2.belowM b2 hB2)
  have HW2 := Lib.hid hW2
  have LA := Lib.hid h1.len
  have LB := Lib.hid h2.len
  have hm1 : t1.m ≤ maxLen := Nat.le_trans h1.mc h1.cm
  have hm2 : t2.m ≤ maxLen := Nat.le_trans h2.mc h2.cm
  have HM1 := Lib.hid hm1
  have HM2 := Lib.hid hm2
  obtain ⟨q1, hq1⟩ : ∃ q, eqL l1 l2 = q := ⟨_, rfl⟩
  obtain ⟨q2, hq2⟩ : ∃ q, eqB t1.T t2.T = q := ⟨_, rfl⟩
  have hEQ : ∀ w, (binOp .eql 24 (.agg (vals t1.T).toArray) (.agg (vals t2.T).toArray)).run Tryd.prog w = .ok (.bool q2) w := fun w => by rw [run_tagEq t1.T t2.T LA.out LB.out w, hq2]
  have HS : Hid (sameP (pt t1 l1) (pt t2 l2) = (decide (t1.tn = t2.tn) && q1 && q2)) := Lib.hid (by unfold sameP pt; rw [hq1, hq2])
  have HQ1 := Lib.hid hq1
  have r2 := Below.refl W2.heap.size W2
  have c10 := (X1.out _ r2).c0
  have c20 := (X2.out _ r2).c0
  have c11 := (X1.out _ r2).c1
  have c21 := (X2.out _ r2).c1
  clear h1 h2 hW2 b2 hq1 hq2 hm1 hm2 r2
  by_cases htn : t1.tn = t2.tn
  · have hT : (t1.tn == t2.tn) = true := by simpa using htn
    have HS2 : Hid (sameP (pt t1 l1) (pt t2 l2) = (q1 && q2)) := Lib.hid (by rw [HS.out, decide_eq_true htn, Bool.true_and])
    clear htn HS
    cases q1
    · go_enter Tryd.func11, Tryd.ntmps11
      go_upto_region 1 with fail
      rw [← HW2.out]
      go_wp2_with (go_at_call 22; refine (equalG_val t1.c t2.c false HT1.out.line HT2.out.line HM1.out HM2.out HQ1.out).mono ?_; rintro e w3 ⟨rfl, m3, rfl⟩)
      go_ret
      rw [HS2.out]
      exact ⟨rfl, below_drewN HB2.out m3⟩
    · have G1 := LA
      have G2 := LB
      go_enter Tryd.func11, Tryd.ntmps11
      go_upto_region 1 with fail
      rw [← HW2.out]
      go_wp2_with (first
        | (go_at_call 22; refine (equalG_val t1.c t2.c true HT1.out.line HT2.out.line HM1.out HM2.out HQ1.out).mono ?_; rintro e w3 ⟨rfl, m3, rfl⟩; have B3 := Lib.hid (below_drewN (Below.refl W2.heap.size W2) m3))
        | (have g := G1; clear g; refine wpList_load_guard (op := ⟨some 19, .load 24 (.tmp 18), _, _, _, some (12, true)⟩) (by rfl) 24 (.tmp 18) rfl (w.heap.size) 2 rfl (vals t1.T) _ ((X1.out _ B3.out).tag) Tryd.underlying24 rfl (tag_size t1.T LA.out) ?_; clear G1)
        | (have g := G2; clear g; refine wpList_load_guard (op := ⟨some 21, .load 24 (.tmp 20), _, _, _, some (12, true)⟩) (by rfl) 24 (.tmp 20) rfl (w.heap.size + 1) 2 rfl (vals t2.T) _ ((X2.out _ B3.out).tag) Tryd.underlying24 rfl (tag_size t2.T LB.out) ?_; clear G2))
      go_ret
      rw [HS2.out]
      exact ⟨by cases q2 <;> rfl, HB2.out.trans (B3.out.mono HB2.out.size)⟩
  · have hT : (t1.tn == t2.tn) = false := by simpa using htn
    have HS2 : Hid (sameP (pt t1 l1) (pt t2 l2) = false) := Lib.hid (by rw [HS.out, decide_eq_false htn]; rfl)
    clear htn HS
    go_enter Tryd.func11, Tryd.ntmps11
    go_upto_region 1 with fail
    rw [← HW2.out]
    go_wp2
    go_ret
    rw [HS2.out]
    exact ⟨rfl, HB2.out⟩
end Go.Proofs.YtmeafjehcckibaaDoor
