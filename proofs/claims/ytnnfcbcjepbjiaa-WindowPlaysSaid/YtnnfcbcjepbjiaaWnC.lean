/- The window's calls: New, Take, May, Boot, Top. Printed by gen_wnc.py. -/
import Derived.Test.YtnnfcbcjepbjiaaWnB
import Derived.Test.YtnnfcbcjepbjiaaB2
namespace Go.Proofs.Ytnnfcbcjepbjiaa
open Go.ChangeShapes Go.WideShapes Go.ChangeAt Go.RowKit
set_option linter.unusedVariables false
set_option linter.unusedSimpArgs false
open Plain Sha Wn
def InI (x : Int) : Prop := -9223372036854775808 ≤ x ∧ x ≤ 9223372036854775807
theorem gw_refl (w : World) (r : Option Nat) : w.grownBy w r := ⟨rfl, rfl, rfl, Nat.le_refl _, fun _ _ _ => rfl⟩
theorem gw_of {w w' : World} (h : Below w.heap.size w w') (r : Option Nat) : w.grownBy w' r := ⟨h.os, h.tape, h.output, h.size, fun k hk _ => h.block k hk⟩
theorem gw_drew {w v : World} {r : Option Nat} (h : w.grownBy v r) : w.grownBy v.drew r := ⟨h.os, h.tape, h.output, h.size, h.block⟩
theorem gw_more {w v u : World} {r : Option Nat} (h : w.grownBy v r) (hb : Below v.heap.size v u) : w.grownBy u r :=
  ⟨hb.os.trans h.os, hb.tape.trans h.tape, hb.output.trans h.output, Nat.le_trans h.size hb.size, fun k hk hne => (hb.block k (Nat.lt_of_lt_of_le hk h.size)).trans (h.block k hk hne)⟩
theorem gw_below {w w' : World} {B p : Nat} (h : w.grownBy w' (some p)) (hB : B ≤ p) (hp : B ≤ w.heap.size) : Below B w w' :=
  Below.grown (Below.refl B w) h hp (fun k hk => by injection hk with e; omega)
theorem wbox_apart {w w' : World} {p q : Nat} {x : WZ} (h : WBox w q x) (hg : w.grownBy w' (some p)) (hne : q ≠ p) : WBox w' q x := h.same (hg.block q h.lt (fun e => hne (by injection e)))
theorem with_any {w : World} {b : Int} {S : List Int} (hI : WIn b S) {k n : Int} (hk : ¬ k < 0) (hn : ¬ n < 1) (hk' : InI k) (hn' : InI n) :
    Calls Try.prog 18 #[.agg (wc (win b S)).toArray, .int .i64 k, .int .i64 n] w (fun e w' => e = .returned (.agg (wc (withZ b S k n)).toArray) ∧ Below w.heap.size w w') := by
  have h0 := top_pos S
  have h1 := hI.top
  unfold withZ
  unfold InI at hn' hk'
  by_cases h2 : k < b
  · rw [if_pos h2]
    exact with_old (win b S) k n (.inl h2) ⟨h0, h1⟩
  rw [if_neg h2]
  by_cases h3 : b < k
  · rw [if_pos h3]
    exact with_anew (win b S) k n h3 (by omega)
  rw [if_neg h3]
  have e : k = (win b S).boot := by show k = b; omega
  by_cases h4 : n ≤ topZ S - 64
  · rw [if_pos h4]
    exact with_old (win b S) k n (.inr ⟨e, h4⟩) ⟨h0, h1⟩
  · rw [if_neg h4, e]
    exact with_more (win b S) n h4 (by omega) ⟨h0, h1⟩
theorem win_new : win (-1) [] = anewZ (-1) := win_none (-1)
theorem build_new (W : World) : (Instr.build 40 #[(0, .bool true), (1, .int .i64 (-1))]).run Try.prog W = .ok (.agg (wc (win (-1) [])).toArray) W := by
  rw [win_new]; exact build_anew (-1) W
set_option maxRecDepth 100000 in
set_option maxHeartbeats 1000000 in
theorem new_any (w : World) : Calls Try.prog 9 #[] w (fun e w' => e = .returned (.pointer (some ⟨w.heap.size, 0, none⟩)) ∧ WBox w' w.heap.size (win (-1) []) ∧ Below w.heap.size w w' ∧ w'.heap.size = w.heap.size + 1) := by
  obtain ⟨x, hx⟩ : ∃ x, win (-1) [] = x := ⟨_, rfl⟩
  have hb := build_new
  rw [hx] at hb
  rw [hx]
  have HX := wbox_new w x 40 _ rfl
  have hb1 : Below w.heap.size w (w.alloc (.cells (wc x).toArray 40)) := (Below.refl _ _).alloc (Nat.le_refl _) _
  go_enter Try.func9, Try.ntmps9
  go_wp2_with (show wpList _ _ _ (⟨some 1, .build 40 _, _, _, _, _⟩ :: _) _ _; refine wpList_exec rfl (.agg (wc x).toArray) (by simp [execOp, Act.eval, hb]) ?_)
  go_ret
  exact ⟨rfl, HX, hb1, by simp⟩
/-- What Take does to the window at p. -/
def Took (p : Nat) (b : Int) (S : List Int) (k n : Int) (w : World) (e : Ending) (w' : World) : Prop :=
  e = .returned (.int .i64 (takeZ b S k n).1) ∧ WBox w' p (win (takeZ b S k n).2.1 (takeZ b S k n).2.2) ∧ w.grownBy w' (some p)
set_option maxRecDepth 100000 in
set_option maxHeartbeats 4000000 in
theorem take_any {w : World} {p : Nat} {b : Int} {S : List Int} (X : WBox w p (win b S)) (hI : WIn b S) {k n : Int} (hk' : InI k) (hn' : InI n) :
    Calls Try.prog 15 #[.pointer (some ⟨p, 0, none⟩), .int .i64 k, .int .i64 n] w (Took p b S k n w) := by
  unfold Took
  by_cases hk : k < 0
  · have e : takeZ b S k n = (2, b, S) := by unfold takeZ; rw [if_pos (Or.inl hk)]
    rw [e]
    obtain ⟨x, hx, hm⟩ : ∃ x, win b S = x ∧ x.made = true := ⟨_, rfl, rfl⟩
    have HX := Lib.hid hx
    rw [hx] at X
    have c0 := X.c0
    rw [hm] at c0
    have XH := Lib.hid X
    clear hx X hm e hI
    go_enter Try.func15, Try.ntmps15
    go_wp2
    go_ret
    exact ⟨rfl, by rw [HX.out]; exact XH.out, gw_refl _ _⟩
  by_cases hn : n < 1
  · have e : takeZ b S k n = (2, b, S) := by unfold takeZ; rw [if_pos (Or.inr hn)]
    rw [e]
    obtain ⟨x, hx, hm⟩ : ∃ x, win b S = x ∧ x.made = true := ⟨_, rfl, rfl⟩
    have HX := Lib.hid hx
    rw [hx] at X
    have c0 := X.c0
    rw [hm] at c0
    have XH := Lib.hid X
    clear hx X hm e hI
    go_enter Try.func15, Try.ntmps15
    go_wp2
    go_ret
    exact ⟨rfl, by rw [HX.out]; exact XH.out, gw_refl _ _⟩
  obtain ⟨t1, t2, t3⟩ := with_take hI hk hn
  have HW := Lib.hid (fun (v : World) => with_any (w := v) hI hk hn hk' hn')
  obtain ⟨x, hx, hm⟩ : ∃ x, win b S = x ∧ x.made = true := ⟨_, rfl, rfl⟩
  obtain ⟨y, hy⟩ : ∃ y, withZ b S k n = y := ⟨_, rfl⟩
  rw [hy, hx] at t2
  rw [← t1, hy]
  obtain ⟨er, her⟩ : ∃ er, (takeZ b S k n).1 = er := ⟨_, rfl⟩
  rw [her] at t2 t3
  rw [her]
  rw [hx] at X
  have HW2 : Hid (∀ v : World, Calls Try.prog 18 #[.agg (wc x).toArray, .int .i64 k, .int .i64 n] v (fun e w' => e = .returned (.agg (wc y).toArray) ∧ Below v.heap.size v w')) := Lib.hid (by rw [← hx, ← hy]; exact HW.out)
  have c0 := X.c0
  rw [hm] at c0
  have XH := Lib.hid X
  have T2 := Lib.hid t2
  have T3 := Lib.hid t3
  clear hx hy X hm hI t1 t2 t3 her HW
  have zk := zWk
  have zs := zWc_size
  have zn := zWc_ne
  go_enter Try.func15, Try.ntmps15
  go_upto_region 6 with (first
      | (show wpList _ _ _ (⟨some 25, .load 40 (.tmp 24), _, _, _, _⟩ :: _) _ _; refine wpList_load_mid rfl 40 (.tmp 24) rfl (p) 0 rfl (wc x) _ (XH.out.range) Try.underlying40 rfl (wn_size x) ?_)
      | (go_at_call 18; refine (HW2.out _).mono ?_; rintro e v ⟨rfl, hb⟩; have B1 := Lib.hid hb; have TH1 := Lib.hid (wthere_new v y 40 _ rfl); clear hb)
      | (show wpList _ _ _ (⟨none, .store 40 (.tmp 7) (.tmp 28), _, _, _, _⟩ :: _) _ _; refine wpList_store_as rfl 40 (.tmp 7) (.tmp 28) rfl (v.heap.size) 0 (wc y).toArray rfl rfl (TH1.out) (wn_sizeA _) (wn_one _) ?_; intro v7 hv7))
  obtain ⟨y7, b7, l7⟩ := wbox_stored rfl hv7
  have Y7 := Lib.hid y7
  have hpv : p < v.heap.size := by have := XH.out.lt; have := B1.out.size; omega
  have X7 := Lib.hid ((XH.out.grow B1.out).below b7 hpv)
  have G7 := Lib.hid (gw_more (gw_of B1.out (some p)) b7)
  have X8 : Hid (WBox v7.drew p x) := Lib.hid X7.out.drew
  have Y8 : Hid (WBox v7.drew v.heap.size y) := Lib.hid Y7.out.drew
  have G8 : Hid (w.grownBy v7.drew (some p)) := Lib.hid (gw_drew G7.out)
  clear hv7 y7 b7 c0 zk zs zn TH1 B1
  obtain ⟨q, hq⟩ : ∃ q, wnB y x = q := ⟨_, rfl⟩
  have HQ := Lib.hid hq
  refine Late.region (fun w' => w'.rangeAt p 0 (wc x) ∧ w'.rangeAt v.heap.size 0 (wc y)) [] (by kernel_rfl) ⟨X7.out.range, Y7.out.range⟩ (fun hHeld => ?_)
  refine Late.take (i := 0) (oi := ⟨some 29, Op.load 40 (Operand.tmp 7), _, _, _, _⟩) (v := _) rfl (by kernel_rfl) (by kernel_rfl) (by kernel_rfl) (by kernel_rfl) (fun _ _ _ h => h) (yieldsIf_load_mid (by rfl) _ _ rfl _ _ rfl (wc y) _ (fun W hW => hW.2) Try.underlying40 rfl (wn_size y)) (by assumption) ?_
  try simp only [Act.put, List.setIfInBounds_toArray, List.set_cons_zero, List.set_cons_succ]
  refine Late.take (i := 1) (oi := ⟨some 30, Op.move (Operand.tmp 0), _, _, _, _⟩) (v := ?_) rfl (by kernel_rfl) (by kernel_rfl) (by kernel_rfl) (by kernel_rfl) (fun _ _ _ h => h) (Or.inl ⟨by rfl, fun w hSw => ?_⟩) (by assumption) ?_
  rotate_left
  · (have s1 := hSw; go_simp; try with_reducible rfl)
  try simp only [Act.put, List.setIfInBounds_toArray, List.set_cons_zero, List.set_cons_succ]
  refine Late.take (i := 2) (oi := ⟨some 31, Op.nilCheck (Operand.tmp 30), _, _, _, _⟩) (v := ?_) rfl (by kernel_rfl) (by kernel_rfl) (by kernel_rfl) (by kernel_rfl) (fun _ _ _ h => h) (Or.inl ⟨by rfl, fun w hSw => ?_⟩) (by assumption) ?_
  rotate_left
  · (have s1 := hSw; go_simp; try with_reducible rfl)
  try simp only [Act.put, List.setIfInBounds_toArray, List.set_cons_zero, List.set_cons_succ]
  refine Late.take (i := 3) (oi := ⟨some 32, Op.load 40 (Operand.tmp 31), _, _, _, _⟩) (v := _) rfl (by kernel_rfl) (by kernel_rfl) (by kernel_rfl) (by kernel_rfl) (fun _ _ _ h => h) (yieldsIf_load_mid (by rfl) _ _ rfl _ _ rfl (wc x) _ (fun W hW => hW.1) Try.underlying40 rfl (wn_size x)) (by assumption) ?_
  try simp only [Act.put, List.setIfInBounds_toArray, List.set_cons_zero, List.set_cons_succ]
  refine Late.take (i := 4) (oi := ⟨some 33, Op.binOp BinOp.eql 40 (Operand.tmp 29) (Operand.tmp 32) 40, _, _, _, _⟩) (v := .bool (wnB y x)) rfl (by kernel_rfl) (by kernel_rfl) (by kernel_rfl) (by kernel_rfl) (fun _ _ _ h => h) (Or.inl ⟨by rfl, fun w hSw => ?_⟩) (by assumption) ?_
  · (have hn := run_wnEq y x w; simp [execOp, Act.eval, hn, run_eqGuard_agg (hm := Try.eqGuardType40)])
  try simp only [Act.put, List.setIfInBounds_toArray, List.set_cons_zero, List.set_cons_succ]
  refine Late.done (by kernel_rfl) ?_ _
  refine NoPanic.normal ?_
  rw [HQ.out]
  cases q
  · have ey : er = 0 := by
      rcases T3.out with h | h
      · have := (wnB_iff y x).2 (T2.out.2 h)
        rw [HQ.out] at this; cases this
      · exact h
    subst ey
    have TP : Hid (v7.drew.there p 0 (wc y).toArray.size) := Lib.hid (X8.out.thereA y)
    go_wp2_with (first
      | (show wpList _ _ _ (⟨some 35, .load 40 (.tmp 7), _, _, _, _⟩ :: _) _ _; refine wpList_load_mid rfl 40 (.tmp 7) rfl (v.heap.size) 0 rfl (wc y) _ (Y8.out.range) Try.underlying40 rfl (wn_size y) ?_)
      | (show wpList _ _ _ (⟨none, .store 40 (.tmp 36) (.tmp 35), _, _, _, _⟩ :: _) _ _; refine wpList_store_as rfl 40 (.tmp 36) (.tmp 35) rfl (p) 0 (wc y).toArray rfl rfl (TP.out) (wn_sizeA _) (wn_one _) ?_; intro v9 hv9))
    go_ret
    exact ⟨rfl, by rw [hv9.out]; exact X8.out.store y, by rw [hv9.out]; exact grown_setCells _ _ _ G8.out⟩
  · have exy := (wnB_iff y x).1 HQ.out
    have ey : er = 180 := T2.out.1 exy
    subst ey
    go_wp2
    go_ret
    exact ⟨rfl, by first | exact X8.out | (rw [exy]; exact X8.out), G8.out⟩
end Go.Proofs.Ytnnfcbcjepbjiaa
