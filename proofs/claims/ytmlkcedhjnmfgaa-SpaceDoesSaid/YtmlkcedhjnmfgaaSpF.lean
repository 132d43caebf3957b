/- Other pairs in the place of some, in new memory. -/
import Derived.Test.YtmlkcedhjnmfgaaSpE
namespace Go.Proofs.Ytmlkcedhjnmfgaa
open Go.ChangeShapes Go.WideShapes Go.ChangeAt Go.RowKit
set_option linter.unusedVariables false
set_option linter.unusedSimpArgs false
open Plain Sp
theorem step_pairs (w0 w : World) (hW : Below w0.heap.size w0 w) {ops : Array Oper} {o : Oper} {a : Act} {K : Act → World → Prop} {Q : Exit → Act → World → Prop} {E : Prop} (hgd : o.guard = none) (s x : Operand)
    (ho : o.op = .call { callee := .builtin .append, args := #[s, x], argTypes := #[26, 26] })
    (v : Value) (n : Nat) (l1 : List PairZ) (hown : w.ownsRow w0.heap.size 46 2 v n (pvs l1)) (hs : a.eval s = v)
    {B m : Nat} (A : Option Addr) (c : Nat) (l2 : List PairZ) (hr : Prs w B A m l2) (hx : a.eval x = .slice A m c) (hn : n + m ≤ 4096)
    (h : ∀ D d w', w'.ownsRow w0.heap.size 46 2 (.slice D (n + m) d) (n + m) (pvs (l1 ++ l2)) → Below w0.heap.size w0 w' → w.grownBy w' v.ownBlock → K (a.put o.dst (.slice D (n + m) d)) w') : if Region.wanted o (yielded ops a.tmps) = true then Oper.wp Try.prog o a w K Q else E := by
  refine step_app w hgd s x 26 ho w0.heap.size 46 2 32 Try.underlying26 pair_info (by omega) v n (pvs l1) hs hown A m c (pvs l2) hx hr.lies.1 hr.lies.2 (pvs_one l2) (by unfold maxLen; omega) (by omega) hW.size ?_
  intro v' w' ho' hg' _
  rw [← pvs_app] at ho'
  obtain ⟨D, d, rfl, _, _⟩ := own_shapeP ho'
  exact h D d w' ho' (hW.grown hg' hW.size (fun k hk => (hown.lt k hk).1)) hg'
theorem step_cap1 (w0 w : World) (hW : Below w0.heap.size w0 w) {B m g p : Nat} {A2 : Option Addr} {l l2 : List PairZ} {ops : Array Oper} {o : Oper} {a : Act} {K : Act → World → Prop} {Q : Exit → Act → World → Prop} {E : Prop} (hgd : o.guard = none) (s x : Operand)
    (ho : o.op = .call { callee := .builtin .append, args := #[s, x], argTypes := #[26, 26] })
    (hs : a.eval s = .slice (some ⟨g, 0, none⟩) p p) (c : Nat) (hx : a.eval x = .slice A2 m c) {B0 : Nat} (h : NewP w B0 (some ⟨g, 0, none⟩) p p l) (h2 : Prs w B A2 m l2) (hp : p ≤ 2000) (hm : m ≤ 2000) (h0 : 0 < m)
    (hK : ∀ D d w', w'.ownsRow w0.heap.size 46 2 (.slice D (p + m) d) (p + m) (pvs (l ++ l2)) → Below w0.heap.size w0 w' → Below w.heap.size w w' → K (a.put o.dst (.slice D (p + m) d)) w') : if Region.wanted o (yielded ops a.tmps) = true then Oper.wp Try.prog o a w K Q else E :=
  step_cap hgd s x ho hs hx h.prs h2 hp hm fun D d w' b1 _ b3 => hK D d w' (own_base (b3 h0) hW.size) (hW.trans (b1.mono hW.size)) b1
theorem step_cap0 {w : World} {g p : Nat} {A2 : Option Addr} {l : List PairZ} {ops : Array Oper} {o : Oper} {a : Act} {K : Act → World → Prop} {Q : Exit → Act → World → Prop} {E : Prop} (hgd : o.guard = none) (s x : Operand)
    (ho : o.op = .call { callee := .builtin .append, args := #[s, x], argTypes := #[26, 26] })
    (hs : a.eval s = .slice (some ⟨g, 0, none⟩) p p) (c : Nat) (hx : a.eval x = .slice A2 0 c) {B0 : Nat} (h : NewP w B0 (some ⟨g, 0, none⟩) p p l) (hp : p ≤ 2000)
    (hK : K (a.put o.dst (.slice (some ⟨g, 0, none⟩) p p)) w) : if Region.wanted o (yielded ops a.tmps) = true then Oper.wp Try.prog o a w K Q else E :=
  step_cap (l2 := []) hgd s x ho hs hx h.prs (Prs.nil (B := 0)) hp (by omega) fun D d w' b1 b2 _ => by
    obtain ⟨rfl, rfl, rfl⟩ := b2 rfl
    exact hK
/-- A row of a call's own, with more behind it; a front of one that is cut off there. -/
theorem step_capN (w0 w : World) (hW : Below w0.heap.size w0 w) {B m g p : Nat} {A2 : Option Addr} {l l2 : List PairZ} {ops : Array Oper} {o : Oper} {a : Act} {K : Act → World → Prop} {Q : Exit → Act → World → Prop} {E : Prop} (hgd : o.guard = none) (s x : Operand)
    (ho : o.op = .call { callee := .builtin .append, args := #[s, x], argTypes := #[26, 26] })
    (hs : a.eval s = .slice (some ⟨g, 0, none⟩) p p) (c : Nat) (hx : a.eval x = .slice A2 m c) (base : Nat) (hb : base ≤ w.heap.size) (h : NewP w base (some ⟨g, 0, none⟩) p p l) (h2 : Prs w B A2 m l2) (hp : p ≤ 2000) (hm : m ≤ 2000)
    (hK : ∀ D d w', NewP w' base D (p + m) d (l ++ l2) → Below w0.heap.size w0 w' → K (a.put o.dst (.slice D (p + m) d)) w') : if Region.wanted o (yielded ops a.tmps) = true then Oper.wp Try.prog o a w K Q else E :=
  step_cap hgd s x ho hs hx h.prs h2 hp hm fun D d w' b1 b2 b3 => hK D d w' (by
    rcases Nat.eq_zero_or_pos m with h0 | h0
    · obtain ⟨rfl, rfl, rfl⟩ := b2 h0
      subst h0
      have : l2 = [] := List.eq_nil_of_length_eq_zero h2.len
      subst this
      simpa using h
    · exact newP_own (own_base (b3 h0) hb) (pok_app h.ok h2.ok)) (hW.trans (b1.mono hW.size))
theorem NewP.front {w : World} {base n d a : Nat} {D : Option Addr} {l : List PairZ} (h : NewP w base D n d l) (ha : a ≤ n) : NewP w base D a a (l.take a) := by
  have hl := h.len
  refine ⟨by simp; omega, Nat.le_refl _, Nat.le_trans ha (Nat.le_trans h.nd h.dm), fun p hp => h.ok p (List.mem_of_mem_take hp), fun h0 => ?_⟩
  obtain ⟨g, cur, rfl, h1, h2, h3, h4⟩ := h.row (by omega)
  refine ⟨g, cur, rfl, h1, h2, by omega, ?_⟩
  rw [← pvs_take, ← h4, List.take_take]
  congr 1
  omega
theorem Prs.back {w : World} {B n b g : Nat} {l : List PairZ} (h : Prs w B (some ⟨g, 0, none⟩) n l) (hb : b ≤ n) (d : Nat) (hd : n ≤ d) : Prs w B (if d = b then some ⟨g, 0, none⟩ else some ⟨g, b * 2, none⟩) (n - b) (l.drop b) := by
  have hl := h.len
  have e : (l.drop b).take (n - b) = l.drop b := List.take_of_length_le (by simp; omega)
  rw [← e]
  refine h.cut (by omega) _ fun b' off' e' hm => ?_
  injection e' with e'; injection e' with e1 e2 e3
  subst e1 e2
  rw [if_neg (by omega), Nat.zero_add]
/-- A list of pairs that a call makes, in new memory. -/
def PutP (w : World) (n : Nat) (l : List PairZ) (e : Ending) (w' : World) : Prop :=
  ∃ D d, e = .returned (.slice D n d) ∧ NewP w' w.heap.size D n d l ∧ Below w.heap.size w w'
set_option maxRecDepth 100000 in
set_option maxHeartbeats 4000000 in
theorem instead_any {w : World} {n c a b m B2 : Nat} {A A2 : Option Addr} {l l2 : List PairZ} (c2 : Nat) (h : Spc w A n c l) (h2 : Prs w B2 A2 m l2) (hB2 : B2 ≤ w.heap.size) (hm : m ≤ 1) (hab : a ≤ b) (hb : b ≤ n) :
    Calls Try.prog 37 #[.slice A n c, .int .i64 a, .int .i64 b, .slice A2 m c2] w (PutP w (a + m + (n - b)) (l.take a ++ l2 ++ l.drop b)) := by
  have HC := Lib.hid (clone_any h)
  have HK := Lib.hid h.prs.ok
  have H2 := Lib.hid h2
  have hk := h.nk
  have L := Lib.hid h.prs.len
  clear h h2
  go_enter Try.func37, Try.ntmps37
  go_upto_region 2 with (go_at_call 49; refine HC.out.mono ?_; rintro e w1 ⟨D, d, rfl, ho, hb1⟩; have HO := Lib.hid ho; have HB := Lib.hid hb1; clear ho hb1)
  rcases own_shapeP HO.out with ⟨_, _, e, hd1, hd2⟩
  injection e with e1 e2 e3
  subst e1 e3
  have hbI : (b : Int) ≤ (n : Int) := by omega
  have haI : (a : Int) ≤ (d : Int) := by omega
  have hdI : (n : Int) ≤ (d : Int) := by omega
  rcases HO.out.2 with ⟨e, h0⟩ | ⟨g, cap, cur, e, hbg, hg, hnc, hcm, hcs, ht⟩
  · injection e with e1 e2 e3
    subst e1 e3 h0
    have hl : l = [] := List.eq_nil_of_length_eq_zero L.out
    obtain rfl : b = 0 := by omega
    obtain rfl : a = 0 := by omega
    subst hl
    have hsz := HB.out.size
    have FM := Lib.hid (fun (V : World) => front_any (w := V) (n := 0) (c := 0) (m := 0) (A := none) (by omega))
    have HV := Lib.hid (fun (V : World) (hV : Below w1.heap.size w1 V) => (H2.out.below HB.out hB2).below hV (Nat.le_trans hB2 hsz))
    have HK2 : Hid (∀ p, p ∈ ([] ++ l2 ++ [] : List PairZ) → POk p) := Lib.hid (by simpa using H2.out.ok)
    go_region_held3 (fun _ => True) (exact trivial)
      ((first
        | (go_at_call 43; refine (FM.out _).mono ?_; rintro e w5 ⟨rfl, rfl⟩)
        | (refine step_pairs w1 _ (Below.refl _ _).drew (by rfl) (.tmp 14) (.tmp 15) (by rfl) _ 0 [] (World.ownsRow_nil _ _ _ _) (by rfl) _ _ _ (HV.out _ (Below.refl _ _).drew) (by rfl) (by omega) ?_; intro D4 d4 w4 ho4 hb4 _; have HO4 := Lib.hid ho4; have HB4 := Lib.hid hb4; clear ho4 hb4)
        | (refine step_pairs w1 _ HB4.out (by rfl) (.tmp 16) (.tmp 19) (by rfl) _ _ _ HO4.out (by rfl) _ _ _ (Prs.nil (B := 0)) (by rfl) (by omega) ?_; intro D5 d5 w5 ho5 hb5 _; have HO5 := Lib.hid ho5; have HB5 := Lib.hid hb5; clear ho5 hb5)
        | fail))
    all_goals
      go_wp2
      go_ret
      have ho := HO5.out
      simp only [Nat.zero_add, Nat.add_zero] at ho
      rw [show 0 + m + (0 - 0) = m by omega]
      exact ⟨D5, d5, rfl, newP_own (own_base ho hsz) HK2.out, HB.out.trans (HB5.out.mono hsz)⟩
  · injection e with e1 e2 e3
    subst e1 e3
    clear hbg hg hcs ht
    have HN := Lib.hid (newP_own HO.out HK.out)
    have hsz := HB.out.size
    have HF := Lib.hid (fun (V : World) (hV : Below w1.heap.size w1 V) => (HN.out.below hV).front (a := a) (by omega))
    have HT := Lib.hid (fun (V : World) (hV : Below w1.heap.size w1 V) => (HN.out.prs.below hV (Nat.le_refl _)).back hb d hd1)
    have FM := Lib.hid (fun (V : World) => front_any (w := V) (n := n) (A := some ⟨g, 0, none⟩) (show a ≤ d by omega))
    rcases Nat.eq_zero_or_pos m with h0 | h0
    · subst h0
      have hl2 : l2 = [] := List.eq_nil_of_length_eq_zero H2.out.len
      subst hl2
      by_cases hdb : d = b
      · subst hdb
        have e1 : a + 0 + (n - d) = a := by omega
        have e2 : List.take a l ++ [] ++ List.drop d l = List.take a l := by rw [List.drop_eq_nil_of_le (by rw [L.out]; omega)]; simp
        have HR := Lib.hid (show PutP w (a + 0 + (n - d)) (List.take a l ++ [] ++ List.drop d l) (.returned (.slice (some ⟨g, 0, none⟩) a a)) w1.drew by rw [e1, e2]; exact ⟨_, _, rfl, HF.out _ (Below.refl _ _).drew, HB.out.drew⟩)
        clear e1 e2
        go_region_held3 (fun _ => True) (exact trivial)
          ((first
          | (go_at_call 43; refine (FM.out _).mono ?_; rintro e w5 ⟨rfl, rfl⟩)
          | (refine step_cap0 (by rfl) (.tmp 14) (.tmp 15) (by rfl) (by rfl) _ (by rfl) (HF.out _ (Below.refl _ _).drew) (by omega) ?_)
          | (refine step_capN w1 _ (Below.refl _ _).drew (by rfl) (.tmp 16) (.tmp 19) (by rfl) (by rfl) _ (by rfl) w.heap.size hsz (HF.out _ (Below.refl _ _).drew) (HT.out _ (Below.refl _ _).drew) (by omega) (by omega) ?_; intro D5 d5 w5 hn5 hb5; have HN5 := Lib.hid hn5; have HB5 := Lib.hid hb5; clear hn5 hb5)
          | fail))
        all_goals
          go_wp2
          go_ret
          exact HR.out
      · rw [if_neg hdb] at HT
        go_region_held3 (fun _ => True) (exact trivial)
          ((first
          | (go_at_call 43; refine (FM.out _).mono ?_; rintro e w5 ⟨rfl, rfl⟩)
          | (refine step_cap0 (by rfl) (.tmp 14) (.tmp 15) (by rfl) (by rfl) _ (by rfl) (HF.out _ (Below.refl _ _).drew) (by omega) ?_)
          | (refine step_capN w1 _ (Below.refl _ _).drew (by rfl) (.tmp 16) (.tmp 19) (by rfl) (by rfl) _ (by rfl) w.heap.size hsz (HF.out _ (Below.refl _ _).drew) (HT.out _ (Below.refl _ _).drew) (by omega) (by omega) ?_; intro D5 d5 w5 hn5 hb5; have HN5 := Lib.hid hn5; have HB5 := Lib.hid hb5; clear hn5 hb5)
          | fail))
        all_goals
          go_wp2
          go_ret
          rw [List.append_nil]
          exact ⟨D5, d5, rfl, HN5.out, HB.out.trans (HB5.out.mono hsz)⟩
    · have HV := Lib.hid (fun (V : World) (hV : Below w1.heap.size w1 V) => (H2.out.below HB.out hB2).below hV (Nat.le_trans hB2 hsz))
      have HK2 := Lib.hid (pok_app (pok_app (HF.out _ (Below.refl _ _)).ok H2.out.ok) (HT.out _ (Below.refl _ _)).ok)
      by_cases hdb : d = b
      · subst hdb
        have e1 : n - d = 0 := by omega
        have e2 : List.drop d l = [] := List.drop_eq_nil_of_le (by rw [L.out]; omega)
        rw [e2] at HK2
        have E1 := Lib.hid e1
        have E2 := Lib.hid e2
        clear e1 e2 HT
        go_region_held3 (fun _ => True) (exact trivial)
          ((first
          | (go_at_call 43; refine (FM.out _).mono ?_; rintro e w5 ⟨rfl, rfl⟩)
          | (refine step_cap1 w1 _ (Below.refl _ _).drew (by rfl) (.tmp 14) (.tmp 15) (by rfl) (by rfl) _ (by rfl) (HF.out _ (Below.refl _ _).drew) (HV.out _ (Below.refl _ _).drew) (by omega) (by omega) h0 ?_; intro D4 d4 w4 ho4 hb4 _; have HO4 := Lib.hid ho4; have HB4 := Lib.hid hb4; clear ho4 hb4)
          | (refine step_pairs w1 _ HB4.out (by rfl) (.tmp 16) (.tmp 19) (by rfl) _ _ _ HO4.out (by rfl) _ _ _ (Prs.nil (B := 0)) (by rfl) (by omega) ?_; intro D5 d5 w5 ho5 hb5 _; have HO5 := Lib.hid ho5; have HB5 := Lib.hid hb5; clear ho5 hb5)
          | fail))
        all_goals
          go_wp2
          go_ret
          rw [E1.out, E2.out]
          exact ⟨D5, d5, rfl, newP_own (own_base HO5.out hsz) HK2.out, HB.out.trans (HB5.out.mono hsz)⟩
      · rw [if_neg hdb] at HT
        go_region_held3 (fun _ => True) (exact trivial)
          ((first
          | (go_at_call 43; refine (FM.out _).mono ?_; rintro e w5 ⟨rfl, rfl⟩)
          | (refine step_cap1 w1 _ (Below.refl _ _).drew (by rfl) (.tmp 14) (.tmp 15) (by rfl) (by rfl) _ (by rfl) (HF.out _ (Below.refl _ _).drew) (HV.out _ (Below.refl _ _).drew) (by omega) (by omega) h0 ?_; intro D4 d4 w4 ho4 hb4 _; have HO4 := Lib.hid ho4; have HB4 := Lib.hid hb4; clear ho4 hb4)
          | (refine step_pairs w1 _ HB4.out (by rfl) (.tmp 16) (.tmp 19) (by rfl) _ _ _ HO4.out (by rfl) _ _ _ (HT.out _ HB4.out) (by rfl) (by omega) ?_; intro D5 d5 w5 ho5 hb5 _; have HO5 := Lib.hid ho5; have HB5 := Lib.hid hb5; clear ho5 hb5)
          | fail))
        all_goals
          go_wp2
          go_ret
          exact ⟨D5, d5, rfl, newP_own (own_base HO5.out hsz) HK2.out, HB.out.trans (HB5.out.mono hsz)⟩
end Go.Proofs.Ytmlkcedhjnmfgaa
