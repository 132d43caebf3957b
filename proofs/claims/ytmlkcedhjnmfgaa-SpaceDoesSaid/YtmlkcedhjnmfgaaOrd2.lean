/- More on drawn regions: the last operations may wait for the loads by way of others; what needs no world is taken at any time. -/
import Derived.Test.YtmlkcedhjnmfgaaOrd
namespace Go.Proofs.Ytmlkcedhjnmfgaa
open Go.ChangeShapes Go.WideShapes Go.ChangeAt Go.RowKit
set_option linter.unusedVariables false
section
variable {P : Program} {ops : Array Oper} {Q : Exit → Act → World → Prop} {md : Region.Mode} {S : World → Prop} {ks : List Nat}
/-- Operation k waits for operation i, by way of others too. -/
def waitsT (md : Region.Mode) (ops : Array Oper) : Nat → Nat → Nat → Bool
  | 0, k, i => waitsB md ops k i
  | n + 1, k, i => waitsB md ops k i || ((ops[k]?).map fun o => o.after.any fun e => Region.binds md e && waitsT md ops n e.on i).getD false
/-- Whatever has come up came up behind what it waits for. -/
def closedB (md : Region.Mode) (ops : Array Oper) (listed : Array Bool) : Bool :=
  (List.range ops.size).all fun k => !listed.getD k false || ((ops[k]?).map fun o => o.after.all fun e => !Region.binds md e || listed.getD e.on false).getD true
def Closed (md : Region.Mode) (ops : Array Oper) (listed : Array Bool) : Prop :=
  ∀ k o, ops[k]? = some o → listed.getD k false = true → ∀ e ∈ o.after, Region.binds md e = true → listed.getD e.on false = true
theorem closed_of {listed : Array Bool} (h : closedB md ops listed = true) : Closed md ops listed := by
  intro k o ho hl e he hb
  simp only [closedB, List.all_eq_true, List.mem_range] at h
  have := h k (Array.getElem?_eq_some_iff.1 ho).1
  rw [ho, hl] at this
  simp only [Bool.not_true, Bool.false_or, Option.map_some, Option.getD_some, Array.all_eq_true] at this
  obtain ⟨n, hn, rfl⟩ := Array.mem_iff_getElem.1 he
  have h2 := this n hn
  rw [hb] at h2
  simpa using h2
theorem Closed.more {listed : Array Bool} {i : Nat} (h : Closed md ops listed) (hi : i ∈ Region.ready md ops listed) : Closed md ops (listed.setIfInBounds i true) := by
  intro k o ho hl e he hb
  have up : ∀ j, listed.getD j false = true → (listed.setIfInBounds i true).getD j false = true := fun j hj => by
    by_cases e : i = j
    · subst e
      rw [Array.getD_eq_getD_getElem?] at hj ⊢
      by_cases hlt : i < listed.size
      · rw [Array.getElem?_setIfInBounds_self_of_lt hlt]; rfl
      · rw [Array.getElem?_eq_none (by omega)] at hj; cases hj
    · rw [getD_set_ne false e]; exact hj
  by_cases e2 : i = k
  · subst e2
    obtain ⟨_, o', ho', hall⟩ := mem_ready.1 hi
    obtain rfl := Option.some.inj (ho.symm.trans ho')
    exact up _ (hall e he hb)
  · rw [getD_set_ne false e2] at hl
    exact up _ (h k o ho hl e he hb)
theorem waits_listed {listed : Array Bool} (hc : Closed md ops listed) : ∀ n k i, listed.getD k false = true → waitsT md ops n k i = true → listed.getD i false = true := by
  have one : ∀ k i, listed.getD k false = true → waitsB md ops k i = true → listed.getD i false = true := fun k i hl hw => by
    cases ho : ops[k]? with
    | none => rw [waitsB, ho] at hw; simp at hw
    | some o =>
      rw [waitsB, ho] at hw
      simp only [Option.map_some, Option.getD_some, Array.any_eq_true, Bool.and_eq_true, beq_iff_eq] at hw
      obtain ⟨n, hn, e1, e2⟩ := hw
      have := hc k o ho hl _ (Array.getElem_mem hn) e1
      rwa [e2] at this
  intro n
  induction n with
  | zero => exact one
  | succ n ih =>
    intro k i hl hw
    simp only [waitsT, Bool.or_eq_true] at hw
    rcases hw with hw | hw
    · exact one k i hl hw
    · cases ho : ops[k]? with
      | none => rw [ho] at hw; simp at hw
      | some o =>
        rw [ho] at hw
        simp only [Option.map_some, Option.getD_some, Array.any_eq_true, Bool.and_eq_true] at hw
        obtain ⟨m, hm, e1, e2⟩ := hw
        exact ih _ _ (hc k o ho hl _ (Array.getElem_mem hm) e1) e2
theorem ready_freeT {n k i : Nat} {listed : Array Bool} (hc : Closed md ops listed) (hi : i ∈ Region.ready md ops listed) (hk : k ∈ Region.ready md ops listed) : waitsT md ops n k i = false := by
  cases hw : waitsT md ops n k i with
  | false => rfl
  | true =>
    exfalso
    have hk2 := Closed.more hc hk
    have hl : (listed.setIfInBounds k true).getD k false = true := by
      obtain ⟨hun, o, ho, _⟩ := mem_ready.1 hk
      rw [Array.getD_eq_getD_getElem?] at hun ⊢
      by_cases hlt : k < listed.size
      · rw [Array.getElem?_setIfInBounds_self_of_lt hlt]; rfl
      · rw [Array.getElem?_eq_none (by omega)] at hun; cases hun
    have h1 := waits_listed hk2 n k i hl hw
    have hun := (mem_ready.1 hi).1
    by_cases e : k = i
    · subst e
      -- an operation that waits for itself does not come up
      cases n with
      | zero =>
        have := ready_free hk hk
        simp only [waitsT] at hw
        rw [this] at hw; cases hw
      | succ n =>
        simp only [waitsT, ready_free hk hk, Bool.false_or] at hw
        obtain ⟨_, o, ho, hall⟩ := mem_ready.1 hk
        rw [ho] at hw
        simp only [Option.map_some, Option.getD_some, Array.any_eq_true, Bool.and_eq_true] at hw
        obtain ⟨m, hm, e1, e2⟩ := hw
        have := waits_listed hc n _ k (hall _ (Array.getElem_mem hm) e1) e2
        rw [Array.getD_eq_getD_getElem?] at this hun
        cases hl : listed[k]? with
        | none => rw [hl] at this; cases this
        | some x => rw [hl] at this hun; exact absurd (this.symm.trans hun) (by decide)
    · rw [getD_set_ne false e] at h1
      rw [Array.getD_eq_getD_getElem?] at h1 hun
      cases hl : listed[i]? with
      | none => rw [hl] at h1; cases h1
      | some x => rw [hl] at h1 hun; exact absurd (h1.symm.trans hun) (by decide)
theorem Late.firstT {i : Nat} {oi : Oper} {v : Value} (n : Nat) (hi : ops[i]? = some oi) (hsel : ∀ (j : Nat) (o : Oper) cs b, ops[j]? = some o → o.op ≠ .select cs b)
    (hQ : ∀ c a w, Q (.panic c) (a.put oi.dst v) w → Q (.panic c) a w) (hks : ∀ k ∈ ks, waitsT md ops n k i = true) :
    ∀ (f : Nat) (listed : Array Bool) (a : Act) (w : World), Closed md ops listed → ApartFrom md ops listed i oi → i ∈ Region.ready md ops listed → YieldsIf P ops S oi v a → S w →
      Late P md ops Q S ks f (listed.setIfInBounds i true) (a.put oi.dst v) w → Late P md ops Q S ks (f + 1) listed a w
  | f, listed, a, w, hc, hap, hr, hy, hS, H => by
    refine ⟨fun e => absurd hr (by rw [e]; simp), fun j hj => ?_⟩
    rcases Nat.decEq j i with hne | he
    · have hj2 := ready_mono hj hne
      match f, H with
      | 0, H => exact absurd hj2 (by rw [H.1]; simp)
      | f + 1, H =>
        have hnk : ks.contains j = false := by
          cases hcn : ks.contains j with
          | false => rfl
          | true => exact absurd (ready_freeT hc hr hj) (by rw [hks j (by simpa using hcn)]; simp)
        obtain ⟨hun, oj, hoj, _⟩ := mem_ready.1 hj
        have hput := wpOp_putIf hoj (hap j oj hoj hne hun (ready_free hr hj)) (fun cs b => hsel i oi cs b hi) (fun cs b => hsel j oj cs b hoj) hQ hy (H.2 j hj2)
        refine wpOp_mono (fun a' w' ⟨y', s', l'⟩ => ⟨s', Late.firstT n hi hsel hQ hks f _ a' w' (hc.more hj) (hap.more hun) (ready_mono hr (Ne.symm hne)) y' (s' hnk) ?_⟩) hput
        rw [Array.setIfInBounds_comm _ _ hne]
        exact l'
    · subst he
      exact hy.wpOp hi hS ⟨fun _ => hS, H⟩
/-- Take number i first: the last ones wait for it, by way of others too. -/
theorem Late.takeT (n : Nat) {i : Nat} {oi : Oper} {v : Value} {f : Nat} {listed : Array Bool} {a : Act} {w : World} (hi : ops[i]? = some oi)
    (hs : Region.noSelect ops = true) (hf : Region.free md ops listed i = true) (hr : (Region.ready md ops listed).contains i = true) (hk : (ks.all fun k => waitsT md ops n k i) = true) (hc : closedB md ops listed = true)
    (hQ : ∀ c a w, Q (.panic c) (a.put oi.dst v) w → Q (.panic c) a w) (hy : YieldsIf P ops S oi v a) (hS : S w)
    (h : Late P md ops Q S ks f (listed.setIfInBounds i true) (a.put oi.dst v) w) : Late P md ops Q S ks (f + 1) listed a w :=
  Late.firstT n hi (Region.noSelect_spec hs) hQ (fun k hk' => List.all_eq_true.1 hk k hk') f listed a w (closed_of hc) (fun j oj h1 h2 h3 h4 => Region.free_spec hi hf j oj h1 h2 h3 (fun e he hb heq => by
    rw [waitsB, h1] at h4
    simp only [Option.map_some, Option.getD_some, Array.any_eq_false, Bool.and_eq_true, beq_iff_eq, not_and] at h4
    obtain ⟨n, hn, rfl⟩ := Array.mem_iff_getElem.1 he
    exact h4 n hn hb heq)) (by simpa using hr) hy hS h
theorem Late.pull_go {i : Nat} {oi : Oper} {v : Value} (hi : ops[i]? = some oi) (hsel : ∀ (j : Nat) (o : Oper) cs b, ops[j]? = some o → o.op ≠ .select cs b)
    (hQ : ∀ c a w, Q (.panic c) (a.put oi.dst v) w → Q (.panic c) a w) (hks : ks.contains i = true) :
    ∀ (f : Nat) (listed : Array Bool) (a : Act) (w : World), ApartFrom md ops listed i oi → i ∈ Region.ready md ops listed → YieldsIf P ops (fun _ => True) oi v a →
      Late P md ops Q S ks f (listed.setIfInBounds i true) (a.put oi.dst v) w → Late P md ops Q S ks (f + 1) listed a w
  | f, listed, a, w, hap, hr, hy, H => by
    refine ⟨fun e => absurd hr (by rw [e]; simp), fun j hj => ?_⟩
    rcases Nat.decEq j i with hne | he
    · have hj2 := ready_mono hj hne
      match f, H with
      | 0, H => exact absurd hj2 (by rw [H.1]; simp)
      | f + 1, H =>
        obtain ⟨hun, oj, hoj, _⟩ := mem_ready.1 hj
        have hput := wpOp_putIf hoj (hap j oj hoj hne hun (ready_free hr hj)) (fun cs b => hsel i oi cs b hi) (fun cs b => hsel j oj cs b hoj) hQ hy (H.2 j hj2)
        refine wpOp_mono (fun a' w' ⟨y', s', l'⟩ => ⟨s', Late.pull_go hi hsel hQ hks f _ a' w' (hap.more hun) (ready_mono hr (Ne.symm hne)) y' ?_⟩) hput
        rw [Array.setIfInBounds_comm _ _ hne]
        exact l'
    · subst he
      exact hy.wpOp hi trivial ⟨fun e => (by rw [hks] at e; cases e), H⟩
/-- Take number i, one of the last ones, that reads nothing of the world. -/
theorem Late.pull {i : Nat} {oi : Oper} {v : Value} {f : Nat} {listed : Array Bool} {a : Act} {w : World} (hi : ops[i]? = some oi)
    (hs : Region.noSelect ops = true) (hf : Region.free md ops listed i = true) (hr : (Region.ready md ops listed).contains i = true) (hk : ks.contains i = true)
    (hQ : ∀ c a w, Q (.panic c) (a.put oi.dst v) w → Q (.panic c) a w) (hy : YieldsIf P ops (fun _ => True) oi v a)
    (h : Late P md ops Q S ks f (listed.setIfInBounds i true) (a.put oi.dst v) w) : Late P md ops Q S ks (f + 1) listed a w :=
  Late.pull_go hi (Region.noSelect_spec hs) hQ hk f listed a w (fun j oj h1 h2 h3 h4 => Region.free_spec hi hf j oj h1 h2 h3 (fun e he hb heq => by
    rw [waitsB, h1] at h4
    simp only [Option.map_some, Option.getD_some, Array.any_eq_false, Bool.and_eq_true, beq_iff_eq, not_and] at h4
    obtain ⟨n, hn, rfl⟩ := Array.mem_iff_getElem.1 he
    exact h4 n hn hb heq)) (by simpa using hr) hy h
end
end Go.Proofs.Ytmlkcedhjnmfgaa
