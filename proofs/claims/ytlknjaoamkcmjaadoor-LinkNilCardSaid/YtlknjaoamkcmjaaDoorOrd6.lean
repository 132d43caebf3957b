/- Operations that make memory in any order, each in a block of its own: their blocks differ. -/
import Derived.Test.YtlknjaoamkcmjaaDoorB5
namespace Go.Proofs.YtlknjaoamkcmjaaDoor
open Go.ChangeShapes Go.WideShapes Go.ChangeAt Go.RowKit
set_option linter.unusedVariables false
def sfTrueL : SF := ⟨fun _ _ => True, fun _ _ _ _ _ => trivial⟩
/-- The activation, written out. -/
theorem Agree.eqL {a0 a : Act} {ss : List Nat} (h : Agree a0 a ss) : a = ss.foldl (fun b s => b.put (some s) (a.tmps[s]?.getD undef)) a0 := by
  have key : ∀ (ss : List Nat) (b : Act), b.tmps.size = a.tmps.size → b.defers = a.defers → (∀ t, ss.contains t = false → a.tmps[t]? = b.tmps[t]?) → a = ss.foldl (fun b s => b.put (some s) (a.tmps[s]?.getD undef)) b := by
    intro ss
    induction ss with
    | nil =>
      intro b h1 h2 h3
      obtain ⟨bt, bd⟩ := b
      obtain ⟨at_, ad⟩ := a
      simp only at h1 h2 h3
      subst h2
      have : at_ = bt := Array.ext_getElem? (fun t => h3 t rfl)
      rw [this]; rfl
    | cons s r ih =>
      intro b h1 h2 h3
      rw [List.foldl_cons]
      refine ih _ (by simpa [Act.put] using h1) h2 (fun t ht => ?_)
      by_cases e : s = t
      · subst e
        by_cases hb : s < b.tmps.size
        · simp only [Act.put, Array.getElem?_setIfInBounds_self_of_lt hb]
          rw [Array.getElem?_eq_getElem (by omega)]; rfl
        · rw [Array.getElem?_eq_none (by omega), Array.getElem?_eq_none (by simp [Act.put]; omega)]
      · simp only [Act.put, Array.getElem?_setIfInBounds_ne e]
        refine h3 t ?_
        rw [List.contains_cons, ht, Bool.or_false, beq_eq_false_iff_ne]
        exact fun e' => e e'.symm
  exact key ss a0 h.size.symm h.defers.symm h.same
section
variable {P : Program} {ops : Array Oper} {Q : Exit → Act → World → Prop} {md : Region.Mode} {S : World → Prop} {ks : List Nat}
/-- The block that a pointer leads to. -/
def blkV : Value → Nat
  | .pointer (some a) => a.block
  | _ => 0
/-- What is asked of an operation that may come up at any time: its value meets its fact, nothing that was there turns. -/
def StepN (P : Program) (ops : Array Oper) (Q : Exit → Act → World → Prop) (md : Region.Mode) (S : World → Prop) (fs : Nat → SF) (is : List Nat) (a0 : Act) (i : Nat) : Prop :=
  ∀ o, ops[i]? = some o → ∀ (a : Act) (w : World) (K : Act → World → Prop), S w → Agree a0 a (is.map (slotOf ops)) → (∀ j s, is.contains j = true → waitsB md ops i j = true → slotOf ops j = s → (fs j).F (a.tmps[s]?.getD undef) w) →
    Hid (∀ v w', Below w.heap.size w w' → (fs i).F v w' → w.heap.size ≤ blkV v ∧ blkV v < w'.heap.size → K (a.put o.dst v) w') → if Region.wanted o (yielded ops a.tmps) = true then Oper.wp P o a w K Q else K (a.put o.dst undef) w
theorem StepN.of {fs : Nat → SF} {is : List Nat} {a0 : Act} {i : Nat} {o : Oper} (ho : ops[i]? = some o)
    (h : ∀ (a : Act) (w : World) (K : Act → World → Prop), S w → Agree a0 a (is.map (slotOf ops)) → (∀ j s, is.contains j = true → waitsB md ops i j = true → slotOf ops j = s → (fs j).F (a.tmps[s]?.getD undef) w) →
      Hid (∀ v w', Below w.heap.size w w' → (fs i).F v w' → w.heap.size ≤ blkV v ∧ blkV v < w'.heap.size → K (a.put o.dst v) w') → if Region.wanted o (yielded ops a.tmps) = true then Oper.wp P o a w K Q else K (a.put o.dst undef) w) : StepN P ops Q md S fs is a0 i := by
  intro o' ho'
  obtain rfl := Option.some.inj (ho.symm.trans ho')
  exact h
def StepsN (P : Program) (ops : Array Oper) (Q : Exit → Act → World → Prop) (md : Region.Mode) (S : World → Prop) (fs : Nat → SF) (is : List Nat) (a0 : Act) : List Nat → Prop
  | [] => True
  | i :: r => StepN P ops Q md S fs is a0 i ∧ StepsN P ops Q md S fs is a0 r
theorem StepsN.at_ {fs : Nat → SF} {is : List Nat} {a0 : Act} : ∀ (l : List Nat), StepsN P ops Q md S fs is a0 l → ∀ i, i ∈ l → StepN P ops Q md S fs is a0 i
  | [], _, i, hi => by cases hi
  | j :: r, h, i, hi => by
    rcases List.mem_cons.1 hi with rfl | hi
    · exact h.1
    · exact StepsN.at_ r h.2 i hi
theorem Late.ordersN_go {fs : Nat → SF} (is : List Nat) (a0 : Act) (L0 : Array Bool) (f0 : Nat) (hsl : slotsB ops is a0.tmps.size = true)
    (hSs : ∀ w w', S w → Below w.heap.size w w' → S w')
    (hst : StepsN P ops Q md S fs is a0 is)
    (hend : ∀ a w, S w → Agree a0 a (is.map (slotOf ops)) → (∀ j, is.contains j = true → (fs j).F (valOf ops a j) w) → (∀ i j, is.contains i = true → is.contains j = true → i ≠ j → blkV (valOf ops a i) ≠ blkV (valOf ops a j)) → Late P md ops Q S ks f0 (setAll L0 is) a w) :
    ∀ (f : Nat) (L : Array Bool) (a : Act) (w : World), ordB md ops is f L = true → setAll L is = setAll L0 is → S w → Agree a0 a (is.map (slotOf ops)) →
      (∀ j, is.contains j = true → L.getD j false = true → (fs j).F (valOf ops a j) w) → (∀ j, is.contains j = true → L.getD j false = true → blkV (valOf ops a j) < w.heap.size) → (∀ i j, is.contains i = true → is.contains j = true → L.getD i false = true → L.getD j false = true → i ≠ j → blkV (valOf ops a i) ≠ blkV (valOf ops a j)) → Late P md ops Q S ks (f + f0) L a w
  | 0, L, a, w, ho, hL, hS, hA, hV, hB, hP => by
    rw [Nat.zero_add]
    have hall : ∀ i, is.contains i = true → L.getD i false = true := fun i hi => by
      simp only [ordB, List.all_eq_true] at ho
      exact ho i (by simpa using hi)
    rw [← setAll_full is L hall, hL]
    exact hend a w hS hA (fun j hj => hV j hj (hall j hj)) (fun i j hi hj => hP i j hi hj (hall i hi) (hall j hj))
  | f + 1, L, a, w, ho, hL, hS, hA, hV, hB, hP => by
    simp only [ordB, Bool.and_eq_true, List.all_eq_true, bne_iff_ne] at ho
    obtain ⟨h1, h2⟩ := ho
    rw [show f + 1 + f0 = (f + f0) + 1 by omega]
    refine ⟨fun e => absurd (by rw [e]; rfl) h1, fun i hi => ?_⟩
    obtain ⟨hc, hor⟩ := h2 i hi
    obtain ⟨hun, o, hoi, hall⟩ := mem_ready.1 hi
    have hs := hsl
    simp only [slotsB, List.all_eq_true, Bool.and_eq_true, decide_eq_true_eq, Bool.or_eq_true, beq_iff_eq, bne_iff_ne] at hs
    have hmem : i ∈ is := by simpa using hc
    obtain ⟨⟨hd1, hd2⟩, hd3⟩ := hs i hmem
    obtain ⟨d, hd⟩ := Option.isSome_iff_exists.1 hd1
    have hod : o.dst = some d := by rw [hoi] at hd; exact hd
    have hsd : slotOf ops i = d := by unfold slotOf; rw [hd]; rfl
    refine wpOp_step hoi fun K hK => StepsN.at_ is hst i hmem o hoi a w K hS hA (fun j s hj hw hsj => valOf_at hsj a ▸ hV j hj ?_) (Lib.hid fun v w' hb hg hnw => hK _ _ ⟨fun _ => hSs w w' hS hb, ?_⟩)
    · rw [waitsB, hoi] at hw
      simp only [Option.map_some, Option.getD_some, Array.any_eq_true, Bool.and_eq_true, beq_iff_eq] at hw
      obtain ⟨n, hn, e1, e2⟩ := hw
      have := hall _ (Array.getElem_mem hn) e1
      rwa [e2] at this
    · rw [hod]
      have hput : ∀ t, d ≠ t → (a.put (some d) v).tmps.getD t undef = a.tmps.getD t undef := fun t ht => by
        rw [Array.getD_eq_getD_getElem?, Array.getD_eq_getD_getElem?]
        simp only [Act.put, Array.getElem?_setIfInBounds_ne ht]
      have hself : valOf ops (a.put (some d) v) i = v := by
        unfold valOf
        rw [hsd, Array.getD_eq_getD_getElem?]
        simp only [Act.put]
        rw [Array.getElem?_setIfInBounds_self_of_lt (by rw [hA.size, ← hsd]; exact hd2)]
        rfl
      have hoth : ∀ j, is.contains j = true → i ≠ j → valOf ops (a.put (some d) v) j = valOf ops a j := fun j hj e => hput _ (by
        have := hd3 j (by simpa using hj)
        rw [← hsd]
        exact this.resolve_left e)
      refine Late.ordersN_go is a0 L0 f0 hsl hSs hst hend f _ _ _ hor ((setAll_set is L i hc).trans hL) (hSs w w' hS hb) (hA.put d (by
        rw [List.contains_iff_mem, List.mem_map]; exact ⟨i, hmem, hsd⟩) v) (fun j hj hlj => ?_) (fun j hj hlj => ?_) (fun j k hj hk hlj hlk hne => ?_)
      · by_cases e : i = j
        · subst e; rw [hself]; exact hg
        · rw [getD_set_ne false e] at hlj
          rw [hoth j hj e]
          exact (fs j).st _ _ _ (hV j hj hlj) hb
      · by_cases e : i = j
        · subst e; rw [hself]; exact hnw.2
        · rw [getD_set_ne false e] at hlj
          rw [hoth j hj e]
          exact Nat.lt_of_lt_of_le (hB j hj hlj) hb.size
      · by_cases e : i = j
        · subst e
          rw [getD_set_ne false hne] at hlk
          rw [hself, hoth k hk hne]
          have := hB k hk hlk
          omega
        · rw [getD_set_ne false e] at hlj
          by_cases e2 : i = k
          · subst e2
            rw [hself, hoth j hj e]
            have := hB j hj hlj
            omega
          · rw [getD_set_ne false e2] at hlk
            rw [hoth j hj e, hoth k hk e2]
            exact hP j k hj hk hlj hlk hne
/-- The operations 'is' in any order, then the rest. ss: their slots. -/
theorem Late.ordersN (fs : Nat → SF) (is ss : List Nat) {f f0 : Nat} {a0 : Act} {L0 : Array Bool} {w0 : World} (hss : is.map (slotOf ops) = ss) (hf : f = is.length + f0) (hor : ordB md ops is is.length L0 = true) (hsl : slotsB ops is a0.tmps.size = true) (hun : (is.all fun i => !L0.getD i false) = true)
    (hS : S w0) (hSs : ∀ w w', S w → Below w.heap.size w w' → S w')
    (hst : StepsN P ops Q md S fs is a0 is)
    (hend : ∀ a w, S w → Agree a0 a ss → (∀ j s, is.contains j = true → slotOf ops j = s → (fs j).F (a.tmps[s]?.getD undef) w) → (∀ i j s t, is.contains i = true → is.contains j = true → i ≠ j → slotOf ops i = s → slotOf ops j = t → blkV (a.tmps[s]?.getD undef) ≠ blkV (a.tmps[t]?.getD undef)) → Late P md ops Q S ks f0 (setAll L0 is) a w) : Late P md ops Q S ks f L0 a0 w0 := by
  subst hf hss
  refine Late.ordersN_go is a0 L0 f0 hsl hSs hst (fun a w h1 h2 h3 h4 => hend a w h1 h2 (fun j s hj hs => valOf_at hs a ▸ h3 j hj) (fun i j s t hi hj hne hs ht => by rw [← valOf_at hs a, ← valOf_at ht a]; exact h4 i j hi hj hne)) is.length L0 a0 w0 hor rfl hS (Agree.refl _ _) (fun j hj hl => ?_) (fun j hj hl => ?_) (fun j k hj hk hl _ _ => ?_) <;> (simp only [List.all_eq_true] at hun; have := hun j (by simpa using hj); rw [hl] at this; cases this)
end
end Go.Proofs.YtlknjaoamkcmjaaDoor
