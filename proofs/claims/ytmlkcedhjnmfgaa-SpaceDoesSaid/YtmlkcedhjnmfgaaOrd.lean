/- A drawn region's operations that make memory, in whatever order they come up: each has a fact on its value that stands whatever grows behind it. One goal an operation, whatever the orders. -/
import Derived.Test.YtmlkcedhjnmfgaaB2
import Derived.Below
namespace Go.Proofs.Ytmlkcedhjnmfgaa
open Go.ChangeShapes Go.WideShapes Go.ChangeAt Go.RowKit
set_option linter.unusedVariables false
def slotOf (ops : Array Oper) (i : Nat) : Nat := ((ops[i]?).bind (·.dst)).getD 0
/-- The value that operation i has left. -/
def valOf (ops : Array Oper) (a : Act) (i : Nat) : Value := a.tmps.getD (slotOf ops i) undef
/-- Two activations are the same but for these slots. -/
structure Agree (a0 a : Act) (ss : List Nat) : Prop where
  defers : a.defers = a0.defers
  size : a.tmps.size = a0.tmps.size
  same : ∀ t, ss.contains t = false → a.tmps[t]? = a0.tmps[t]?
theorem Agree.refl (a : Act) (ss : List Nat) : Agree a a ss := ⟨rfl, rfl, fun _ _ => rfl⟩
theorem Agree.put {a0 a : Act} {ss : List Nat} (h : Agree a0 a ss) (s : Nat) (hs : ss.contains s = true) (v : Value) : Agree a0 (a.put (some s) v) ss := by
  refine ⟨h.defers, by simp [Act.put, h.size], fun t ht => ?_⟩
  have hne : s ≠ t := fun e => by subst e; rw [hs] at ht; cases ht
  simp only [Act.put, Array.getElem?_setIfInBounds_ne hne]
  exact h.same t ht
theorem Agree.get {a0 a : Act} {ss : List Nat} (h : Agree a0 a ss) (t : Nat) (ht : ss.contains t = false) : a.tmps[t]?.getD undef = a0.tmps[t]?.getD undef := by rw [h.same t ht]
/-- The activation, written out. -/
theorem Agree.eq {a0 a : Act} {ss : List Nat} (h : Agree a0 a ss) : a = ss.foldl (fun b s => b.put (some s) (a.tmps[s]?.getD undef)) a0 := by
  have key : ∀ (ss : List Nat) (b : Act), b.tmps.size = a.tmps.size → b.defers = a.defers → (∀ t, ss.contains t = false → a.tmps[t]? = b.tmps[t]?) → a = ss.foldl (fun b s => b.put (some s) (a.tmps[s]?.getD undef)) b := by
    intro ss
    induction ss with
    | nil =>
      intro b h1 h2 h3
      obtain ⟨bt, bd⟩ := b
      obtain ⟨at_, ad⟩ := a
      simp only at h1 h2 h3
      subst h2
      have : at_ = bt := Array.ext_getElem? (fun t => h3 t rfl)
      rw [this]; rfl
    | cons s r ih =>
      intro b h1 h2 h3
      rw [List.foldl_cons]
      refine ih _ (by simpa [Act.put] using h1) h2 (fun t ht => ?_)
      by_cases e : s = t
      · subst e
        by_cases hb : s < b.tmps.size
        · simp only [Act.put, Array.getElem?_setIfInBounds_self_of_lt hb]
          rw [Array.getElem?_eq_getElem (by omega)]; rfl
        · rw [Array.getElem?_eq_none (by omega), Array.getElem?_eq_none (by simp [Act.put]; omega)]
      · simp only [Act.put, Array.getElem?_setIfInBounds_ne e]
        refine h3 t ?_
        rw [List.contains_cons, ht, Bool.or_false, beq_eq_false_iff_ne]
        exact fun e' => e e'.symm
  exact key ss a0 h.size.symm h.defers.symm h.same
def setAll (L : Array Bool) (is : List Nat) : Array Bool := is.foldl (fun L i => L.setIfInBounds i true) L
theorem setAll_size (is : List Nat) : ∀ L, (setAll L is).size = L.size := by
  induction is with
  | nil => intro L; rfl
  | cons i r ih => intro L; show (setAll (L.setIfInBounds i true) r).size = _; rw [ih]; simp
theorem setAll_at (is : List Nat) : ∀ (L : Array Bool) (t : Nat), (setAll L is)[t]? = if is.contains t = true ∧ t < L.size then some true else L[t]? := by
  induction is with
  | nil => intro L t; rw [if_neg (by simp)]; rfl
  | cons i r ih =>
    intro L t
    show (setAll (L.setIfInBounds i true) r)[t]? = _
    rw [ih, Array.size_setIfInBounds, List.contains_cons]
    by_cases hr : r.contains t = true ∧ t < L.size
    · rw [if_pos hr, if_pos ⟨by rw [hr.1, Bool.or_true], hr.2⟩]
    · rw [if_neg hr]
      by_cases e : t = i
      · subst e
        by_cases hl : t < L.size
        · rw [if_pos ⟨by simp, hl⟩, Array.getElem?_setIfInBounds_self_of_lt hl]
        · rw [if_neg (fun h => hl h.2), Array.getElem?_eq_none (by simp; omega), Array.getElem?_eq_none (by omega)]
      · rw [Array.getElem?_setIfInBounds_ne (fun h => e h.symm)]
        by_cases hc : r.contains t = true
        · have hl : ¬ t < L.size := fun h => hr ⟨hc, h⟩
          rw [if_neg (fun h => hl h.2)]
        · rw [if_neg]
          rintro ⟨h1, h2⟩
          rw [Bool.or_eq_true, beq_iff_eq] at h1
          exact h1.elim e hc
theorem setAll_set (is : List Nat) (L : Array Bool) (i : Nat) (hi : is.contains i = true) : setAll (L.setIfInBounds i true) is = setAll L is := by
  apply Array.ext_getElem?
  intro t
  rw [setAll_at, setAll_at, Array.size_setIfInBounds]
  split
  · rfl
  · next h =>
    by_cases e : i = t
    · subst e
      have hl : ¬ i < L.size := fun hl => h ⟨hi, hl⟩
      rw [Array.getElem?_eq_none (by simp; omega), Array.getElem?_eq_none (by omega)]
    · rw [Array.getElem?_setIfInBounds_ne e]
theorem setAll_full (is : List Nat) (L : Array Bool) (h : ∀ i, is.contains i = true → L.getD i false = true) : setAll L is = L := by
  apply Array.ext_getElem?
  intro t
  rw [setAll_at]
  split
  · next hc =>
    have := h t hc.1
    rw [Array.getD_eq_getD_getElem?, Array.getElem?_eq_getElem hc.2] at this
    rw [Array.getElem?_eq_getElem hc.2]
    exact congrArg some this.symm
  · rfl
section
variable {P : Program} {ops : Array Oper} {Q : Exit → Act → World → Prop} {md : Region.Mode} {S : World → Prop} {ks : List Nat}
/-- From this state on the operations 'is' alone come up, till all of them have. -/
def ordB (md : Region.Mode) (ops : Array Oper) (is : List Nat) : Nat → Array Bool → Bool
  | 0, L => is.all fun i => L.getD i false
  | f + 1, L => (Region.ready md ops L).length != 0 && (Region.ready md ops L).all fun i => is.contains i && ordB md ops is f (L.setIfInBounds i true)
def slotsB (ops : Array Oper) (is : List Nat) (n : Nat) : Bool :=
  is.all fun i => ((ops[i]?).bind (·.dst)).isSome && decide (slotOf ops i < n) && is.all fun j => i == j || slotOf ops i != slotOf ops j
/-- A fact on a value that stands whatever grows. -/
structure SF where
  F : Value → World → Prop
  st : ∀ v w w', F v w → Below w.heap.size w w' → F v w'
def sfTrue : SF := ⟨fun _ _ => True, fun _ _ _ _ _ => trivial⟩
theorem valOf_at {ops : Array Oper} {i s : Nat} (h : slotOf ops i = s) (a : Act) : valOf ops a i = a.tmps[s]?.getD undef := by
  unfold valOf
  rw [h, Array.getD_eq_getD_getElem?]
/-- What is asked of an operation that may come up at any time: its value meets its fact, nothing that was there turns. -/
def Step (P : Program) (ops : Array Oper) (Q : Exit → Act → World → Prop) (md : Region.Mode) (S : World → Prop) (fs : Nat → SF) (is : List Nat) (a0 : Act) (i : Nat) : Prop :=
  ∀ o, ops[i]? = some o → ∀ (a : Act) (w : World) (K : Act → World → Prop), S w → Agree a0 a (is.map (slotOf ops)) → (∀ j s, is.contains j = true → waitsB md ops i j = true → slotOf ops j = s → (fs j).F (a.tmps[s]?.getD undef) w) →
    Hid (∀ v w', Below w.heap.size w w' → (fs i).F v w' → K (a.put o.dst v) w') → if Region.wanted o (yielded ops a.tmps) = true then Oper.wp P o a w K Q else K (a.put o.dst undef) w
theorem Step.of {fs : Nat → SF} {is : List Nat} {a0 : Act} {i : Nat} {o : Oper} (ho : ops[i]? = some o)
    (h : ∀ (a : Act) (w : World) (K : Act → World → Prop), S w → Agree a0 a (is.map (slotOf ops)) → (∀ j s, is.contains j = true → waitsB md ops i j = true → slotOf ops j = s → (fs j).F (a.tmps[s]?.getD undef) w) →
      Hid (∀ v w', Below w.heap.size w w' → (fs i).F v w' → K (a.put o.dst v) w') → if Region.wanted o (yielded ops a.tmps) = true then Oper.wp P o a w K Q else K (a.put o.dst undef) w) : Step P ops Q md S fs is a0 i := by
  intro o' ho'
  obtain rfl := Option.some.inj (ho.symm.trans ho')
  exact h
def Steps (P : Program) (ops : Array Oper) (Q : Exit → Act → World → Prop) (md : Region.Mode) (S : World → Prop) (fs : Nat → SF) (is : List Nat) (a0 : Act) : List Nat → Prop
  | [] => True
  | i :: r => Step P ops Q md S fs is a0 i ∧ Steps P ops Q md S fs is a0 r
theorem Steps.at_ {fs : Nat → SF} {is : List Nat} {a0 : Act} : ∀ (l : List Nat), Steps P ops Q md S fs is a0 l → ∀ i, i ∈ l → Step P ops Q md S fs is a0 i
  | [], _, i, hi => by cases hi
  | j :: r, h, i, hi => by
    rcases List.mem_cons.1 hi with rfl | hi
    · exact h.1
    · exact Steps.at_ r h.2 i hi
theorem Late.orders_go {fs : Nat → SF} (is : List Nat) (a0 : Act) (L0 : Array Bool) (f0 : Nat) (hsl : slotsB ops is a0.tmps.size = true)
    (hSs : ∀ w w', S w → Below w.heap.size w w' → S w')
    (hst : Steps P ops Q md S fs is a0 is)
    (hend : ∀ a w, S w → Agree a0 a (is.map (slotOf ops)) → (∀ j, is.contains j = true → (fs j).F (valOf ops a j) w) → Late P md ops Q S ks f0 (setAll L0 is) a w) :
    ∀ (f : Nat) (L : Array Bool) (a : Act) (w : World), ordB md ops is f L = true → setAll L is = setAll L0 is → S w → Agree a0 a (is.map (slotOf ops)) →
      (∀ j, is.contains j = true → L.getD j false = true → (fs j).F (valOf ops a j) w) → Late P md ops Q S ks (f + f0) L a w
  | 0, L, a, w, ho, hL, hS, hA, hV => by
    rw [Nat.zero_add]
    have hall : ∀ i, is.contains i = true → L.getD i false = true := fun i hi => by
      simp only [ordB, List.all_eq_true] at ho
      exact ho i (by simpa using hi)
    rw [← setAll_full is L hall, hL]
    exact hend a w hS hA (fun j hj => hV j hj (hall j hj))
  | f + 1, L, a, w, ho, hL, hS, hA, hV => by
    simp only [ordB, Bool.and_eq_true, List.all_eq_true, bne_iff_ne] at ho
    obtain ⟨h1, h2⟩ := ho
    rw [show f + 1 + f0 = (f + f0) + 1 by omega]
    refine ⟨fun e => absurd (by rw [e]; rfl) h1, fun i hi => ?_⟩
    obtain ⟨hc, hor⟩ := h2 i hi
    obtain ⟨hun, o, hoi, hall⟩ := mem_ready.1 hi
    have hs := hsl
    simp only [slotsB, List.all_eq_true, Bool.and_eq_true, decide_eq_true_eq, Bool.or_eq_true, beq_iff_eq, bne_iff_ne] at hs
    have hmem : i ∈ is := by simpa using hc
    obtain ⟨⟨hd1, hd2⟩, hd3⟩ := hs i hmem
    obtain ⟨d, hd⟩ := Option.isSome_iff_exists.1 hd1
    have hod : o.dst = some d := by rw [hoi] at hd; exact hd
    have hsd : slotOf ops i = d := by unfold slotOf; rw [hd]; rfl
    refine wpOp_step hoi fun K hK => Steps.at_ is hst i hmem o hoi a w K hS hA (fun j s hj hw hsj => valOf_at hsj a ▸ hV j hj ?_) (Lib.hid fun v w' hb hg => hK _ _ ⟨fun _ => hSs w w' hS hb, ?_⟩)
    · rw [waitsB, hoi] at hw
      simp only [Option.map_some, Option.getD_some, Array.any_eq_true, Bool.and_eq_true, beq_iff_eq] at hw
      obtain ⟨n, hn, e1, e2⟩ := hw
      have := hall _ (Array.getElem_mem hn) e1
      rwa [e2] at this
    · rw [hod]
      have hput : ∀ t, d ≠ t → (a.put (some d) v).tmps.getD t undef = a.tmps.getD t undef := fun t ht => by
        rw [Array.getD_eq_getD_getElem?, Array.getD_eq_getD_getElem?]
        simp only [Act.put, Array.getElem?_setIfInBounds_ne ht]
      refine Late.orders_go is a0 L0 f0 hsl hSs hst hend f _ _ _ hor ((setAll_set is L i hc).trans hL) (hSs w w' hS hb) (hA.put d (by
        rw [List.contains_iff_mem, List.mem_map]; exact ⟨i, hmem, hsd⟩) v) (fun j hj hlj => ?_)
      by_cases e : i = j
      · subst e
        have : valOf ops (a.put (some d) v) i = v := by
          unfold valOf
          rw [hsd, Array.getD_eq_getD_getElem?]
          simp only [Act.put]
          rw [Array.getElem?_setIfInBounds_self_of_lt (by rw [hA.size, ← hsd]; exact hd2)]
          rfl
        rw [this]; exact hg
      · rw [getD_set_ne false e] at hlj
        have h5 := hV j hj hlj
        have hne : d ≠ slotOf ops j := by
          have := hd3 j (by simpa using hj)
          rw [← hsd]
          exact this.resolve_left e
        have : valOf ops (a.put (some d) v) j = valOf ops a j := hput _ hne
        rw [this]
        exact (fs j).st _ _ _ h5 hb
/-- The operations 'is' in any order, then the rest. ss: their slots. -/
theorem Late.orders (fs : Nat → SF) (is ss : List Nat) {f f0 : Nat} {a0 : Act} {L0 : Array Bool} {w0 : World} (hss : is.map (slotOf ops) = ss) (hf : f = is.length + f0) (hor : ordB md ops is is.length L0 = true) (hsl : slotsB ops is a0.tmps.size = true) (hun : (is.all fun i => !L0.getD i false) = true)
    (hS : S w0) (hSs : ∀ w w', S w → Below w.heap.size w w' → S w')
    (hst : Steps P ops Q md S fs is a0 is)
    (hend : ∀ a w, S w → Agree a0 a ss → (∀ j s, is.contains j = true → slotOf ops j = s → (fs j).F (a.tmps[s]?.getD undef) w) → Late P md ops Q S ks f0 (setAll L0 is) a w) : Late P md ops Q S ks f L0 a0 w0 := by
  subst hf hss
  refine Late.orders_go is a0 L0 f0 hsl hSs hst (fun a w h1 h2 h3 => hend a w h1 h2 (fun j s hj hs => valOf_at hs a ▸ h3 j hj)) is.length L0 a0 w0 hor rfl hS (Agree.refl _ _) (fun j hj hl => ?_)
  simp only [List.all_eq_true] at hun
  have := hun j (by simpa using hj)
  rw [hl] at this
  cases this
end
end Go.Proofs.Ytmlkcedhjnmfgaa
