/- Ord3 and Ord4 over again, for a base that was cut: operations in any order, one of them a store. -/
import Derived.Test.YtlknjaoamkcmjaaDoorOrd6
namespace Go.Proofs.YtlknjaoamkcmjaaDoor
open Go.ChangeShapes Go.WideShapes Go.ChangeAt Go.RowKit
set_option linter.unusedVariables false
section
variable {P : Program} {ops : Array Oper} {Q : Exit → Act → World → Prop} {md : Region.Mode} {S : World → Prop} {ks : List Nat}
/-- From this state on the operations 'is' and z alone come up, till all of them have; behind z only those of post. -/
def ordZQ (md : Region.Mode) (ops : Array Oper) (is post : List Nat) (z : Nat) : Nat → Array Bool → Bool
  | 0, L => (z :: is).all fun i => L.getD i false
  | f + 1, L => (Region.ready md ops L).length != 0 && (Region.ready md ops L).all fun i => (i == z || is.contains i && (!L.getD z false || post.contains i)) && ordZQ md ops is post z f (L.setIfInBounds i true)
/-- As Step; zb: z has come up. -/
def StepZQ (P : Program) (ops : Array Oper) (Q : Exit → Act → World → Prop) (md : Region.Mode) (S : World → Prop) (fs : Bool → Nat → SF) (is post : List Nat) (z : Nat) (a0 : Act) (i : Nat) : Prop :=
  ∀ o, ops[i]? = some o → ∀ (zb : Bool) (a : Act) (w : World) (K : Act → World → Prop), (zb = true → post.contains i = true) → S w → Agree a0 a ((z :: is).map (slotOf ops)) → (∀ j s, (z :: is).contains j = true → waitsB md ops i j = true → slotOf ops j = s → (fs zb j).F (a.tmps[s]?.getD undef) w) →
    Hid (∀ v w', Below w.heap.size w w' → (fs zb i).F v w' → K (a.put o.dst v) w') → if Region.wanted o (yielded ops a.tmps) = true then Oper.wp P o a w K Q else K (a.put o.dst undef) w
theorem StepZQ.of {fs : Bool → Nat → SF} {is post : List Nat} {z : Nat} {a0 : Act} {i : Nat} {o : Oper} (ho : ops[i]? = some o)
    (h : ∀ (zb : Bool) (a : Act) (w : World) (K : Act → World → Prop), (zb = true → post.contains i = true) → S w → Agree a0 a ((z :: is).map (slotOf ops)) → (∀ j s, (z :: is).contains j = true → waitsB md ops i j = true → slotOf ops j = s → (fs zb j).F (a.tmps[s]?.getD undef) w) →
      Hid (∀ v w', Below w.heap.size w w' → (fs zb i).F v w' → K (a.put o.dst v) w') → if Region.wanted o (yielded ops a.tmps) = true then Oper.wp P o a w K Q else K (a.put o.dst undef) w) : StepZQ P ops Q md S fs is post z a0 i := by
  intro o' ho'
  obtain rfl := Option.some.inj (ho.symm.trans ho')
  exact h
/-- What is asked of z. -/
def TurnZQ (P : Program) (ops : Array Oper) (Q : Exit → Act → World → Prop) (md : Region.Mode) (S : World → Prop) (fs : Bool → Nat → SF) (is : List Nat) (z : Nat) (a0 : Act) : Prop :=
  ∀ o, ops[z]? = some o → ∀ (a : Act) (w : World) (K : Act → World → Prop), S w → Agree a0 a ((z :: is).map (slotOf ops)) → (∀ j s, is.contains j = true → waitsB md ops z j = true → slotOf ops j = s → (fs false j).F (a.tmps[s]?.getD undef) w) →
    Hid (∀ v w', S w' → (fs true z).F v w' → (∀ j s, is.contains j = true → slotOf ops j = s → (fs false j).F (a.tmps[s]?.getD undef) w → (fs true j).F (a.tmps[s]?.getD undef) w') → K (a.put o.dst v) w') → if Region.wanted o (yielded ops a.tmps) = true then Oper.wp P o a w K Q else K (a.put o.dst undef) w
theorem TurnZQ.of {fs : Bool → Nat → SF} {is : List Nat} {z : Nat} {a0 : Act} {o : Oper} (ho : ops[z]? = some o)
    (h : ∀ (a : Act) (w : World) (K : Act → World → Prop), S w → Agree a0 a ((z :: is).map (slotOf ops)) → (∀ j s, is.contains j = true → waitsB md ops z j = true → slotOf ops j = s → (fs false j).F (a.tmps[s]?.getD undef) w) →
      Hid (∀ v w', S w' → (fs true z).F v w' → (∀ j s, is.contains j = true → slotOf ops j = s → (fs false j).F (a.tmps[s]?.getD undef) w → (fs true j).F (a.tmps[s]?.getD undef) w') → K (a.put o.dst v) w') → if Region.wanted o (yielded ops a.tmps) = true then Oper.wp P o a w K Q else K (a.put o.dst undef) w) : TurnZQ P ops Q md S fs is z a0 := by
  intro o' ho'
  obtain rfl := Option.some.inj (ho.symm.trans ho')
  exact h
theorem Late.ordersZ_goQ {fs : Bool → Nat → SF} (is post : List Nat) (z : Nat) (a0 : Act) (L0 : Array Bool) (f0 : Nat) (hsl : slotsB ops (z :: is) a0.tmps.size = true) (hzi : is.contains z = false)
    (hSs : ∀ w w', S w → Below w.heap.size w w' → S w')
    (hst : ∀ i, i ∈ is → StepZQ P ops Q md S fs is post z a0 i) (htz : TurnZQ P ops Q md S fs is z a0)
    (hend : ∀ a w, S w → Agree a0 a ((z :: is).map (slotOf ops)) → (∀ j, (z :: is).contains j = true → (fs true j).F (valOf ops a j) w) → Late P md ops Q S ks f0 (setAll L0 (z :: is)) a w) :
    ∀ (f : Nat) (L : Array Bool) (a : Act) (w : World), ordZQ md ops is post z f L = true → setAll L (z :: is) = setAll L0 (z :: is) → S w → Agree a0 a ((z :: is).map (slotOf ops)) →
      (∀ j, (z :: is).contains j = true → L.getD j false = true → (fs (L.getD z false) j).F (valOf ops a j) w) → Late P md ops Q S ks (f + f0) L a w
  | 0, L, a, w, ho, hL, hS, hA, hV => by
    rw [Nat.zero_add]
    have hall : ∀ i, (z :: is).contains i = true → L.getD i false = true := fun i hi => by
      simp only [ordZQ, List.all_eq_true] at ho
      exact ho i (by simpa using hi)
    rw [← setAll_full (z :: is) L hall, hL]
    have hz : L.getD z false = true := hall z (by simp)
    exact hend a w hS hA (fun j hj => by have := hV j hj (hall j hj); rwa [hz] at this)
  | f + 1, L, a, w, ho, hL, hS, hA, hV => by
    simp only [ordZQ, Bool.and_eq_true, List.all_eq_true, bne_iff_ne] at ho
    obtain ⟨h1, h2⟩ := ho
    rw [show f + 1 + f0 = (f + f0) + 1 by omega]
    refine ⟨fun e => absurd (by rw [e]; rfl) h1, fun i hi => ?_⟩
    obtain ⟨hc, hor⟩ := h2 i hi
    obtain ⟨hun, o, hoi, hall⟩ := mem_ready.1 hi
    have hs := hsl
    simp only [slotsB, List.all_eq_true, Bool.and_eq_true, decide_eq_true_eq, Bool.or_eq_true, beq_iff_eq, bne_iff_ne] at hs
    have hmemz : i ∈ z :: is := by
      rw [Bool.or_eq_true, beq_iff_eq] at hc
      rcases hc with rfl | hc
      · simp
      · rw [Bool.and_eq_true] at hc
        exact List.mem_cons_of_mem _ (by simpa using hc.1)
    obtain ⟨⟨hd1, hd2⟩, hd3⟩ := hs i hmemz
    obtain ⟨d, hd⟩ := Option.isSome_iff_exists.1 hd1
    have hod : o.dst = some d := by rw [hoi] at hd; exact hd
    have hsd : slotOf ops i = d := by unfold slotOf; rw [hd]; rfl
    have hlist : ∀ j, waitsB md ops i j = true → L.getD j false = true := fun j hw => by
      rw [waitsB, hoi] at hw
      simp only [Option.map_some, Option.getD_some, Array.any_eq_true, Bool.and_eq_true, beq_iff_eq] at hw
      obtain ⟨n, hn, e1, e2⟩ := hw
      have := hall _ (Array.getElem_mem hn) e1
      rwa [e2] at this
    have hput : ∀ v t, d ≠ t → (a.put (some d) v).tmps.getD t undef = a.tmps.getD t undef := fun v t ht => by
      rw [Array.getD_eq_getD_getElem?, Array.getD_eq_getD_getElem?]
      simp only [Act.put, Array.getElem?_setIfInBounds_ne ht]
    have hself : ∀ v, valOf ops (a.put (some d) v) i = v := fun v => by
      unfold valOf
      rw [hsd, Array.getD_eq_getD_getElem?]
      simp only [Act.put]
      rw [Array.getElem?_setIfInBounds_self_of_lt (by rw [hA.size, ← hsd]; exact hd2)]
      rfl
    have hother : ∀ v j, i ≠ j → j ∈ z :: is → valOf ops (a.put (some d) v) j = valOf ops a j := fun v j e hj => by
      have hne : d ≠ slotOf ops j := by
        have := hd3 j hj
        rw [← hsd]
        exact this.resolve_left e
      exact hput v _ hne
    have hmz : ∀ j, is.contains j = true → (z :: is).contains j = true := fun j hj => by rw [List.contains_cons, hj, Bool.or_true]
    have hAp : ∀ v, Agree a0 (a.put (some d) v) ((z :: is).map (slotOf ops)) := fun v => hA.put d (by
      rw [List.contains_iff_mem, List.mem_map]; exact ⟨i, hmemz, hsd⟩) v
    have hset : setAll (L.setIfInBounds i true) (z :: is) = setAll L0 (z :: is) := (setAll_set (z :: is) L i (by simpa using hmemz)).trans hL
    by_cases hiz : i = z
    · subst hiz
      have hzL : L.getD i false = false := by
        by_cases hsz : i < L.size
        · rw [Array.getD_eq_getD_getElem?, Array.getElem?_eq_getElem hsz]
          rw [Array.getD_eq_getD_getElem?, Array.getElem?_eq_getElem hsz] at hun
          exact hun
        · rw [Array.getD_eq_getD_getElem?, Array.getElem?_eq_none (by omega)]; rfl
      have hzb : i < L.size := by
        by_cases hsz : i < L.size
        · exact hsz
        · rw [Array.getD_eq_getD_getElem?, Array.getElem?_eq_none (by omega)] at hun
          cases hun
      have hzL2 : (L.setIfInBounds i true).getD i false = true := by
        rw [Array.getD_eq_getD_getElem?, Array.getElem?_setIfInBounds_self_of_lt hzb]; rfl
      refine wpOp_step hoi fun K hK => htz o hoi a w K hS hA (fun j s hj hw hsj => valOf_at hsj a ▸ (by have := hV j (hmz j hj) (hlist j hw); rwa [hzL] at this)) (Lib.hid fun v w' hS' hg hpre => hK _ _ ⟨fun _ => hS', ?_⟩)
      rw [hod]
      refine Late.ordersZ_goQ is post i a0 L0 f0 hsl hzi hSs hst htz hend f _ _ _ hor hset hS' (hAp v) (fun j hj hlj => ?_)
      rw [hzL2]
      by_cases e : i = j
      · subst e
        rw [hself]; exact hg
      · rw [getD_set_ne false e] at hlj
        have hji : is.contains j = true := by
          rw [List.contains_cons, Bool.or_eq_true, beq_iff_eq] at hj
          exact hj.resolve_left (fun h => e h.symm)
        have h5 := hV j hj hlj
        rw [hzL] at h5
        rw [hother v j e (by simpa using hj)]
        have := hpre j _ hji rfl (by rw [valOf_at rfl a] at h5; exact h5)
        rw [valOf_at rfl a]; exact this
    · have hmem : i ∈ is := (List.mem_cons.1 hmemz).resolve_left hiz
      have hpost : L.getD z false = true → post.contains i = true := fun hz => by
        rw [Bool.or_eq_true, beq_iff_eq] at hc
        have := hc.resolve_left hiz
        rw [Bool.and_eq_true, hz] at this
        simpa using this.2
      have hzz : (L.setIfInBounds i true).getD z false = L.getD z false := getD_set_ne false hiz
      refine wpOp_step hoi fun K hK => hst i hmem o hoi (L.getD z false) a w K hpost hS hA (fun j s hj hw hsj => valOf_at hsj a ▸ hV j hj (hlist j hw)) (Lib.hid fun v w' hb hg => hK _ _ ⟨fun _ => hSs w w' hS hb, ?_⟩)
      rw [hod]
      refine Late.ordersZ_goQ is post z a0 L0 f0 hsl hzi hSs hst htz hend f _ _ _ hor hset (hSs w w' hS hb) (hAp v) (fun j hj hlj => ?_)
      rw [hzz]
      by_cases e : i = j
      · subst e
        rw [hself]; exact hg
      · rw [getD_set_ne false e] at hlj
        rw [hother v j e (by simpa using hj)]
        exact (fs _ j).st _ _ _ (hV j hj hlj) hb
/-- The operations 'is' and z in any order, then the rest. ss: their slots, z's first. -/
theorem Late.ordersZQ (fs : Bool → Nat → SF) (is post : List Nat) (z : Nat) (ss : List Nat) {f f0 : Nat} {a0 : Act} {L0 : Array Bool} {w0 : World} (hss : (z :: is).map (slotOf ops) = ss) (hf : f = is.length + 1 + f0) (hzi : is.contains z = false) (hor : ordZQ md ops is post z (is.length + 1) L0 = true) (hsl : slotsB ops (z :: is) a0.tmps.size = true) (hun : ((z :: is).all fun i => !L0.getD i false) = true)
    (hS : S w0) (hSs : ∀ w w', S w → Below w.heap.size w w' → S w')
    (hst : ∀ i, i ∈ is → StepZQ P ops Q md S fs is post z a0 i) (htz : TurnZQ P ops Q md S fs is z a0)
    (hend : ∀ a w, S w → Agree a0 a ss → (∀ j s, (z :: is).contains j = true → slotOf ops j = s → (fs true j).F (a.tmps[s]?.getD undef) w) → Late P md ops Q S ks f0 (setAll L0 (z :: is)) a w) : Late P md ops Q S ks f L0 a0 w0 := by
  subst hf hss
  refine Late.ordersZ_goQ is post z a0 L0 f0 hsl hzi hSs hst htz (fun a w h1 h2 h3 => hend a w h1 h2 (fun j s hj hs => valOf_at hs a ▸ h3 j hj)) (is.length + 1) L0 a0 w0 hor rfl hS (Agree.refl _ _) (fun j hj hl => ?_)
  simp only [List.all_eq_true] at hun
  have := hun j (by simpa using hj)
  rw [hl] at this
  cases this
end
section
variable {P : Program} {ops : Array Oper} {Q : Exit → Act → World → Prop} {md : Region.Mode} {S : World → Prop} {ks : List Nat}
/-- As Step; zb: z has come up. -/
def StepSQ (P : Program) (ops : Array Oper) (Q : Exit → Act → World → Prop) (md : Region.Mode) (S : World → Prop) (fs : Bool → Nat → SF) (is post : List Nat) (z : Nat) (a0 : Act) (i : Nat) : Prop :=
  ∀ o, ops[i]? = some o → ∀ (zb : Bool) (a : Act) (w : World) (K : Act → World → Prop), (zb = true → post.contains i = true) → S w → Agree a0 a (is.map (slotOf ops)) → (∀ j s, is.contains j = true → waitsB md ops i j = true → slotOf ops j = s → (fs zb j).F (a.tmps[s]?.getD undef) w) →
    Hid (∀ v w', Below w.heap.size w w' → (fs zb i).F v w' → K (a.put o.dst v) w') → if Region.wanted o (yielded ops a.tmps) = true then Oper.wp P o a w K Q else K (a.put o.dst undef) w
theorem StepSQ.of {fs : Bool → Nat → SF} {is post : List Nat} {z : Nat} {a0 : Act} {i : Nat} {o : Oper} (ho : ops[i]? = some o)
    (h : ∀ (zb : Bool) (a : Act) (w : World) (K : Act → World → Prop), (zb = true → post.contains i = true) → S w → Agree a0 a (is.map (slotOf ops)) → (∀ j s, is.contains j = true → waitsB md ops i j = true → slotOf ops j = s → (fs zb j).F (a.tmps[s]?.getD undef) w) →
      Hid (∀ v w', Below w.heap.size w w' → (fs zb i).F v w' → K (a.put o.dst v) w') → if Region.wanted o (yielded ops a.tmps) = true then Oper.wp P o a w K Q else K (a.put o.dst undef) w) : StepSQ P ops Q md S fs is post z a0 i := by
  intro o' ho'
  obtain rfl := Option.some.inj (ho.symm.trans ho')
  exact h
/-- What is asked of z. -/
def TurnSQ (P : Program) (ops : Array Oper) (Q : Exit → Act → World → Prop) (md : Region.Mode) (S : World → Prop) (fs : Bool → Nat → SF) (is : List Nat) (z : Nat) (a0 : Act) : Prop :=
  ∀ o, ops[z]? = some o → ∀ (a : Act) (w : World) (K : Act → World → Prop), S w → Agree a0 a (is.map (slotOf ops)) → (∀ j s, is.contains j = true → waitsB md ops z j = true → slotOf ops j = s → (fs false j).F (a.tmps[s]?.getD undef) w) →
    Hid (∀ w', S w' → (∀ j s, is.contains j = true → slotOf ops j = s → (fs false j).F (a.tmps[s]?.getD undef) w → (fs true j).F (a.tmps[s]?.getD undef) w') → K a w') → if Region.wanted o (yielded ops a.tmps) = true then Oper.wp P o a w K Q else K (a.put o.dst undef) w
theorem TurnSQ.of {fs : Bool → Nat → SF} {is : List Nat} {z : Nat} {a0 : Act} {o : Oper} (ho : ops[z]? = some o)
    (h : ∀ (a : Act) (w : World) (K : Act → World → Prop), S w → Agree a0 a (is.map (slotOf ops)) → (∀ j s, is.contains j = true → waitsB md ops z j = true → slotOf ops j = s → (fs false j).F (a.tmps[s]?.getD undef) w) →
      Hid (∀ w', S w' → (∀ j s, is.contains j = true → slotOf ops j = s → (fs false j).F (a.tmps[s]?.getD undef) w → (fs true j).F (a.tmps[s]?.getD undef) w') → K a w') → if Region.wanted o (yielded ops a.tmps) = true then Oper.wp P o a w K Q else K (a.put o.dst undef) w) : TurnSQ P ops Q md S fs is z a0 := by
  intro o' ho'
  obtain rfl := Option.some.inj (ho.symm.trans ho')
  exact h
theorem Late.ordersS_goQ {fs : Bool → Nat → SF} (is post : List Nat) (z : Nat) (a0 : Act) (L0 : Array Bool) (f0 : Nat) (hsl : slotsB ops is a0.tmps.size = true) (hzd : ((ops[z]?).bind (·.dst)) = none) (hzi : is.contains z = false)
    (hSs : ∀ w w', S w → Below w.heap.size w w' → S w')
    (hst : ∀ i, i ∈ is → StepSQ P ops Q md S fs is post z a0 i) (htz : TurnSQ P ops Q md S fs is z a0)
    (hend : ∀ a w, S w → Agree a0 a (is.map (slotOf ops)) → (∀ j, is.contains j = true → (fs true j).F (valOf ops a j) w) → Late P md ops Q S ks f0 (setAll L0 (z :: is)) a w) :
    ∀ (f : Nat) (L : Array Bool) (a : Act) (w : World), ordZQ md ops is post z f L = true → setAll L (z :: is) = setAll L0 (z :: is) → S w → Agree a0 a (is.map (slotOf ops)) →
      (∀ j, is.contains j = true → L.getD j false = true → (fs (L.getD z false) j).F (valOf ops a j) w) → Late P md ops Q S ks (f + f0) L a w
  | 0, L, a, w, ho, hL, hS, hA, hV => by
    rw [Nat.zero_add]
    have hall : ∀ i, (z :: is).contains i = true → L.getD i false = true := fun i hi => by
      simp only [ordZQ, List.all_eq_true] at ho
      exact ho i (by simpa using hi)
    rw [← setAll_full (z :: is) L hall, hL]
    have hz : L.getD z false = true := hall z (by simp)
    exact hend a w hS hA (fun j hj => by have := hV j hj (hall j (by rw [List.contains_cons, hj, Bool.or_true])); rwa [hz] at this)
  | f + 1, L, a, w, ho, hL, hS, hA, hV => by
    simp only [ordZQ, Bool.and_eq_true, List.all_eq_true, bne_iff_ne] at ho
    obtain ⟨h1, h2⟩ := ho
    rw [show f + 1 + f0 = (f + f0) + 1 by omega]
    refine ⟨fun e => absurd (by rw [e]; rfl) h1, fun i hi => ?_⟩
    obtain ⟨hc, hor⟩ := h2 i hi
    obtain ⟨hun, o, hoi, hall⟩ := mem_ready.1 hi
    have hs := hsl
    simp only [slotsB, List.all_eq_true, Bool.and_eq_true, decide_eq_true_eq, Bool.or_eq_true, beq_iff_eq, bne_iff_ne] at hs
    have hmemz : i ∈ z :: is := by
      rw [Bool.or_eq_true, beq_iff_eq] at hc
      rcases hc with rfl | hc
      · simp
      · rw [Bool.and_eq_true] at hc
        exact List.mem_cons_of_mem _ (by simpa using hc.1)
    have hlist : ∀ j, waitsB md ops i j = true → L.getD j false = true := fun j hw => by
      rw [waitsB, hoi] at hw
      simp only [Option.map_some, Option.getD_some, Array.any_eq_true, Bool.and_eq_true, beq_iff_eq] at hw
      obtain ⟨n, hn, e1, e2⟩ := hw
      have := hall _ (Array.getElem_mem hn) e1
      rwa [e2] at this
    have hset : setAll (L.setIfInBounds i true) (z :: is) = setAll L0 (z :: is) := (setAll_set (z :: is) L i (by simpa using hmemz)).trans hL
    by_cases hiz : i = z
    · subst hiz
      have hzL : L.getD i false = false := by
        by_cases hsz : i < L.size
        · rw [Array.getD_eq_getD_getElem?, Array.getElem?_eq_getElem hsz]
          rw [Array.getD_eq_getD_getElem?, Array.getElem?_eq_getElem hsz] at hun
          exact hun
        · rw [Array.getD_eq_getD_getElem?, Array.getElem?_eq_none (by omega)]; rfl
      have hzb : i < L.size := by
        by_cases hsz : i < L.size
        · exact hsz
        · rw [Array.getD_eq_getD_getElem?, Array.getElem?_eq_none (by omega)] at hun
          cases hun
      have hzL2 : (L.setIfInBounds i true).getD i false = true := by
        rw [Array.getD_eq_getD_getElem?, Array.getElem?_setIfInBounds_self_of_lt hzb]; rfl
      have hod : o.dst = none := by rw [hoi] at hzd; exact hzd
      refine wpOp_step hoi fun K hK => htz o hoi a w K hS hA (fun j s hj hw hsj => valOf_at hsj a ▸ (by have := hV j hj (hlist j hw); rwa [hzL] at this)) (Lib.hid fun w' hS' hpre => hK _ _ ⟨fun _ => hS', ?_⟩)
      refine Late.ordersS_goQ is post i a0 L0 f0 hsl hzd hzi hSs hst htz hend f _ _ _ hor hset hS' hA (fun j hj hlj => ?_)
      rw [hzL2]
      have e : i ≠ j := fun e => by subst e; rw [hzi] at hj; cases hj
      rw [getD_set_ne false e] at hlj
      have h5 := hV j hj hlj
      rw [hzL] at h5
      have := hpre j _ hj rfl (by rw [valOf_at rfl a] at h5; exact h5)
      rw [valOf_at rfl a]; exact this
    · have hmem : i ∈ is := (List.mem_cons.1 hmemz).resolve_left hiz
      obtain ⟨⟨hd1, hd2⟩, hd3⟩ := hs i hmem
      obtain ⟨d, hd⟩ := Option.isSome_iff_exists.1 hd1
      have hod : o.dst = some d := by rw [hoi] at hd; exact hd
      have hsd : slotOf ops i = d := by unfold slotOf; rw [hd]; rfl
      have hput : ∀ v t, d ≠ t → (a.put (some d) v).tmps.getD t undef = a.tmps.getD t undef := fun v t ht => by
        rw [Array.getD_eq_getD_getElem?, Array.getD_eq_getD_getElem?]
        simp only [Act.put, Array.getElem?_setIfInBounds_ne ht]
      have hself : ∀ v, valOf ops (a.put (some d) v) i = v := fun v => by
        unfold valOf
        rw [hsd, Array.getD_eq_getD_getElem?]
        simp only [Act.put]
        rw [Array.getElem?_setIfInBounds_self_of_lt (by rw [hA.size, ← hsd]; exact hd2)]
        rfl
      have hother : ∀ v j, i ≠ j → j ∈ is → valOf ops (a.put (some d) v) j = valOf ops a j := fun v j e hj => by
        have hne : d ≠ slotOf ops j := by
          have := hd3 j hj
          rw [← hsd]
          exact this.resolve_left e
        exact hput v _ hne
      have hAp : ∀ v, Agree a0 (a.put (some d) v) (is.map (slotOf ops)) := fun v => hA.put d (by
        rw [List.contains_iff_mem, List.mem_map]; exact ⟨i, hmem, hsd⟩) v
      have hpost : L.getD z false = true → post.contains i = true := fun hz => by
        rw [Bool.or_eq_true, beq_iff_eq] at hc
        have := hc.resolve_left hiz
        rw [Bool.and_eq_true, hz] at this
        simpa using this.2
      have hzz : (L.setIfInBounds i true).getD z false = L.getD z false := getD_set_ne false hiz
      refine wpOp_step hoi fun K hK => hst i hmem o hoi (L.getD z false) a w K hpost hS hA (fun j s hj hw hsj => valOf_at hsj a ▸ hV j hj (hlist j hw)) (Lib.hid fun v w' hb hg => hK _ _ ⟨fun _ => hSs w w' hS hb, ?_⟩)
      rw [hod]
      refine Late.ordersS_goQ is post z a0 L0 f0 hsl hzd hzi hSs hst htz hend f _ _ _ hor hset (hSs w w' hS hb) (hAp v) (fun j hj hlj => ?_)
      rw [hzz]
      by_cases e : i = j
      · subst e
        rw [hself]; exact hg
      · rw [getD_set_ne false e] at hlj
        rw [hother v j e (by simpa using hj)]
        exact (fs _ j).st _ _ _ (hV j hj hlj) hb
/-- The operations 'is' and z in any order, then the rest. ss: their slots, z's first. -/
theorem Late.ordersSQ (fs : Bool → Nat → SF) (is post : List Nat) (z : Nat) (ss : List Nat) {f f0 : Nat} {a0 : Act} {L0 : Array Bool} {w0 : World} (hss : is.map (slotOf ops) = ss) (hf : f = is.length + 1 + f0) (hzi : is.contains z = false) (hor : ordZQ md ops is post z (is.length + 1) L0 = true) (hsl : slotsB ops is a0.tmps.size = true) (hzd : ((ops[z]?).bind (·.dst)) = none) (hun : ((z :: is).all fun i => !L0.getD i false) = true)
    (hS : S w0) (hSs : ∀ w w', S w → Below w.heap.size w w' → S w')
    (hst : ∀ i, i ∈ is → StepSQ P ops Q md S fs is post z a0 i) (htz : TurnSQ P ops Q md S fs is z a0)
    (hend : ∀ a w, S w → Agree a0 a ss → (∀ j s, is.contains j = true → slotOf ops j = s → (fs true j).F (a.tmps[s]?.getD undef) w) → Late P md ops Q S ks f0 (setAll L0 (z :: is)) a w) : Late P md ops Q S ks f L0 a0 w0 := by
  subst hf hss
  refine Late.ordersS_goQ is post z a0 L0 f0 hsl hzd hzi hSs hst htz (fun a w h1 h2 h3 => hend a w h1 h2 (fun j s hj hs => valOf_at hs a ▸ h3 j hj)) (is.length + 1) L0 a0 w0 hor rfl hS (Agree.refl _ _) (fun j hj hl => ?_)
  simp only [List.all_eq_true] at hun
  have := hun j (by simp only [List.mem_cons]; exact .inr (by simpa using hj))
  rw [hl] at this
  cases this
end
end Go.Proofs.YtlknjaoamkcmjaaDoor
