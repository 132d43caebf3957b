/- Texts of the proof, one behind the other: Last Step Ord Ord3 RpL RpM RpZ RpA RpB RpC RpD RpE RpX. -/
import Derived.Test.YtcgclaailhhbpaaB1
import Derived.OrdersHeld
import Derived.Lib.AppendZerosOnto
import Derived.Below
import Derived.Test.YtcgclaailhhbpaaB3
import Derived.Laws.StructEq
import Derived.Deep.CutBlock
import Derived.Deep.DeepCutAuto
import Derived.Deep.CutRange
import Derived.Laws.Strings
import Derived.Lib.SliceRun
/- A drawn region whose last operations write what its loads read: what holds of the world (S) is asked for only till those last ones come up; each of them waits for every load that is taken first. -/
namespace Go.Proofs.Ytcgclaailhhbpaa
open Go.ChangeShapes Go.WideShapes Go.ChangeAt Go.RowKit
set_option linter.unusedVariables false
section
variable {P : Program} {ops : Array Oper} {Q : Exit → Act → World → Prop} {md : Region.Mode} {S : World → Prop} {ks : List Nat}
/-- Operation k waits for operation i. -/
def waitsB (md : Region.Mode) (ops : Array Oper) (k i : Nat) : Bool := ((ops[k]?).map fun o => o.after.any fun e => Region.binds md e && e.on == i).getD false
/-- Of two that may come up now neither waits for the other. -/
theorem ready_free {k i : Nat} {listed : Array Bool} (hi : i ∈ Region.ready md ops listed) (hk : k ∈ Region.ready md ops listed) : waitsB md ops k i = false := by
  cases hw : waitsB md ops k i with
  | false => rfl
  | true =>
    exfalso
    obtain ⟨o, ho, hall⟩ := (mem_ready.1 hk).2
    rw [waitsB, ho] at hw
    simp only [Option.map_some, Option.getD_some, Array.any_eq_true, Bool.and_eq_true, beq_iff_eq] at hw
    obtain ⟨n, hn, h1, h2⟩ := hw
    have yes := hall _ (Array.getElem_mem hn) h1
    have no := (mem_ready.1 hi).1
    rw [h2, Array.getD_eq_getD_getElem?] at yes
    rw [Array.getD_eq_getD_getElem?] at no
    cases hl : listed[i]? with
    | none => rw [hl] at yes; cases yes
    | some x => rw [hl] at yes no; exact absurd (yes.symm.trans no) (by decide)
/-- Whatever comes up from here on; behind each operation, but the last ones, S holds. -/
def Late (P : Program) (md : Region.Mode) (ops : Array Oper) (Q : Exit → Act → World → Prop) (S : World → Prop) (ks : List Nat) : Nat → Array Bool → Act → World → Prop
  | 0, listed, a, w => Region.ready md ops listed = [] ∧ Q .normal a w
  | f + 1, listed, a, w => (Region.ready md ops listed = [] → Q .normal a w) ∧
      ∀ i ∈ Region.ready md ops listed, wpOp P ops Q i (fun a' w' => (ks.contains i = false → S w') ∧ Late P md ops Q S ks f (listed.setIfInBounds i true) a' w') a w
theorem Late.any : ∀ (f : Nat) (listed : Array Bool) (a : Act) (w : World), Late P md ops Q S ks f listed a w → wpAny P md ops Q f listed a w
  | 0, _, _, _, h => h
  | f + 1, _, _, _, h => ⟨h.1, fun i hi => wpOp_mono (fun a' w' h' => Late.any f _ a' w' h'.2) (h.2 i hi)⟩
/-- What may stand apart from operation i while it has not come up: whoever neither waits for it nor has come up. -/
def ApartFrom (md : Region.Mode) (ops : Array Oper) (listed : Array Bool) (i : Nat) (oi : Oper) : Prop :=
  ∀ j oj, ops[j]? = some oj → j ≠ i → listed.getD j true = false → waitsB md ops j i = false → oi.apart ops oj = true
theorem ApartFrom.more {listed : Array Bool} {i j : Nat} {oi : Oper} (h : ApartFrom md ops listed i oi) (hj : listed.getD j true = false) : ApartFrom md ops (listed.setIfInBounds j true) i oi := by
  intro k ok hk hne hun hw
  by_cases e : j = k
  · rw [e] at hj; exact h k ok hk hne hj hw
  · exact h k ok hk hne (by rwa [getD_set_ne true e] at hun) hw
theorem Late.first {i : Nat} {oi : Oper} {v : Value} (hi : ops[i]? = some oi) (hsel : ∀ (j : Nat) (o : Oper) cs b, ops[j]? = some o → o.op ≠ .select cs b)
    (hQ : ∀ c a w, Q (.panic c) (a.put oi.dst v) w → Q (.panic c) a w) (hks : ∀ k ∈ ks, waitsB md ops k i = true) :
    ∀ (f : Nat) (listed : Array Bool) (a : Act) (w : World), ApartFrom md ops listed i oi → i ∈ Region.ready md ops listed → YieldsIf P ops S oi v a → S w →
      Late P md ops Q S ks f (listed.setIfInBounds i true) (a.put oi.dst v) w → Late P md ops Q S ks (f + 1) listed a w
  | f, listed, a, w, hap, hr, hy, hS, H => by
    refine ⟨fun e => absurd hr (by rw [e]; simp), fun j hj => ?_⟩
    rcases Nat.decEq j i with hne | he
    · -- another one comes up ahead of i: it is none of the last ones, for those wait for i
      have hj2 := ready_mono hj hne
      match f, H with
      | 0, H => exact absurd hj2 (by rw [H.1]; simp)
      | f + 1, H =>
        have hnk : ks.contains j = false := by
          cases hc : ks.contains j with
          | false => rfl
          | true => exact absurd (ready_free hr hj) (by rw [hks j (by simpa using hc)]; simp)
        obtain ⟨hun, oj, hoj, _⟩ := mem_ready.1 hj
        have hput := wpOp_putIf hoj (hap j oj hoj hne hun (ready_free hr hj)) (fun cs b => hsel i oi cs b hi) (fun cs b => hsel j oj cs b hoj) hQ hy (H.2 j hj2)
        refine wpOp_mono (fun a' w' ⟨y', s', l'⟩ => ⟨s', Late.first hi hsel hQ hks f _ a' w' (hap.more hun) (ready_mono hr (Ne.symm hne)) y' (s' hnk) ?_⟩) hput
        rw [Array.setIfInBounds_comm _ _ hne]
        exact l'
    · subst he
      exact hy.wpOp hi hS ⟨fun _ => hS, H⟩
/-- Take number i first. -/
theorem Late.take {i : Nat} {oi : Oper} {v : Value} {f : Nat} {listed : Array Bool} {a : Act} {w : World} (hi : ops[i]? = some oi)
    (hs : Region.noSelect ops = true) (hf : Region.free md ops listed i = true) (hr : (Region.ready md ops listed).contains i = true) (hk : (ks.all fun k => waitsB md ops k i) = true)
    (hQ : ∀ c a w, Q (.panic c) (a.put oi.dst v) w → Q (.panic c) a w) (hy : YieldsIf P ops S oi v a) (hS : S w)
    (h : Late P md ops Q S ks f (listed.setIfInBounds i true) (a.put oi.dst v) w) : Late P md ops Q S ks (f + 1) listed a w :=
  Late.first hi (Region.noSelect_spec hs) hQ (fun k hk' => List.all_eq_true.1 hk k hk') f listed a w (fun j oj h1 h2 h3 h4 => Region.free_spec hi hf j oj h1 h2 h3 (fun e he hb heq => by
    rw [waitsB, h1] at h4
    simp only [Option.map_some, Option.getD_some, Array.any_eq_false, Bool.and_eq_true, beq_iff_eq, not_and] at h4
    obtain ⟨n, hn, rfl⟩ := Array.mem_iff_getElem.1 he
    exact h4 n hn hb heq)) (by simpa using hr) hy hS h
theorem Late.done {listed : Array Bool} {a : Act} {w : World} (hr : Region.ready md ops listed = []) (h : Q .normal a w) : ∀ f, Late P md ops Q S ks f listed a w
  | 0 => ⟨hr, h⟩
  | _ + 1 => ⟨fun _ => h, by rw [hr]; simp⟩
/-- One operation alone may come up, and S holds behind it. -/
theorem Late.one {i : Nat} {o : Oper} {f : Nat} {listed : Array Bool} {a : Act} {w : World} (hr : Region.ready md ops listed = [i]) (ho : ops[i]? = some o)
    (h : ∀ K : Act → World → Prop, Hid (∀ a w, S w → (S w → Late P md ops Q S ks f (listed.setIfInBounds i true) a w) → K a w) → if Region.wanted o (yielded ops a.tmps) = true then Oper.wp P o a w K Q else K (a.put o.dst undef) w) : Late P md ops Q S ks (f + 1) listed a w :=
  ⟨fun h0 => (by rw [hr] at h0; cases h0), fun j hj => by
    rw [hr] at hj
    obtain rfl : j = i := by simpa using hj
    exact wpOp_step ho fun K hK => h K (Lib.hid fun a w h1 h2 => hK a w ⟨fun _ => h1, h2 h1⟩)⟩
/-- One of the last operations comes up. -/
theorem Late.end_ {i : Nat} {o : Oper} {f : Nat} {listed : Array Bool} {a : Act} {w : World} (hr : Region.ready md ops listed = [i]) (ho : ops[i]? = some o) (hk : ks.contains i = true)
    (h : ∀ K : Act → World → Prop, Hid (∀ a w, Late P md ops Q S ks f (listed.setIfInBounds i true) a w → K a w) → if Region.wanted o (yielded ops a.tmps) = true then Oper.wp P o a w K Q else K (a.put o.dst undef) w) : Late P md ops Q S ks (f + 1) listed a w :=
  ⟨fun h0 => (by rw [hr] at h0; cases h0), fun j hj => by
    rw [hr] at hj
    obtain rfl : j = i := by simpa using hj
    exact wpOp_step ho fun K hK => h K (Lib.hid fun a w h1 => hK a w ⟨fun e => (by rw [hk] at e; cases e), h1⟩)⟩
theorem Late.region (S : World → Prop) (ks : List Nat) {id : Nat} {a : Act} {w : World} (hm : P.follows .mixedOrders = true) (hS : S w.drew)
    (h : S w.drew → Late P .any ops (NoPanic Q) S ks ops.size (Array.replicate ops.size false) a w.drew) : (Code.region id ops true).wp P Q a w :=
  wp_region_noPanic (wp_region_any hm (Late.any _ _ _ _ (h hS)))
end
end Go.Proofs.Ytcgclaailhhbpaa
/- append onto a row of the call's own, of elements that may be none, in a plain region and in one that draws; what lies in a block stays there. -/
namespace Go.Proofs.Ytcgclaailhhbpaa
open Go.ChangeShapes Go.WideShapes Go.ChangeAt Go.RowKit
set_option linter.unusedVariables false
/-- append onto an own row, of elements that may be none; where the new row stands. -/
theorem run_app {P : Program} (w : World) (t ty : TypeId) (base : Nat) (e : TypeId) (size bytes : Nat) (ht : P.underlying t = some (.slice e)) (hinfo : ∃ i z, P.info? e = some i ∧ i.zero = some z ∧ i.size = size ∧ i.bytes = bytes ∧ z.cells.size = size) (hsz : 0 < size)
    (v : Value) (n : Nat) (xs : List Value) (hown : w.ownsRow base e size v n xs)
    (A : Option Addr) (m c : Nat) (news : List Value) (hr : Lies w size A m news) (hso : Sourced A m) (h1 : ∀ u ∈ news, u.oneCell' = true)
    (h63 : n + m ≤ maxLen) (hbytes : (n + m) * bytes ≤ 140737488355328) (hbase : base ≤ w.heap.size) :
    ∃ v' w', (Builtin.append_ #[t, t] ty #[v, .slice A m c]).run P w = .ok v' w' ∧ w'.ownsRow base e size v' (n + m) (xs ++ news) ∧ w.grownBy w' v.ownBlock ∧ (v'.ownBlock = v.ownBlock ∨ v'.ownBlock = some w.heap.size) := by
  obtain ⟨i, z, hi, hz, hsize, hby, hzs⟩ := hinfo
  cases A with
  | none =>
    have hm : m = 0 := hso rfl
    subst hm
    have hn : news = [] := List.eq_nil_of_length_eq_zero (by simpa using hr.1)
    subst hn
    exact ⟨v, w, run_append_nothing (P := P) w base t ty e i size ht hi v n xs hown c, by simpa using hown, World.grownBy.refl w _, .inl rfl⟩
  | some ad =>
    obtain ⟨v', w', q1, q2, q3, _, q5⟩ := run_append_own_at (P := P) w base t ty e i z size bytes ht hi hz hsize hby hzs hsz v n xs hown ad m c news hr.1 (hr.2 ad rfl) h1 h63 hbytes hbase
    exact ⟨v', w', q1, q2, q3, q5⟩
theorem wpList_appA {P : Program} (w : World) {ops : Array Oper} {rest : List Oper} {o : Oper} {a : Act} {Q : Exit → Act → World → Prop} (hgd : o.guard = none) (s x : Operand) (t : TypeId)
    (ho : o.op = .call { callee := .builtin .append, args := #[s, x], argTypes := #[t, t] })
    (base : Nat) (e : TypeId) (size bytes : Nat) (ht : P.underlying t = some (.slice e)) (hinfo : ∃ i z, P.info? e = some i ∧ i.zero = some z ∧ i.size = size ∧ i.bytes = bytes ∧ z.cells.size = size) (hsz : 0 < size)
    (v : Value) (n : Nat) (xs : List Value) (hs : a.eval s = v) (hown : w.ownsRow base e size v n xs)
    (A : Option Addr) (m c : Nat) (news : List Value) (hx : a.eval x = .slice A m c) (hr : Lies w size A m news) (hso : Sourced A m) (h1 : ∀ u ∈ news, u.oneCell' = true)
    (h63 : n + m ≤ maxLen) (hbytes : (n + m) * bytes ≤ 140737488355328) (hbase : base ≤ w.heap.size)
    (h : ∀ v' w', w'.ownsRow base e size v' (n + m) (xs ++ news) → w.grownBy w' v.ownBlock → (v'.ownBlock = v.ownBlock ∨ v'.ownBlock = some w.heap.size) → wpList P ops Q rest (a.put o.dst v') w') : wpList P ops Q (o :: rest) a w := by
  obtain ⟨v', w', q1, q2, q3, q4⟩ := run_app (P := P) w t o.type base e size bytes ht hinfo hsz v n xs hown A m c news hr hso h1 h63 hbytes hbase
  exact Lib.wpList_append_run w hgd s x t t ho _ _ hs hx v' w' q1 (h v' w' q2 q3 q4)
/-- The same at a step of a drawn region. -/
theorem step_app {P : Program} (w : World) {ops : Array Oper} {o : Oper} {a : Act} {K : Act → World → Prop} {Q : Exit → Act → World → Prop} {E : Prop} (hgd : o.guard = none) (s x : Operand) (t : TypeId)
    (ho : o.op = .call { callee := .builtin .append, args := #[s, x], argTypes := #[t, t] })
    (base : Nat) (e : TypeId) (size bytes : Nat) (ht : P.underlying t = some (.slice e)) (hinfo : ∃ i z, P.info? e = some i ∧ i.zero = some z ∧ i.size = size ∧ i.bytes = bytes ∧ z.cells.size = size) (hsz : 0 < size)
    (v : Value) (n : Nat) (xs : List Value) (hs : a.eval s = v) (hown : w.ownsRow base e size v n xs)
    (A : Option Addr) (m c : Nat) (news : List Value) (hx : a.eval x = .slice A m c) (hr : Lies w size A m news) (hso : Sourced A m) (h1 : ∀ u ∈ news, u.oneCell' = true)
    (h63 : n + m ≤ maxLen) (hbytes : (n + m) * bytes ≤ 140737488355328) (hbase : base ≤ w.heap.size)
    (h : ∀ v' w', w'.ownsRow base e size v' (n + m) (xs ++ news) → w.grownBy w' v.ownBlock → (v'.ownBlock = v.ownBlock ∨ v'.ownBlock = some w.heap.size) → K (a.put o.dst v') w') : if Region.wanted o (yielded ops a.tmps) = true then Oper.wp P o a w K Q else E := by
  have hw : Region.wanted o (yielded ops a.tmps) = true := by simp [Region.wanted, hgd]
  rw [if_pos hw]
  obtain ⟨v', w', q1, q2, q3, q4⟩ := run_app (P := P) w t o.type base e size bytes ht hinfo hsz v n xs hown A m c news hr hso h1 h63 hbytes hbase
  exact Lib.wp_append_run w s x t t ho _ _ hs hx v' w' q1 (h v' w' q2 q3 q4)
theorem Lies.alloc {w : World} {size m b : Nat} {vs : List Value} (h : Lies w size (some ⟨b, 0, none⟩) m vs) (hb : b < w.heap.size) (o : Obj) : Lies (w.alloc o) size (some ⟨b, 0, none⟩) m vs :=
  ⟨h.1, fun ad hA j u hu => by
    injection hA with hA; subst hA
    have := h.2 _ rfl j u hu
    rw [Go.WideShapes.add_plain] at this ⊢
    rw [World.cell?_alloc_lt _ _ _ hb]; exact this⟩
theorem Lies.grown {w w' : World} {size m b : Nat} {vs : List Value} {row : Option Nat} (h : Lies w size (some ⟨b, 0, none⟩) m vs) (hg : w.grownBy w' row) (hne : row ≠ some b) : Lies w' size (some ⟨b, 0, none⟩) m vs :=
  ⟨h.1, fun ad hA j u hu => by
    injection hA with hA; subst hA
    have := h.2 _ rfl j u hu
    rw [Go.WideShapes.add_plain] at this ⊢
    exact hg.cell this (fun e => hne e.symm)⟩
end Go.Proofs.Ytcgclaailhhbpaa
/- A drawn region's operations that make memory, in whatever order they come up: each has a fact on its value that stands whatever grows behind it. One goal an operation, whatever the orders. -/
namespace Go.Proofs.Ytcgclaailhhbpaa
open Go.ChangeShapes Go.WideShapes Go.ChangeAt Go.RowKit
set_option linter.unusedVariables false
def slotOf (ops : Array Oper) (i : Nat) : Nat := ((ops[i]?).bind (·.dst)).getD 0
/-- The value that operation i has left. -/
def valOf (ops : Array Oper) (a : Act) (i : Nat) : Value := a.tmps.getD (slotOf ops i) undef
/-- Two activations are the same but for these slots. -/
structure Agree (a0 a : Act) (ss : List Nat) : Prop where
  defers : a.defers = a0.defers
  size : a.tmps.size = a0.tmps.size
  same : ∀ t, ss.contains t = false → a.tmps[t]? = a0.tmps[t]?
theorem Agree.refl (a : Act) (ss : List Nat) : Agree a a ss := ⟨rfl, rfl, fun _ _ => rfl⟩
theorem Agree.put {a0 a : Act} {ss : List Nat} (h : Agree a0 a ss) (s : Nat) (hs : ss.contains s = true) (v : Value) : Agree a0 (a.put (some s) v) ss := by
  refine ⟨h.defers, by simp [Act.put, h.size], fun t ht => ?_⟩
  have hne : s ≠ t := fun e => by subst e; rw [hs] at ht; cases ht
  simp only [Act.put, Array.getElem?_setIfInBounds_ne hne]
  exact h.same t ht
theorem Agree.get {a0 a : Act} {ss : List Nat} (h : Agree a0 a ss) (t : Nat) (ht : ss.contains t = false) : a.tmps[t]?.getD undef = a0.tmps[t]?.getD undef := by rw [h.same t ht]
/-- The activation, written out. -/
theorem Agree.eq {a0 a : Act} {ss : List Nat} (h : Agree a0 a ss) : a = ss.foldl (fun b s => b.put (some s) (a.tmps[s]?.getD undef)) a0 := by
  have key : ∀ (ss : List Nat) (b : Act), b.tmps.size = a.tmps.size → b.defers = a.defers → (∀ t, ss.contains t = false → a.tmps[t]? = b.tmps[t]?) → a = ss.foldl (fun b s => b.put (some s) (a.tmps[s]?.getD undef)) b := by
    intro ss
    induction ss with
    | nil =>
      intro b h1 h2 h3
      obtain ⟨bt, bd⟩ := b
      obtain ⟨at_, ad⟩ := a
      simp only at h1 h2 h3
      subst h2
      have : at_ = bt := Array.ext_getElem? (fun t => h3 t rfl)
      rw [this]; rfl
    | cons s r ih =>
      intro b h1 h2 h3
      rw [List.foldl_cons]
      refine ih _ (by simpa [Act.put] using h1) h2 (fun t ht => ?_)
      by_cases e : s = t
      · subst e
        by_cases hb : s < b.tmps.size
        · simp only [Act.put, Array.getElem?_setIfInBounds_self_of_lt hb]
          rw [Array.getElem?_eq_getElem (by omega)]; rfl
        · rw [Array.getElem?_eq_none (by omega), Array.getElem?_eq_none (by simp [Act.put]; omega)]
      · simp only [Act.put, Array.getElem?_setIfInBounds_ne e]
        refine h3 t ?_
        rw [List.contains_cons, ht, Bool.or_false, beq_eq_false_iff_ne]
        exact fun e' => e e'.symm
  exact key ss a0 h.size.symm h.defers.symm h.same
def setAll (L : Array Bool) (is : List Nat) : Array Bool := is.foldl (fun L i => L.setIfInBounds i true) L
theorem setAll_size (is : List Nat) : ∀ L, (setAll L is).size = L.size := by
  induction is with
  | nil => intro L; rfl
  | cons i r ih => intro L; show (setAll (L.setIfInBounds i true) r).size = _; rw [ih]; simp
theorem setAll_at (is : List Nat) : ∀ (L : Array Bool) (t : Nat), (setAll L is)[t]? = if is.contains t = true ∧ t < L.size then some true else L[t]? := by
  induction is with
  | nil => intro L t; rw [if_neg (by simp)]; rfl
  | cons i r ih =>
    intro L t
    show (setAll (L.setIfInBounds i true) r)[t]? = _
    rw [ih, Array.size_setIfInBounds, List.contains_cons]
    by_cases hr : r.contains t = true ∧ t < L.size
    · rw [if_pos hr, if_pos ⟨by rw [hr.1, Bool.or_true], hr.2⟩]
    · rw [if_neg hr]
      by_cases e : t = i
      · subst e
        by_cases hl : t < L.size
        · rw [if_pos ⟨by simp, hl⟩, Array.getElem?_setIfInBounds_self_of_lt hl]
        · rw [if_neg (fun h => hl h.2), Array.getElem?_eq_none (by simp; omega), Array.getElem?_eq_none (by omega)]
      · rw [Array.getElem?_setIfInBounds_ne (fun h => e h.symm)]
        by_cases hc : r.contains t = true
        · have hl : ¬ t < L.size := fun h => hr ⟨hc, h⟩
          rw [if_neg (fun h => hl h.2)]
        · rw [if_neg]
          rintro ⟨h1, h2⟩
          rw [Bool.or_eq_true, beq_iff_eq] at h1
          exact h1.elim e hc
theorem setAll_set (is : List Nat) (L : Array Bool) (i : Nat) (hi : is.contains i = true) : setAll (L.setIfInBounds i true) is = setAll L is := by
  apply Array.ext_getElem?
  intro t
  rw [setAll_at, setAll_at, Array.size_setIfInBounds]
  split
  · rfl
  · next h =>
    by_cases e : i = t
    · subst e
      have hl : ¬ i < L.size := fun hl => h ⟨hi, hl⟩
      rw [Array.getElem?_eq_none (by simp; omega), Array.getElem?_eq_none (by omega)]
    · rw [Array.getElem?_setIfInBounds_ne e]
theorem setAll_full (is : List Nat) (L : Array Bool) (h : ∀ i, is.contains i = true → L.getD i false = true) : setAll L is = L := by
  apply Array.ext_getElem?
  intro t
  rw [setAll_at]
  split
  · next hc =>
    have := h t hc.1
    rw [Array.getD_eq_getD_getElem?, Array.getElem?_eq_getElem hc.2] at this
    rw [Array.getElem?_eq_getElem hc.2]
    exact congrArg some this.symm
  · rfl
section
variable {P : Program} {ops : Array Oper} {Q : Exit → Act → World → Prop} {md : Region.Mode} {S : World → Prop} {ks : List Nat}
/-- From this state on the operations 'is' alone come up, till all of them have. -/
def ordB (md : Region.Mode) (ops : Array Oper) (is : List Nat) : Nat → Array Bool → Bool
  | 0, L => is.all fun i => L.getD i false
  | f + 1, L => (Region.ready md ops L).length != 0 && (Region.ready md ops L).all fun i => is.contains i && ordB md ops is f (L.setIfInBounds i true)
def slotsB (ops : Array Oper) (is : List Nat) (n : Nat) : Bool :=
  is.all fun i => ((ops[i]?).bind (·.dst)).isSome && decide (slotOf ops i < n) && is.all fun j => i == j || slotOf ops i != slotOf ops j
/-- A fact on a value that stands whatever grows. -/
structure SF where
  F : Value → World → Prop
  st : ∀ v w w', F v w → Below w.heap.size w w' → F v w'
def sfTrue : SF := ⟨fun _ _ => True, fun _ _ _ _ _ => trivial⟩
theorem valOf_at {ops : Array Oper} {i s : Nat} (h : slotOf ops i = s) (a : Act) : valOf ops a i = a.tmps[s]?.getD undef := by
  unfold valOf
  rw [h, Array.getD_eq_getD_getElem?]
/-- What is asked of an operation that may come up at any time: its value meets its fact, nothing that was there turns. -/
def Step (P : Program) (ops : Array Oper) (Q : Exit → Act → World → Prop) (md : Region.Mode) (S : World → Prop) (fs : Nat → SF) (is : List Nat) (a0 : Act) (i : Nat) : Prop :=
  ∀ o, ops[i]? = some o → ∀ (a : Act) (w : World) (K : Act → World → Prop), S w → Agree a0 a (is.map (slotOf ops)) → (∀ j s, is.contains j = true → waitsB md ops i j = true → slotOf ops j = s → (fs j).F (a.tmps[s]?.getD undef) w) →
    Hid (∀ v w', Below w.heap.size w w' → (fs i).F v w' → K (a.put o.dst v) w') → if Region.wanted o (yielded ops a.tmps) = true then Oper.wp P o a w K Q else K (a.put o.dst undef) w
theorem Step.of {fs : Nat → SF} {is : List Nat} {a0 : Act} {i : Nat} {o : Oper} (ho : ops[i]? = some o)
    (h : ∀ (a : Act) (w : World) (K : Act → World → Prop), S w → Agree a0 a (is.map (slotOf ops)) → (∀ j s, is.contains j = true → waitsB md ops i j = true → slotOf ops j = s → (fs j).F (a.tmps[s]?.getD undef) w) →
      Hid (∀ v w', Below w.heap.size w w' → (fs i).F v w' → K (a.put o.dst v) w') → if Region.wanted o (yielded ops a.tmps) = true then Oper.wp P o a w K Q else K (a.put o.dst undef) w) : Step P ops Q md S fs is a0 i := by
  intro o' ho'
  obtain rfl := Option.some.inj (ho.symm.trans ho')
  exact h
def Steps (P : Program) (ops : Array Oper) (Q : Exit → Act → World → Prop) (md : Region.Mode) (S : World → Prop) (fs : Nat → SF) (is : List Nat) (a0 : Act) : List Nat → Prop
  | [] => True
  | i :: r => Step P ops Q md S fs is a0 i ∧ Steps P ops Q md S fs is a0 r
theorem Steps.at_ {fs : Nat → SF} {is : List Nat} {a0 : Act} : ∀ (l : List Nat), Steps P ops Q md S fs is a0 l → ∀ i, i ∈ l → Step P ops Q md S fs is a0 i
  | [], _, i, hi => by cases hi
  | j :: r, h, i, hi => by
    rcases List.mem_cons.1 hi with rfl | hi
    · exact h.1
    · exact Steps.at_ r h.2 i hi
theorem Late.orders_go {fs : Nat → SF} (is : List Nat) (a0 : Act) (L0 : Array Bool) (f0 : Nat) (hsl : slotsB ops is a0.tmps.size = true)
    (hSs : ∀ w w', S w → Below w.heap.size w w' → S w')
    (hst : Steps P ops Q md S fs is a0 is)
    (hend : ∀ a w, S w → Agree a0 a (is.map (slotOf ops)) → (∀ j, is.contains j = true → (fs j).F (valOf ops a j) w) → Late P md ops Q S ks f0 (setAll L0 is) a w) :
    ∀ (f : Nat) (L : Array Bool) (a : Act) (w : World), ordB md ops is f L = true → setAll L is = setAll L0 is → S w → Agree a0 a (is.map (slotOf ops)) →
      (∀ j, is.contains j = true → L.getD j false = true → (fs j).F (valOf ops a j) w) → Late P md ops Q S ks (f + f0) L a w
  | 0, L, a, w, ho, hL, hS, hA, hV => by
    rw [Nat.zero_add]
    have hall : ∀ i, is.contains i = true → L.getD i false = true := fun i hi => by
      simp only [ordB, List.all_eq_true] at ho
      exact ho i (by simpa using hi)
    rw [← setAll_full is L hall, hL]
    exact hend a w hS hA (fun j hj => hV j hj (hall j hj))
  | f + 1, L, a, w, ho, hL, hS, hA, hV => by
    simp only [ordB, Bool.and_eq_true, List.all_eq_true, bne_iff_ne] at ho
    obtain ⟨h1, h2⟩ := ho
    rw [show f + 1 + f0 = (f + f0) + 1 by omega]
    refine ⟨fun e => absurd (by rw [e]; rfl) h1, fun i hi => ?_⟩
    obtain ⟨hc, hor⟩ := h2 i hi
    obtain ⟨hun, o, hoi, hall⟩ := mem_ready.1 hi
    have hs := hsl
    simp only [slotsB, List.all_eq_true, Bool.and_eq_true, decide_eq_true_eq, Bool.or_eq_true, beq_iff_eq, bne_iff_ne] at hs
    have hmem : i ∈ is := by simpa using hc
    obtain ⟨⟨hd1, hd2⟩, hd3⟩ := hs i hmem
    obtain ⟨d, hd⟩ := Option.isSome_iff_exists.1 hd1
    have hod : o.dst = some d := by rw [hoi] at hd; exact hd
    have hsd : slotOf ops i = d := by unfold slotOf; rw [hd]; rfl
    refine wpOp_step hoi fun K hK => Steps.at_ is hst i hmem o hoi a w K hS hA (fun j s hj hw hsj => valOf_at hsj a ▸ hV j hj ?_) (Lib.hid fun v w' hb hg => hK _ _ ⟨fun _ => hSs w w' hS hb, ?_⟩)
    · rw [waitsB, hoi] at hw
      simp only [Option.map_some, Option.getD_some, Array.any_eq_true, Bool.and_eq_true, beq_iff_eq] at hw
      obtain ⟨n, hn, e1, e2⟩ := hw
      have := hall _ (Array.getElem_mem hn) e1
      rwa [e2] at this
    · rw [hod]
      have hput : ∀ t, d ≠ t → (a.put (some d) v).tmps.getD t undef = a.tmps.getD t undef := fun t ht => by
        rw [Array.getD_eq_getD_getElem?, Array.getD_eq_getD_getElem?]
        simp only [Act.put, Array.getElem?_setIfInBounds_ne ht]
      refine Late.orders_go is a0 L0 f0 hsl hSs hst hend f _ _ _ hor ((setAll_set is L i hc).trans hL) (hSs w w' hS hb) (hA.put d (by
        rw [List.contains_iff_mem, List.mem_map]; exact ⟨i, hmem, hsd⟩) v) (fun j hj hlj => ?_)
      by_cases e : i = j
      · subst e
        have : valOf ops (a.put (some d) v) i = v := by
          unfold valOf
          rw [hsd, Array.getD_eq_getD_getElem?]
          simp only [Act.put]
          rw [Array.getElem?_setIfInBounds_self_of_lt (by rw [hA.size, ← hsd]; exact hd2)]
          rfl
        rw [this]; exact hg
      · rw [getD_set_ne false e] at hlj
        have h5 := hV j hj hlj
        have hne : d ≠ slotOf ops j := by
          have := hd3 j (by simpa using hj)
          rw [← hsd]
          exact this.resolve_left e
        have : valOf ops (a.put (some d) v) j = valOf ops a j := hput _ hne
        rw [this]
        exact (fs j).st _ _ _ h5 hb
/-- The operations 'is' in any order, then the rest. ss: their slots. -/
theorem Late.orders (fs : Nat → SF) (is ss : List Nat) {f f0 : Nat} {a0 : Act} {L0 : Array Bool} {w0 : World} (hss : is.map (slotOf ops) = ss) (hf : f = is.length + f0) (hor : ordB md ops is is.length L0 = true) (hsl : slotsB ops is a0.tmps.size = true) (hun : (is.all fun i => !L0.getD i false) = true)
    (hS : S w0) (hSs : ∀ w w', S w → Below w.heap.size w w' → S w')
    (hst : Steps P ops Q md S fs is a0 is)
    (hend : ∀ a w, S w → Agree a0 a ss → (∀ j s, is.contains j = true → slotOf ops j = s → (fs j).F (a.tmps[s]?.getD undef) w) → Late P md ops Q S ks f0 (setAll L0 is) a w) : Late P md ops Q S ks f L0 a0 w0 := by
  subst hf hss
  refine Late.orders_go is a0 L0 f0 hsl hSs hst (fun a w h1 h2 h3 => hend a w h1 h2 (fun j s hj hs => valOf_at hs a ▸ h3 j hj)) is.length L0 a0 w0 hor rfl hS (Agree.refl _ _) (fun j hj hl => ?_)
  simp only [List.all_eq_true] at hun
  have := hun j (by simpa using hj)
  rw [hl] at this
  cases this
end
end Go.Proofs.Ytcgclaailhhbpaa
/- A drawn region's operations that make memory, in whatever order they come up, with one among them that may turn what the others have made. -/
namespace Go.Proofs.Ytcgclaailhhbpaa
open Go.ChangeShapes Go.WideShapes Go.ChangeAt Go.RowKit
set_option linter.unusedVariables false
section
variable {P : Program} {ops : Array Oper} {Q : Exit → Act → World → Prop} {md : Region.Mode} {S : World → Prop} {ks : List Nat}
/-- From this state on the operations 'is' and z alone come up, till all of them have; behind z only those of post. -/
def ordZ (md : Region.Mode) (ops : Array Oper) (is post : List Nat) (z : Nat) : Nat → Array Bool → Bool
  | 0, L => (z :: is).all fun i => L.getD i false
  | f + 1, L => (Region.ready md ops L).length != 0 && (Region.ready md ops L).all fun i => (i == z || is.contains i && (!L.getD z false || post.contains i)) && ordZ md ops is post z f (L.setIfInBounds i true)
/-- As Step; zb: z has come up. -/
def StepZ (P : Program) (ops : Array Oper) (Q : Exit → Act → World → Prop) (md : Region.Mode) (S : World → Prop) (fs : Bool → Nat → SF) (is post : List Nat) (z : Nat) (a0 : Act) (i : Nat) : Prop :=
  ∀ o, ops[i]? = some o → ∀ (zb : Bool) (a : Act) (w : World) (K : Act → World → Prop), (zb = true → post.contains i = true) → S w → Agree a0 a ((z :: is).map (slotOf ops)) → (∀ j s, (z :: is).contains j = true → waitsB md ops i j = true → slotOf ops j = s → (fs zb j).F (a.tmps[s]?.getD undef) w) →
    Hid (∀ v w', Below w.heap.size w w' → (fs zb i).F v w' → K (a.put o.dst v) w') → if Region.wanted o (yielded ops a.tmps) = true then Oper.wp P o a w K Q else K (a.put o.dst undef) w
theorem StepZ.of {fs : Bool → Nat → SF} {is post : List Nat} {z : Nat} {a0 : Act} {i : Nat} {o : Oper} (ho : ops[i]? = some o)
    (h : ∀ (zb : Bool) (a : Act) (w : World) (K : Act → World → Prop), (zb = true → post.contains i = true) → S w → Agree a0 a ((z :: is).map (slotOf ops)) → (∀ j s, (z :: is).contains j = true → waitsB md ops i j = true → slotOf ops j = s → (fs zb j).F (a.tmps[s]?.getD undef) w) →
      Hid (∀ v w', Below w.heap.size w w' → (fs zb i).F v w' → K (a.put o.dst v) w') → if Region.wanted o (yielded ops a.tmps) = true then Oper.wp P o a w K Q else K (a.put o.dst undef) w) : StepZ P ops Q md S fs is post z a0 i := by
  intro o' ho'
  obtain rfl := Option.some.inj (ho.symm.trans ho')
  exact h
/-- What is asked of z. -/
def TurnZ (P : Program) (ops : Array Oper) (Q : Exit → Act → World → Prop) (md : Region.Mode) (S : World → Prop) (fs : Bool → Nat → SF) (is : List Nat) (z : Nat) (a0 : Act) : Prop :=
  ∀ o, ops[z]? = some o → ∀ (a : Act) (w : World) (K : Act → World → Prop), S w → Agree a0 a ((z :: is).map (slotOf ops)) → (∀ j s, is.contains j = true → waitsB md ops z j = true → slotOf ops j = s → (fs false j).F (a.tmps[s]?.getD undef) w) →
    Hid (∀ v w', S w' → (fs true z).F v w' → (∀ j s, is.contains j = true → slotOf ops j = s → (fs false j).F (a.tmps[s]?.getD undef) w → (fs true j).F (a.tmps[s]?.getD undef) w') → K (a.put o.dst v) w') → if Region.wanted o (yielded ops a.tmps) = true then Oper.wp P o a w K Q else K (a.put o.dst undef) w
theorem TurnZ.of {fs : Bool → Nat → SF} {is : List Nat} {z : Nat} {a0 : Act} {o : Oper} (ho : ops[z]? = some o)
    (h : ∀ (a : Act) (w : World) (K : Act → World → Prop), S w → Agree a0 a ((z :: is).map (slotOf ops)) → (∀ j s, is.contains j = true → waitsB md ops z j = true → slotOf ops j = s → (fs false j).F (a.tmps[s]?.getD undef) w) →
      Hid (∀ v w', S w' → (fs true z).F v w' → (∀ j s, is.contains j = true → slotOf ops j = s → (fs false j).F (a.tmps[s]?.getD undef) w → (fs true j).F (a.tmps[s]?.getD undef) w') → K (a.put o.dst v) w') → if Region.wanted o (yielded ops a.tmps) = true then Oper.wp P o a w K Q else K (a.put o.dst undef) w) : TurnZ P ops Q md S fs is z a0 := by
  intro o' ho'
  obtain rfl := Option.some.inj (ho.symm.trans ho')
  exact h
theorem Late.ordersZ_go {fs : Bool → Nat → SF} (is post : List Nat) (z : Nat) (a0 : Act) (L0 : Array Bool) (f0 : Nat) (hsl : slotsB ops (z :: is) a0.tmps.size = true) (hzi : is.contains z = false)
    (hSs : ∀ w w', S w → Below w.heap.size w w' → S w')
    (hst : ∀ i, i ∈ is → StepZ P ops Q md S fs is post z a0 i) (htz : TurnZ P ops Q md S fs is z a0)
    (hend : ∀ a w, S w → Agree a0 a ((z :: is).map (slotOf ops)) → (∀ j, (z :: is).contains j = true → (fs true j).F (valOf ops a j) w) → Late P md ops Q S ks f0 (setAll L0 (z :: is)) a w) :
    ∀ (f : Nat) (L : Array Bool) (a : Act) (w : World), ordZ md ops is post z f L = true → setAll L (z :: is) = setAll L0 (z :: is) → S w → Agree a0 a ((z :: is).map (slotOf ops)) →
      (∀ j, (z :: is).contains j = true → L.getD j false = true → (fs (L.getD z false) j).F (valOf ops a j) w) → Late P md ops Q S ks (f + f0) L a w
  | 0, L, a, w, ho, hL, hS, hA, hV => by
    rw [Nat.zero_add]
    have hall : ∀ i, (z :: is).contains i = true → L.getD i false = true := fun i hi => by
      simp only [ordZ, List.all_eq_true] at ho
      exact ho i (by simpa using hi)
    rw [← setAll_full (z :: is) L hall, hL]
    have hz : L.getD z false = true := hall z (by simp)
    exact hend a w hS hA (fun j hj => by have := hV j hj (hall j hj); rwa [hz] at this)
  | f + 1, L, a, w, ho, hL, hS, hA, hV => by
    simp only [ordZ, Bool.and_eq_true, List.all_eq_true, bne_iff_ne] at ho
    obtain ⟨h1, h2⟩ := ho
    rw [show f + 1 + f0 = (f + f0) + 1 by omega]
    refine ⟨fun e => absurd (by rw [e]; rfl) h1, fun i hi => ?_⟩
    obtain ⟨hc, hor⟩ := h2 i hi
    obtain ⟨hun, o, hoi, hall⟩ := mem_ready.1 hi
    have hs := hsl
    simp only [slotsB, List.all_eq_true, Bool.and_eq_true, decide_eq_true_eq, Bool.or_eq_true, beq_iff_eq, bne_iff_ne] at hs
    have hmemz : i ∈ z :: is := by
      rw [Bool.or_eq_true, beq_iff_eq] at hc
      rcases hc with rfl | hc
      · simp
      · rw [Bool.and_eq_true] at hc
        exact List.mem_cons_of_mem _ (by simpa using hc.1)
    obtain ⟨⟨hd1, hd2⟩, hd3⟩ := hs i hmemz
    obtain ⟨d, hd⟩ := Option.isSome_iff_exists.1 hd1
    have hod : o.dst = some d := by rw [hoi] at hd; exact hd
    have hsd : slotOf ops i = d := by unfold slotOf; rw [hd]; rfl
    have hlist : ∀ j, waitsB md ops i j = true → L.getD j false = true := fun j hw => by
      rw [waitsB, hoi] at hw
      simp only [Option.map_some, Option.getD_some, Array.any_eq_true, Bool.and_eq_true, beq_iff_eq] at hw
      obtain ⟨n, hn, e1, e2⟩ := hw
      have := hall _ (Array.getElem_mem hn) e1
      rwa [e2] at this
    have hput : ∀ v t, d ≠ t → (a.put (some d) v).tmps.getD t undef = a.tmps.getD t undef := fun v t ht => by
      rw [Array.getD_eq_getD_getElem?, Array.getD_eq_getD_getElem?]
      simp only [Act.put, Array.getElem?_setIfInBounds_ne ht]
    have hself : ∀ v, valOf ops (a.put (some d) v) i = v := fun v => by
      unfold valOf
      rw [hsd, Array.getD_eq_getD_getElem?]
      simp only [Act.put]
      rw [Array.getElem?_setIfInBounds_self_of_lt (by rw [hA.size, ← hsd]; exact hd2)]
      rfl
    have hother : ∀ v j, i ≠ j → j ∈ z :: is → valOf ops (a.put (some d) v) j = valOf ops a j := fun v j e hj => by
      have hne : d ≠ slotOf ops j := by
        have := hd3 j hj
        rw [← hsd]
        exact this.resolve_left e
      exact hput v _ hne
    have hmz : ∀ j, is.contains j = true → (z :: is).contains j = true := fun j hj => by rw [List.contains_cons, hj, Bool.or_true]
    have hAp : ∀ v, Agree a0 (a.put (some d) v) ((z :: is).map (slotOf ops)) := fun v => hA.put d (by
      rw [List.contains_iff_mem, List.mem_map]; exact ⟨i, hmemz, hsd⟩) v
    have hset : setAll (L.setIfInBounds i true) (z :: is) = setAll L0 (z :: is) := (setAll_set (z :: is) L i (by simpa using hmemz)).trans hL
    by_cases hiz : i = z
    · subst hiz
      have hzL : L.getD i false = false := by
        by_cases hsz : i < L.size
        · rw [Array.getD_eq_getD_getElem?, Array.getElem?_eq_getElem hsz]
          rw [Array.getD_eq_getD_getElem?, Array.getElem?_eq_getElem hsz] at hun
          exact hun
        · rw [Array.getD_eq_getD_getElem?, Array.getElem?_eq_none (by omega)]; rfl
      have hzb : i < L.size := by
        by_cases hsz : i < L.size
        · exact hsz
        · rw [Array.getD_eq_getD_getElem?, Array.getElem?_eq_none (by omega)] at hun
          cases hun
      have hzL2 : (L.setIfInBounds i true).getD i false = true := by
        rw [Array.getD_eq_getD_getElem?, Array.getElem?_setIfInBounds_self_of_lt hzb]; rfl
      refine wpOp_step hoi fun K hK => htz o hoi a w K hS hA (fun j s hj hw hsj => valOf_at hsj a ▸ (by have := hV j (hmz j hj) (hlist j hw); rwa [hzL] at this)) (Lib.hid fun v w' hS' hg hpre => hK _ _ ⟨fun _ => hS', ?_⟩)
      rw [hod]
      refine Late.ordersZ_go is post i a0 L0 f0 hsl hzi hSs hst htz hend f _ _ _ hor hset hS' (hAp v) (fun j hj hlj => ?_)
      rw [hzL2]
      by_cases e : i = j
      · subst e
        rw [hself]; exact hg
      · rw [getD_set_ne false e] at hlj
        have hji : is.contains j = true := by
          rw [List.contains_cons, Bool.or_eq_true, beq_iff_eq] at hj
          exact hj.resolve_left (fun h => e h.symm)
        have h5 := hV j hj hlj
        rw [hzL] at h5
        rw [hother v j e (by simpa using hj)]
        have := hpre j _ hji rfl (by rw [valOf_at rfl a] at h5; exact h5)
        rw [valOf_at rfl a]; exact this
    · have hmem : i ∈ is := (List.mem_cons.1 hmemz).resolve_left hiz
      have hpost : L.getD z false = true → post.contains i = true := fun hz => by
        rw [Bool.or_eq_true, beq_iff_eq] at hc
        have := hc.resolve_left hiz
        rw [Bool.and_eq_true, hz] at this
        simpa using this.2
      have hzz : (L.setIfInBounds i true).getD z false = L.getD z false := getD_set_ne false hiz
      refine wpOp_step hoi fun K hK => hst i hmem o hoi (L.getD z false) a w K hpost hS hA (fun j s hj hw hsj => valOf_at hsj a ▸ hV j hj (hlist j hw)) (Lib.hid fun v w' hb hg => hK _ _ ⟨fun _ => hSs w w' hS hb, ?_⟩)
      rw [hod]
      refine Late.ordersZ_go is post z a0 L0 f0 hsl hzi hSs hst htz hend f _ _ _ hor hset (hSs w w' hS hb) (hAp v) (fun j hj hlj => ?_)
      rw [hzz]
      by_cases e : i = j
      · subst e
        rw [hself]; exact hg
      · rw [getD_set_ne false e] at hlj
        rw [hother v j e (by simpa using hj)]
        exact (fs _ j).st _ _ _ (hV j hj hlj) hb
/-- The operations 'is' and z in any order, then the rest. ss: their slots, z's first. -/
theorem Late.ordersZ (fs : Bool → Nat → SF) (is post : List Nat) (z : Nat) (ss : List Nat) {f f0 : Nat} {a0 : Act} {L0 : Array Bool} {w0 : World} (hss : (z :: is).map (slotOf ops) = ss) (hf : f = is.length + 1 + f0) (hzi : is.contains z = false) (hor : ordZ md ops is post z (is.length + 1) L0 = true) (hsl : slotsB ops (z :: is) a0.tmps.size = true) (hun : ((z :: is).all fun i => !L0.getD i false) = true)
    (hS : S w0) (hSs : ∀ w w', S w → Below w.heap.size w w' → S w')
    (hst : ∀ i, i ∈ is → StepZ P ops Q md S fs is post z a0 i) (htz : TurnZ P ops Q md S fs is z a0)
    (hend : ∀ a w, S w → Agree a0 a ss → (∀ j s, (z :: is).contains j = true → slotOf ops j = s → (fs true j).F (a.tmps[s]?.getD undef) w) → Late P md ops Q S ks f0 (setAll L0 (z :: is)) a w) : Late P md ops Q S ks f L0 a0 w0 := by
  subst hf hss
  refine Late.ordersZ_go is post z a0 L0 f0 hsl hzi hSs hst htz (fun a w h1 h2 h3 => hend a w h1 h2 (fun j s hj hs => valOf_at hs a ▸ h3 j hj)) (is.length + 1) L0 a0 w0 hor rfl hS (Agree.refl _ _) (fun j hj hl => ?_)
  simp only [List.all_eq_true] at hun
  have := hun j (by simpa using hj)
  rw [hl] at this
  cases this
end
end Go.Proofs.Ytcgclaailhhbpaa
/- Links: their cells; two links held against each other. -/
namespace Go.Proofs.Ytcgclaailhhbpaa
open Go.ChangeShapes Go.WideShapes Go.ChangeAt Go.RowKit
set_option linter.unusedVariables false
set_option linter.unusedSimpArgs false
open Plain Sha
namespace Au
/-- A link: its numbers, the tag ahead, its own. -/
structure LinkZ where
  n : Int
  st : Int
  op : Int
  tn : Int
  a : Int
  b : Int
  c : Int
  H : List Int
  S : List Int
  hH : H.length = 32
  hS : S.length = 32
def zT : List Int := List.replicate 32 0
theorem zT_len : zT.length = 32 := rfl
def l0 : LinkZ := ⟨0, 0, 0, 0, 0, 0, 0, zT, zT, rfl, rfl⟩
/-- Are two links the same, field by field? -/
def lkF (g h : LinkZ) (o : Nat) : Bool :=
  if o = 0 then g.n == h.n else if o = 1 then g.st == h.st else if o = 2 then g.op == h.op else if o = 3 then g.tn == h.tn else if o = 4 then g.a == h.a else if o = 5 then g.b == h.b else if o = 6 then g.c == h.c else if o = 7 then eqB g.H h.H else eqB g.S h.S
def lkB (g h : LinkZ) : Bool := [0, 1, 2, 3, 4, 5, 6, 7, 39].all (lkF g h)
end Au
open Au
def InA (x : Int) : Prop := -9223372036854775808 ≤ x ∧ x ≤ 9223372036854775807
structure LOk (g : LinkZ) : Prop where
  n : InA g.n
  st : InA g.st
  op : 0 ≤ g.op ∧ g.op < 256
  tn : InA g.tn
  a : InA g.a
  b : InA g.b
  c : InA g.c
  H : IsBytes g.H
  S : IsBytes g.S
/-- The cells of a link. -/
def lhead (g : LinkZ) : List Value := [.int .i64 g.n, .int .i64 g.st, .int .u8 g.op, .int .i64 g.tn, .int .i64 g.a, .int .i64 g.b, .int .i64 g.c]
def lc (g : LinkZ) : List Value := lhead g ++ (vals g.H ++ vals g.S)
theorem lc_len (g : LinkZ) : (lc g).length = 71 := by
  unfold lc lhead
  simp only [List.length_append, vals_len, g.hH, g.hS, List.length_cons, List.length_nil]
theorem lc_one (g : LinkZ) : ∀ u ∈ lc g, u.oneCell' = true := by
  intro u hu
  unfold lc lhead at hu
  rw [List.mem_append, List.mem_append] at hu
  rcases hu with hu | hu | hu
  · simp only [List.mem_cons, List.not_mem_nil, or_false] at hu
    rcases hu with rfl | rfl | rfl | rfl | rfl | rfl | rfl <;> rfl
  · exact vals_one _ u hu
  · exact vals_one _ u hu
theorem lc_num (g : LinkZ) (i : Nat) (hi : i < 7) : (lc g)[i]? = (lhead g)[i]? := by
  unfold lc
  rw [List.getElem?_append_left (by simpa [lhead] using hi)]
theorem lc_H (g : LinkZ) (j : Nat) (hj : j < 32) : (lc g)[7 + j]? = (vals g.H)[j]? := by
  unfold lc
  rw [List.getElem?_append_right (by simp [lhead]), List.getElem?_append_left (by rw [vals_len, g.hH]; simp [lhead]; omega)]
  simp [lhead]
theorem lc_S (g : LinkZ) (j : Nat) : (lc g)[39 + j]? = (vals g.S)[j]? := by
  unfold lc
  rw [List.getElem?_append_right (by simp [lhead]; omega), List.getElem?_append_right (by rw [vals_len, g.hH]; simp [lhead]; omega)]
  rw [vals_len, g.hH]
  simp [lhead]
  congr 1; omega
theorem lk_size (g : LinkZ) : (Try.prog.info? 44).map (·.size) = some (lc g).length := by rw [lc_len]; kernel_rfl
theorem lk_sizeA (g : LinkZ) : (Try.prog.info? 44).map (·.size) = some (lc g).toArray.size := by rw [List.size_toArray]; exact lk_size g
theorem lk_one (g : LinkZ) : (lc g).toArray.all (·.oneCell') = true := all_oneCell_toArray (lc_one g)
theorem link_info : ∃ i z, Try.prog.info? 44 = some i ∧ i.zero = some z ∧ i.size = 71 ∧ i.bytes = 120 ∧ z.cells.size = 71 := by
  obtain ⟨i, hi, hz, hs, hb⟩ := info_parts (show (Try.prog.info? 44).map (fun i => (i.zero, i.size, i.bytes)) = some (some (.agg (lc l0).toArray), 71, 120) by kernel_rfl)
  exact ⟨i, _, hi, hz, hs, hb, by show (lc l0).toArray.size = 71; rw [List.size_toArray, lc_len]⟩
theorem extract_H (g : LinkZ) : (lc g).toArray.extract 7 (7 + 32) = (vals g.H).toArray := by
  have e : ((lc g).drop 7).take 32 = vals g.H := by
    unfold lc
    rw [List.drop_append_of_le_length (by simp [lhead]), show (lhead g).drop 7 = [] from rfl, List.nil_append, List.take_append_of_le_length (by rw [vals_len, g.hH]; omega), List.take_of_length_le (by rw [vals_len, g.hH]; omega)]
  rw [List.extract_toArray, List.extract_eq_take_drop, show 7 + 32 - 7 = 32 from rfl, e]
theorem extract_S (g : LinkZ) : (lc g).toArray.extract 39 (39 + 32) = (vals g.S).toArray := by
  have e : ((lc g).drop 39).take 32 = vals g.S := by
    unfold lc
    rw [List.drop_append, show (lhead g).drop 39 = [] from rfl, List.nil_append, show 39 - (lhead g).length = 32 from rfl, List.drop_append_of_le_length (by rw [vals_len, g.hH]; omega), List.drop_of_length_le (by rw [vals_len, g.hH]; omega), List.nil_append, List.take_of_length_le (by rw [vals_len, g.hS]; omega)]
  rw [List.extract_toArray, List.extract_eq_take_drop, show 39 + 32 - 39 = 32 from rfl, e]
theorem eqFields_list {P : Program} (d : Nat) (xs ys : Array Value) (w : World) (q : Field → Bool) : ∀ fs : List Field, (∀ f ∈ fs, f.name ≠ "_" ∧ ∃ a b, (part f.type xs f.offset).run P w = .ok a w ∧ (part f.type ys f.offset).run P w = .ok b w ∧ (Op.equalIn d f.type a b).run P w = .ok (q f) w) →
    (Op.eqFields d xs ys fs).run P w = .ok (fs.all q) w
  | [], h => by simp [Op.eqFields]
  | f :: fs, h => by
    obtain ⟨hn, a, b, h1, h2, h3⟩ := h f (by simp)
    have ih := eqFields_list d xs ys w q fs (fun f hf => h f (by simp [hf]))
    simp only [Op.eqFields, if_pos hn, Sem.run_bind, h1, h2, h3, Result.andThen_ok, List.all_cons]
    cases q f
    · simp
    · simpa using ih
theorem link_fields : (Try.prog.fieldsOf 44).toList.map (fun f => (f.type, f.offset)) = [(3, 0), (3, 1), (5, 2), (3, 3), (3, 4), (3, 5), (3, 6), (42, 7), (42, 39)] := by kernel_rfl
theorem link_under : Try.prog.underlying 44 = some (.struct (Try.prog.fieldsOf 44)) := by kernel_rfl
theorem link_stood : Try.prog.stoodInHeld 44 = false := by kernel_rfl
theorem part_int {w : World} {cs : Array Value} {o : Nat} {v : Value} (h : cs[o]? = some v) : (part 3 cs o).run Try.prog w = .ok v w := by
  simp [part, isAgg, run_underlying Try.underlying3, h, go_sem]
theorem part_u8 {w : World} {cs : Array Value} {o : Nat} {v : Value} (h : cs[o]? = some v) : (part 5 cs o).run Try.prog w = .ok v w := by
  simp [part, isAgg, run_underlying Try.underlying5, h, go_sem]
theorem part_tag {w : World} {cs : Array Value} {o : Nat} : (part 42 cs o).run Try.prog w = .ok (.agg (cs.extract o (o + 32))) w := by
  obtain ⟨i, hi, hs⟩ : ∃ i, Try.prog.info? 42 = some i ∧ i.size = 32 := by
    obtain ⟨i, hi, _, hs, _⟩ := info_parts (show (Try.prog.info? 42).map (fun i => (i.zero, i.size, i.bytes)) = some (some (.agg (vals (List.replicate 32 0)).toArray), 32, 32) by kernel_rfl)
    exact ⟨i, hi, hs⟩
  simp [part, isAgg, run_underlying Try.underlying42, run_sizeOf w hi, hs, go_sem]
theorem link_names : (Try.prog.fieldsOf 44).toList.all (fun f => !(f.name == "_")) = true := by kernel_rfl
set_option maxRecDepth 100000 in
theorem run_linkIn (g h : LinkZ) (w : World) : (Op.equalIn 10000 44 (.agg (lc g).toArray) (.agg (lc h).toArray)).run Try.prog w = .ok (lkB g h) w := by
  rw [run_equalIn_struct w 9999 44 _ _ link_under link_stood]
  have hat : ∀ (x : LinkZ) (i : Nat), (lc x).toArray[i]? = (lc x)[i]? := fun x i => List.getElem?_toArray ..
  have hI : ∀ (i : Nat) (x y : Int), (lc g)[i]? = some (.int .i64 x) → (lc h)[i]? = some (.int .i64 y) → ∃ a b, (part 3 (lc g).toArray i).run Try.prog w = .ok a w ∧ (part 3 (lc h).toArray i).run Try.prog w = .ok b w ∧ (Op.equalIn 9999 3 a b).run Try.prog w = .ok (x == y) w := fun i x y h1 h2 =>
    ⟨_, _, part_int ((hat g i).trans h1), part_int ((hat h i).trans h2), by rw [run_equalIn_int w 9998 3 .i64 .i64 _ _ Try.underlying3]⟩
  have hB : ∀ (T U : List Int) (hT : T.length = 32) (hU : U.length = 32), (Op.equalIn 9999 42 (.agg (vals T).toArray) (.agg (vals U).toArray)).run Try.prog w = .ok (eqB T U) w := fun T U hT hU => by
    obtain ⟨i, z, hi, _⟩ := u8_info
    rw [run_equalIn_array w 9998 (vals T).toArray (vals U).toArray Try.underlying42 hi, u8_cells]
    have := run_eqItems8 9997 T U (by omega) w (List.range 32) (fun i hi => by rw [List.mem_range] at hi; omega)
    rw [this, ← eqB_range T U (by omega), hT]
  have hF := eqFields_list 9999 (lc g).toArray (lc h).toArray w (fun f => lkF g h f.offset) (Try.prog.fieldsOf 44).toList (fun f hf => by
    refine ⟨?_, ?_⟩
    · have := link_names
      rw [List.all_eq_true] at this
      have := this f hf
      simpa using this
    · have hm : (f.type, f.offset) ∈ (Try.prog.fieldsOf 44).toList.map (fun f => (f.type, f.offset)) := List.mem_map.2 ⟨f, hf, rfl⟩
      rw [link_fields] at hm
      simp only [List.mem_cons, Prod.mk.injEq, List.not_mem_nil, or_false] at hm
      rcases hm with ⟨e1, e2⟩ | ⟨e1, e2⟩ | ⟨e1, e2⟩ | ⟨e1, e2⟩ | ⟨e1, e2⟩ | ⟨e1, e2⟩ | ⟨e1, e2⟩ | ⟨e1, e2⟩ | ⟨e1, e2⟩ <;> rw [e1, e2]
      · exact hI 0 _ _ rfl rfl
      · exact hI 1 _ _ rfl rfl
      · exact ⟨_, _, part_u8 ((hat g 2).trans rfl), part_u8 ((hat h 2).trans rfl), by rw [run_equalIn_int w 9998 5 .u8 .u8 _ _ Try.underlying5]; rfl⟩
      · exact hI 3 _ _ rfl rfl
      · exact hI 4 _ _ rfl rfl
      · exact hI 5 _ _ rfl rfl
      · exact hI 6 _ _ rfl rfl
      · exact ⟨_, _, part_tag, part_tag, by rw [extract_H, extract_H]; exact hB _ _ g.hH h.hH⟩
      · exact ⟨_, _, part_tag, part_tag, by rw [extract_S, extract_S]; exact hB _ _ g.hS h.hS⟩)
  rw [hF]
  congr 1
theorem run_lkEq (g h : LinkZ) (w : World) : (binOp .eql 44 (.agg (lc g).toArray) (.agg (lc h).toArray)).run Try.prog w = .ok (.bool (lkB g h)) w := by
  rw [run_eql_struct, run_linkIn g h]; rfl
theorem run_lkNe (g h : LinkZ) (w : World) : (binOp .neq 44 (.agg (lc g).toArray) (.agg (lc h).toArray)).run Try.prog w = .ok (.bool (!lkB g h)) w := by
  rw [run_neq_struct, run_linkIn g h]; rfl
theorem lkB_refl (g : LinkZ) : lkB g g = true := by
  simp [lkB, lkF, eqB]
end Go.Proofs.Ytcgclaailhhbpaa
/- Replies and what clients were told last: cells, rows, variables. -/
namespace Go.Proofs.Ytcgclaailhhbpaa
open Go.ChangeShapes Go.WideShapes Go.ChangeAt Go.RowKit
set_option linter.unusedVariables false
set_option linter.unusedSimpArgs false
open Plain Sha Au
namespace Rp
/-- A reply, plain. -/
structure RepZ where
  err : Int
  val : ByteArray
  ks : List ByteArray
  n : Int
  g : LinkZ
/-- What a client was told last, plain. -/
structure LastZ where
  c : Int
  id : Int
  r : RepZ
/-- A reply as it stands: with where its keys stand. -/
structure RX where
  err : Int
  val : ByteArray
  A : Option Addr
  kn : Nat
  kc : Nat
  ks : List ByteArray
  n : Int
  g : LinkZ
structure LX where
  c : Int
  id : Int
  r : RX
def RX.z (x : RX) : RepZ := ⟨x.err, x.val, x.ks, x.n, x.g⟩
def LX.z (x : LX) : LastZ := ⟨x.c, x.id, x.r.z⟩
/-- Are two replies the same; two tables? -/
def repB (a b : RepZ) : Bool := a.err == b.err && decide (a.val = b.val) && decide (a.ks = b.ks) && a.n == b.n && lkB a.g b.g
theorem repB_refl (a : RepZ) : repB a a = true := by simp [repB, lkB_refl]
def lastB (a b : LastZ) : Bool := a.c == b.c && a.id == b.id && repB a.r b.r
theorem lastB_refl (a : LastZ) : lastB a a = true := by simp [lastB, repB_refl]
def tabB : List LastZ → List LastZ → Bool
  | [], [] => true
  | a :: r, b :: s => lastB a b && tabB r s
  | _, _ => false
theorem tabB_refl : ∀ l, tabB l l = true
  | [] => rfl
  | a :: r => by simp [tabB, lastB_refl, tabB_refl r]
theorem tabB_len : ∀ {a b : List LastZ}, a.length ≠ b.length → tabB a b = false
  | [], [], h => absurd rfl h
  | [], _ :: _, _ => rfl
  | _ :: _, [], _ => rfl
  | a :: r, b :: s, h => by
    simp only [tabB]
    rw [tabB_len (by simpa using h), Bool.and_false]
theorem tabB_no : ∀ {a b : List LastZ} {k : Nat} {x y : LastZ}, a[k]? = some x → b[k]? = some y → lastB x y = false → tabB a b = false
  | [], _, k, x, y, h, _, _ => by simp at h
  | _ :: _, [], k, x, y, _, h, _ => by simp at h
  | a :: r, b :: s, 0, x, y, h1, h2, h3 => by
    simp at h1 h2; subst h1 h2
    simp [tabB, h3]
  | a :: r, b :: s, k + 1, x, y, h1, h2, h3 => by
    simp only [tabB]
    rw [tabB_no (a := r) (b := s) (k := k) (by simpa using h1) (by simpa using h2) h3, Bool.and_false]
theorem tabB_yes : ∀ {a b : List LastZ}, a.length = b.length → (∀ (k : Nat) (x y : LastZ), a[k]? = some x → b[k]? = some y → lastB x y = true) → tabB a b = true
  | [], [], _, _ => rfl
  | [], _ :: _, h, _ => by simp at h
  | _ :: _, [], h, _ => by simp at h
  | a :: r, b :: s, h, hk => by
    simp only [tabB]
    rw [hk 0 a b rfl rfl, Bool.true_and]
    exact tabB_yes (by simpa using h) (fun k x y h1 h2 => hk (k + 1) x y (by simpa using h1) (by simpa using h2))
def r0 : RX := ⟨0, ByteArray.empty, none, 0, 0, [], 0, l0⟩
def x0 : LX := ⟨0, 0, r0⟩
/-- The cells of a reply; of what a client was told last. -/
def rhead (x : RX) : List Value := [.int .i64 x.err, .string x.val, .slice x.A x.kn x.kc, .int .i64 x.n]
def rc (x : RX) : List Value := rhead x ++ lc x.g
def xc (x : LX) : List Value := [.int .i64 x.c, .int .i64 x.id] ++ rc x.r
theorem rc_len (x : RX) : (rc x).length = 75 := by unfold rc; rw [List.length_append, lc_len]; rfl
theorem xc_len (x : LX) : (xc x).length = 77 := by unfold xc; rw [List.length_append, rc_len]; rfl
theorem rc_one (x : RX) : ∀ u ∈ rc x, u.oneCell' = true := by
  intro u hu
  unfold rc rhead at hu
  rw [List.mem_append] at hu
  rcases hu with hu | hu
  · simp only [List.mem_cons, List.not_mem_nil, or_false] at hu
    rcases hu with rfl | rfl | rfl | rfl <;> rfl
  · exact lc_one _ u hu
theorem xc_one (x : LX) : ∀ u ∈ xc x, u.oneCell' = true := by
  intro u hu
  unfold xc at hu
  rw [List.mem_append] at hu
  rcases hu with hu | hu
  · simp only [List.mem_cons, List.not_mem_nil, or_false] at hu
    rcases hu with rfl | rfl <;> rfl
  · exact rc_one _ u hu
theorem rc_g (x : RX) (j : Nat) : (rc x)[4 + j]? = (lc x.g)[j]? := by
  unfold rc
  rw [List.getElem?_append_right (by simp [rhead])]
  congr 1
  simp [rhead]
theorem xc_r (x : LX) (j : Nat) : (xc x)[2 + j]? = (rc x.r)[j]? := by
  unfold xc
  rw [List.getElem?_append_right (by simp)]
  congr 1
  simp
def xvs : List LX → List Value
  | [] => []
  | x :: l => xc x ++ xvs l
theorem xvs_len : ∀ l, (xvs l).length = l.length * 77
  | [] => rfl
  | g :: l => by simp only [xvs, List.length_append, xc_len, List.length_cons, xvs_len l]; omega
theorem xvs_app : ∀ a b, xvs (a ++ b) = xvs a ++ xvs b
  | [], b => rfl
  | g :: a, b => by simp [xvs, xvs_app a b]
theorem xvs_sing (g : LX) : xvs [g] = xc g := by simp [xvs]
theorem xvs_one : ∀ l, ∀ u ∈ xvs l, u.oneCell' = true
  | [], u, h => by simp [xvs] at h
  | g :: l, u, h => by
    simp only [xvs, List.mem_append] at h
    rcases h with h | h
    · exact xc_one g u h
    · exact xvs_one l u h
theorem xvs_at : ∀ (l : List LX) (j : Nat) (g : LX), l[j]? = some g → ∀ i, i < 77 → (xvs l)[j * 77 + i]? = (xc g)[i]?
  | [], j, g, h, i, hi => by simp at h
  | a :: l, 0, g, h, i, hi => by
    obtain rfl : a = g := by simpa using h
    simp only [xvs]
    rw [Nat.zero_mul, Nat.zero_add, List.getElem?_append_left (by rw [xc_len]; exact hi)]
  | a :: l, j + 1, g, h, i, hi => by
    have := xvs_at l j g (by simpa using h) i hi
    simp only [xvs]
    rw [List.getElem?_append_right (by rw [xc_len]; omega), xc_len, show (j + 1) * 77 + i - 77 = j * 77 + i by omega]
    exact this
theorem xvs_drop : ∀ (l : List LX) (k : Nat), (xvs l).drop (k * 77) = xvs (l.drop k)
  | [], k => by simp [xvs]
  | a :: l, 0 => by simp
  | a :: l, k + 1 => by
    simp only [xvs, List.drop_succ_cons]
    rw [show (k + 1) * 77 = (xc a).length + k * 77 by rw [xc_len]; omega, List.drop_append, List.drop_of_length_le (by omega), List.nil_append, Nat.add_sub_cancel_left, xvs_drop l k]
def svs (l : List ByteArray) : List Value := l.map Value.string
theorem svs_len (l : List ByteArray) : (svs l).length = l.length := by simp [svs]
theorem svs_app (a b : List ByteArray) : svs (a ++ b) = svs a ++ svs b := by simp [svs]
theorem svs_one (l : List ByteArray) : ∀ u ∈ svs l, u.oneCell' = true := by
  intro u hu
  simp only [svs, List.mem_map] at hu
  obtain ⟨z, _, rfl⟩ := hu
  rfl
end Rp
open Rp
/-- A row of texts. -/
structure Sr (w : World) (B : Nat) (A : Option Addr) (n : Nat) (zs : List ByteArray) : Prop where
  len : zs.length = n
  row : 0 < n → ∃ b off, A = some ⟨b, off, none⟩ ∧ b < B ∧ ∀ j z, zs[j]? = some z → w.cell? ⟨b, off + j, none⟩ = some (.string z)
section
variable {w w' : World} {B B' n : Nat} {A : Option Addr} {zs : List ByteArray}
theorem Sr.keep (h : Sr w B A n zs) (hk : ∀ p : Addr, p.block < B → w'.cell? p = w.cell? p) : Sr w' B A n zs :=
  ⟨h.len, fun hn => by
    obtain ⟨b, off, rfl, h1, hc⟩ := h.row hn
    exact ⟨b, off, rfl, h1, fun j z hz => (hk ⟨b, off + j, none⟩ h1).trans (hc j z hz)⟩⟩
theorem Sr.below (h : Sr w B A n zs) (hb : Below B' w w') (hB : B ≤ B') : Sr w' B A n zs := h.keep fun _ hp => (hb.mono hB).cell hp
theorem Sr.more (h : Sr w B A n zs) (hB : B ≤ B') : Sr w B' A n zs :=
  ⟨h.len, fun hn => by
    obtain ⟨b, off, rfl, hb, hc⟩ := h.row hn
    exact ⟨b, off, rfl, by omega, hc⟩⟩
theorem Sr.nil : Sr w B A 0 [] := ⟨rfl, fun h => absurd h (by omega)⟩
theorem Sr.at_ (h : Sr w B A n zs) {k : Nat} (hk : k < n) : ∃ b off z, A = some ⟨b, off, none⟩ ∧ b < B ∧ Hid (zs[k]? = some z) ∧ w.cell? ⟨b, off + k, none⟩ = some (.string z) := by
  obtain ⟨b, off, rfl, hb, hc⟩ := h.row (by omega)
  have hkl : k < zs.length := by rw [h.len]; exact hk
  have hg : zs[k]? = some zs[k] := List.getElem?_eq_getElem hkl
  exact ⟨b, off, zs[k], rfl, hb, hg, hc k _ hg⟩
theorem Sr.lies (h : Sr w B A n zs) : Lies w 1 A n (svs zs) ∧ Sourced A n := by
  refine ⟨⟨by rw [svs_len, h.len, Nat.mul_one], fun ad hA j u hu => ?_⟩, fun hA => ?_⟩
  · have hj : j < (svs zs).length := (List.getElem?_eq_some_iff.1 hu).1
    rw [svs_len, h.len] at hj
    obtain ⟨b, off, e, _, hc⟩ := h.row (by omega)
    rw [hA] at e; injection e with e; subst e
    rw [Go.WideShapes.add_plain]
    rw [svs, List.getElem?_map] at hu
    cases hz : zs[j]? with
    | none => rw [hz] at hu; cases hu
    | some z => rw [hz] at hu; injection hu with hu; subst hu; exact hc j z hz
  · rcases Nat.eq_zero_or_pos n with h0 | h0
    · exact h0
    · obtain ⟨b, off, e, _⟩ := h.row h0
      rw [hA] at e; cases e
end
theorem sr_of_own {w : World} {base n c : Nat} {t : TypeId} {A : Option Addr} {zs : List ByteArray} (h : w.ownsRow base t 1 (.slice A n c) n (svs zs)) : Sr w w.heap.size A n zs := by
  have hl : zs.length = n := by have := h.1; rw [svs_len] at this; omega
  refine ⟨hl, fun hn => ?_⟩
  obtain ⟨g, cap, hv, _, hlt⟩ := h.form hn
  have hA : A = some ⟨g, 0, none⟩ := by injection hv
  subst hA
  refine ⟨g, 0, rfl, hlt, fun j z hz => ?_⟩
  have := h.cells (g := g) rfl j (.string z) (by rw [svs, List.getElem?_map, hz]; rfl)
  rwa [← Go.WideShapes.add_plain]
theorem own_shapeA {w : World} {base n size : Nat} {t : TypeId} {v : Value} {xs : List Value} (h : w.ownsRow base t size v n xs) : ∃ A c, v = .slice A n c ∧ n ≤ c ∧ c ≤ maxLen := by
  rcases h.2 with ⟨rfl, rfl⟩ | ⟨g, cap, cur, rfl, _, _, h1, h2, _⟩
  · exact ⟨none, 0, rfl, Nat.le_refl _, by simp [maxLen]⟩
  · exact ⟨_, _, rfl, h1, h2⟩
/-- A reply whose keys stand below block B. -/
structure ROk (w : World) (B : Nat) (x : RX) : Prop where
  err : InA x.err
  n : InA x.n
  g : LOk x.g
  kc : x.kn ≤ x.kc
  km : x.kc ≤ maxLen
  ks : Sr w B x.A x.kn x.ks
structure XOk (w : World) (B : Nat) (x : LX) : Prop where
  c : InA x.c
  id : InA x.id
  r : ROk w B x.r
section
variable {w w' : World} {B B' : Nat} {x : RX} {y : LX}
theorem ROk.keep (h : ROk w B x) (hk : ∀ p : Addr, p.block < B → w'.cell? p = w.cell? p) : ROk w' B x := ⟨h.err, h.n, h.g, h.kc, h.km, h.ks.keep hk⟩
theorem ROk.below (h : ROk w B x) (hb : Below B' w w') (hB : B ≤ B') : ROk w' B x := h.keep fun _ hp => (hb.mono hB).cell hp
theorem ROk.more (h : ROk w B x) (hB : B ≤ B') : ROk w B' x := ⟨h.err, h.n, h.g, h.kc, h.km, h.ks.more hB⟩
theorem ROk.grow (h : ROk w B x) (hb : Below w.heap.size w w') (hB : B ≤ w.heap.size) : ROk w' w'.heap.size x := (h.below hb hB).more (Nat.le_trans hB hb.size)
theorem XOk.keep (h : XOk w B y) (hk : ∀ p : Addr, p.block < B → w'.cell? p = w.cell? p) : XOk w' B y := ⟨h.c, h.id, h.r.keep hk⟩
theorem XOk.below (h : XOk w B y) (hb : Below B' w w') (hB : B ≤ B') : XOk w' B y := ⟨h.c, h.id, h.r.below hb hB⟩
theorem XOk.more (h : XOk w B y) (hB : B ≤ B') : XOk w B' y := ⟨h.c, h.id, h.r.more hB⟩
theorem XOk.grow (h : XOk w B y) (hb : Below w.heap.size w w') (hB : B ≤ w.heap.size) : XOk w' w'.heap.size y := (h.below hb hB).more (Nat.le_trans hB hb.size)
end
theorem l0_ok : LOk l0 := ⟨by unfold InA l0; dsimp only; omega, by unfold InA l0; dsimp only; omega, by unfold l0; dsimp only; omega, by unfold InA l0; dsimp only; omega, by unfold InA l0; dsimp only; omega, by unfold InA l0; dsimp only; omega, by unfold InA l0; dsimp only; omega, rep_bytes 32 0 (by omega) (by omega), rep_bytes 32 0 (by omega) (by omega)⟩
theorem r0_ok (w : World) (B : Nat) : ROk w B r0 := ⟨by unfold InA r0; dsimp only; omega, by unfold InA r0; dsimp only; omega, l0_ok, Nat.le_refl _, by simp [r0, maxLen], Sr.nil⟩
theorem x0_ok (w : World) (B : Nat) : XOk w B x0 := ⟨by unfold InA x0; dsimp only; omega, by unfold InA x0; dsimp only; omega, r0_ok w B⟩
/-- The table that the slice at A holds; it, and its keys, read below block B. -/
structure Las (w : World) (B : Nat) (A : Option Addr) (n : Nat) (l : List LX) : Prop where
  len : l.length = n
  row : 0 < n → ∃ b off, A = some ⟨b, off, none⟩ ∧ b < B ∧ ∀ i u, (xvs l)[i]? = some u → w.cell? ⟨b, off + i, none⟩ = some u
  ok : ∀ x, x ∈ l → XOk w B x
section
variable {w w' : World} {B B' n : Nat} {A : Option Addr} {l : List LX}
theorem Las.keep (h : Las w B A n l) (hk : ∀ p : Addr, p.block < B → w'.cell? p = w.cell? p) : Las w' B A n l :=
  ⟨h.len, fun hn => by
    obtain ⟨b, off, rfl, hb, hc⟩ := h.row hn
    exact ⟨b, off, rfl, hb, fun i u hu => (hk ⟨b, off + i, none⟩ hb).trans (hc i u hu)⟩, fun x hx => (h.ok x hx).keep hk⟩
theorem Las.below (h : Las w B A n l) (hb : Below B' w w') (hB : B ≤ B') : Las w' B A n l := h.keep fun _ hp => (hb.mono hB).cell hp
theorem Las.more (h : Las w B A n l) (hB : B ≤ B') : Las w B' A n l :=
  ⟨h.len, fun hn => by
    obtain ⟨b, off, rfl, hb, hc⟩ := h.row hn
    exact ⟨b, off, rfl, by omega, hc⟩, fun x hx => (h.ok x hx).more hB⟩
theorem Las.grow (h : Las w B A n l) (hb : Below w.heap.size w w') (hB : B ≤ w.heap.size) : Las w' w'.heap.size A n l := (h.below hb hB).more (Nat.le_trans hB hb.size)
theorem Las.nil : Las w B A 0 [] := ⟨rfl, fun h => absurd h (by omega), fun g h => by simp at h⟩
theorem Las.at_ (h : Las w B A n l) {k : Nat} (hk : k < n) :
    ∃ b off x, A = some ⟨b, off, none⟩ ∧ b < B ∧ Hid (l[k]? = some x) ∧ XOk w B x ∧ w.rangeAt b (off + k * 77) (xc x) := by
  obtain ⟨b, off, rfl, hb, hc⟩ := h.row (by omega)
  have hl := h.len
  have hg : l[k]? = some l[k] := List.getElem?_eq_getElem (by omega)
  refine ⟨b, off, l[k], rfl, hb, hg, h.ok _ (List.getElem_mem ..), fun j v hv => ?_⟩
  have hj : j < 77 := by have := (List.getElem?_eq_some_iff.1 hv).1; rwa [xc_len] at this
  have := hc (k * 77 + j) v (by rw [xvs_at l k _ hg j hj]; exact hv)
  rwa [← Nat.add_assoc] at this
theorem Las.lies (h : Las w B A n l) : Lies w 77 A n (xvs l) ∧ Sourced A n := by
  refine ⟨⟨by rw [xvs_len, h.len], fun ad hA j u hu => ?_⟩, fun hA => ?_⟩
  · have hj : j < (xvs l).length := (List.getElem?_eq_some_iff.1 hu).1
    rw [xvs_len, h.len] at hj
    obtain ⟨b, off, e, _, hc⟩ := h.row (by omega)
    rw [hA] at e; injection e with e; subst e
    rw [Go.WideShapes.add_plain]
    exact hc j u hu
  · rcases Nat.eq_zero_or_pos n with h0 | h0
    · exact h0
    · obtain ⟨b, off, e, _⟩ := h.row h0
      rw [hA] at e; cases e
theorem Las.front (h : Las w B A n l) (k : Nat) (hk : k ≤ n) : Las w B A k (l.take k) :=
  ⟨by rw [List.length_take, h.len]; omega, fun h0 => by
    obtain ⟨b, off, rfl, hb, hc⟩ := h.row (by omega)
    refine ⟨b, off, rfl, hb, fun i u hu => hc i u ?_⟩
    have e : xvs l = xvs (l.take k) ++ xvs (l.drop k) := by rw [← xvs_app, List.take_append_drop]
    rw [e, List.getElem?_append_left (List.getElem?_eq_some_iff.1 hu).1]
    exact hu, fun g hg => h.ok g (List.mem_of_mem_take hg)⟩
theorem Las.back (h : Las w B A n l) (k : Nat) (hk : k ≤ n) (T : Option Addr) (hT : 0 < n - k → T = A.map fun x => x.add (k * 77)) : Las w B T (n - k) (l.drop k) :=
  ⟨by rw [List.length_drop, h.len], fun h0 => by
    obtain ⟨b, off, rfl, hb, hc⟩ := h.row (by omega)
    refine ⟨b, off + k * 77, by rw [hT h0, Option.map_some, Go.WideShapes.add_plain], hb, fun i u hu => ?_⟩
    have := hc (k * 77 + i) u (by rw [← List.getElem?_drop, xvs_drop]; exact hu)
    rwa [← Nat.add_assoc] at this, fun g hg => h.ok g (List.mem_of_mem_drop hg)⟩
end
/-- Every row of its own reads as a table. -/
theorem las_of_own {w : World} {base c n : Nat} {t : TypeId} {A : Option Addr} {l : List LX} (h : w.ownsRow base t 77 (.slice A n c) n (xvs l)) (hok : ∀ x, x ∈ l → XOk w w.heap.size x) : Las w w.heap.size A n l := by
  have hl : l.length = n := by have := h.1; rw [xvs_len] at this; omega
  refine ⟨hl, fun hn => ?_, hok⟩
  obtain ⟨g, cap, hv, _, hlt⟩ := h.form hn
  have hA : A = some ⟨g, 0, none⟩ := by injection hv
  subst hA
  refine ⟨g, 0, rfl, hlt, fun j u hu => ?_⟩
  have := h.cells (g := g) rfl j u hu
  rwa [← Go.WideShapes.add_plain]
/-- What the parts of it read as, wherever it stands. -/
theorem rng_x {w : World} {b o : Nat} {x : LX} (h : w.rangeAt b o (xc x)) : w.cell? ⟨b, o, none⟩ = some (.int .i64 x.c) ∧ w.cell? ⟨b, o + 1, none⟩ = some (.int .i64 x.id) ∧ w.rangeAt b (o + 2) (rc x.r) :=
  ⟨h 0 _ rfl, h 1 _ rfl, fun j v hv => by
    have := h (2 + j) v (by rw [xc_r]; exact hv)
    rwa [← Nat.add_assoc] at this⟩
theorem rng_r {w : World} {b o : Nat} {x : RX} (h : w.rangeAt b o (rc x)) : w.cell? ⟨b, o, none⟩ = some (.int .i64 x.err) ∧ w.cell? ⟨b, o + 1, none⟩ = some (.string x.val) ∧ w.cell? ⟨b, o + 2, none⟩ = some (.slice x.A x.kn x.kc) ∧ w.cell? ⟨b, o + 3, none⟩ = some (.int .i64 x.n) ∧ w.rangeAt b (o + 4) (lc x.g) :=
  ⟨h 0 _ rfl, h 1 _ rfl, h 2 _ rfl, h 3 _ rfl, fun j v hv => by
    have := h (4 + j) v (by rw [rc_g]; exact hv)
    rwa [← Nat.add_assoc] at this⟩
theorem r_size (x : RX) : (Try.prog.info? 46).map (·.size) = some (rc x).length := by rw [rc_len]; kernel_rfl
theorem r_sizeA (x : RX) : (Try.prog.info? 46).map (·.size) = some (rc x).toArray.size := by rw [List.size_toArray]; exact r_size x
theorem r_oneA (x : RX) : (rc x).toArray.all (·.oneCell') = true := all_oneCell_toArray (rc_one x)
theorem x_oneA (x : LX) : (xc x).toArray.all (·.oneCell') = true := all_oneCell_toArray (xc_one x)
/-- New variables' cells. -/
def zR : Array Value := (rc r0).toArray
def zX : Array Value := (xc x0).toArray
theorem zR_size : zR.size = 75 := by unfold zR; rw [List.size_toArray, rc_len]
theorem zR_ne : ¬ zR = #[] := fun h => by have := zR_size; rw [h] at this; simp at this
theorem zX_size : zX.size = 77 := by unfold zX; rw [List.size_toArray, xc_len]
theorem zX_ne : ¬ zX = #[] := fun h => by have := zX_size; rw [h] at this; simp at this
theorem zRk (w : World) : (zeroValue 46).run Try.prog w = .ok (.agg zR) w := by
  obtain ⟨i, hi, hz, hs, hb⟩ := info_parts (show (Try.prog.info? 46).map (fun i => (i.zero, i.size, i.bytes)) = some (some (.agg (rc r0).toArray), 75, 176) by kernel_rfl)
  simp [zeroValue, run_typeInfo w hi, hz, zR]
/-- A variable of the call's own: its block holds those cells from its head on, and may be stored into. -/
structure VBox (w : World) (b : Nat) (k : Nat) (cs : List Value) : Prop where
  range : w.rangeAt b 0 cs
  there : w.there b 0 k
  len : cs.length = k
  pos : 0 < k
section
variable {w w' : World} {B b k : Nat} {cs : List Value}
theorem VBox.same (h : VBox w b k cs) (e : w'.heap[b]? = w.heap[b]?) : VBox w' b k cs := ⟨rangeAt_same h.range e, there_same h.there e, h.len, h.pos⟩
theorem VBox.lt (h : VBox w b k cs) : b < w.heap.size := by
  have hp := h.pos
  have hl := h.len
  have := h.range 0 cs[0] (List.getElem?_eq_getElem (by omega))
  exact World.block_lt_of_cell? _ _ this
theorem VBox.below (h : VBox w b k cs) (hb : Below B w w') (hB : b < B) : VBox w' b k cs := h.same (hb.block b hB)
theorem VBox.grow (h : VBox w b k cs) (hb : Below w.heap.size w w') : VBox w' b k cs := h.below hb h.lt
theorem VBox.store {us : List Value} (h : VBox w b k cs) (hu : us.length = k) (e : Hid (w' = w.setCells b 0 us)) : VBox w' b k us :=
  ⟨by rw [e.out]; exact World.rangeAt_setCells_same _ _ _ _ (by rw [hu]; exact h.there), by rw [e.out]; exact World.there_setCells h.there _ _ _, hu, h.pos⟩
end
theorem vbox_new (w : World) (cs : List Value) (y : TypeId) (g k : Nat) (hg : w.heap.size = g) (hk : cs.length = k) (h0 : 0 < k) : VBox (w.alloc (.cells cs.toArray y)) g k cs := by
  subst hg
  have e := heap_alloc_new w (.cells cs.toArray y)
  refine ⟨fun j v hv => ?_, fun j hj => ⟨?_, frozen_of_row _ _ _ _ _ e⟩, hk, h0⟩
  · rw [cell_of_row _ _ _ _ _ _ e, Nat.zero_add, List.getElem?_toArray, hv]
  · rw [cell_of_row _ _ _ _ _ _ e, Nat.zero_add, List.getElem?_toArray, List.getElem?_eq_getElem (by rw [hk]; exact hj)]; rfl
theorem below_one (w : World) (o : Obj) : Below w.heap.size w (w.alloc o) := (Below.refl _ _).alloc (Nat.le_refl _) _
end Go.Proofs.Ytcgclaailhhbpaa
/- Which tables may be, plain; a client's place; what a note makes of a table. -/
namespace Go.Proofs.Ytcgclaailhhbpaa
set_option linter.unusedVariables false
set_option linter.unusedSimpArgs false
open Plain
namespace Rp
def askB (c id : Int) : Bool := decide (0 ≤ c) && decide (c < 4) && decide (1 ≤ id) && decide (id ≤ 1099511627776)
theorem askB_iff {c id : Int} : askB c id = true ↔ 0 ≤ c ∧ c < 4 ∧ 1 ≤ id ∧ id ≤ 1099511627776 := by
  unfold askB
  simp only [Bool.and_eq_true, decide_eq_true_eq]
  omega
/-- The first of n places of which that is so; n, if there is none. -/
structure IsF (p : Nat → Bool) (n pos : Nat) : Prop where
  le : pos ≤ n
  no : ∀ j, j < pos → p j = false
  yes : pos < n → p pos = true
theorem isF_ex (p : Nat → Bool) : ∀ n, ∃ pos, IsF p n pos
  | 0 => ⟨0, Nat.le_refl _, fun j h => absurd h (by omega), fun h => absurd h (by omega)⟩
  | n + 1 => by
    obtain ⟨pos, h⟩ := isF_ex p n
    rcases Nat.lt_or_ge pos n with h1 | h1
    · exact ⟨pos, by have := h.le; omega, h.no, fun _ => h.yes h1⟩
    · have e : pos = n := by have := h.le; omega
      subst e
      cases hp : p pos with
      | true => exact ⟨pos, by omega, h.no, fun _ => hp⟩
      | false => exact ⟨pos + 1, Nat.le_refl _, fun j hj => by
          rcases Nat.lt_or_ge j pos with h2 | h2
          · exact h.no j h2
          · rw [show j = pos by omega]; exact hp, fun h => absurd h (by omega)⟩
section
variable {α : Type} (C I : α → Int)
def wrongG (l : List α) (i : Nat) : Bool := ((l[i]?.map fun x => !askB (C x) (I x) || (decide (0 < i) && ((l[i - 1]?.map fun y => decide (C x ≤ C y)).getD false)))).getD false
def mayG (l : List α) : Bool := (List.range l.length).all fun i => !wrongG C I l i
def findG (l : List α) (c : Int) : Option α := l.find? fun x => C x == c
def insG (x : α) (l : List α) : List α := l.takeWhile (fun y => decide (C y < C x)) ++ x :: l.dropWhile (fun y => decide (C y ≤ C x))
def riseG : Int → List α → Bool
  | _, [] => true
  | p, x :: l => askB (C x) (I x) && decide (p < C x) && riseG (C x) l
variable {C I}
theorem wrong_at {l : List α} {i : Nat} {x : α} (h : l[i]? = some x) : wrongG C I l i = (!askB (C x) (I x) || (decide (0 < i) && ((l[i - 1]?.map fun y => decide (C x ≤ C y)).getD false))) := by
  unfold wrongG; rw [h]; rfl
theorem wrong_zero {l : List α} {x : α} (h : l[0]? = some x) : wrongG C I l 0 = !askB (C x) (I x) := by
  rw [wrong_at h]; simp
theorem wrong_more {l : List α} {i : Nat} {x y : α} (h : l[i]? = some x) (h0 : 0 < i) (hy : l[i - 1]? = some y) : wrongG C I l i = (!askB (C x) (I x) || decide (C x ≤ C y)) := by
  rw [wrong_at h, hy]; simp [h0]
theorem may_first {l : List α} {pos : Nat} (h : IsF (wrongG C I l) l.length pos) : mayG C I l = decide (pos = l.length) := by
  unfold mayG
  by_cases e : pos = l.length
  · rw [decide_eq_true e, List.all_eq_true]
    intro j hj
    rw [h.no j (by rw [List.mem_range] at hj; omega)]; rfl
  · rw [decide_eq_false e, List.all_eq_false]
    have hl : pos < l.length := by have := h.le; omega
    exact ⟨pos, List.mem_range.2 hl, by rw [h.yes hl]; simp⟩
theorem rise_iff : ∀ (l : List α) (p : Int), riseG C I p l = true ↔ ∀ (i : Nat) (x : α), l[i]? = some x → askB (C x) (I x) = true ∧ (i = 0 → p < C x) ∧ (0 < i → ∀ y, l[i - 1]? = some y → C y < C x)
  | [], p => by simp [riseG]
  | a :: l, p => by
    simp only [riseG, Bool.and_eq_true, decide_eq_true_eq, rise_iff l (C a)]
    constructor
    · rintro ⟨⟨h1, h2⟩, h3⟩ i x hx
      cases i with
      | zero => simp at hx; subst hx; exact ⟨h1, fun _ => h2, fun h => absurd h (by omega)⟩
      | succ i =>
        have hx' : l[i]? = some x := by simpa using hx
        obtain ⟨k1, k2, k3⟩ := h3 i x hx'
        refine ⟨k1, fun h => absurd h (by omega), fun _ y hy => ?_⟩
        rw [Nat.add_sub_cancel] at hy
        cases i with
        | zero => simp at hy; subst hy; exact k2 rfl
        | succ i => exact k3 (by omega) y (by simpa using hy)
    · intro h
      refine ⟨⟨(h 0 a rfl).1, (h 0 a rfl).2.1 rfl⟩, fun i x hx => ?_⟩
      obtain ⟨k1, k2, k3⟩ := h (i + 1) x (by simpa using hx)
      refine ⟨k1, fun h0 => ?_, fun h0 y hy => ?_⟩
      · subst h0; exact k3 (by omega) a rfl
      · refine k3 (by omega) y ?_
        rw [Nat.add_sub_cancel]
        obtain ⟨i', rfl⟩ : ∃ i', i = i' + 1 := ⟨i - 1, by omega⟩
        simpa using hy
theorem may_rise (l : List α) : mayG C I l = riseG C I (-1) l := by
  rw [Bool.eq_iff_iff, rise_iff]
  unfold mayG
  rw [List.all_eq_true]
  constructor
  · intro h i x hx
    have hi : i < l.length := (List.getElem?_eq_some_iff.1 hx).1
    have hw := h i (List.mem_range.2 hi)
    rw [wrong_at hx] at hw
    simp only [Bool.not_or, Bool.not_not, Bool.and_eq_true, Bool.not_and, Bool.or_eq_true, Bool.not_eq_true', decide_eq_false_iff_not] at hw
    refine ⟨hw.1, fun _ => ?_, fun h0 y hy => ?_⟩
    · have := (askB_iff.1 hw.1).1; omega
    · rcases hw.2 with h2 | h2
      · omega
      · rw [hy] at h2
        simpa using h2
  · intro h i hi
    rw [List.mem_range] at hi
    have hx : l[i]? = some l[i] := List.getElem?_eq_getElem hi
    obtain ⟨k1, k2, k3⟩ := h i _ hx
    rw [wrong_at hx, k1]
    rcases Nat.eq_zero_or_pos i with h0 | h0
    · simp [h0]
    · have hy : l[i - 1]? = some l[i - 1] := List.getElem?_eq_getElem (by omega)
      have := k3 h0 _ hy
      rw [hy]
      simp [h0]
      omega
theorem rise_lo : ∀ {l : List α} {p q : Int}, riseG C I p l = true → q ≤ p → riseG C I q l = true
  | [], _, _, _, _ => rfl
  | a :: l, p, q, h, hq => by
    simp only [riseG, Bool.and_eq_true, decide_eq_true_eq] at h ⊢
    exact ⟨⟨h.1.1, by omega⟩, h.2⟩
theorem rise_mem : ∀ {l : List α} {p : Int}, riseG C I p l = true → ∀ x, x ∈ l → askB (C x) (I x) = true ∧ p < C x
  | [], _, _, x, hx => by simp at hx
  | a :: l, p, h, x, hx => by
    simp only [riseG, Bool.and_eq_true, decide_eq_true_eq] at h
    rcases List.mem_cons.1 hx with rfl | hx
    · exact ⟨h.1.1, h.1.2⟩
    · obtain ⟨k1, k2⟩ := rise_mem h.2 x hx
      exact ⟨k1, by omega⟩
theorem rise_len : ∀ {l : List α} {p : Int}, riseG C I p l = true → -1 ≤ p → (l.length : Int) ≤ 3 - p ∨ l = []
  | [], _, _, _ => .inr rfl
  | a :: l, p, h, hp => by
    simp only [riseG, Bool.and_eq_true, decide_eq_true_eq] at h
    have h1 := askB_iff.1 h.1.1
    rcases rise_len h.2 (by omega) with h2 | h2
    · exact .inl (by simp only [List.length_cons]; omega)
    · subst h2; exact .inl (by simp only [List.length_cons, List.length_nil]; omega)
theorem may_len {l : List α} (h : mayG C I l = true) : l.length ≤ 4 := by
  rw [may_rise] at h
  rcases rise_len h (by omega) with h | h
  · omega
  · subst h; simp
theorem find_none {l : List α} {p : Int} (h : riseG C I p l = true) {c : Int} (hc : c ≤ p) : findG C l c = none := by
  unfold findG
  rw [List.find?_eq_none]
  intro x hx
  have := (rise_mem h x hx).2
  simp
  omega
theorem find_cons (a : α) (l : List α) (c : Int) : findG C (a :: l) c = if C a = c then some a else findG C l c := by
  unfold findG
  rw [List.find?_cons]
  by_cases h : C a = c
  · simp [h]
  · have : (C a == c) = false := by simpa using h
    rw [this, if_neg h]
theorem find_c {l : List α} {c : Int} {x : α} (h : findG C l c = some x) : C x = c ∧ x ∈ l := by
  unfold findG at h
  exact ⟨by simpa using List.find?_some h, List.mem_of_find?_eq_some h⟩
theorem ins_nil (x : α) : insG C x [] = [x] := rfl
theorem ins_cons (x a : α) (l : List α) : insG C x (a :: l) = if C a < C x then a :: insG C x l else x :: (a :: l).dropWhile (fun y => decide (C y ≤ C x)) := by
  unfold insG
  by_cases h : C a < C x
  · simp [h, show C a ≤ C x by omega]
  · simp [h]
theorem drop_ins {x : α} : ∀ {l : List α} {p : Int}, riseG C I p l = true → C x ≤ p → l.dropWhile (fun y => decide (C y ≤ C x)) = l
  | [], _, _, _ => rfl
  | a :: l, p, h, hp => by
    simp only [riseG, Bool.and_eq_true, decide_eq_true_eq] at h
    rw [List.dropWhile_cons, if_neg]
    simp
    omega
theorem ins_at {x a : α} {l : List α} {p : Int} (h : riseG C I p (a :: l) = true) : insG C x (a :: l) = if C a < C x then a :: insG C x l else if C a = C x then x :: l else x :: a :: l := by
  rw [ins_cons]
  have h' := h
  simp only [riseG, Bool.and_eq_true, decide_eq_true_eq] at h'
  by_cases h1 : C a < C x
  · rw [if_pos h1, if_pos h1]
  · rw [if_neg h1, if_neg h1]
    by_cases h2 : C a = C x
    · rw [if_pos h2, List.dropWhile_cons, if_pos (by simp; omega), drop_ins h'.2 (by omega)]
    · rw [if_neg h2, List.dropWhile_cons, if_neg (by simp; omega)]
theorem ins_rise {x : α} (hx : askB (C x) (I x) = true) : ∀ {l : List α} {p : Int}, riseG C I p l = true → p < C x → riseG C I p (insG C x l) = true
  | [], p, _, hp => by simp [insG, riseG, hx, hp]
  | a :: l, p, h, hp => by
    rw [ins_at h]
    have h' := h
    simp only [riseG, Bool.and_eq_true, decide_eq_true_eq] at h'
    by_cases h1 : C a < C x
    · rw [if_pos h1]
      simp only [riseG, Bool.and_eq_true, decide_eq_true_eq]
      exact ⟨h'.1, ins_rise hx h'.2 h1⟩
    · rw [if_neg h1]
      by_cases h2 : C a = C x
      · rw [if_pos h2]
        simp only [riseG, Bool.and_eq_true, decide_eq_true_eq]
        exact ⟨⟨hx, hp⟩, by rw [← h2]; exact h'.2⟩
      · rw [if_neg h2]
        simp only [riseG, Bool.and_eq_true, decide_eq_true_eq]
        exact ⟨⟨hx, hp⟩, ⟨h'.1.1, by omega⟩, h'.2⟩
theorem ins_may {x : α} {l : List α} (hx : askB (C x) (I x) = true) (h : mayG C I l = true) : mayG C I (insG C x l) = true := by
  rw [may_rise] at h ⊢
  exact ins_rise hx h (by have := (askB_iff.1 hx).1; omega)
theorem ins_find {x : α} (d : Int) : ∀ {l : List α} {p : Int}, riseG C I p l = true → findG C (insG C x l) d = if C x = d then some x else findG C l d
  | [], _, _ => by rw [ins_nil, find_cons]
  | a :: l, p, h => by
    rw [ins_at h]
    have h' := h
    simp only [riseG, Bool.and_eq_true, decide_eq_true_eq] at h'
    by_cases h1 : C a < C x
    · rw [if_pos h1, find_cons, ins_find d h'.2, find_cons]
      by_cases h2 : C a = d
      · rw [if_pos h2, if_pos h2, if_neg (by omega)]
      · rw [if_neg h2, if_neg h2]
    · rw [if_neg h1]
      by_cases h2 : C a = C x
      · rw [if_pos h2, find_cons, find_cons]
        by_cases h3 : C x = d
        · rw [if_pos h3, if_pos h3]
        · rw [if_neg h3, if_neg h3, if_neg (by omega)]
      · rw [if_neg h2, find_cons]
/-- The document's way: by clients. -/
def docG (x : α) (l : List α) (k : Nat) : List α := if (k : Int) = C x then [x] else (findG C l k).toList
def docF (x : α) (l : List α) : Nat → Nat → List α
  | 0, _ => []
  | m + 1, k => docG (C := C) x l k ++ docF x l m (k + 1)
theorem doc_tail {x a : α} {l : List α} : ∀ (m k : Nat), C a < (k : Int) → docF (C := C) x (a :: l) m k = docF (C := C) x l m k
  | 0, _, _ => rfl
  | m + 1, k, h => by
    simp only [docF, docG]
    rw [find_cons, if_neg (show ¬ C a = (k : Int) by omega), doc_tail m (k + 1) (by omega)]
theorem doc_behind {x : α} : ∀ (m k : Nat) {l : List α}, riseG C I ((k : Int) - 1) l = true → k + m = 4 → C x < (k : Int) → docF (C := C) x l m k = l
  | 0, k, [], _, _, _ => rfl
  | 0, k, a :: l, h, hk, _ => by
    simp only [riseG, Bool.and_eq_true, decide_eq_true_eq] at h
    have := askB_iff.1 h.1.1
    omega
  | m + 1, k, [], h, hk, hx => by
    simp only [docF, docG]
    rw [if_neg (by omega), doc_behind m (k + 1) (l := []) rfl (by omega) (by omega)]; rfl
  | m + 1, k, a :: l, h, hk, hx => by
    have h' := h
    simp only [riseG, Bool.and_eq_true, decide_eq_true_eq] at h'
    simp only [docF, docG]
    rw [if_neg (by omega), find_cons]
    by_cases h1 : C a = (k : Int)
    · rw [if_pos h1, doc_tail m (k + 1) (by omega), doc_behind m (k + 1) (l := l) (by rw [show ((k + 1 : Nat) : Int) - 1 = C a by omega]; exact h'.2) (by omega) (by omega)]; rfl
    · rw [if_neg h1, find_none h'.2 (by omega), doc_behind m (k + 1) (l := a :: l) (by
        simp only [riseG, Bool.and_eq_true, decide_eq_true_eq]
        exact ⟨⟨h'.1.1, by omega⟩, h'.2⟩) (by omega) (by omega)]; rfl
theorem doc_ins {x : α} (hx : C x < 4) : ∀ (m k : Nat) {l : List α}, riseG C I ((k : Int) - 1) l = true → k + m = 4 → (k : Int) ≤ C x → docF (C := C) x l m k = insG C x l
  | 0, k, l, h, hk, h2 => by omega
  | m + 1, k, [], h, hk, h2 => by
    simp only [docF, docG]
    by_cases h1 : (k : Int) = C x
    · rw [if_pos h1, doc_behind m (k + 1) (l := []) (I := I) rfl (by omega) (by omega)]; rfl
    · rw [if_neg h1, doc_ins hx m (k + 1) (l := []) rfl (by omega) (by omega)]; rfl
  | m + 1, k, a :: l, h, hk, h2 => by
    have h' := h
    simp only [riseG, Bool.and_eq_true, decide_eq_true_eq] at h'
    rw [ins_at h]
    simp only [docF, docG]
    have hh : riseG C I (((k + 1 : Nat) : Int) - 1) l = true := rise_lo h'.2 (by omega)
    by_cases h1 : (k : Int) = C x
    · rw [if_pos h1, if_neg (by omega)]
      by_cases h3 : C a = C x
      · rw [if_pos h3, doc_tail m (k + 1) (by omega), doc_behind m (k + 1) hh (by omega) (by omega)]; rfl
      · rw [if_neg h3, doc_behind m (k + 1) (l := a :: l) (I := I) (by
          simp only [riseG, Bool.and_eq_true, decide_eq_true_eq]
          exact ⟨⟨h'.1.1, by omega⟩, h'.2⟩) (by omega) (by omega)]; rfl
    · rw [if_neg h1, find_cons]
      by_cases h3 : C a = (k : Int)
      · rw [if_pos h3, if_pos (by omega), doc_tail m (k + 1) (by omega), doc_ins hx m (k + 1) hh (by omega) (by omega)]; rfl
      · rw [if_neg h3, find_none h'.2 (by omega), doc_ins hx m (k + 1) (l := a :: l) (by
          simp only [riseG, Bool.and_eq_true, decide_eq_true_eq]
          exact ⟨⟨h'.1.1, by omega⟩, h'.2⟩) (by omega) (by omega), ins_at h]; rfl
/-- A row is cut where that is first so. -/
theorem cut_take {q : α → Bool} : ∀ (l : List α) (pos : Nat), (∀ j x, j < pos → l[j]? = some x → q x = true) → (∀ x, l[pos]? = some x → q x = false) → pos ≤ l.length → l.take pos = l.takeWhile q ∧ l.drop pos = l.dropWhile q
  | [], pos, _, _, _ => by simp
  | a :: l, 0, _, h2, _ => by
    have := h2 a rfl
    simp [this]
  | a :: l, pos + 1, h1, h2, h3 => by
    have ha := h1 0 a (by omega) rfl
    obtain ⟨k1, k2⟩ := cut_take l pos (fun j x hj hx => h1 (j + 1) x (by omega) (by simpa using hx)) (fun x hx => h2 x (by simpa using hx)) (by simpa using h3)
    simp [ha, k1, k2]
theorem find_first {l : List α} {c : Int} {pos : Nat} (h : IsF (fun j => (l[j]?.map fun x => decide (C x = c)).getD false) l.length pos) : findG C l c = l[pos]? := by
  have key : ∀ (l : List α) (pos : Nat), pos ≤ l.length → (∀ j, j < pos → ((l[j]?.map fun x => decide (C x = c)).getD false) = false) → (pos < l.length → ((l[pos]?.map fun x => decide (C x = c)).getD false) = true) → findG C l c = l[pos]? := by
    intro l
    induction l with
    | nil => intro pos h _ _; simp [findG]
    | cons a l ih =>
      intro pos h1 h2 h3
      rw [find_cons]
      cases pos with
      | zero =>
        have := h3 (by simp)
        simp at this
        rw [if_pos this]; rfl
      | succ pos =>
        have := h2 0 (by omega)
        simp at this
        rw [if_neg this, ih pos (by simpa using h1) (fun j hj => by simpa using h2 (j + 1) (by omega)) (fun hl => by simpa using h3 (by simpa using hl))]
        simp
  exact key l pos h.le h.no h.yes
end
/-- The same of what is plain of a table. -/
theorem may_z (l : List LX) : mayG LastZ.c LastZ.id (l.map LX.z) = mayG LX.c LX.id l := by
  unfold mayG wrongG
  simp only [List.length_map, List.getElem?_map, Option.map_map]
  rfl
theorem find_z (l : List LX) (c : Int) : findG LastZ.c (l.map LX.z) c = (findG LX.c l c).map LX.z := by
  unfold findG
  rw [List.find?_map]
  rfl
theorem ins_z (x : LX) (l : List LX) : (insG LX.c x l).map LX.z = insG LastZ.c x.z (l.map LX.z) := by
  unfold insG
  rw [List.map_append, List.map_cons, List.takeWhile_map, List.dropWhile_map]
  rfl
end Rp
end Go.Proofs.Ytcgclaailhhbpaa
/- Which clients and ids may be; the closures; the first place; May. -/
namespace Go.Proofs.Ytcgclaailhhbpaa
open Go.ChangeShapes Go.WideShapes Go.ChangeAt Go.RowKit
set_option linter.unusedVariables false
set_option linter.unusedSimpArgs false
open Plain Sha Au Rp
theorem drewN_zero (w : World) : w = w.drewN 0 := rfl
end Go.Proofs.Ytcgclaailhhbpaa
/- The first place of which a closure tells that it is so. -/
namespace Go.Proofs.Ytcgclaailhhbpaa
open Go.ChangeShapes Go.WideShapes Go.ChangeAt Go.RowKit
set_option linter.unusedVariables false
set_option linter.unusedSimpArgs false
open Plain Sha Au Rp
theorem quiet_rel {P : Program} {f : FuncId} {args : Array Value} {w : World} {n : Nat} {v : Value} (h : ∀ m, Calls P f args (w.drewN m) (Quiet v (w.drewN m))) : Calls P f args (w.drewN n) fun e w' => e = .returned v ∧ ∃ m, w' = w.drewN m :=
  (h n).mono fun _ _ ⟨he, m, hm⟩ => ⟨he, n + m, by rw [hm, World.drewN_drewN]⟩
theorem quiet_rel_add {P : Program} {f : FuncId} {args : Array Value} {w : World} {a n : Nat} {v : Value} (h : ∀ m, Calls P f args (w.drewN m) (Quiet v (w.drewN m))) : Calls P f args (w.drewN (a + n)) fun e w'' => e = .returned v ∧ ∃ m, w'' = w.drewN (a + m) :=
  (h (a + n)).mono fun _ _ ⟨he, m, hm⟩ => ⟨he, n + m, by rw [hm, World.drewN_drewN, Nat.add_assoc]⟩
theorem quiet_down {P : Program} {f : FuncId} {args : Array Value} {w : World} {v : Value} {m : Nat} (h : ∀ m, Calls P f args (w.drewN m) (Quiet v (w.drewN m))) (k : Nat) : Calls P f args ((w.drewN m).drewN k) (Quiet v ((w.drewN m).drewN k)) := by
  rw [World.drewN_drewN]; exact h _
theorem Quiet.belowQ {v : Value} {w w' : World} {e : Ending} (h : Quiet v w e w') : e = .returned v ∧ Below w.heap.size w w' := by
  obtain ⟨h1, m, h2⟩ := h
  subst h2
  exact ⟨h1, below_drewN (Below.refl _ _) m⟩
end Go.Proofs.Ytcgclaailhhbpaa
/- What a client was told last: the program's, the document's. -/
namespace Go.Proofs.Ytcgclaailhhbpaa
open Go.ChangeShapes Go.WideShapes Go.ChangeAt Go.RowKit
set_option linter.unusedVariables false
set_option linter.unusedSimpArgs false
open Plain Sha Au Rp
theorem vthere {w : World} {b : Nat} {cs : List Value} {k : Nat} (h : VBox w b k cs) {us : List Value} (hu : us.length = k) : w.there b 0 us.toArray.size := by rw [List.size_toArray, hu]; exact h.there
theorem vstored {B : Nat} {a w w' : World} {b k : Nat} {cs us : List Value} (h : VBox w b k cs) (hu : us.length = k) (hw : Hid (w' = w.setCells b 0 us.toArray.toList)) (hb : B ≤ b) (h0 : Below B a w) : VBox w' b k us ∧ Below B a w' :=
  ⟨h.store hu hw, by rw [hw.out]; exact below_setCells hb _ _ _ h0⟩
theorem results_mid_tmp2 {P : Program} {fn : Func} {p u v : Tmp} {ty : TypeId} (h : fn.results = #[.cell p ty, .tmp u, .tmp v]) (tmps : Array Value) (w : World) (b o : Nat) (cs : List Value) (d : TypeDesc)
    (hp : tmps.getD p undef = .pointer (some ⟨b, o, none⟩)) (hc : w.rangeAt b o cs) (hu : P.underlying ty = some d) (hd : d.isRow = true) (hi : (P.info? ty).map (·.size) = some cs.length) :
    (results fn tmps).run P w = .ok (.tuple #[.agg cs.toArray, tmps.getD u undef, tmps.getD v undef]) w := by
  have hp' : tmps[p]?.getD undef = .pointer (some ⟨b, o, none⟩) := by simpa using hp
  simp [results, h, hp', asAddr, run_loadVar_mid w b o ty cs d hc hu hd hi]
theorem find_of {l : List LX} {t : Int} {n pos : Nat} (hl : l.length = n) (h : IsF (fun j => (l[j]?.map fun x => decide (x.c = t)).getD false) n pos) : findG LX.c l t = l[pos]? := by
  subst hl; exact find_first h
/-- What a client was told last, if anything. -/
def lastX (l : List LX) (t : Int) : LX := (findG LX.c l t).getD x0
theorem xc_at1 (x : LX) : (xc x).toArray[1]? = some (.int .i64 x.id) := rfl
end Go.Proofs.Ytcgclaailhhbpaa
/- Texts held against each other, copied; a reply with its keys in new memory. -/
namespace Go.Proofs.Ytcgclaailhhbpaa
open Go.ChangeShapes Go.WideShapes Go.ChangeAt Go.RowKit
set_option linter.unusedVariables false
set_option linter.unusedSimpArgs false
open Plain Sha Au Rp
theorem toList_inj {x y : ByteArray} (h : x.toList = y.toList) : x = y := by
  rw [ByteArray.toList_eq, ByteArray.toList_eq] at h
  exact ByteArray.ext (Array.toList_inj.mp h)
theorem seq_of (x y : ByteArray) : (x.toList == y.toList) = decide (x = y) := by
  by_cases e : x = y
  · subst e; simp
  · rw [decide_eq_false e, beq_eq_false_iff_ne]; exact fun h => e (toList_inj h)
theorem own_keepB {w w' : World} {base n size : Nat} {t : TypeId} {v : Value} {xs : List Value} (h : w.ownsRow base t size v n xs) (hk : ∀ g, base ≤ g → g < w.heap.size → w'.heap[g]? = w.heap[g]?) : w'.ownsRow base t size v n xs := by
  have hlt := h.lt
  obtain ⟨h1, h2 | ⟨g, cap, cur, rfl, hg, hh, h3⟩⟩ := h
  · exact ⟨h1, .inl h2⟩
  · have := hlt g rfl
    exact ⟨h1, .inr ⟨g, cap, cur, rfl, hg, (hk g this.1 this.2).trans hh, h3⟩⟩
theorem own_from {w : World} {base base' n size : Nat} {t : TypeId} {v : Value} {xs : List Value} (h : w.ownsRow base t size v n xs) (hk : base' ≤ base) : w.ownsRow base' t size v n xs := by
  obtain ⟨h1, h2 | ⟨g, cap, cur, rfl, hg, hh, h3⟩⟩ := h
  · exact ⟨h1, .inl h2⟩
  · exact ⟨h1, .inr ⟨g, cap, cur, rfl, by omega, hh, h3⟩⟩
theorem heap_setCell (w : World) (b k j : Nat) (v : Value) (h : j ≠ b) : (w.setCell ⟨b, k, none⟩ v).heap[j]? = w.heap[j]? := Below.heap_setCell _ _ _ _ h
/-- A row of texts that a call makes. -/
def MadeT (w : World) (n : Nat) (zs : List ByteArray) (e : Ending) (w' : World) : Prop :=
  ∃ D d, e = .returned (.slice D n d) ∧ w'.ownsRow w.heap.size 9 1 (.slice D n d) n (svs zs) ∧ Below w.heap.size w w'
theorem own_noneS (w : World) (base : Nat) (hb : base ≤ w.heap.size) : (w.alloc (.cells #[] 9)).ownsRow base 9 1 (.slice (some ⟨w.heap.size, 0, none⟩) 0 0) 0 (svs []) :=
  World.ownsRow_lit w #[] 0 hb (by simp [maxLen]) rfl
theorem str_info : ∃ i z, Try.prog.info? 9 = some i ∧ i.zero = some z ∧ i.size = 1 ∧ i.bytes = 16 ∧ z.cells.size = 1 := by
  obtain ⟨i, hi, hz, hs, hb⟩ := info_parts (show (Try.prog.info? 9).map (fun i => (i.zero, i.size, i.bytes)) = some (some (.string ByteArray.empty), 1, 16) by kernel_rfl)
  exact ⟨i, _, hi, hz, hs, hb, rfl⟩
/-- A reply that a call hands back, its keys in new memory. -/
def CopyX (x : RX) (D : Option Addr) (d : Nat) : RX := { x with A := D, kc := d }
def MadeR (w : World) (x : RX) (e : Ending) (w' : World) : Prop :=
  ∃ D d, e = .returned (.agg (rc (CopyX x D d)).toArray) ∧ w'.ownsRow w.heap.size 9 1 (.slice D x.kn d) x.kn (svs x.ks) ∧ Below w.heap.size w w'
theorem rc_set (x : RX) (D : Option Addr) (d : Nat) : (rc x).set 2 (.slice D x.kn d) = rc (CopyX x D d) := by
  unfold rc rhead CopyX
  simp
theorem VBox.setK {w : World} {b : Nat} {x : RX} {D : Option Addr} {d : Nat} (h : VBox w b 75 (rc x)) : VBox (w.setCell ⟨b, 2, none⟩ (.slice D x.kn d)) b 75 (rc (CopyX x D d)) := by
  have e : w.setCell ⟨b, 2, none⟩ (.slice D x.kn d) = w.setCells b 2 [.slice D x.kn d] := rfl
  refine ⟨fun j v hv => ?_, by rw [e]; exact World.there_setCells h.there _ _ _, rc_len _, h.pos⟩
  rw [← rc_set, List.getElem?_set] at hv
  rw [e]
  by_cases hj : 2 = j
  · subst hj
    rw [if_pos rfl, if_pos (by rw [rc_len]; omega)] at hv
    injection hv with hv
    subst hv
    exact World.rangeAt_setCells_same w b 2 [.slice D x.kn d] (there_sub h.there (by omega) (by simp)) 0 _ rfl
  · rw [if_neg hj] at hv
    rw [World.cell?_setCells_out b [.slice D x.kn d] 2 w ⟨b, 0 + j, none⟩ (fun _ _ => by
      show 0 + j < 2 ∨ 2 + 1 ≤ 0 + j
      omega)]
    exact h.range j v hv
end Go.Proofs.Ytcgclaailhhbpaa
/- Two replies held against each other: the program's. -/
namespace Go.Proofs.Ytcgclaailhhbpaa
open Go.ChangeShapes Go.WideShapes Go.ChangeAt Go.RowKit
set_option linter.unusedVariables false
set_option linter.unusedSimpArgs false
open Plain Sha Au Rp
theorem wpList_execG {P : Program} {ops : Array Oper} {rest : List Oper} {op : Oper} {a : Act} {w : World} {Q : Exit → Act → World → Prop} (hw : Region.wanted op (yielded ops a.tmps) = true) (v : Value)
    (hrun : (execOp a.eval op).run P w = .ok (.value v) w) (h : wpList P ops Q rest (a.put op.dst v) w) : wpList P ops Q (op :: rest) a w := by
  simp only [wpList, hw, if_true]
  exact .inl (by unfold Oper.wp; simp only [hrun]; exact h)
theorem exec_cmp {P : Program} {a : Act} {op : Oper} {w : World} {v : Value} (o : BinOp) (t : TypeId) (x y : Operand) (xs ys : Array Value) (ho : op.op = .binOp o t x y t) (hx : a.eval x = .agg xs) (hy : a.eval y = .agg ys) (hm : P.eqGuardType P.depth t = false)
    (h : (binOp o t (.agg xs) (.agg ys)).run P w = .ok v w) : (execOp a.eval op).run P w = .ok (.value v) w := by
  unfold execOp
  simp only [ho]
  rw [hx, hy]
  simp [run_eqGuard_agg (hm := hm), h]
end Go.Proofs.Ytcgclaailhhbpaa
/- An operation whose run is known. -/
namespace Go.Proofs.Ytcgclaailhhbpaa
open Go.ChangeShapes Go.WideShapes Go.ChangeAt Go.RowKit
theorem wpList_exec {P : Program} {ops : Array Oper} {rest : List Oper} {op : Oper} {a : Act} {w : World} {Q : Exit → Act → World → Prop} (hgd : op.guard = none) (v : Value)
    (hrun : (execOp a.eval op).run P w = .ok (.value v) w) (h : wpList P ops Q rest (a.put op.dst v) w) : wpList P ops Q (op :: rest) a w :=
  wpList_plain hgd fun K hK => by
    unfold Oper.wp
    simp only [hrun]
    exact hK _ _ h
end Go.Proofs.Ytcgclaailhhbpaa
