/- Texts of the proof, one behind the other: Last Step Ord Ord3. -/
import Derived.Test.YtfihiandifnkpaaB1
import Derived.OrdersHeld
import Derived.Lib.AppendZerosOnto
import Derived.Below
/- A drawn region whose last operations write what its loads read: what holds of the world (S) is asked for only till those last ones come up; each of them waits for every load that is taken first. -/
namespace Go.Proofs.Ytfihiandifnkpaa
open Go.ChangeShapes Go.WideShapes Go.ChangeAt Go.RowKit
set_option linter.unusedVariables false
section
variable {P : Program} {ops : Array Oper} {Q : Exit → Act → World → Prop} {md : Region.Mode} {S : World → Prop} {ks : List Nat}
/-- Operation k waits for operation i. -/
def waitsB (md : Region.Mode) (ops : Array Oper) (k i : Nat) : Bool := ((ops[k]?).map fun o => o.after.any fun e => Region.binds md e && e.on == i).getD false
/-- Of two that may come up now neither waits for the other. -/
theorem ready_free {k i : Nat} {listed : Array Bool} (hi : i ∈ Region.ready md ops listed) (hk : k ∈ Region.ready md ops listed) : waitsB md ops k i = false := by
  cases hw : waitsB md ops k i with
  | false => rfl
  | true =>
    exfalso
    obtain ⟨o, ho, hall⟩ := (mem_ready.1 hk).2
    rw [waitsB, ho] at hw
    simp only [Option.map_some, Option.getD_some, Array.any_eq_true, Bool.and_eq_true, beq_iff_eq] at hw
    obtain ⟨n, hn, h1, h2⟩ := hw
    have yes := hall _ (Array.getElem_mem hn) h1
    have no := (mem_ready.1 hi).1
    rw [h2, Array.getD_eq_getD_getElem?] at yes
    rw [Array.getD_eq_getD_getElem?] at no
    cases hl : listed[i]? with
    | none => rw [hl] at yes; cases yes
    | some x => rw [hl] at yes no; exact absurd (yes.symm.trans no) (by decide)
/-- Whatever comes up from here on; behind each operation, but the last ones, S holds. -/
def Late (P : Program) (md : Region.Mode) (ops : Array Oper) (Q : Exit → Act → World → Prop) (S : World → Prop) (ks : List Nat) : Nat → Array Bool → Act → World → Prop
  | 0, listed, a, w => Region.ready md ops listed = [] ∧ Q .normal a w
  | f + 1, listed, a, w => (Region.ready md ops listed = [] → Q .normal a w) ∧
      ∀ i ∈ Region.ready md ops listed, wpOp P ops Q i (fun a' w' => (ks.contains i = false → S w') ∧ Late P md ops Q S ks f (listed.setIfInBounds i true) a' w') a w
theorem Late.any : ∀ (f : Nat) (listed : Array Bool) (a : Act) (w : World), Late P md ops Q S ks f listed a w → wpAny P md ops Q f listed a w
  | 0, _, _, _, h => h
  | f + 1, _, _, _, h => ⟨h.1, fun i hi => wpOp_mono (fun a' w' h' => Late.any f _ a' w' h'.2) (h.2 i hi)⟩
/-- What may stand apart from operation i while it has not come up: whoever neither waits for it nor has come up. -/
def ApartFrom (md : Region.Mode) (ops : Array Oper) (listed : Array Bool) (i : Nat) (oi : Oper) : Prop :=
  ∀ j oj, ops[j]? = some oj → j ≠ i → listed.getD j true = false → waitsB md ops j i = false → oi.apart ops oj = true
theorem ApartFrom.more {listed : Array Bool} {i j : Nat} {oi : Oper} (h : ApartFrom md ops listed i oi) (hj : listed.getD j true = false) : ApartFrom md ops (listed.setIfInBounds j true) i oi := by
  intro k ok hk hne hun hw
  by_cases e : j = k
  · rw [e] at hj; exact h k ok hk hne hj hw
  · exact h k ok hk hne (by rwa [getD_set_ne true e] at hun) hw
theorem Late.first {i : Nat} {oi : Oper} {v : Value} (hi : ops[i]? = some oi) (hsel : ∀ (j : Nat) (o : Oper) cs b, ops[j]? = some o → o.op ≠ .select cs b)
    (hQ : ∀ c a w, Q (.panic c) (a.put oi.dst v) w → Q (.panic c) a w) (hks : ∀ k ∈ ks, waitsB md ops k i = true) :
    ∀ (f : Nat) (listed : Array Bool) (a : Act) (w : World), ApartFrom md ops listed i oi → i ∈ Region.ready md ops listed → YieldsIf P ops S oi v a → S w →
      Late P md ops Q S ks f (listed.setIfInBounds i true) (a.put oi.dst v) w → Late P md ops Q S ks (f + 1) listed a w
  | f, listed, a, w, hap, hr, hy, hS, H => by
    refine ⟨fun e => absurd hr (by rw [e]; simp), fun j hj => ?_⟩
    rcases Nat.decEq j i with hne | he
    · -- another one comes up ahead of i: it is none of the last ones, for those wait for i
      have hj2 := ready_mono hj hne
      match f, H with
      | 0, H => exact absurd hj2 (by rw [H.1]; simp)
      | f + 1, H =>
        have hnk : ks.contains j = false := by
          cases hc : ks.contains j with
          | false => rfl
          | true => exact absurd (ready_free hr hj) (by rw [hks j (by simpa using hc)]; simp)
        obtain ⟨hun, oj, hoj, _⟩ := mem_ready.1 hj
        have hput := wpOp_putIf hoj (hap j oj hoj hne hun (ready_free hr hj)) (fun cs b => hsel i oi cs b hi) (fun cs b => hsel j oj cs b hoj) hQ hy (H.2 j hj2)
        refine wpOp_mono (fun a' w' ⟨y', s', l'⟩ => ⟨s', Late.first hi hsel hQ hks f _ a' w' (hap.more hun) (ready_mono hr (Ne.symm hne)) y' (s' hnk) ?_⟩) hput
        rw [Array.setIfInBounds_comm _ _ hne]
        exact l'
    · subst he
      exact hy.wpOp hi hS ⟨fun _ => hS, H⟩
/-- Take number i first. -/
theorem Late.take {i : Nat} {oi : Oper} {v : Value} {f : Nat} {listed : Array Bool} {a : Act} {w : World} (hi : ops[i]? = some oi)
    (hs : Region.noSelect ops = true) (hf : Region.free md ops listed i = true) (hr : (Region.ready md ops listed).contains i = true) (hk : (ks.all fun k => waitsB md ops k i) = true)
    (hQ : ∀ c a w, Q (.panic c) (a.put oi.dst v) w → Q (.panic c) a w) (hy : YieldsIf P ops S oi v a) (hS : S w)
    (h : Late P md ops Q S ks f (listed.setIfInBounds i true) (a.put oi.dst v) w) : Late P md ops Q S ks (f + 1) listed a w :=
  Late.first hi (Region.noSelect_spec hs) hQ (fun k hk' => List.all_eq_true.1 hk k hk') f listed a w (fun j oj h1 h2 h3 h4 => Region.free_spec hi hf j oj h1 h2 h3 (fun e he hb heq => by
    rw [waitsB, h1] at h4
    simp only [Option.map_some, Option.getD_some, Array.any_eq_false, Bool.and_eq_true, beq_iff_eq, not_and] at h4
    obtain ⟨n, hn, rfl⟩ := Array.mem_iff_getElem.1 he
    exact h4 n hn hb heq)) (by simpa using hr) hy hS h
theorem Late.done {listed : Array Bool} {a : Act} {w : World} (hr : Region.ready md ops listed = []) (h : Q .normal a w) : ∀ f, Late P md ops Q S ks f listed a w
  | 0 => ⟨hr, h⟩
  | _ + 1 => ⟨fun _ => h, by rw [hr]; simp⟩
/-- One operation alone may come up, and S holds behind it. -/
theorem Late.one {i : Nat} {o : Oper} {f : Nat} {listed : Array Bool} {a : Act} {w : World} (hr : Region.ready md ops listed = [i]) (ho : ops[i]? = some o)
    (h : ∀ K : Act → World → Prop, Hid (∀ a w, S w → (S w → Late P md ops Q S ks f (listed.setIfInBounds i true) a w) → K a w) → if Region.wanted o (yielded ops a.tmps) = true then Oper.wp P o a w K Q else K (a.put o.dst undef) w) : Late P md ops Q S ks (f + 1) listed a w :=
  ⟨fun h0 => (by rw [hr] at h0; cases h0), fun j hj => by
    rw [hr] at hj
    obtain rfl : j = i := by simpa using hj
    exact wpOp_step ho fun K hK => h K (Lib.hid fun a w h1 h2 => hK a w ⟨fun _ => h1, h2 h1⟩)⟩
/-- One of the last operations comes up. -/
theorem Late.end_ {i : Nat} {o : Oper} {f : Nat} {listed : Array Bool} {a : Act} {w : World} (hr : Region.ready md ops listed = [i]) (ho : ops[i]? = some o) (hk : ks.contains i = true)
    (h : ∀ K : Act → World → Prop, Hid (∀ a w, Late P md ops Q S ks f (listed.setIfInBounds i true) a w → K a w) → if Region.wanted o (yielded ops a.tmps) = true then Oper.wp P o a w K Q else K (a.put o.dst undef) w) : Late P md ops Q S ks (f + 1) listed a w :=
  ⟨fun h0 => (by rw [hr] at h0; cases h0), fun j hj => by
    rw [hr] at hj
    obtain rfl : j = i := by simpa using hj
    exact wpOp_step ho fun K hK => h K (Lib.hid fun a w h1 => hK a w ⟨fun e => (by rw [hk] at e; cases e), h1⟩)⟩
theorem Late.region (S : World → Prop) (ks : List Nat) {id : Nat} {a : Act} {w : World} (hm : P.follows .mixedOrders = true) (hS : S w.drew)
    (h : S w.drew → Late P .any ops (NoPanic Q) S ks ops.size (Array.replicate ops.size false) a w.drew) : (Code.region id ops true).wp P Q a w :=
  wp_region_noPanic (wp_region_any hm (Late.any _ _ _ _ (h hS)))
end
end Go.Proofs.Ytfihiandifnkpaa
/- append onto a row of the call's own, of elements that may be none, in a plain region and in one that draws; what lies in a block stays there. -/
namespace Go.Proofs.Ytfihiandifnkpaa
open Go.ChangeShapes Go.WideShapes Go.ChangeAt Go.RowKit
set_option linter.unusedVariables false
/-- append onto an own row, of elements that may be none; where the new row stands. -/
theorem run_app {P : Program} (w : World) (t ty : TypeId) (base : Nat) (e : TypeId) (size bytes : Nat) (ht : P.underlying t = some (.slice e)) (hinfo : ∃ i z, P.info? e = some i ∧ i.zero = some z ∧ i.size = size ∧ i.bytes = bytes ∧ z.cells.size = size) (hsz : 0 < size)
    (v : Value) (n : Nat) (xs : List Value) (hown : w.ownsRow base e size v n xs)
    (A : Option Addr) (m c : Nat) (news : List Value) (hr : Lies w size A m news) (hso : Sourced A m) (h1 : ∀ u ∈ news, u.oneCell' = true)
    (h63 : n + m ≤ maxLen) (hbytes : (n + m) * bytes ≤ 140737488355328) (hbase : base ≤ w.heap.size) :
    ∃ v' w', (Builtin.append_ #[t, t] ty #[v, .slice A m c]).run P w = .ok v' w' ∧ w'.ownsRow base e size v' (n + m) (xs ++ news) ∧ w.grownBy w' v.ownBlock ∧ (v'.ownBlock = v.ownBlock ∨ v'.ownBlock = some w.heap.size) := by
  obtain ⟨i, z, hi, hz, hsize, hby, hzs⟩ := hinfo
  cases A with
  | none =>
    have hm : m = 0 := hso rfl
    subst hm
    have hn : news = [] := List.eq_nil_of_length_eq_zero (by simpa using hr.1)
    subst hn
    exact ⟨v, w, run_append_nothing (P := P) w base t ty e i size ht hi v n xs hown c, by simpa using hown, World.grownBy.refl w _, .inl rfl⟩
  | some ad =>
    obtain ⟨v', w', q1, q2, q3, _, q5⟩ := run_append_own_at (P := P) w base t ty e i z size bytes ht hi hz hsize hby hzs hsz v n xs hown ad m c news hr.1 (hr.2 ad rfl) h1 h63 hbytes hbase
    exact ⟨v', w', q1, q2, q3, q5⟩
theorem wpList_appA {P : Program} (w : World) {ops : Array Oper} {rest : List Oper} {o : Oper} {a : Act} {Q : Exit → Act → World → Prop} (hgd : o.guard = none) (s x : Operand) (t : TypeId)
    (ho : o.op = .call { callee := .builtin .append, args := #[s, x], argTypes := #[t, t] })
    (base : Nat) (e : TypeId) (size bytes : Nat) (ht : P.underlying t = some (.slice e)) (hinfo : ∃ i z, P.info? e = some i ∧ i.zero = some z ∧ i.size = size ∧ i.bytes = bytes ∧ z.cells.size = size) (hsz : 0 < size)
    (v : Value) (n : Nat) (xs : List Value) (hs : a.eval s = v) (hown : w.ownsRow base e size v n xs)
    (A : Option Addr) (m c : Nat) (news : List Value) (hx : a.eval x = .slice A m c) (hr : Lies w size A m news) (hso : Sourced A m) (h1 : ∀ u ∈ news, u.oneCell' = true)
    (h63 : n + m ≤ maxLen) (hbytes : (n + m) * bytes ≤ 140737488355328) (hbase : base ≤ w.heap.size)
    (h : ∀ v' w', w'.ownsRow base e size v' (n + m) (xs ++ news) → w.grownBy w' v.ownBlock → (v'.ownBlock = v.ownBlock ∨ v'.ownBlock = some w.heap.size) → wpList P ops Q rest (a.put o.dst v') w') : wpList P ops Q (o :: rest) a w := by
  obtain ⟨v', w', q1, q2, q3, q4⟩ := run_app (P := P) w t o.type base e size bytes ht hinfo hsz v n xs hown A m c news hr hso h1 h63 hbytes hbase
  exact Lib.wpList_append_run w hgd s x t t ho _ _ hs hx v' w' q1 (h v' w' q2 q3 q4)
/-- The same at a step of a drawn region. -/
theorem step_app {P : Program} (w : World) {ops : Array Oper} {o : Oper} {a : Act} {K : Act → World → Prop} {Q : Exit → Act → World → Prop} {E : Prop} (hgd : o.guard = none) (s x : Operand) (t : TypeId)
    (ho : o.op = .call { callee := .builtin .append, args := #[s, x], argTypes := #[t, t] })
    (base : Nat) (e : TypeId) (size bytes : Nat) (ht : P.underlying t = some (.slice e)) (hinfo : ∃ i z, P.info? e = some i ∧ i.zero = some z ∧ i.size = size ∧ i.bytes = bytes ∧ z.cells.size = size) (hsz : 0 < size)
    (v : Value) (n : Nat) (xs : List Value) (hs : a.eval s = v) (hown : w.ownsRow base e size v n xs)
    (A : Option Addr) (m c : Nat) (news : List Value) (hx : a.eval x = .slice A m c) (hr : Lies w size A m news) (hso : Sourced A m) (h1 : ∀ u ∈ news, u.oneCell' = true)
    (h63 : n + m ≤ maxLen) (hbytes : (n + m) * bytes ≤ 140737488355328) (hbase : base ≤ w.heap.size)
    (h : ∀ v' w', w'.ownsRow base e size v' (n + m) (xs ++ news) → w.grownBy w' v.ownBlock → (v'.ownBlock = v.ownBlock ∨ v'.ownBlock = some w.heap.size) → K (a.put o.dst v') w') : if Region.wanted o (yielded ops a.tmps) = true then Oper.wp P o a w K Q else E := by
  have hw : Region.wanted o (yielded ops a.tmps) = true := by simp [Region.wanted, hgd]
  rw [if_pos hw]
  obtain ⟨v', w', q1, q2, q3, q4⟩ := run_app (P := P) w t o.type base e size bytes ht hinfo hsz v n xs hown A m c news hr hso h1 h63 hbytes hbase
  exact Lib.wp_append_run w s x t t ho _ _ hs hx v' w' q1 (h v' w' q2 q3 q4)
theorem Lies.alloc {w : World} {size m b : Nat} {vs : List Value} (h : Lies w size (some ⟨b, 0, none⟩) m vs) (hb : b < w.heap.size) (o : Obj) : Lies (w.alloc o) size (some ⟨b, 0, none⟩) m vs :=
  ⟨h.1, fun ad hA j u hu => by
    injection hA with hA; subst hA
    have := h.2 _ rfl j u hu
    rw [Go.WideShapes.add_plain] at this ⊢
    rw [World.cell?_alloc_lt _ _ _ hb]; exact this⟩
theorem Lies.grown {w w' : World} {size m b : Nat} {vs : List Value} {row : Option Nat} (h : Lies w size (some ⟨b, 0, none⟩) m vs) (hg : w.grownBy w' row) (hne : row ≠ some b) : Lies w' size (some ⟨b, 0, none⟩) m vs :=
  ⟨h.1, fun ad hA j u hu => by
    injection hA with hA; subst hA
    have := h.2 _ rfl j u hu
    rw [Go.WideShapes.add_plain] at this ⊢
    exact hg.cell this (fun e => hne e.symm)⟩
end Go.Proofs.Ytfihiandifnkpaa
/- A drawn region's operations that make memory, in whatever order they come up: each has a fact on its value that stands whatever grows behind it. One goal an operation, whatever the orders. -/
namespace Go.Proofs.Ytfihiandifnkpaa
open Go.ChangeShapes Go.WideShapes Go.ChangeAt Go.RowKit
set_option linter.unusedVariables false
def slotOf (ops : Array Oper) (i : Nat) : Nat := ((ops[i]?).bind (·.dst)).getD 0
/-- The value that operation i has left. -/
def valOf (ops : Array Oper) (a : Act) (i : Nat) : Value := a.tmps.getD (slotOf ops i) undef
/-- Two activations are the same but for these slots. -/
structure Agree (a0 a : Act) (ss : List Nat) : Prop where
  defers : a.defers = a0.defers
  size : a.tmps.size = a0.tmps.size
  same : ∀ t, ss.contains t = false → a.tmps[t]? = a0.tmps[t]?
theorem Agree.refl (a : Act) (ss : List Nat) : Agree a a ss := ⟨rfl, rfl, fun _ _ => rfl⟩
theorem Agree.put {a0 a : Act} {ss : List Nat} (h : Agree a0 a ss) (s : Nat) (hs : ss.contains s = true) (v : Value) : Agree a0 (a.put (some s) v) ss := by
  refine ⟨h.defers, by simp [Act.put, h.size], fun t ht => ?_⟩
  have hne : s ≠ t := fun e => by subst e; rw [hs] at ht; cases ht
  simp only [Act.put, Array.getElem?_setIfInBounds_ne hne]
  exact h.same t ht
theorem Agree.get {a0 a : Act} {ss : List Nat} (h : Agree a0 a ss) (t : Nat) (ht : ss.contains t = false) : a.tmps[t]?.getD undef = a0.tmps[t]?.getD undef := by rw [h.same t ht]
/-- The activation, written out. -/
theorem Agree.eq {a0 a : Act} {ss : List Nat} (h : Agree a0 a ss) : a = ss.foldl (fun b s => b.put (some s) (a.tmps[s]?.getD undef)) a0 := by
  have key : ∀ (ss : List Nat) (b : Act), b.tmps.size = a.tmps.size → b.defers = a.defers → (∀ t, ss.contains t = false → a.tmps[t]? = b.tmps[t]?) → a = ss.foldl (fun b s => b.put (some s) (a.tmps[s]?.getD undef)) b := by
    intro ss
    induction ss with
    | nil =>
      intro b h1 h2 h3
      obtain ⟨bt, bd⟩ := b
      obtain ⟨at_, ad⟩ := a
      simp only at h1 h2 h3
      subst h2
      have : at_ = bt := Array.ext_getElem? (fun t => h3 t rfl)
      rw [this]; rfl
    | cons s r ih =>
      intro b h1 h2 h3
      rw [List.foldl_cons]
      refine ih _ (by simpa [Act.put] using h1) h2 (fun t ht => ?_)
      by_cases e : s = t
      · subst e
        by_cases hb : s < b.tmps.size
        · simp only [Act.put, Array.getElem?_setIfInBounds_self_of_lt hb]
          rw [Array.getElem?_eq_getElem (by omega)]; rfl
        · rw [Array.getElem?_eq_none (by omega), Array.getElem?_eq_none (by simp [Act.put]; omega)]
      · simp only [Act.put, Array.getElem?_setIfInBounds_ne e]
        refine h3 t ?_
        rw [List.contains_cons, ht, Bool.or_false, beq_eq_false_iff_ne]
        exact fun e' => e e'.symm
  exact key ss a0 h.size.symm h.defers.symm h.same
def setAll (L : Array Bool) (is : List Nat) : Array Bool := is.foldl (fun L i => L.setIfInBounds i true) L
theorem setAll_size (is : List Nat) : ∀ L, (setAll L is).size = L.size := by
  induction is with
  | nil => intro L; rfl
  | cons i r ih => intro L; show (setAll (L.setIfInBounds i true) r).size = _; rw [ih]; simp
theorem setAll_at (is : List Nat) : ∀ (L : Array Bool) (t : Nat), (setAll L is)[t]? = if is.contains t = true ∧ t < L.size then some true else L[t]? := by
  induction is with
  | nil => intro L t; rw [if_neg (by simp)]; rfl
  | cons i r ih =>
    intro L t
    show (setAll (L.setIfInBounds i true) r)[t]? = _
    rw [ih, Array.size_setIfInBounds, List.contains_cons]
    by_cases hr : r.contains t = true ∧ t < L.size
    · rw [if_pos hr, if_pos ⟨by rw [hr.1, Bool.or_true], hr.2⟩]
    · rw [if_neg hr]
      by_cases e : t = i
      · subst e
        by_cases hl : t < L.size
        · rw [if_pos ⟨by simp, hl⟩, Array.getElem?_setIfInBounds_self_of_lt hl]
        · rw [if_neg (fun h => hl h.2), Array.getElem?_eq_none (by simp; omega), Array.getElem?_eq_none (by omega)]
      · rw [Array.getElem?_setIfInBounds_ne (fun h => e h.symm)]
        by_cases hc : r.contains t = true
        · have hl : ¬ t < L.size := fun h => hr ⟨hc, h⟩
          rw [if_neg (fun h => hl h.2)]
        · rw [if_neg]
          rintro ⟨h1, h2⟩
          rw [Bool.or_eq_true, beq_iff_eq] at h1
          exact h1.elim e hc
theorem setAll_set (is : List Nat) (L : Array Bool) (i : Nat) (hi : is.contains i = true) : setAll (L.setIfInBounds i true) is = setAll L is := by
  apply Array.ext_getElem?
  intro t
  rw [setAll_at, setAll_at, Array.size_setIfInBounds]
  split
  · rfl
  · next h =>
    by_cases e : i = t
    · subst e
      have hl : ¬ i < L.size := fun hl => h ⟨hi, hl⟩
      rw [Array.getElem?_eq_none (by simp; omega), Array.getElem?_eq_none (by omega)]
    · rw [Array.getElem?_setIfInBounds_ne e]
theorem setAll_full (is : List Nat) (L : Array Bool) (h : ∀ i, is.contains i = true → L.getD i false = true) : setAll L is = L := by
  apply Array.ext_getElem?
  intro t
  rw [setAll_at]
  split
  · next hc =>
    have := h t hc.1
    rw [Array.getD_eq_getD_getElem?, Array.getElem?_eq_getElem hc.2] at this
    rw [Array.getElem?_eq_getElem hc.2]
    exact congrArg some this.symm
  · rfl
section
variable {P : Program} {ops : Array Oper} {Q : Exit → Act → World → Prop} {md : Region.Mode} {S : World → Prop} {ks : List Nat}
/-- From this state on the operations 'is' alone come up, till all of them have. -/
def ordB (md : Region.Mode) (ops : Array Oper) (is : List Nat) : Nat → Array Bool → Bool
  | 0, L => is.all fun i => L.getD i false
  | f + 1, L => (Region.ready md ops L).length != 0 && (Region.ready md ops L).all fun i => is.contains i && ordB md ops is f (L.setIfInBounds i true)
def slotsB (ops : Array Oper) (is : List Nat) (n : Nat) : Bool :=
  is.all fun i => ((ops[i]?).bind (·.dst)).isSome && decide (slotOf ops i < n) && is.all fun j => i == j || slotOf ops i != slotOf ops j
/-- A fact on a value that stands whatever grows. -/
structure SF where
  F : Value → World → Prop
  st : ∀ v w w', F v w → Below w.heap.size w w' → F v w'
def sfTrue : SF := ⟨fun _ _ => True, fun _ _ _ _ _ => trivial⟩
theorem valOf_at {ops : Array Oper} {i s : Nat} (h : slotOf ops i = s) (a : Act) : valOf ops a i = a.tmps[s]?.getD undef := by
  unfold valOf
  rw [h, Array.getD_eq_getD_getElem?]
/-- What is asked of an operation that may come up at any time: its value meets its fact, nothing that was there turns. -/
def Step (P : Program) (ops : Array Oper) (Q : Exit → Act → World → Prop) (md : Region.Mode) (S : World → Prop) (fs : Nat → SF) (is : List Nat) (a0 : Act) (i : Nat) : Prop :=
  ∀ o, ops[i]? = some o → ∀ (a : Act) (w : World) (K : Act → World → Prop), S w → Agree a0 a (is.map (slotOf ops)) → (∀ j s, is.contains j = true → waitsB md ops i j = true → slotOf ops j = s → (fs j).F (a.tmps[s]?.getD undef) w) →
    Hid (∀ v w', Below w.heap.size w w' → (fs i).F v w' → K (a.put o.dst v) w') → if Region.wanted o (yielded ops a.tmps) = true then Oper.wp P o a w K Q else K (a.put o.dst undef) w
theorem Step.of {fs : Nat → SF} {is : List Nat} {a0 : Act} {i : Nat} {o : Oper} (ho : ops[i]? = some o)
    (h : ∀ (a : Act) (w : World) (K : Act → World → Prop), S w → Agree a0 a (is.map (slotOf ops)) → (∀ j s, is.contains j = true → waitsB md ops i j = true → slotOf ops j = s → (fs j).F (a.tmps[s]?.getD undef) w) →
      Hid (∀ v w', Below w.heap.size w w' → (fs i).F v w' → K (a.put o.dst v) w') → if Region.wanted o (yielded ops a.tmps) = true then Oper.wp P o a w K Q else K (a.put o.dst undef) w) : Step P ops Q md S fs is a0 i := by
  intro o' ho'
  obtain rfl := Option.some.inj (ho.symm.trans ho')
  exact h
def Steps (P : Program) (ops : Array Oper) (Q : Exit → Act → World → Prop) (md : Region.Mode) (S : World → Prop) (fs : Nat → SF) (is : List Nat) (a0 : Act) : List Nat → Prop
  | [] => True
  | i :: r => Step P ops Q md S fs is a0 i ∧ Steps P ops Q md S fs is a0 r
theorem Steps.at_ {fs : Nat → SF} {is : List Nat} {a0 : Act} : ∀ (l : List Nat), Steps P ops Q md S fs is a0 l → ∀ i, i ∈ l → Step P ops Q md S fs is a0 i
  | [], _, i, hi => by cases hi
  | j :: r, h, i, hi => by
    rcases List.mem_cons.1 hi with rfl | hi
    · exact h.1
    · exact Steps.at_ r h.2 i hi
theorem Late.orders_go {fs : Nat → SF} (is : List Nat) (a0 : Act) (L0 : Array Bool) (f0 : Nat) (hsl : slotsB ops is a0.tmps.size = true)
    (hSs : ∀ w w', S w → Below w.heap.size w w' → S w')
    (hst : Steps P ops Q md S fs is a0 is)
    (hend : ∀ a w, S w → Agree a0 a (is.map (slotOf ops)) → (∀ j, is.contains j = true → (fs j).F (valOf ops a j) w) → Late P md ops Q S ks f0 (setAll L0 is) a w) :
    ∀ (f : Nat) (L : Array Bool) (a : Act) (w : World), ordB md ops is f L = true → setAll L is = setAll L0 is → S w → Agree a0 a (is.map (slotOf ops)) →
      (∀ j, is.contains j = true → L.getD j false = true → (fs j).F (valOf ops a j) w) → Late P md ops Q S ks (f + f0) L a w
  | 0, L, a, w, ho, hL, hS, hA, hV => by
    rw [Nat.zero_add]
    have hall : ∀ i, is.contains i = true → L.getD i false = true := fun i hi => by
      simp only [ordB, List.all_eq_true] at ho
      exact ho i (by simpa using hi)
    rw [← setAll_full is L hall, hL]
    exact hend a w hS hA (fun j hj => hV j hj (hall j hj))
  | f + 1, L, a, w, ho, hL, hS, hA, hV => by
    simp only [ordB, Bool.and_eq_true, List.all_eq_true, bne_iff_ne] at ho
    obtain ⟨h1, h2⟩ := ho
    rw [show f + 1 + f0 = (f + f0) + 1 by omega]
    refine ⟨fun e => absurd (by rw [e]; rfl) h1, fun i hi => ?_⟩
    obtain ⟨hc, hor⟩ := h2 i hi
    obtain ⟨hun, o, hoi, hall⟩ := mem_ready.1 hi
    have hs := hsl
    simp only [slotsB, List.all_eq_true, Bool.and_eq_true, decide_eq_true_eq, Bool.or_eq_true, beq_iff_eq, bne_iff_ne] at hs
    have hmem : i ∈ is := by simpa using hc
    obtain ⟨⟨hd1, hd2⟩, hd3⟩ := hs i hmem
    obtain ⟨d, hd⟩ := Option.isSome_iff_exists.1 hd1
    have hod : o.dst = some d := by rw [hoi] at hd; exact hd
    have hsd : slotOf ops i = d := by unfold slotOf; rw [hd]; rfl
    refine wpOp_step hoi fun K hK => Steps.at_ is hst i hmem o hoi a w K hS hA (fun j s hj hw hsj => valOf_at hsj a ▸ hV j hj ?_) (Lib.hid fun v w' hb hg => hK _ _ ⟨fun _ => hSs w w' hS hb, ?_⟩)
    · rw [waitsB, hoi] at hw
      simp only [Option.map_some, Option.getD_some, Array.any_eq_true, Bool.and_eq_true, beq_iff_eq] at hw
      obtain ⟨n, hn, e1, e2⟩ := hw
      have := hall _ (Array.getElem_mem hn) e1
      rwa [e2] at this
    · rw [hod]
      have hput : ∀ t, d ≠ t → (a.put (some d) v).tmps.getD t undef = a.tmps.getD t undef := fun t ht => by
        rw [Array.getD_eq_getD_getElem?, Array.getD_eq_getD_getElem?]
        simp only [Act.put, Array.getElem?_setIfInBounds_ne ht]
      refine Late.orders_go is a0 L0 f0 hsl hSs hst hend f _ _ _ hor ((setAll_set is L i hc).trans hL) (hSs w w' hS hb) (hA.put d (by
        rw [List.contains_iff_mem, List.mem_map]; exact ⟨i, hmem, hsd⟩) v) (fun j hj hlj => ?_)
      by_cases e : i = j
      · subst e
        have : valOf ops (a.put (some d) v) i = v := by
          unfold valOf
          rw [hsd, Array.getD_eq_getD_getElem?]
          simp only [Act.put]
          rw [Array.getElem?_setIfInBounds_self_of_lt (by rw [hA.size, ← hsd]; exact hd2)]
          rfl
        rw [this]; exact hg
      · rw [getD_set_ne false e] at hlj
        have h5 := hV j hj hlj
        have hne : d ≠ slotOf ops j := by
          have := hd3 j (by simpa using hj)
          rw [← hsd]
          exact this.resolve_left e
        have : valOf ops (a.put (some d) v) j = valOf ops a j := hput _ hne
        rw [this]
        exact (fs j).st _ _ _ h5 hb
/-- The operations 'is' in any order, then the rest. ss: their slots. -/
theorem Late.orders (fs : Nat → SF) (is ss : List Nat) {f f0 : Nat} {a0 : Act} {L0 : Array Bool} {w0 : World} (hss : is.map (slotOf ops) = ss) (hf : f = is.length + f0) (hor : ordB md ops is is.length L0 = true) (hsl : slotsB ops is a0.tmps.size = true) (hun : (is.all fun i => !L0.getD i false) = true)
    (hS : S w0) (hSs : ∀ w w', S w → Below w.heap.size w w' → S w')
    (hst : Steps P ops Q md S fs is a0 is)
    (hend : ∀ a w, S w → Agree a0 a ss → (∀ j s, is.contains j = true → slotOf ops j = s → (fs j).F (a.tmps[s]?.getD undef) w) → Late P md ops Q S ks f0 (setAll L0 is) a w) : Late P md ops Q S ks f L0 a0 w0 := by
  subst hf hss
  refine Late.orders_go is a0 L0 f0 hsl hSs hst (fun a w h1 h2 h3 => hend a w h1 h2 (fun j s hj hs => valOf_at hs a ▸ h3 j hj)) is.length L0 a0 w0 hor rfl hS (Agree.refl _ _) (fun j hj hl => ?_)
  simp only [List.all_eq_true] at hun
  have := hun j (by simpa using hj)
  rw [hl] at this
  cases this
end
end Go.Proofs.Ytfihiandifnkpaa
/- A drawn region's operations that make memory, in whatever order they come up, with one among them that may turn what the others have made. -/
namespace Go.Proofs.Ytfihiandifnkpaa
open Go.ChangeShapes Go.WideShapes Go.ChangeAt Go.RowKit
set_option linter.unusedVariables false
section
variable {P : Program} {ops : Array Oper} {Q : Exit → Act → World → Prop} {md : Region.Mode} {S : World → Prop} {ks : List Nat}
/-- From this state on the operations 'is' and z alone come up, till all of them have; behind z only those of post. -/
def ordZ (md : Region.Mode) (ops : Array Oper) (is post : List Nat) (z : Nat) : Nat → Array Bool → Bool
  | 0, L => (z :: is).all fun i => L.getD i false
  | f + 1, L => (Region.ready md ops L).length != 0 && (Region.ready md ops L).all fun i => (i == z || is.contains i && (!L.getD z false || post.contains i)) && ordZ md ops is post z f (L.setIfInBounds i true)
/-- As Step; zb: z has come up. -/
def StepZ (P : Program) (ops : Array Oper) (Q : Exit → Act → World → Prop) (md : Region.Mode) (S : World → Prop) (fs : Bool → Nat → SF) (is post : List Nat) (z : Nat) (a0 : Act) (i : Nat) : Prop :=
  ∀ o, ops[i]? = some o → ∀ (zb : Bool) (a : Act) (w : World) (K : Act → World → Prop), (zb = true → post.contains i = true) → S w → Agree a0 a ((z :: is).map (slotOf ops)) → (∀ j s, (z :: is).contains j = true → waitsB md ops i j = true → slotOf ops j = s → (fs zb j).F (a.tmps[s]?.getD undef) w) →
    Hid (∀ v w', Below w.heap.size w w' → (fs zb i).F v w' → K (a.put o.dst v) w') → if Region.wanted o (yielded ops a.tmps) = true then Oper.wp P o a w K Q else K (a.put o.dst undef) w
theorem StepZ.of {fs : Bool → Nat → SF} {is post : List Nat} {z : Nat} {a0 : Act} {i : Nat} {o : Oper} (ho : ops[i]? = some o)
    (h : ∀ (zb : Bool) (a : Act) (w : World) (K : Act → World → Prop), (zb = true → post.contains i = true) → S w → Agree a0 a ((z :: is).map (slotOf ops)) → (∀ j s, (z :: is).contains j = true → waitsB md ops i j = true → slotOf ops j = s → (fs zb j).F (a.tmps[s]?.getD undef) w) →
      Hid (∀ v w', Below w.heap.size w w' → (fs zb i).F v w' → K (a.put o.dst v) w') → if Region.wanted o (yielded ops a.tmps) = true then Oper.wp P o a w K Q else K (a.put o.dst undef) w) : StepZ P ops Q md S fs is post z a0 i := by
  intro o' ho'
  obtain rfl := Option.some.inj (ho.symm.trans ho')
  exact h
/-- What is asked of z. -/
def TurnZ (P : Program) (ops : Array Oper) (Q : Exit → Act → World → Prop) (md : Region.Mode) (S : World → Prop) (fs : Bool → Nat → SF) (is : List Nat) (z : Nat) (a0 : Act) : Prop :=
  ∀ o, ops[z]? = some o → ∀ (a : Act) (w : World) (K : Act → World → Prop), S w → Agree a0 a ((z :: is).map (slotOf ops)) → (∀ j s, is.contains j = true → waitsB md ops z j = true → slotOf ops j = s → (fs false j).F (a.tmps[s]?.getD undef) w) →
    Hid (∀ v w', S w' → (fs true z).F v w' → (∀ j s, is.contains j = true → slotOf ops j = s → (fs false j).F (a.tmps[s]?.getD undef) w → (fs true j).F (a.tmps[s]?.getD undef) w') → K (a.put o.dst v) w') → if Region.wanted o (yielded ops a.tmps) = true then Oper.wp P o a w K Q else K (a.put o.dst undef) w
theorem TurnZ.of {fs : Bool → Nat → SF} {is : List Nat} {z : Nat} {a0 : Act} {o : Oper} (ho : ops[z]? = some o)
    (h : ∀ (a : Act) (w : World) (K : Act → World → Prop), S w → Agree a0 a ((z :: is).map (slotOf ops)) → (∀ j s, is.contains j = true → waitsB md ops z j = true → slotOf ops j = s → (fs false j).F (a.tmps[s]?.getD undef) w) →
      Hid (∀ v w', S w' → (fs true z).F v w' → (∀ j s, is.contains j = true → slotOf ops j = s → (fs false j).F (a.tmps[s]?.getD undef) w → (fs true j).F (a.tmps[s]?.getD undef) w') → K (a.put o.dst v) w') → if Region.wanted o (yielded ops a.tmps) = true then Oper.wp P o a w K Q else K (a.put o.dst undef) w) : TurnZ P ops Q md S fs is z a0 := by
  intro o' ho'
  obtain rfl := Option.some.inj (ho.symm.trans ho')
  exact h
theorem Late.ordersZ_go {fs : Bool → Nat → SF} (is post : List Nat) (z : Nat) (a0 : Act) (L0 : Array Bool) (f0 : Nat) (hsl : slotsB ops (z :: is) a0.tmps.size = true) (hzi : is.contains z = false)
    (hSs : ∀ w w', S w → Below w.heap.size w w' → S w')
    (hst : ∀ i, i ∈ is → StepZ P ops Q md S fs is post z a0 i) (htz : TurnZ P ops Q md S fs is z a0)
    (hend : ∀ a w, S w → Agree a0 a ((z :: is).map (slotOf ops)) → (∀ j, (z :: is).contains j = true → (fs true j).F (valOf ops a j) w) → Late P md ops Q S ks f0 (setAll L0 (z :: is)) a w) :
    ∀ (f : Nat) (L : Array Bool) (a : Act) (w : World), ordZ md ops is post z f L = true → setAll L (z :: is) = setAll L0 (z :: is) → S w → Agree a0 a ((z :: is).map (slotOf ops)) →
      (∀ j, (z :: is).contains j = true → L.getD j false = true → (fs (L.getD z false) j).F (valOf ops a j) w) → Late P md ops Q S ks (f + f0) L a w
  | 0, L, a, w, ho, hL, hS, hA, hV => by
    rw [Nat.zero_add]
    have hall : ∀ i, (z :: is).contains i = true → L.getD i false = true := fun i hi => by
      simp only [ordZ, List.all_eq_true] at ho
      exact ho i (by simpa using hi)
    rw [← setAll_full (z :: is) L hall, hL]
    have hz : L.getD z false = true := hall z (by simp)
    exact hend a w hS hA (fun j hj => by have := hV j hj (hall j hj); rwa [hz] at this)
  | f + 1, L, a, w, ho, hL, hS, hA, hV => by
    simp only [ordZ, Bool.and_eq_true, List.all_eq_true, bne_iff_ne] at ho
    obtain ⟨h1, h2⟩ := ho
    rw [show f + 1 + f0 = (f + f0) + 1 by omega]
    refine ⟨fun e => absurd (by rw [e]; rfl) h1, fun i hi => ?_⟩
    obtain ⟨hc, hor⟩ := h2 i hi
    obtain ⟨hun, o, hoi, hall⟩ := mem_ready.1 hi
    have hs := hsl
    simp only [slotsB, List.all_eq_true, Bool.and_eq_true, decide_eq_true_eq, Bool.or_eq_true, beq_iff_eq, bne_iff_ne] at hs
    have hmemz : i ∈ z :: is := by
      rw [Bool.or_eq_true, beq_iff_eq] at hc
      rcases hc with rfl | hc
      · simp
      · rw [Bool.and_eq_true] at hc
        exact List.mem_cons_of_mem _ (by simpa using hc.1)
    obtain ⟨⟨hd1, hd2⟩, hd3⟩ := hs i hmemz
    obtain ⟨d, hd⟩ := Option.isSome_iff_exists.1 hd1
    have hod : o.dst = some d := by rw [hoi] at hd; exact hd
    have hsd : slotOf ops i = d := by unfold slotOf; rw [hd]; rfl
    have hlist : ∀ j, waitsB md ops i j = true → L.getD j false = true := fun j hw => by
      rw [waitsB, hoi] at hw
      simp only [Option.map_some, Option.getD_some, Array.any_eq_true, Bool.and_eq_true, beq_iff_eq] at hw
      obtain ⟨n, hn, e1, e2⟩ := hw
      have := hall _ (Array.getElem_mem hn) e1
      rwa [e2] at this
    have hput : ∀ v t, d ≠ t → (a.put (some d) v).tmps.getD t undef = a.tmps.getD t undef := fun v t ht => by
      rw [Array.getD_eq_getD_getElem?, Array.getD_eq_getD_getElem?]
      simp only [Act.put, Array.getElem?_setIfInBounds_ne ht]
    have hself : ∀ v, valOf ops (a.put (some d) v) i = v := fun v => by
      unfold valOf
      rw [hsd, Array.getD_eq_getD_getElem?]
      simp only [Act.put]
      rw [Array.getElem?_setIfInBounds_self_of_lt (by rw [hA.size, ← hsd]; exact hd2)]
      rfl
    have hother : ∀ v j, i ≠ j → j ∈ z :: is → valOf ops (a.put (some d) v) j = valOf ops a j := fun v j e hj => by
      have hne : d ≠ slotOf ops j := by
        have := hd3 j hj
        rw [← hsd]
        exact this.resolve_left e
      exact hput v _ hne
    have hmz : ∀ j, is.contains j = true → (z :: is).contains j = true := fun j hj => by rw [List.contains_cons, hj, Bool.or_true]
    have hAp : ∀ v, Agree a0 (a.put (some d) v) ((z :: is).map (slotOf ops)) := fun v => hA.put d (by
      rw [List.contains_iff_mem, List.mem_map]; exact ⟨i, hmemz, hsd⟩) v
    have hset : setAll (L.setIfInBounds i true) (z :: is) = setAll L0 (z :: is) := (setAll_set (z :: is) L i (by simpa using hmemz)).trans hL
    by_cases hiz : i = z
    · subst hiz
      have hzL : L.getD i false = false := by
        by_cases hsz : i < L.size
        · rw [Array.getD_eq_getD_getElem?, Array.getElem?_eq_getElem hsz]
          rw [Array.getD_eq_getD_getElem?, Array.getElem?_eq_getElem hsz] at hun
          exact hun
        · rw [Array.getD_eq_getD_getElem?, Array.getElem?_eq_none (by omega)]; rfl
      have hzb : i < L.size := by
        by_cases hsz : i < L.size
        · exact hsz
        · rw [Array.getD_eq_getD_getElem?, Array.getElem?_eq_none (by omega)] at hun
          cases hun
      have hzL2 : (L.setIfInBounds i true).getD i false = true := by
        rw [Array.getD_eq_getD_getElem?, Array.getElem?_setIfInBounds_self_of_lt hzb]; rfl
      refine wpOp_step hoi fun K hK => htz o hoi a w K hS hA (fun j s hj hw hsj => valOf_at hsj a ▸ (by have := hV j (hmz j hj) (hlist j hw); rwa [hzL] at this)) (Lib.hid fun v w' hS' hg hpre => hK _ _ ⟨fun _ => hS', ?_⟩)
      rw [hod]
      refine Late.ordersZ_go is post i a0 L0 f0 hsl hzi hSs hst htz hend f _ _ _ hor hset hS' (hAp v) (fun j hj hlj => ?_)
      rw [hzL2]
      by_cases e : i = j
      · subst e
        rw [hself]; exact hg
      · rw [getD_set_ne false e] at hlj
        have hji : is.contains j = true := by
          rw [List.contains_cons, Bool.or_eq_true, beq_iff_eq] at hj
          exact hj.resolve_left (fun h => e h.symm)
        have h5 := hV j hj hlj
        rw [hzL] at h5
        rw [hother v j e (by simpa using hj)]
        have := hpre j _ hji rfl (by rw [valOf_at rfl a] at h5; exact h5)
        rw [valOf_at rfl a]; exact this
    · have hmem : i ∈ is := (List.mem_cons.1 hmemz).resolve_left hiz
      have hpost : L.getD z false = true → post.contains i = true := fun hz => by
        rw [Bool.or_eq_true, beq_iff_eq] at hc
        have := hc.resolve_left hiz
        rw [Bool.and_eq_true, hz] at this
        simpa using this.2
      have hzz : (L.setIfInBounds i true).getD z false = L.getD z false := getD_set_ne false hiz
      refine wpOp_step hoi fun K hK => hst i hmem o hoi (L.getD z false) a w K hpost hS hA (fun j s hj hw hsj => valOf_at hsj a ▸ hV j hj (hlist j hw)) (Lib.hid fun v w' hb hg => hK _ _ ⟨fun _ => hSs w w' hS hb, ?_⟩)
      rw [hod]
      refine Late.ordersZ_go is post z a0 L0 f0 hsl hzi hSs hst htz hend f _ _ _ hor hset (hSs w w' hS hb) (hAp v) (fun j hj hlj => ?_)
      rw [hzz]
      by_cases e : i = j
      · subst e
        rw [hself]; exact hg
      · rw [getD_set_ne false e] at hlj
        rw [hother v j e (by simpa using hj)]
        exact (fs _ j).st _ _ _ (hV j hj hlj) hb
/-- The operations 'is' and z in any order, then the rest. ss: their slots, z's first. -/
theorem Late.ordersZ (fs : Bool → Nat → SF) (is post : List Nat) (z : Nat) (ss : List Nat) {f f0 : Nat} {a0 : Act} {L0 : Array Bool} {w0 : World} (hss : (z :: is).map (slotOf ops) = ss) (hf : f = is.length + 1 + f0) (hzi : is.contains z = false) (hor : ordZ md ops is post z (is.length + 1) L0 = true) (hsl : slotsB ops (z :: is) a0.tmps.size = true) (hun : ((z :: is).all fun i => !L0.getD i false) = true)
    (hS : S w0) (hSs : ∀ w w', S w → Below w.heap.size w w' → S w')
    (hst : ∀ i, i ∈ is → StepZ P ops Q md S fs is post z a0 i) (htz : TurnZ P ops Q md S fs is z a0)
    (hend : ∀ a w, S w → Agree a0 a ss → (∀ j s, (z :: is).contains j = true → slotOf ops j = s → (fs true j).F (a.tmps[s]?.getD undef) w) → Late P md ops Q S ks f0 (setAll L0 (z :: is)) a w) : Late P md ops Q S ks f L0 a0 w0 := by
  subst hf hss
  refine Late.ordersZ_go is post z a0 L0 f0 hsl hzi hSs hst htz (fun a w h1 h2 h3 => hend a w h1 h2 (fun j s hj hs => valOf_at hs a ▸ h3 j hj)) (is.length + 1) L0 a0 w0 hor rfl hS (Agree.refl _ _) (fun j hj hl => ?_)
  simp only [List.all_eq_true] at hun
  have := hun j (by simpa using hj)
  rw [hl] at this
  cases this
end
end Go.Proofs.Ytfihiandifnkpaa
