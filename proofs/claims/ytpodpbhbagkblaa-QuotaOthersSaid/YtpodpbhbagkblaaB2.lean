/- Texts of the proof, one behind the other: Last Step. -/
import Derived.Test.YtpodpbhbagkblaaB1
import Derived.OrdersHeld
import Derived.Lib.AppendZerosOnto
/- A drawn region whose last operations write what its loads read: what holds of the world (S) is asked for only till those last ones come up; each of them waits for every load that is taken first. -/
namespace Go.Proofs.Ytpodpbhbagkblaa
open Go.ChangeShapes Go.WideShapes Go.ChangeAt Go.RowKit
set_option linter.unusedVariables false
section
variable {P : Program} {ops : Array Oper} {Q : Exit → Act → World → Prop} {md : Region.Mode} {S : World → Prop} {ks : List Nat}
/-- Operation k waits for operation i. -/
def waitsB (md : Region.Mode) (ops : Array Oper) (k i : Nat) : Bool := ((ops[k]?).map fun o => o.after.any fun e => Region.binds md e && e.on == i).getD false
/-- Of two that may come up now neither waits for the other. -/
theorem ready_free {k i : Nat} {listed : Array Bool} (hi : i ∈ Region.ready md ops listed) (hk : k ∈ Region.ready md ops listed) : waitsB md ops k i = false := by
  cases hw : waitsB md ops k i with
  | false => rfl
  | true =>
    exfalso
    obtain ⟨o, ho, hall⟩ := (mem_ready.1 hk).2
    rw [waitsB, ho] at hw
    simp only [Option.map_some, Option.getD_some, Array.any_eq_true, Bool.and_eq_true, beq_iff_eq] at hw
    obtain ⟨n, hn, h1, h2⟩ := hw
    have yes := hall _ (Array.getElem_mem hn) h1
    have no := (mem_ready.1 hi).1
    rw [h2, Array.getD_eq_getD_getElem?] at yes
    rw [Array.getD_eq_getD_getElem?] at no
    cases hl : listed[i]? with
    | none => rw [hl] at yes; cases yes
    | some x => rw [hl] at yes no; exact absurd (yes.symm.trans no) (by decide)
/-- Whatever comes up from here on; behind each operation, but the last ones, S holds. -/
def Late (P : Program) (md : Region.Mode) (ops : Array Oper) (Q : Exit → Act → World → Prop) (S : World → Prop) (ks : List Nat) : Nat → Array Bool → Act → World → Prop
  | 0, listed, a, w => Region.ready md ops listed = [] ∧ Q .normal a w
  | f + 1, listed, a, w => (Region.ready md ops listed = [] → Q .normal a w) ∧
      ∀ i ∈ Region.ready md ops listed, wpOp P ops Q i (fun a' w' => (ks.contains i = false → S w') ∧ Late P md ops Q S ks f (listed.setIfInBounds i true) a' w') a w
theorem Late.any : ∀ (f : Nat) (listed : Array Bool) (a : Act) (w : World), Late P md ops Q S ks f listed a w → wpAny P md ops Q f listed a w
  | 0, _, _, _, h => h
  | f + 1, _, _, _, h => ⟨h.1, fun i hi => wpOp_mono (fun a' w' h' => Late.any f _ a' w' h'.2) (h.2 i hi)⟩
/-- What may stand apart from operation i while it has not come up: whoever neither waits for it nor has come up. -/
def ApartFrom (md : Region.Mode) (ops : Array Oper) (listed : Array Bool) (i : Nat) (oi : Oper) : Prop :=
  ∀ j oj, ops[j]? = some oj → j ≠ i → listed.getD j true = false → waitsB md ops j i = false → oi.apart ops oj = true
theorem ApartFrom.more {listed : Array Bool} {i j : Nat} {oi : Oper} (h : ApartFrom md ops listed i oi) (hj : listed.getD j true = false) : ApartFrom md ops (listed.setIfInBounds j true) i oi := by
  intro k ok hk hne hun hw
  by_cases e : j = k
  · rw [e] at hj; exact h k ok hk hne hj hw
  · exact h k ok hk hne (by rwa [getD_set_ne true e] at hun) hw
theorem Late.first {i : Nat} {oi : Oper} {v : Value} (hi : ops[i]? = some oi) (hsel : ∀ (j : Nat) (o : Oper) cs b, ops[j]? = some o → o.op ≠ .select cs b)
    (hQ : ∀ c a w, Q (.panic c) (a.put oi.dst v) w → Q (.panic c) a w) (hks : ∀ k ∈ ks, waitsB md ops k i = true) :
    ∀ (f : Nat) (listed : Array Bool) (a : Act) (w : World), ApartFrom md ops listed i oi → i ∈ Region.ready md ops listed → YieldsIf P ops S oi v a → S w →
      Late P md ops Q S ks f (listed.setIfInBounds i true) (a.put oi.dst v) w → Late P md ops Q S ks (f + 1) listed a w
  | f, listed, a, w, hap, hr, hy, hS, H => by
    refine ⟨fun e => absurd hr (by rw [e]; simp), fun j hj => ?_⟩
    rcases Nat.decEq j i with hne | he
    · -- another one comes up ahead of i: it is none of the last ones, for those wait for i
      have hj2 := ready_mono hj hne
      match f, H with
      | 0, H => exact absurd hj2 (by rw [H.1]; simp)
      | f + 1, H =>
        have hnk : ks.contains j = false := by
          cases hc : ks.contains j with
          | false => rfl
          | true => exact absurd (ready_free hr hj) (by rw [hks j (by simpa using hc)]; simp)
        obtain ⟨hun, oj, hoj, _⟩ := mem_ready.1 hj
        have hput := wpOp_putIf hoj (hap j oj hoj hne hun (ready_free hr hj)) (fun cs b => hsel i oi cs b hi) (fun cs b => hsel j oj cs b hoj) hQ hy (H.2 j hj2)
        refine wpOp_mono (fun a' w' ⟨y', s', l'⟩ => ⟨s', Late.first hi hsel hQ hks f _ a' w' (hap.more hun) (ready_mono hr (Ne.symm hne)) y' (s' hnk) ?_⟩) hput
        rw [Array.setIfInBounds_comm _ _ hne]
        exact l'
    · subst he
      exact hy.wpOp hi hS ⟨fun _ => hS, H⟩
/-- Take number i first. -/
theorem Late.take {i : Nat} {oi : Oper} {v : Value} {f : Nat} {listed : Array Bool} {a : Act} {w : World} (hi : ops[i]? = some oi)
    (hs : Region.noSelect ops = true) (hf : Region.free md ops listed i = true) (hr : (Region.ready md ops listed).contains i = true) (hk : (ks.all fun k => waitsB md ops k i) = true)
    (hQ : ∀ c a w, Q (.panic c) (a.put oi.dst v) w → Q (.panic c) a w) (hy : YieldsIf P ops S oi v a) (hS : S w)
    (h : Late P md ops Q S ks f (listed.setIfInBounds i true) (a.put oi.dst v) w) : Late P md ops Q S ks (f + 1) listed a w :=
  Late.first hi (Region.noSelect_spec hs) hQ (fun k hk' => List.all_eq_true.1 hk k hk') f listed a w (fun j oj h1 h2 h3 h4 => Region.free_spec hi hf j oj h1 h2 h3 (fun e he hb heq => by
    rw [waitsB, h1] at h4
    simp only [Option.map_some, Option.getD_some, Array.any_eq_false, Bool.and_eq_true, beq_iff_eq, not_and] at h4
    obtain ⟨n, hn, rfl⟩ := Array.mem_iff_getElem.1 he
    exact h4 n hn hb heq)) (by simpa using hr) hy hS h
theorem Late.done {listed : Array Bool} {a : Act} {w : World} (hr : Region.ready md ops listed = []) (h : Q .normal a w) : ∀ f, Late P md ops Q S ks f listed a w
  | 0 => ⟨hr, h⟩
  | _ + 1 => ⟨fun _ => h, by rw [hr]; simp⟩
/-- One operation alone may come up, and S holds behind it. -/
theorem Late.one {i : Nat} {o : Oper} {f : Nat} {listed : Array Bool} {a : Act} {w : World} (hr : Region.ready md ops listed = [i]) (ho : ops[i]? = some o)
    (h : ∀ K : Act → World → Prop, Hid (∀ a w, S w → (S w → Late P md ops Q S ks f (listed.setIfInBounds i true) a w) → K a w) → if Region.wanted o (yielded ops a.tmps) = true then Oper.wp P o a w K Q else K (a.put o.dst undef) w) : Late P md ops Q S ks (f + 1) listed a w :=
  ⟨fun h0 => (by rw [hr] at h0; cases h0), fun j hj => by
    rw [hr] at hj
    obtain rfl : j = i := by simpa using hj
    exact wpOp_step ho fun K hK => h K (Lib.hid fun a w h1 h2 => hK a w ⟨fun _ => h1, h2 h1⟩)⟩
/-- One of the last operations comes up. -/
theorem Late.end_ {i : Nat} {o : Oper} {f : Nat} {listed : Array Bool} {a : Act} {w : World} (hr : Region.ready md ops listed = [i]) (ho : ops[i]? = some o) (hk : ks.contains i = true)
    (h : ∀ K : Act → World → Prop, Hid (∀ a w, Late P md ops Q S ks f (listed.setIfInBounds i true) a w → K a w) → if Region.wanted o (yielded ops a.tmps) = true then Oper.wp P o a w K Q else K (a.put o.dst undef) w) : Late P md ops Q S ks (f + 1) listed a w :=
  ⟨fun h0 => (by rw [hr] at h0; cases h0), fun j hj => by
    rw [hr] at hj
    obtain rfl : j = i := by simpa using hj
    exact wpOp_step ho fun K hK => h K (Lib.hid fun a w h1 => hK a w ⟨fun e => (by rw [hk] at e; cases e), h1⟩)⟩
theorem Late.region (S : World → Prop) (ks : List Nat) {id : Nat} {a : Act} {w : World} (hm : P.follows .mixedOrders = true) (hS : S w.drew)
    (h : S w.drew → Late P .any ops (NoPanic Q) S ks ops.size (Array.replicate ops.size false) a w.drew) : (Code.region id ops true).wp P Q a w :=
  wp_region_noPanic (wp_region_any hm (Late.any _ _ _ _ (h hS)))
end
end Go.Proofs.Ytpodpbhbagkblaa
/- append onto a row of the call's own, of elements that may be none, in a plain region and in one that draws; what lies in a block stays there. -/
namespace Go.Proofs.Ytpodpbhbagkblaa
open Go.ChangeShapes Go.WideShapes Go.ChangeAt Go.RowKit
set_option linter.unusedVariables false
/-- append onto an own row, of elements that may be none; where the new row stands. -/
theorem run_app {P : Program} (w : World) (t ty : TypeId) (base : Nat) (e : TypeId) (size bytes : Nat) (ht : P.underlying t = some (.slice e)) (hinfo : ∃ i z, P.info? e = some i ∧ i.zero = some z ∧ i.size = size ∧ i.bytes = bytes ∧ z.cells.size = size) (hsz : 0 < size)
    (v : Value) (n : Nat) (xs : List Value) (hown : w.ownsRow base e size v n xs)
    (A : Option Addr) (m c : Nat) (news : List Value) (hr : Lies w size A m news) (hso : Sourced A m) (h1 : ∀ u ∈ news, u.oneCell' = true)
    (h63 : n + m ≤ maxLen) (hbytes : (n + m) * bytes ≤ 140737488355328) (hbase : base ≤ w.heap.size) :
    ∃ v' w', (Builtin.append_ #[t, t] ty #[v, .slice A m c]).run P w = .ok v' w' ∧ w'.ownsRow base e size v' (n + m) (xs ++ news) ∧ w.grownBy w' v.ownBlock ∧ (v'.ownBlock = v.ownBlock ∨ v'.ownBlock = some w.heap.size) := by
  obtain ⟨i, z, hi, hz, hsize, hby, hzs⟩ := hinfo
  cases A with
  | none =>
    have hm : m = 0 := hso rfl
    subst hm
    have hn : news = [] := List.eq_nil_of_length_eq_zero (by simpa using hr.1)
    subst hn
    exact ⟨v, w, run_append_nothing (P := P) w base t ty e i size ht hi v n xs hown c, by simpa using hown, World.grownBy.refl w _, .inl rfl⟩
  | some ad =>
    obtain ⟨v', w', q1, q2, q3, _, q5⟩ := run_append_own_at (P := P) w base t ty e i z size bytes ht hi hz hsize hby hzs hsz v n xs hown ad m c news hr.1 (hr.2 ad rfl) h1 h63 hbytes hbase
    exact ⟨v', w', q1, q2, q3, q5⟩
theorem wpList_appA {P : Program} (w : World) {ops : Array Oper} {rest : List Oper} {o : Oper} {a : Act} {Q : Exit → Act → World → Prop} (hgd : o.guard = none) (s x : Operand) (t : TypeId)
    (ho : o.op = .call { callee := .builtin .append, args := #[s, x], argTypes := #[t, t] })
    (base : Nat) (e : TypeId) (size bytes : Nat) (ht : P.underlying t = some (.slice e)) (hinfo : ∃ i z, P.info? e = some i ∧ i.zero = some z ∧ i.size = size ∧ i.bytes = bytes ∧ z.cells.size = size) (hsz : 0 < size)
    (v : Value) (n : Nat) (xs : List Value) (hs : a.eval s = v) (hown : w.ownsRow base e size v n xs)
    (A : Option Addr) (m c : Nat) (news : List Value) (hx : a.eval x = .slice A m c) (hr : Lies w size A m news) (hso : Sourced A m) (h1 : ∀ u ∈ news, u.oneCell' = true)
    (h63 : n + m ≤ maxLen) (hbytes : (n + m) * bytes ≤ 140737488355328) (hbase : base ≤ w.heap.size)
    (h : ∀ v' w', w'.ownsRow base e size v' (n + m) (xs ++ news) → w.grownBy w' v.ownBlock → (v'.ownBlock = v.ownBlock ∨ v'.ownBlock = some w.heap.size) → wpList P ops Q rest (a.put o.dst v') w') : wpList P ops Q (o :: rest) a w := by
  obtain ⟨v', w', q1, q2, q3, q4⟩ := run_app (P := P) w t o.type base e size bytes ht hinfo hsz v n xs hown A m c news hr hso h1 h63 hbytes hbase
  exact Lib.wpList_append_run w hgd s x t t ho _ _ hs hx v' w' q1 (h v' w' q2 q3 q4)
/-- The same at a step of a drawn region. -/
theorem step_app {P : Program} (w : World) {ops : Array Oper} {o : Oper} {a : Act} {K : Act → World → Prop} {Q : Exit → Act → World → Prop} {E : Prop} (hgd : o.guard = none) (s x : Operand) (t : TypeId)
    (ho : o.op = .call { callee := .builtin .append, args := #[s, x], argTypes := #[t, t] })
    (base : Nat) (e : TypeId) (size bytes : Nat) (ht : P.underlying t = some (.slice e)) (hinfo : ∃ i z, P.info? e = some i ∧ i.zero = some z ∧ i.size = size ∧ i.bytes = bytes ∧ z.cells.size = size) (hsz : 0 < size)
    (v : Value) (n : Nat) (xs : List Value) (hs : a.eval s = v) (hown : w.ownsRow base e size v n xs)
    (A : Option Addr) (m c : Nat) (news : List Value) (hx : a.eval x = .slice A m c) (hr : Lies w size A m news) (hso : Sourced A m) (h1 : ∀ u ∈ news, u.oneCell' = true)
    (h63 : n + m ≤ maxLen) (hbytes : (n + m) * bytes ≤ 140737488355328) (hbase : base ≤ w.heap.size)
    (h : ∀ v' w', w'.ownsRow base e size v' (n + m) (xs ++ news) → w.grownBy w' v.ownBlock → (v'.ownBlock = v.ownBlock ∨ v'.ownBlock = some w.heap.size) → K (a.put o.dst v') w') : if Region.wanted o (yielded ops a.tmps) = true then Oper.wp P o a w K Q else E := by
  have hw : Region.wanted o (yielded ops a.tmps) = true := by simp [Region.wanted, hgd]
  rw [if_pos hw]
  obtain ⟨v', w', q1, q2, q3, q4⟩ := run_app (P := P) w t o.type base e size bytes ht hinfo hsz v n xs hown A m c news hr hso h1 h63 hbytes hbase
  exact Lib.wp_append_run w s x t t ho _ _ hs hx v' w' q1 (h v' w' q2 q3 q4)
theorem Lies.alloc {w : World} {size m b : Nat} {vs : List Value} (h : Lies w size (some ⟨b, 0, none⟩) m vs) (hb : b < w.heap.size) (o : Obj) : Lies (w.alloc o) size (some ⟨b, 0, none⟩) m vs :=
  ⟨h.1, fun ad hA j u hu => by
    injection hA with hA; subst hA
    have := h.2 _ rfl j u hu
    rw [Go.WideShapes.add_plain] at this ⊢
    rw [World.cell?_alloc_lt _ _ _ hb]; exact this⟩
theorem Lies.grown {w w' : World} {size m b : Nat} {vs : List Value} {row : Option Nat} (h : Lies w size (some ⟨b, 0, none⟩) m vs) (hg : w.grownBy w' row) (hne : row ≠ some b) : Lies w' size (some ⟨b, 0, none⟩) m vs :=
  ⟨h.1, fun ad hA j u hu => by
    injection hA with hA; subst hA
    have := h.2 _ rfl j u hu
    rw [Go.WideShapes.add_plain] at this ⊢
    exact hg.cell this (fun e => hne e.symm)⟩
end Go.Proofs.Ytpodpbhbagkblaa
