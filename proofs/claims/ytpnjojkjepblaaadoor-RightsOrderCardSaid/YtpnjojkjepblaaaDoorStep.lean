/- append onto a row of the call's own, of elements that may be none, in a plain region and in one that draws; what lies in a block stays there. -/
import Derived.Test.YtpnjojkjepblaaaDoorLast
import Derived.Test.YtpnjojkjepblaaaDoorApp
import Derived.Lib.AppendZerosOnto
namespace Go.Proofs.YtpnjojkjepblaaaDoor
open Go.ChangeShapes Go.WideShapes Go.ChangeAt Go.RowKit
set_option linter.unusedVariables false
/-- append onto an own row, of elements that may be none; where the new row stands. -/
theorem run_app {P : Program} (w : World) (t ty : TypeId) (base : Nat) (e : TypeId) (size bytes : Nat) (ht : P.underlying t = some (.slice e)) (hinfo : ∃ i z, P.info? e = some i ∧ i.zero = some z ∧ i.size = size ∧ i.bytes = bytes ∧ z.cells.size = size) (hsz : 0 < size)
    (v : Value) (n : Nat) (xs : List Value) (hown : w.ownsRow base e size v n xs)
    (A : Option Addr) (m c : Nat) (news : List Value) (hr : Lies w size A m news) (hso : Sourced A m) (h1 : ∀ u ∈ news, u.oneCell' = true)
    (h63 : n + m ≤ maxLen) (hbytes : (n + m) * bytes ≤ 140737488355328) (hbase : base ≤ w.heap.size) :
    ∃ v' w', (Builtin.append_ #[t, t] ty #[v, .slice A m c]).run P w = .ok v' w' ∧ w'.ownsRow base e size v' (n + m) (xs ++ news) ∧ w.grownBy w' v.ownBlock ∧ (v'.ownBlock = v.ownBlock ∨ v'.ownBlock = some w.heap.size) := by
  obtain ⟨i, z, hi, hz, hsize, hby, hzs⟩ := hinfo
  cases A with
  | none =>
    have hm : m = 0 := hso rfl
    subst hm
    have hn : news = [] := List.eq_nil_of_length_eq_zero (by simpa using hr.1)
    subst hn
    exact ⟨v, w, run_append_nothing (P := P) w base t ty e i size ht hi v n xs hown c, by simpa using hown, World.grownBy.refl w _, .inl rfl⟩
  | some ad =>
    obtain ⟨v', w', q1, q2, q3, _, q5⟩ := run_append_own_at (P := P) w base t ty e i z size bytes ht hi hz hsize hby hzs hsz v n xs hown ad m c news hr.1 (hr.2 ad rfl) h1 h63 hbytes hbase
    exact ⟨v', w', q1, q2, q3, q5⟩
theorem wpList_appA {P : Program} (w : World) {ops : Array Oper} {rest : List Oper} {o : Oper} {a : Act} {Q : Exit → Act → World → Prop} (hgd : o.guard = none) (s x : Operand) (t : TypeId)
    (ho : o.op = .call { callee := .builtin .append, args := #[s, x], argTypes := #[t, t] })
    (base : Nat) (e : TypeId) (size bytes : Nat) (ht : P.underlying t = some (.slice e)) (hinfo : ∃ i z, P.info? e = some i ∧ i.zero = some z ∧ i.size = size ∧ i.bytes = bytes ∧ z.cells.size = size) (hsz : 0 < size)
    (v : Value) (n : Nat) (xs : List Value) (hs : a.eval s = v) (hown : w.ownsRow base e size v n xs)
    (A : Option Addr) (m c : Nat) (news : List Value) (hx : a.eval x = .slice A m c) (hr : Lies w size A m news) (hso : Sourced A m) (h1 : ∀ u ∈ news, u.oneCell' = true)
    (h63 : n + m ≤ maxLen) (hbytes : (n + m) * bytes ≤ 140737488355328) (hbase : base ≤ w.heap.size)
    (h : ∀ v' w', w'.ownsRow base e size v' (n + m) (xs ++ news) → w.grownBy w' v.ownBlock → (v'.ownBlock = v.ownBlock ∨ v'.ownBlock = some w.heap.size) → wpList P ops Q rest (a.put o.dst v') w') : wpList P ops Q (o :: rest) a w := by
  obtain ⟨v', w', q1, q2, q3, q4⟩ := run_app (P := P) w t o.type base e size bytes ht hinfo hsz v n xs hown A m c news hr hso h1 h63 hbytes hbase
  exact Lib.wpList_append_run w hgd s x t t ho _ _ hs hx v' w' q1 (h v' w' q2 q3 q4)
/-- The same at a step of a drawn region. -/
theorem step_app {P : Program} (w : World) {ops : Array Oper} {o : Oper} {a : Act} {K : Act → World → Prop} {Q : Exit → Act → World → Prop} {E : Prop} (hgd : o.guard = none) (s x : Operand) (t : TypeId)
    (ho : o.op = .call { callee := .builtin .append, args := #[s, x], argTypes := #[t, t] })
    (base : Nat) (e : TypeId) (size bytes : Nat) (ht : P.underlying t = some (.slice e)) (hinfo : ∃ i z, P.info? e = some i ∧ i.zero = some z ∧ i.size = size ∧ i.bytes = bytes ∧ z.cells.size = size) (hsz : 0 < size)
    (v : Value) (n : Nat) (xs : List Value) (hs : a.eval s = v) (hown : w.ownsRow base e size v n xs)
    (A : Option Addr) (m c : Nat) (news : List Value) (hx : a.eval x = .slice A m c) (hr : Lies w size A m news) (hso : Sourced A m) (h1 : ∀ u ∈ news, u.oneCell' = true)
    (h63 : n + m ≤ maxLen) (hbytes : (n + m) * bytes ≤ 140737488355328) (hbase : base ≤ w.heap.size)
    (h : ∀ v' w', w'.ownsRow base e size v' (n + m) (xs ++ news) → w.grownBy w' v.ownBlock → (v'.ownBlock = v.ownBlock ∨ v'.ownBlock = some w.heap.size) → K (a.put o.dst v') w') : if Region.wanted o (yielded ops a.tmps) = true then Oper.wp P o a w K Q else E := by
  have hw : Region.wanted o (yielded ops a.tmps) = true := by simp [Region.wanted, hgd]
  rw [if_pos hw]
  obtain ⟨v', w', q1, q2, q3, q4⟩ := run_app (P := P) w t o.type base e size bytes ht hinfo hsz v n xs hown A m c news hr hso h1 h63 hbytes hbase
  exact Lib.wp_append_run w s x t t ho _ _ hs hx v' w' q1 (h v' w' q2 q3 q4)
theorem Lies.alloc {w : World} {size m b : Nat} {vs : List Value} (h : Lies w size (some ⟨b, 0, none⟩) m vs) (hb : b < w.heap.size) (o : Obj) : Lies (w.alloc o) size (some ⟨b, 0, none⟩) m vs :=
  ⟨h.1, fun ad hA j u hu => by
    injection hA with hA; subst hA
    have := h.2 _ rfl j u hu
    rw [Go.WideShapes.add_plain] at this ⊢
    rw [World.cell?_alloc_lt _ _ _ hb]; exact this⟩
theorem Lies.grown {w w' : World} {size m b : Nat} {vs : List Value} {row : Option Nat} (h : Lies w size (some ⟨b, 0, none⟩) m vs) (hg : w.grownBy w' row) (hne : row ≠ some b) : Lies w' size (some ⟨b, 0, none⟩) m vs :=
  ⟨h.1, fun ad hA j u hu => by
    injection hA with hA; subst hA
    have := h.2 _ rfl j u hu
    rw [Go.WideShapes.add_plain] at this ⊢
    exact hg.cell this (fun e => hne e.symm)⟩
end Go.Proofs.YtpnjojkjepblaaaDoor
