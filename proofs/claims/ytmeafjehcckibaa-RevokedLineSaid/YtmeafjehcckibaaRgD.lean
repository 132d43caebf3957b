/- A line with a grant more. -/
import Derived.Test.YtmeafjehcckibaaB2
import Derived.Test.YtmeafjehcckibaaRgWithin
import Derived.Test.YtmeafjehcckibaaB3
namespace Go.Proofs.Ytmeafjehcckibaa
open Go.ChangeShapes Go.WideShapes Go.ChangeAt Go.RowKit
set_option linter.unusedVariables false
theorem own_emptyB (w : World) (base : Nat) (hb : base ≤ w.heap.size) : (w.alloc (.cells #[] 41)).ownsRow base 41 3 (.slice (some ⟨w.heap.size, 0, none⟩) 0 0) 0 (gv []) :=
  World.ownsRow_lit w #[] 0 hb (by simp [maxLen]) rfl
theorem and_again (a b : Int) : andZ a (andZ a b) = andZ a b := by
  unfold andZ
  rw [Int.toNat_natCast, ← Nat.and_assoc, Nat.and_self]
theorem and_other (a b : Int) : andZ b (andZ a b) = andZ a b := by
  unfold andZ
  rw [Int.toNat_natCast, Nat.and_comm a.toNat, ← Nat.and_assoc, Nat.and_self]
theorem has_of {a b : Int} (h0 : 0 ≤ a) (h1 : a < 256) (h2 : 0 ≤ b) (h3 : b < 256) (h : andZ a b = b) : hasB a b = true := by
  unfold hasB
  rw [bits_and h0 h1 h2 h3, h]
  simp
theorem line_snoc {l : List GrantZ} {g : GrantZ} (hl : lineB l = true) (hm : l.length < 4) (hg : mayB g = true) : lineB (l ++ [g]) = true := by
  simp only [lineB, Bool.and_eq_true, decide_eq_true_eq, List.length_append, List.length_singleton, List.all_append, List.all_cons, List.all_nil, Bool.and_true] at hl ⊢
  exact ⟨⟨by omega, by omega⟩, hl.2, hg⟩
theorem within_snoc {l : List GrantZ} {g : GrantZ} (hl : lineB l = true) (hm : l.length < 4) (hg : mayB g = true) (h0 : 0 ≤ g.r) : withinB (l ++ [g]) l = true := by
  have b1 := lvR_bound l
  have b2 := andZ_le (lvR l) g.r b1.1
  have hh := has_of b1.1 (by omega) b2.1 (by omega) (and_again (lvR l) g.r)
  simp only [withinB, line_snoc hl hm hg, hl, lvR_snoc, lvX_snoc, hh, Bool.and_true, Bool.true_and, decide_eq_true_eq]
  omega
/-- A row of one grant that has just been made. -/
theorem one_liesG (w : World) (g : GrantZ) (t : TypeId) : Lies (w.alloc (.cells #[.int .u8 g.r, .int .i64 g.x, .int .i64 g.s] t)) 3 (some ⟨w.heap.size, 0, none⟩) 1 (gv [g]) := by
  refine ⟨rfl, fun ad hA j u hu => ?_⟩
  injection hA with hA; subst hA
  rw [Go.WideShapes.add_plain, cell_of_row _ _ _ _ _ _ (heap_alloc_new w _)]
  simpa [gv] using hu
theorem Lies.drew {w : World} {size m : Nat} {A : Option Addr} {vs : List Value} (h : Lies w size A m vs) : Lies w.drew size A m vs := ⟨h.1, fun ad hA j u hu => h.2 ad hA j u hu⟩
/-- append of grants onto grants of the call's own, at a step of a drawn region. -/
theorem step_grants (w0 w : World) (hW : Below w0.heap.size w0 w) {ops : Array Oper} {o : Oper} {a : Act} {K : Act → World → Prop} {Q : Exit → Act → World → Prop} {E : Prop} (hgd : o.guard = none) (s x : Operand)
    (ho : o.op = .call { callee := .builtin .append, args := #[s, x], argTypes := #[32, 32] })
    (v : Value) (n : Nat) (l1 : List GrantZ) (hown : w.ownsRow w0.heap.size 41 3 v n (gv l1)) (hs : a.eval s = v)
    (A : Option Addr) (m c : Nat) (l2 : List GrantZ) (hr : Lies w 3 A m (gv l2)) (hso : Sourced A m) (hx : a.eval x = .slice A m c) (hn : n + m ≤ 4096)
    (h : ∀ v' w', w'.ownsRow w0.heap.size 41 3 v' (n + m) (gv (l1 ++ l2)) → Below w0.heap.size w0 w' → w.grownBy w' v.ownBlock → K (a.put o.dst v') w') : if Region.wanted o (yielded ops a.tmps) = true then Oper.wp Try.prog o a w K Q else E := by
  refine step_app w hgd s x 32 ho w0.heap.size 41 3 24 Try.underlying32 grant_info (by omega) v n (gv l1) hs hown A m c (gv l2) hx hr hso (gv_one l2) (by unfold maxLen; omega) (by omega) hW.size ?_
  intro v' w' ho' hg' _
  rw [← gv_app] at ho'
  exact h v' w' ho' (hW.grown hg' hW.size (fun k hk => (hown.lt k hk).1)) hg'
section
variable (w : World) (o o2 : Obj)
theorem bw1 : Below w.heap.size w (w.alloc o).drew := ((Below.refl _ _).alloc (Nat.le_refl _) _).drew
theorem bw2 : Below w.heap.size w ((w.alloc o).alloc o2).drew := (((Below.refl _ _).alloc (Nat.le_refl _) _).alloc (by simp) _).drew
theorem own_e1 : (w.alloc (.cells #[] 41)).drew.ownsRow w.heap.size 41 3 (.slice (some ⟨w.heap.size, 0, none⟩) 0 0) 0 (gv []) := own_emptyB w _ (Nat.le_refl _)
theorem own_e2 : ((w.alloc (.cells #[] 41)).alloc o).drew.ownsRow w.heap.size 41 3 (.slice (some ⟨w.heap.size, 0, none⟩) 0 0) 0 (gv []) := (own_emptyB w _ (Nat.le_refl _)).alloc o
theorem own_e3 : ((w.alloc o).alloc (.cells #[] 41)).drew.ownsRow w.heap.size 41 3 (.slice (some ⟨w.heap.size + 1, 0, none⟩) 0 0) 0 (gv []) := by
  have := own_emptyB (w.alloc o) w.heap.size (by simp)
  rw [World.size_alloc] at this
  exact this
end
theorem one_liesD (w : World) (g : GrantZ) (t : TypeId) : Lies (w.alloc (.cells #[.int .u8 g.r, .int .i64 g.x, .int .i64 g.s] t)).drew 3 (some ⟨w.heap.size, 0, none⟩) 1 (gv [g]) := (one_liesG w g t).drew
theorem lies_a2 {w w3 : World} {E : Obj} {g : GrantZ} {t : TypeId} {row : Option Nat} (hg : ((w.alloc E).alloc (.cells #[.int .u8 g.r, .int .i64 g.x, .int .i64 g.s] t)).drew.grownBy w3 row) (hr : row = some w.heap.size) : Lies w3 3 (some ⟨w.heap.size + 1, 0, none⟩) 1 (gv [g]) := by
  have := one_liesD (w.alloc E) g t
  rw [World.size_alloc] at this
  exact this.grown hg (by rw [hr]; intro e; injection e with e; omega)
theorem lies_b {w w3 : World} {E : Obj} {g : GrantZ} {t : TypeId} {row : Option Nat} (hg : ((w.alloc (.cells #[.int .u8 g.r, .int .i64 g.x, .int .i64 g.s] t)).alloc E).drew.grownBy w3 row) (hr : row = some (w.heap.size + 1)) : Lies w3 3 (some ⟨w.heap.size, 0, none⟩) 1 (gv [g]) := by
  have := ((one_liesG w g t).alloc (by simp) E).drew
  exact this.grown hg (by rw [hr]; intro e; injection e with e; omega)
end Go.Proofs.Ytmeafjehcckibaa
