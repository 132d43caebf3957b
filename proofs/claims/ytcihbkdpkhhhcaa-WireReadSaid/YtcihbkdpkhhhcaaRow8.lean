/- Rows of bytes in the midst of blocks: read, copied into. -/
import Derived.Test.YtcihbkdpkhhhcaaRow
import Derived.Test.YtcihbkdpkhhhcaaWords
import Derived.Laws.CopyOwn
namespace Go.Proofs.Ytcihbkdpkhhhcaa
open Go.ChangeShapes Go.WideShapes Go.ChangeAt Go.RowKit
set_option linter.unusedVariables false
open Plain Sha
/-- From offset o on block b holds the bytes l, and they may be written. -/
structure Row8 (w : World) (b o : Nat) (l : List Int) : Prop where
  range : w.rangeAt b o (vals l)
  there : w.there b o l.length
theorem vals_at (l : List Int) (j : Nat) (h : j < l.length) : (vals l)[j]? = some (.int .u8 (l.getD j 0)) := by
  simp [vals, List.getElem?_map, List.getElem?_eq_getElem h, List.getD_eq_getElem?_getD]
theorem rangeAt_same {w w' : World} {b o : Nat} {cs : List Value} (h : w.rangeAt b o cs) (e : w'.heap[b]? = w.heap[b]?) : w'.rangeAt b o cs := fun j v hv => (World.cell?_of_block (a := ⟨b, o + j, none⟩) e).trans (h j v hv)
theorem there_same {w w' : World} {b o n : Nat} (h : w.there b o n) (e : w'.heap[b]? = w.heap[b]?) : w'.there b o n := fun j hj => by
  rw [World.cell?_of_block (a := ⟨b, o + j, none⟩) e, World.frozen?_of_block (a := ⟨b, o + j, none⟩) e]; exact h j hj
theorem there_sub {w : World} {b o n o' n' : Nat} (h : w.there b o n) (h1 : o ≤ o') (h2 : o' + n' ≤ o + n) : w.there b o' n' := fun j hj => by
  have := h (o' - o + j) (by omega)
  rwa [show o + (o' - o + j) = o' + j from by omega] at this
theorem Row8.same {w w' : World} {b o : Nat} {l : List Int} (h : Row8 w b o l) (e : w'.heap[b]? = w.heap[b]?) : Row8 w' b o l := ⟨rangeAt_same h.range e, there_same h.there e⟩
theorem Row8.bs {w : World} {b o : Nat} {l : List Int} (h : Row8 w b o l) (hb : IsBytes l) {B : Nat} (hB : b < B) {n : Nat} (hn : n = l.length) : Bs w B (some ⟨b, o, none⟩) n l := by
  subst hn
  exact ⟨rfl, hb, fun _ => ⟨b, o, rfl, hB, fun j hj => h.range j _ (vals_at l j hj)⟩⟩
theorem splice_len {l zs : List Int} {k : Nat} (h : k + zs.length ≤ l.length) : (splice l k zs).length = l.length := length_splice l k zs h
theorem splice_at (l zs : List Int) (k j : Nat) (h : k + zs.length ≤ l.length) : (splice l k zs).getD j 0 = if k ≤ j ∧ j < k + zs.length then zs.getD (j - k) 0 else l.getD j 0 := by
  simp only [splice, List.getD_eq_getElem?_getD]
  by_cases h1 : j < k
  · rw [List.getElem?_append_left (by simp; omega), List.getElem?_take_of_lt h1, if_neg (by omega)]
  · have e : (l.take k).length = k := by simp; omega
    rw [List.getElem?_append_right (by omega), e]
    by_cases h2 : j < k + zs.length
    · rw [List.getElem?_append_left (by omega), if_pos ⟨by omega, h2⟩]
    · rw [List.getElem?_append_right (by omega), if_neg (by omega), List.getElem?_drop]
      congr 2; omega
/-- Bytes are laid over some of them. -/
theorem Row8.splice {w : World} {b o : Nat} {l : List Int} (h : Row8 w b o l) (k : Nat) (zs : List Int) (hk : k + zs.length ≤ l.length) : Row8 (w.setCells b (o + k) (vals zs)) b o (splice l k zs) := by
  have hl := splice_len hk
  refine ⟨fun j v hv => ?_, by rw [hl]; exact World.there_setCells h.there _ _ _⟩
  have hj : j < (Go.splice l k zs).length := by have := (List.getElem?_eq_some_iff.1 hv).1; rwa [vals_len] at this
  rw [vals_at _ j hj] at hv
  injection hv with hv
  subst hv
  rw [splice_at l zs k j hk]
  rw [hl] at hj
  split
  · next hc =>
    have := World.rangeAt_setCells_same w b (o + k) (vals zs) (fun i hi => by
      rw [vals_len] at hi
      have := h.there (k + i) (by omega)
      rwa [← Nat.add_assoc] at this) (j - k) _ (vals_at zs (j - k) (by omega))
    rwa [show o + k + (j - k) = o + j from by omega] at this
  · next hc =>
    rw [World.cell?_setCells_out b (vals zs) (o + k) w ⟨b, o + j, none⟩ (fun _ _ => by rw [vals_len]; show o + j < o + k ∨ o + k + zs.length ≤ o + j; omega)]
    exact h.range j _ (vals_at l j hj)
theorem Row8.storeOther {w : World} {b o : Nat} {l : List Int} (h : Row8 w b o l) (b' o' : Nat) (vs : List Value) (hb : b' ≠ b ∨ o + l.length ≤ o' ∨ o' + vs.length ≤ o) : Row8 (w.setCells b' o' vs) b o l :=
  ⟨World.rangeAt_setCells_apart h.range _ _ _ (by rw [vals_len]; rcases hb with h | h | h; exact .inl (fun e => h e.symm); exact .inr (.inl h); exact .inr (.inr h)), World.there_setCells h.there _ _ _⟩
theorem Row8.new (w : World) (l : List Int) (t : TypeId) : Row8 (w.alloc (.cells (vals l).toArray t)) w.heap.size 0 l := by
  refine ⟨fun j v hv => ?_, fun j hj => ?_⟩
  · rw [cell_of_row _ _ _ _ _ _ (heap_alloc_new w _), Nat.zero_add]
    simpa using hv
  · refine ⟨?_, frozen_of_row _ _ _ _ _ (heap_alloc_new w _)⟩
    rw [cell_of_row _ _ _ _ _ _ (heap_alloc_new w _), Nat.zero_add]
    have := vals_at l j hj
    simp [this]
theorem heap_setCells (b : Nat) (k : Nat) (hk : k ≠ b) : ∀ (vs : List Value) (o : Nat) (w : World), (w.setCells b o vs).heap[k]? = w.heap[k]?
  | [], _, _ => rfl
  | v :: r, o, w => by rw [World.setCells, heap_setCells b k hk r (o + 1)]; exact Below.heap_setCell w ⟨b, o, none⟩ v k hk
theorem grown_setCells {a : World} {b : Nat} : ∀ (vs : List Value) (o : Nat) (w : World), a.grownBy w (some b) → a.grownBy (w.setCells b o vs) (some b)
  | [], _, _, h => h
  | v :: r, o, w, h => by
    rw [World.setCells]
    refine grown_setCells r (o + 1) _ ⟨h.os, h.tape, h.output, by simpa [World.setCell] using h.size, fun i hi hne => ?_⟩
    exact (Below.heap_setCell w ⟨b, o, none⟩ v i (fun e => hne (by rw [e]))).trans (h.block i hi hne)
/-- copy, as a law for the walk: the cells go over; the world behind it has a name of its own. -/
theorem wpList_copy_as {P : Program} {w : World} {ops : Array Oper} {rest : List Oper} {o : Oper} {a : Act} {Q : Exit → Act → World → Prop} (hgd : o.guard = none) (d s : Operand) (dT sT : TypeId)
    (ho : o.op = .call { callee := .builtin .copy, args := #[d, s], argTypes := #[dT, sT] }) (elem : TypeId) (hu : P.underlying dT = some (.slice elem)) (hsz : (P.info? elem).map (·.size) = some 1)
    (dp sp : Option Addr) (dLen dCap sLen sCap : Nat) (hd : a.eval d = .slice dp dLen dCap) (hs : a.eval s = .slice sp sLen sCap)
    (g off : Nat) (cs : List Value) (hn : cs.length = Nat.min sLen dLen) (ht : w.there g off cs.length)
    (hpos : 0 < cs.length → dp = some ⟨g, off, none⟩ ∧ ∃ ad, sp = some ad ∧ ∀ j v, cs[j]? = some v → w.cell? (ad.add j) = some v)
    (h1 : ∀ v ∈ cs, v.oneCell' = true)
    (h : ∀ w', Hid (w' = w.setCells g off cs) → wpList P ops Q rest (a.put o.dst (goInt cs.length)) w') :
    wpList P ops Q (o :: rest) a w := by
  by_cases h0 : cs.length = 0
  · obtain rfl : cs = [] := List.eq_nil_of_length_eq_zero h0
    exact wpList_copy_nothing hgd d s dT sT ho elem hu hsz dp sp dLen dCap sLen sCap hd hs (by simpa using hn.symm) (h w (Lib.hid rfl))
  · obtain ⟨rfl, ad, rfl, hsrc⟩ := hpos (by omega)
    refine wpList_plain hgd fun K hK => ?_
    have hrun := run_copy_cells (P := P) w dT sT o.type elem g off dLen dCap ad sLen sCap cs hu hsz hn hsrc (fun j hj => (ht j hj).1) (fun j hj => (ht j hj).2) h1
    unfold Oper.wp
    simp [execOp, ho, resolve, invoke, builtin, hd, hs, hrun, Result.andThen]
    exact hK _ _ (h _ (Lib.hid rfl))
theorem step_copy_as {P : Program} {ops : Array Oper} {o : Oper} {a : Act} {w : World} {K : Act → World → Prop} {Q : Exit → Act → World → Prop} {E : Prop} (hgd : o.guard = none) (d s : Operand) (dT sT : TypeId)
    (ho : o.op = .call { callee := .builtin .copy, args := #[d, s], argTypes := #[dT, sT] }) (elem : TypeId) (hu : P.underlying dT = some (.slice elem)) (hsz : (P.info? elem).map (·.size) = some 1)
    (dp sp : Option Addr) (dLen dCap sLen sCap : Nat) (hd : a.eval d = .slice dp dLen dCap) (hs : a.eval s = .slice sp sLen sCap)
    (g off : Nat) (cs : List Value) (hn : cs.length = Nat.min sLen dLen) (ht : w.there g off cs.length)
    (hpos : 0 < cs.length → dp = some ⟨g, off, none⟩ ∧ ∃ ad, sp = some ad ∧ ∀ j v, cs[j]? = some v → w.cell? (ad.add j) = some v)
    (h1 : ∀ v ∈ cs, v.oneCell' = true)
    (h : ∀ w', Hid (w' = w.setCells g off cs) → K (a.put o.dst (goInt cs.length)) w') :
    if Region.wanted o (yielded ops a.tmps) = true then Oper.wp P o a w K Q else E := by
  have hw : Region.wanted o (yielded ops a.tmps) = true := by simp [Region.wanted, hgd]
  rw [if_pos hw]
  by_cases h0 : cs.length = 0
  · obtain rfl : cs = [] := List.eq_nil_of_length_eq_zero h0
    have hrun := run_copy_none (P := P) w dT sT o.type elem dp sp dLen dCap sLen sCap hu hsz (by simpa using hn.symm)
    unfold Oper.wp
    simp [execOp, ho, resolve, invoke, builtin, hd, hs, hrun, Result.andThen]
    exact h w (Lib.hid rfl)
  · obtain ⟨rfl, ad, rfl, hsrc⟩ := hpos (by omega)
    have hrun := run_copy_cells (P := P) w dT sT o.type elem g off dLen dCap ad sLen sCap cs hu hsz hn hsrc (fun j hj => (ht j hj).1) (fun j hj => (ht j hj).2) h1
    unfold Oper.wp
    simp [execOp, ho, resolve, invoke, builtin, hd, hs, hrun, Result.andThen]
    exact h _ (Lib.hid rfl)
end Go.Proofs.Ytcihbkdpkhhhcaa
