/- A token is put together; two rows of grants, one behind the other. -/
import Derived.Test.YtmeafjehcckibaaDoorB8
namespace Go.Proofs.YtmeafjehcckibaaDoor
open Go.ChangeShapes Go.WideShapes Go.ChangeAt Go.RowKit
set_option linter.unusedVariables false
open Plain Sha
theorem fold_off {α : Type} (off : Nat) : ∀ (l pre : List α) (init : Array α), off ≤ pre.length → init.size = pre.length + l.length → init.toList.take pre.length = pre →
    List.foldl (fun cs (x : α × Nat) => cs.setIfInBounds (off + x.snd) x.fst) init (l.zipIdx (pre.length - off)) = (pre ++ l).toArray
  | [], pre, init, ho, hs, hp => by
    rw [List.zipIdx_nil, List.foldl_nil, List.append_nil]
    apply Array.toList_inj.1
    rw [List.toList_toArray, ← hp, List.take_of_length_le]
    rw [Array.length_toList]; simp at hs; omega
  | v :: l, pre, init, ho, hs, hp => by
    rw [List.zipIdx_cons, List.foldl_cons]
    have hlt : pre.length < init.size := by rw [hs, List.length_cons]; omega
    have e : off + (pre.length - off) = pre.length := by omega
    simp only [e]
    have := fold_off off l (pre ++ [v]) (init.setIfInBounds pre.length v) (by rw [List.length_append]; omega) (by rw [Array.size_setIfInBounds, hs]; simp; omega) (by
      rw [Array.toList_setIfInBounds, List.length_append, List.length_singleton]
      apply List.ext_getElem?
      intro j
      rw [List.getElem?_take]
      by_cases hj : j < pre.length
      · rw [if_pos (by omega), List.getElem?_set_ne (by omega), List.getElem?_append_left hj]
        have h2 := congrArg (·[j]?) hp
        simpa [List.getElem?_take, hj] using h2
      · by_cases hj2 : j = pre.length
        · subst hj2
          rw [if_pos (by omega), List.getElem?_set_self (by rw [Array.length_toList]; exact hlt), List.getElem?_append_right (Nat.le_refl _)]
          simp
        · rw [if_neg (by omega), List.getElem?_eq_none (by simp; omega)])
    rw [List.length_append, List.length_singleton, show pre.length + 1 - off = pre.length - off + 1 by omega] at this
    rw [this]
    simp
set_option maxRecDepth 100000 in
theorem build_tok (tn : Int) (A : Option Addr) (m c : Nat) {T : List Int} (hT : T.length = 32) (W : World) :
    (Instr.build 26 #[(0, .int .i64 tn), (1, .slice A m c), (2, .agg (vals T).toArray)]).run Tryd.prog W = .ok (.agg (tv ⟨tn, A, m, c, T⟩).toArray) W := by
  have hl : (vals T).length = 32 := by rw [vals_len, hT]
  generalize hV : vals T = V at *
  go_simp
  have := fold_off 2 V [Value.int .i64 tn, Value.slice A m c] (tv ⟨tn, A, m, c, List.replicate 32 0⟩).toArray (Nat.le_refl _) (by rw [List.size_toArray, tv_len (by rfl), hl]; rfl) rfl
  rw [show ([Value.int .i64 tn, Value.slice A m c] : List Value).length - 2 = 0 from rfl] at this
  refine Eq.trans this ?_
  show (Value.int .i64 tn :: Value.slice A m c :: V).toArray = (Value.int .i64 tn :: Value.slice A m c :: vals T).toArray
  rw [hV]
/-- An operation whose run is known, alone. -/
theorem wp_exec {P : Program} {op : Oper} {a : Act} {w : World} {K : Act → World → Prop} {Q : Exit → Act → World → Prop} (v : Value)
    (hrun : (execOp a.eval op).run P w = .ok (.value v) w) (h : K (a.put op.dst v) w) : op.wp P a w K Q := by
  unfold Oper.wp
  simp only [hrun]
  exact h
theorem concat2G {n1 n2 b B1 B2 : Nat} {D1 D2 : Option Addr} {c1 c2 : Nat} {l1 l2 : List GrantZ} (c : Nat) {w : World} (hb : b < w.heap.size) (h1 : w.cell? ⟨b, 0, none⟩ = some (.slice D1 n1 c1)) (h2 : w.cell? ⟨b, 1, none⟩ = some (.slice D2 n2 c2)) (g1 : Grants w B1 D1 n1 l1) (g2 : Grants w B2 D2 n2 l2) (hB1 : B1 ≤ w.heap.size) (hB2 : B2 ≤ w.heap.size) (hn : n1 + n2 ≤ 4096) :
    Calls Tryd.prog 33 #[.slice (some ⟨b, 0, none⟩) 2 c] w (fun e w' => ∃ D d, e = .returned (.slice D (n1 + n2) d) ∧ Grants w' w'.heap.size D (n1 + n2) (l1 ++ l2) ∧ n1 + n2 ≤ d ∧ d ≤ maxLen ∧ (∀ b' off, D = some ⟨b', off, none⟩ → w.heap.size ≤ b') ∧ Below w.heap.size w w') := by
  have := concatG_any (w := w) (b := b) (m := 2) (As := fun j => if j = 0 then D1 else D2) (N := fun j => if j = 0 then n1 else n2) (C := fun j => if j = 0 then c1 else c2) (V := fun j => if j = 0 then gv l1 else gv l2) c
    (fun W hW j hj => by
      match j, hj with
      | 0, _ => exact (hW.cell (p := ⟨b, 0, none⟩) hb).trans h1
      | 1, _ => exact (hW.cell (p := ⟨b, 1, none⟩) hb).trans h2)
    (fun W hW j hj => by
      match j, hj with
      | 0, _ => exact (g1.belowM hW hB1).lies
      | 1, _ => exact (g2.belowM hW hB2).lies)
    (fun j hj => by
      match j, hj with
      | 0, _ => exact gv_one l1
      | 1, _ => exact gv_one l2)
    (by omega) (by simp [nTo]; omega)
  refine this.mono ?_
  rintro e w' ⟨v, rfl, ho, hb'⟩
  have e1 : vTo (fun j => if j = 0 then gv l1 else gv l2) 2 = gv (l1 ++ l2) := by rw [gv_app]; simp [vTo]
  have e2 : nTo (fun j => if j = 0 then n1 else n2) 2 = n1 + n2 := by simp [nTo]
  rw [e1, e2] at ho
  obtain ⟨D, d, rfl, hd1, hd2⟩ := own_shapeG ho
  exact ⟨D, d, rfl, grants_of_own ho (fun g hg => by
    rcases List.mem_append.1 hg with hg | hg
    · exact g1.ok g hg
    · exact g2.ok g hg), hd1, hd2, fun b' off hq => (ho.lt b' (by rw [hq]; rfl)).1, hb'⟩
end Go.Proofs.YtmeafjehcckibaaDoor
