/- Rows of pairs that a call makes; append onto a front that is cut off where it ends; a copy; other pairs in the place of some. -/
import Derived.Test.YtmlkcedhjnmfgaaSpD
import Derived.Laws.OwnMore
import Derived.Lib.SliceRun
namespace Go.Proofs.Ytmlkcedhjnmfgaa
open Go.ChangeShapes Go.WideShapes Go.ChangeAt Go.RowKit
set_option linter.unusedVariables false
set_option linter.unusedSimpArgs false
open Plain Sp
/-- A row of pairs in memory that came behind block base. -/
structure NewP (w : World) (base : Nat) (D : Option Addr) (n d : Nat) (l : List PairZ) : Prop where
  len : l.length = n
  nd : n ≤ d
  dm : d ≤ maxLen
  ok : ∀ p, p ∈ l → POk p
  row : 0 < n → ∃ g cur, D = some ⟨g, 0, none⟩ ∧ base ≤ g ∧ w.heap[g]? = some (.cells cur 46 (0, 0)) ∧ n * 2 ≤ cur.size ∧ cur.toList.take (n * 2) = pvs l
section
variable {w w' : World} {base base' n d : Nat} {D : Option Addr} {l : List PairZ}
theorem NewP.nil (D : Option Addr) (d : Nat) (hd : d ≤ maxLen) : NewP w base D 0 d [] := ⟨rfl, Nat.zero_le _, hd, fun p h => by simp at h, fun h => absurd h (by omega)⟩
theorem NewP.below (h : NewP w base D n d l) (hb : Below w.heap.size w w') : NewP w' base D n d l :=
  ⟨h.len, h.nd, h.dm, h.ok, fun hn => by
    obtain ⟨g, cur, rfl, h1, h2, h3, h4⟩ := h.row hn
    exact ⟨g, cur, rfl, h1, (hb.block g (Array.getElem?_eq_some_iff.1 h2).1).trans h2, h3, h4⟩⟩
theorem NewP.rebase (h : NewP w base D n d l) (hb : base' ≤ base) : NewP w base' D n d l :=
  ⟨h.len, h.nd, h.dm, h.ok, fun hn => by
    obtain ⟨g, cur, rfl, h1, h2, h3, h4⟩ := h.row hn
    exact ⟨g, cur, rfl, Nat.le_trans hb h1, h2, h3, h4⟩⟩
theorem newP_own (h : w.ownsRow base 46 2 (.slice D n d) n (pvs l)) (hok : ∀ p, p ∈ l → POk p) : NewP w base D n d l := by
  have hl : l.length = n := by have := h.1; rw [pvs_len] at this; omega
  obtain ⟨A, c, e, h1, h2⟩ := own_shapeP h
  injection e with e1 e2 e3
  subst e1 e3
  refine ⟨hl, h1, h2, hok, fun hn => ?_⟩
  rcases h.2 with ⟨e, h0⟩ | ⟨g, cap, cur, e, hb, hg, hnc, hcm, hcs, ht⟩
  · omega
  · injection e with e1 e2 e3
    subst e1 e3
    exact ⟨g, cur, rfl, hb, hg, by rw [hcs]; exact Nat.mul_le_mul_right _ hnc, ht⟩
theorem NewP.prs (h : NewP w base D n d l) : Prs w w.heap.size D n l := by
  refine ⟨h.len, fun hn => ?_, h.ok⟩
  obtain ⟨g, cur, rfl, h1, h2, h3, h4⟩ := h.row hn
  refine ⟨g, 0, rfl, (Array.getElem?_eq_some_iff.1 h2).1, fun i u hu => ?_⟩
  rw [cell_of_row _ _ _ _ _ _ h2, Nat.zero_add, ← Array.getElem?_toList]
  rw [← h4, List.getElem?_take] at hu
  split at hu
  · exact hu
  · cases hu
theorem NewP.spc (h : NewP w base D n d l) (hn : n ≤ 1000) : Spc w D n d l := ⟨h.prs, h.nd, h.dm, hn⟩
end
section
variable {w : World} {B B2 a m c : Nat} {A A2 : Option Addr} {l l2 : List PairZ}
theorem pok_app (h1 : ∀ p, p ∈ l → POk p) (h2 : ∀ p, p ∈ l2 → POk p) : ∀ p, p ∈ l ++ l2 → POk p := fun p hp => (List.mem_append.1 hp).elim (h1 p) (h2 p)
/-- append onto a front that is cut off where it ends: nothing that was there turns. -/
theorem run_cap {g : Nat} (ty : TypeId) (h : Prs w B (some ⟨g, 0, none⟩) a l) (h2 : Prs w B2 A2 m l2) (ha : a ≤ 2000) (hm : m ≤ 2000) :
    ∃ D d w', (Builtin.append_ #[26, 26] ty #[.slice (some ⟨g, 0, none⟩) a a, .slice A2 m c]).run Try.prog w = .ok (.slice D (a + m) d) w' ∧ Below w.heap.size w w' ∧ (m = 0 → D = some ⟨g, 0, none⟩ ∧ d = a ∧ w' = w) ∧
      (0 < m → w'.ownsRow w.heap.size 46 2 (.slice D (a + m) d) (a + m) (pvs (l ++ l2))) := by
  obtain ⟨i, z, hi, hz, hsize, hby, hzs⟩ := pair_info
  rcases Nat.eq_zero_or_pos m with h0 | h0
  · subst h0
    refine ⟨_, a, w, ?_, Below.refl _ _, fun _ => ⟨rfl, rfl, rfl⟩, fun h => absurd h (by omega)⟩
    cases A2 <;> simp [Builtin.append_, run_underlying Try.underlying26, sizeOf, typeInfo, hi, Builtin.lenOf, Builtin.firstCells, loadCells, loadCellsFrom, storeCells]
  · obtain ⟨b2, o2, rfl, hb2, hc2⟩ := h2.row h0
    have hl := h.lies.1
    have hl2 := h2.lies.1
    have hr := run_append_grow (P := Try.prog) (w := w) 26 ty 46 i z Try.underlying26 hi hz ⟨g, 0, none⟩ a a (pvs l) (by rw [hsize]; exact hl.1) (fun j v hj => hl.2 _ rfl j v hj) ⟨b2, o2, none⟩ m c (pvs l2) (by rw [hsize]; exact hl2.1) (fun j v hj => hl2.2 _ rfl j v hj) (by omega) (by omega) (by
      have := nextslicecap_le (need := a + m) (old := a) (by omega)
      rw [hby]; omega)
    refine ⟨_, _, _, hr, (Below.refl _ _).drew.alloc (Nat.le_refl _) _, fun h => absurd h (by omega), fun _ => ?_⟩
    have hge := grownCap_ge w (a + m) a 46
    have hcm : grownCap w (a + m) a 46 ≤ maxLen := grownCap_le_maxLen w (a + m) a 46 (by unfold maxLen; omega)
    have hlen : (pvs (l ++ l2)).length = (a + m) * 2 := by rw [pvs_len, List.length_append, h.len, h2.len]
    refine ⟨hlen, .inr ⟨w.heap.size, _, _, rfl, Nat.le_refl _, heap_alloc_new w.drew _, hge, hcm, ?_, ?_⟩⟩
    · simp only [Array.size_append, List.size_toArray, size_zeroCells, hzs, pvs_len, h.len, h2.len]
      omega
    · simp only [Array.toList_append, List.append_assoc]
      rw [← List.append_assoc, ← pvs_app, ← hlen]
      exact List.take_left
end
set_option maxRecDepth 100000 in
theorem front_any {w : World} {n c m : Nat} {A : Option Addr} (hm : m ≤ c) : Calls Try.prog 43 #[.slice A n c, .int .i64 m] w (fun e w' => e = .returned (.slice A m m) ∧ w' = w) := by
  have hI : (m : Int) ≤ (c : Int) := by omega
  go_enter Try.func43, Try.ntmps43
  go_wp2
  go_ret
  exact ⟨rfl, rfl⟩
/-- The law of it at a step of a drawn region. -/
theorem step_cap {w : World} {B B2 p m c g : Nat} {A2 : Option Addr} {l l2 : List PairZ} {ops : Array Oper} {o : Oper} {a : Act} {K : Act → World → Prop} {Q : Exit → Act → World → Prop} {E : Prop} (hgd : o.guard = none) (s x : Operand)
    (ho : o.op = .call { callee := .builtin .append, args := #[s, x], argTypes := #[26, 26] })
    (hs : a.eval s = .slice (some ⟨g, 0, none⟩) p p) (hx : a.eval x = .slice A2 m c) (h : Prs w B (some ⟨g, 0, none⟩) p l) (h2 : Prs w B2 A2 m l2) (hp : p ≤ 2000) (hm : m ≤ 2000)
    (hK : ∀ D d w', Below w.heap.size w w' → (m = 0 → D = some ⟨g, 0, none⟩ ∧ d = p ∧ w' = w) → (0 < m → w'.ownsRow w.heap.size 46 2 (.slice D (p + m) d) (p + m) (pvs (l ++ l2))) → K (a.put o.dst (.slice D (p + m) d)) w') : if Region.wanted o (yielded ops a.tmps) = true then Oper.wp Try.prog o a w K Q else E := by
  have hw : Region.wanted o (yielded ops a.tmps) = true := by simp [Region.wanted, hgd]
  rw [if_pos hw]
  obtain ⟨D, d, w', q1, q2, q3, q4⟩ := run_cap o.type h h2 hp hm
  exact Lib.wp_append_run w s x _ _ ho _ _ hs hx _ w' q1 (hK D d w' q2 q3 q4)
/-- A list of pairs that a call makes. -/
def MadeP (w : World) (n : Nat) (l : List PairZ) (e : Ending) (w' : World) : Prop :=
  ∃ D d, e = .returned (.slice D n d) ∧ w'.ownsRow w.heap.size 46 2 (.slice D n d) n (pvs l) ∧ Below w.heap.size w w'
theorem own_noneP (w : World) (base : Nat) (hb : base ≤ w.heap.size) : (w.alloc (.cells #[] 46)).ownsRow base 46 2 (.slice (some ⟨w.heap.size, 0, none⟩) 0 0) 0 (pvs []) :=
  World.ownsRow_lit w #[] 0 hb (by simp [maxLen]) rfl
set_option maxRecDepth 100000 in
set_option maxHeartbeats 1000000 in
theorem clone_any {w : World} {n c : Nat} {A : Option Addr} {l : List PairZ} (h : Spc w A n c l) :
    Calls Try.prog 49 #[.slice A n c] w (MadeP w n l) := by
  have qT : ∀ (w : World) (a : Option Addr) (n c n' c' : Nat), (binOp .eql 26 (.slice a n c) (.slice none n' c')).run Try.prog w = .ok (.bool a.isNone) w := fun w a n c n' c' => Lib.run_eql_slice_nil w _ _ a n c n' c' Try.underlying26
  cases A with
  | none =>
    have h0 : n = 0 := h.prs.lies.2 rfl
    subst h0
    have hl : l = [] := List.eq_nil_of_length_eq_zero h.prs.len
    subst hl
    clear h
    go_enter Try.func49, Try.ntmps49
    go_wp2
    go_ret
    exact ⟨none, 0, rfl, World.ownsRow_nil _ _ _ _, Below.refl _ _⟩
  | some ad =>
    have hn := h.nk
    have HL := Lib.hid (h.below (below_one w (.cells #[] 46))).prs.lies
    have HO := Lib.hid (own_noneP w w.heap.size (Nat.le_refl _))
    clear h
    go_enter Try.func49, Try.ntmps49
    go_wp2_with (at_builtin; refine wpList_app _ rfl (.tmp 5) (.tmp 6) 26 rfl w.heap.size 46 2 32 Try.underlying26 pair_info (by omega) _ 0 (pvs []) rfl HO.out _ n c (pvs l) rfl HL.out.1 HL.out.2 (pvs_one _) (by unfold maxLen; omega) (by omega) (by simp) ?_; intro v1 w1 ho1 hg1; have B1 := Lib.hid (((below_one w (.cells #[] 46))).grown hg1 (by simp) (fun q hq => (HO.out.lt q hq).1)); have HO1 := Lib.hid ho1; clear ho1 hg1)
    go_ret
    have ho := HO1.out
    rw [Nat.zero_add] at ho
    obtain ⟨D, d, rfl, _, _⟩ := own_shapeP ho
    exact ⟨D, d, rfl, ho, B1.out⟩
end Go.Proofs.Ytmlkcedhjnmfgaa
