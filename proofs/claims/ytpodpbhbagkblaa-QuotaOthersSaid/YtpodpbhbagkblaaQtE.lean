/- Variables that hold a share; the tenant's share: the program's Of. -/
import Derived.Test.YtpodpbhbagkblaaQtD
import Derived.Deep.MidRow
import Derived.Laws.ResultCell
namespace Go.Proofs.Ytpodpbhbagkblaa
open Go.ChangeShapes Go.WideShapes Go.ChangeAt Go.RowKit
set_option linter.unusedVariables false
set_option linter.unusedSimpArgs false
open Plain Qt
theorem q_setCells {B : Nat} {a : World} {b : Nat} (hb : B ≤ b) : ∀ (vs : List Value) (o : Nat) (w : World), Below B a w → Below B a (w.setCells b o vs)
  | [], _, _, h => h
  | v :: r, o, w, h => by rw [World.setCells]; exact q_setCells hb r (o + 1) _ (h.setCell (p := ⟨b, o, none⟩) hb v)
theorem q_heap {b k : Nat} (hk : k ≠ b) : ∀ (vs : List Value) (o : Nat) (w : World), (w.setCells b o vs).heap[k]? = w.heap[k]?
  | [], _, _ => rfl
  | v :: r, o, w => by rw [World.setCells, q_heap hk r (o + 1)]; exact Below.heap_setCell _ _ _ _ hk
theorem q_store_as {P : Program} {ops : Array Oper} {rest : List Oper} {op : Oper} {a : Act} {w : World} {Q : Exit → Act → World → Prop} (hgd : op.guard = none) (ty : TypeId) (x y : Operand) (ho : op.op = .store ty x y)
    (b o : Nat) (cells : Array Value) (hx : a.eval x = .pointer (some ⟨b, o, none⟩)) (hy : a.eval y = .agg cells)
    (ht : w.there b o cells.size) (hi : (P.info? ty).map (·.size) = some cells.size) (h1 : cells.all (·.oneCell') = true)
    (h : ∀ w', Hid (w' = w.setCells b o cells.toList) → wpList P ops Q rest (a.put op.dst undef) w') : wpList P ops Q (op :: rest) a w :=
  wpList_store_mid hgd ty x y ho b o cells hx hy ht hi h1 (h _ (Lib.hid rfl))
theorem q_results2 {P : Program} {fn : Func} {p u : Tmp} {ty : TypeId} (h : fn.results = #[.cell p ty, .tmp u]) (tmps : Array Value) (w : World) (b o : Nat) (cs : List Value) (d : TypeDesc)
    (hp : tmps.getD p undef = .pointer (some ⟨b, o, none⟩)) (hc : w.rangeAt b o cs) (hu : P.underlying ty = some d) (hd : d.isRow = true) (hi : (P.info? ty).map (·.size) = some cs.length) :
    (results fn tmps).run P w = .ok (.tuple #[.agg cs.toArray, tmps.getD u undef]) w := by
  rw [results_cell_tmp h, hp]
  simp [asAddr, run_loadVar_mid w b o ty cs d hc hu hd hi]
theorem q_there {W W' : World} {B b n : Nat} (h : W.there b 0 n) (hb : Below B W W') (hlt : b < B) : W'.there b 0 n := fun j hj => by
  have e := hb.block b hlt
  rw [World.cell?_of_block (a := ⟨b, 0 + j, none⟩) e, World.frozen?_of_block (a := ⟨b, 0 + j, none⟩) e]
  exact h j hj
/-- A variable of the call's own that holds a share, and may be stored into. -/
structure QVar (W : World) (b : Nat) : Prop where
  th : W.there b 0 3
  lt : b < W.heap.size
theorem QVar.below {W W' : World} {B b : Nat} (h : QVar W b) (hb : Below B W W') (hlt : b < B) : QVar W' b := ⟨q_there h.th hb hlt, Nat.lt_of_lt_of_le h.lt hb.size⟩
theorem QVar.grow {W W' : World} {b : Nat} (h : QVar W b) (hb : Below W.heap.size W W') : QVar W' b := h.below hb h.lt
theorem qvar_new (w : World) (x y z : Value) (t : TypeId) (g : Nat) (hg : w.heap.size = g) : QVar (w.alloc (.cells #[x, y, z] t)) g := by
  subst hg
  refine ⟨fun j hj => ?_, by simp⟩
  have hh := heap_alloc_new w (.cells #[x, y, z] t)
  constructor
  · rw [cell_of_row _ _ _ _ _ _ hh]
    rw [Nat.zero_add]
    simp only [List.getElem?_toArray]
    rw [List.getElem?_eq_getElem (by simpa using hj)]; rfl
  · unfold World.frozen?
    rw [hh]
    simp
/-- A variable that holds that share. -/
def QBox (W : World) (b : Nat) (t k s : Int) : Prop := W.cell? ⟨b, 0, none⟩ = some (.int .i64 t) ∧ W.cell? ⟨b, 1, none⟩ = some (.int .i64 k) ∧ W.cell? ⟨b, 2, none⟩ = some (.int .i64 s)
theorem QBox.lt {W : World} {b : Nat} {t k s : Int} (h : QBox W b t k s) : b < W.heap.size := World.block_lt_of_cell? _ _ h.1
theorem QBox.below {W W' : World} {B b : Nat} {t k s : Int} (h : QBox W b t k s) (hb : Below B W W') (hlt : b < B) : QBox W' b t k s :=
  ⟨(hb.cell (p := ⟨b, 0, none⟩) hlt).trans h.1, (hb.cell (p := ⟨b, 1, none⟩) hlt).trans h.2.1, (hb.cell (p := ⟨b, 2, none⟩) hlt).trans h.2.2⟩
theorem QBox.grow {W W' : World} {b : Nat} {t k s : Int} (h : QBox W b t k s) (hb : Below W.heap.size W W') : QBox W' b t k s := h.below hb h.lt
theorem qbox_new (w : World) (t k s : Int) (ty : TypeId) (g : Nat) (hg : w.heap.size = g) : QBox (w.alloc (.cells #[.int .i64 t, .int .i64 k, .int .i64 s] ty)) g t k s := by
  subst hg
  refine ⟨?_, ?_, ?_⟩
  all_goals rw [cell_of_row _ _ _ _ _ _ (heap_alloc_new w _)]; rfl
theorem q_one (t k s : Int) : (#[.int .i64 t, .int .i64 k, .int .i64 s] : Array Value).all (·.oneCell') = true := by simp [Value.oneCell']
theorem q_size : (Try.prog.info? 27).map (·.size) = some 3 := by kernel_rfl
theorem q_sizeR : (Try.prog.info? 24).map (·.size) = some 3 := by kernel_rfl
/-- What a store of a whole share leaves. -/
theorem q_stored {a W W' : World} {B b : Nat} {t k s : Int} (h : QVar W b) (hw : Hid (W' = W.setCells b 0 #[.int .i64 t, .int .i64 k, .int .i64 s].toList)) (hb : B ≤ b) (h0 : Below B a W) :
    W'.rangeAt b 0 [.int .i64 t, .int .i64 k, .int .i64 s] ∧ Below B a W' := by
  rw [hw.out]
  exact ⟨World.rangeAt_setCells_same _ _ _ _ h.th, q_setCells hb _ _ _ h0⟩
theorem q_rangeBox {W : World} {b : Nat} {t k s : Int} (h : W.rangeAt b 0 [.int .i64 t, .int .i64 k, .int .i64 s]) : QBox W b t k s := ⟨h 0 _ rfl, h 1 _ rfl, h 2 _ rfl⟩
/-- What is told of the tenant's share. -/
def ofV (o : Option ShZ) : Value := .tuple #[.agg #[.int .i64 (o.getD sh0).t, .int .i64 (o.getD sh0).k, .int .i64 (o.getD sh0).s], .bool o.isSome]
set_option maxRecDepth 100000 in
set_option maxHeartbeats 2000000 in
theorem of_anyQ {w : World} {B n : Nat} {A : Option Addr} {l : List ShZ} (c : Nat) (t : Int) (o : Option ShZ) (h : Shs w B A n l) (hB : B ≤ w.heap.size) (hn : n ≤ maxLen) (ho : ofR l t = o) :
    Calls Try.prog 15 #[.slice A n c, .int .i64 t] w (fun e w' => e = .returned (ofV o) ∧ Below w.heap.size w w') := by
  obtain ⟨W1, hW1⟩ : ∃ W, W = w.alloc (.cells #[.int .i64 0, .int .i64 0, .int .i64 0] 27) := ⟨_, rfl⟩
  have b1 := Lib.hid (show Below w.heap.size w W1 by rw [hW1]; exact below_oneQ _ _)
  have V1 := Lib.hid (show QVar W1 w.heap.size by rw [hW1]; exact qvar_new _ _ _ _ _ _ rfl)
  have z1 := Lib.hid (show W1.heap.size = w.heap.size + 1 by rw [hW1]; simp)
  obtain ⟨pos, hpos⟩ : ∃ z, idxR l t = z := ⟨_, rfl⟩
  have hat := of_idx l t
  have hlt := idx_lt (l := l) (t := t)
  rw [hpos, ho] at hat
  rw [hpos, h.len, ho] at hlt
  have hpn : pos ≤ n := by rw [← hpos, ← h.len]; exact idx_le l t
  have IM := Lib.hid (isof_any (w := W1) t)
  have PM := Lib.hid (isof_place c t pos (h.below b1.out hB) (Nat.le_trans hB b1.out.size) hn hpos)
  have HW1 := Lib.hid hW1
  have HG := Lib.hid h
  have HS := Lib.hid q_size
  clear hW1 hpos h ho
  unfold maxLen at hn
  cases o with
  | none =>
    have e : pos = n := by
      have : ¬ pos < n := by simpa using hlt.symm
      omega
    subst e
    clear hlt hat
    go_enter Try.func15, Try.ntmps15
    go_upto_region 1 with fail
    rw [← HW1.out]
    go_wp2_with (first
      | (go_at_call 23; refine IM.out.mono ?_; rintro e v ⟨rfl, rfl⟩)
      | (go_at_call 22; refine PM.out.mono ?_; rintro e w5 ⟨rfl, hb⟩; have B5 := Lib.hid hb; have V5 := Lib.hid (V1.out.grow hb); clear hb)
      | (refine q_store_as (op := ⟨none, .store 27 (.tmp 4) (.tmp 15), _, _, _, _⟩) rfl 27 (.tmp 4) (.tmp 15) rfl w.heap.size 0 #[.int .i64 0, .int .i64 0, .int .i64 0] rfl rfl V5.out.th HS.out (q_one _ _ _) ?_; intro w6 hw6)
      | fail)
    obtain ⟨R6, B6⟩ := q_stored V5.out hw6 (Nat.le_refl _) (b1.out.trans (B5.out.mono b1.out.size))
    exact bodyPost_ret (v := ofV none) (q_results2 (p := 4) (u := 5) (ty := 27) rfl _ _ w.heap.size 0 [.int .i64 0, .int .i64 0, .int .i64 0] _ rfl R6 Try.underlying27 rfl HS.out) rfl ⟨rfl, B6⟩
  | some g =>
    have e : pos < n := by simpa using hlt.symm
    have hltI : (pos : Int) < (n : Int) := by omega
    have hneI : ¬ ((pos : Int) = (n : Int)) := by omega
    have HAT := Lib.hid hat
    have HR := Lib.hid (fun (V : World) (hV : Below W1.heap.size W1 V) => (HG.out.below b1.out hB).below hV (Nat.le_trans hB b1.out.size))
    clear hlt hat HG
    go_enter Try.func15, Try.ntmps15
    go_upto_region 1 with fail
    rw [← HW1.out]
    go_wp2_with (first
      | (go_at_call 23; refine IM.out.mono ?_; rintro e v ⟨rfl, rfl⟩)
      | (go_at_call 22; refine PM.out.mono ?_; rintro e w5 ⟨rfl, hb⟩; have B5 := Lib.hid hb; have V5 := Lib.hid (V1.out.grow hb); obtain ⟨b, off, g', rfl, hbb, HK, _, c0, c1, c2⟩ := (HR.out _ hb).at_ e; obtain rfl : g = g' := Option.some.inj (HAT.out.symm.trans HK.out); clear hb)
      | (refine q_store_as (op := ⟨none, .store 27 (.tmp 4) (.tmp 19), _, _, _, _⟩) rfl 27 (.tmp 4) (.tmp 19) rfl w.heap.size 0 #[.int .i64 g.t, .int .i64 g.k, .int .i64 g.s] rfl rfl V5.out.th HS.out (q_one _ _ _) ?_; intro w6 hw6)
      | fail)
    obtain ⟨R6, B6⟩ := q_stored V5.out hw6 (Nat.le_refl _) (b1.out.trans (B5.out.mono b1.out.size))
    exact bodyPost_ret (v := ofV (some g)) (q_results2 (p := 4) (u := 5) (ty := 27) rfl _ _ w.heap.size 0 [.int .i64 g.t, .int .i64 g.k, .int .i64 g.s] _ rfl R6 Try.underlying27 rfl HS.out) rfl ⟨rfl, B6⟩
end Go.Proofs.Ytpodpbhbagkblaa
