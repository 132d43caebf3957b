/- A space that fits; Get, Put, Swap, Del, Resize, New. -/
import Derived.Test.YtmlkcedhjnmfgaaSpF
import Derived.Deep.MidRow
import Derived.Laws.ResultCell
namespace Go.Proofs.Ytmlkcedhjnmfgaa
open Go.ChangeShapes Go.WideShapes Go.ChangeAt Go.RowKit
set_option linter.unusedVariables false
set_option linter.unusedSimpArgs false
open Plain Sp
theorem sp_setCells {B : Nat} {a : World} {b : Nat} (hb : B ≤ b) : ∀ (vs : List Value) (o : Nat) (w : World), Below B a w → Below B a (w.setCells b o vs)
  | [], _, _, h => h
  | v :: r, o, w, h => by rw [World.setCells]; exact sp_setCells hb r (o + 1) _ (h.setCell (p := ⟨b, o, none⟩) hb v)
theorem sp_store_as {P : Program} {ops : Array Oper} {rest : List Oper} {op : Oper} {a : Act} {w : World} {Q : Exit → Act → World → Prop} (hgd : op.guard = none) (ty : TypeId) (x y : Operand) (ho : op.op = .store ty x y)
    (b o : Nat) (cells : Array Value) (hx : a.eval x = .pointer (some ⟨b, o, none⟩)) (hy : a.eval y = .agg cells)
    (ht : w.there b o cells.size) (hi : (P.info? ty).map (·.size) = some cells.size) (h1 : cells.all (·.oneCell') = true)
    (h : ∀ w', Hid (w' = w.setCells b o cells.toList) → wpList P ops Q rest (a.put op.dst undef) w') : wpList P ops Q (op :: rest) a w :=
  wpList_store_mid hgd ty x y ho b o cells hx hy ht hi h1 (h _ (Lib.hid rfl))
theorem sp_results {P : Program} {fn : Func} {p : Tmp} {ty : TypeId} (h : fn.results = #[.cell p ty]) (tmps : Array Value) (w : World) (b o : Nat) (cs : List Value) (d : TypeDesc)
    (hp : tmps.getD p undef = .pointer (some ⟨b, o, none⟩)) (hc : w.rangeAt b o cs) (hu : P.underlying ty = some d) (hd : d.isRow = true) (hi : (P.info? ty).map (·.size) = some cs.length) :
    (results fn tmps).run P w = .ok (.agg cs.toArray) w := by
  have hp' : tmps[p]?.getD undef = .pointer (some ⟨b, o, none⟩) := by simpa using hp
  simp [results, h, hp', asAddr, run_loadVar_mid w b o ty cs d hc hu hd hi]
theorem sp_results2 {P : Program} {fn : Func} {p u : Tmp} {ty : TypeId} (h : fn.results = #[.cell p ty, .tmp u]) (tmps : Array Value) (w : World) (b o : Nat) (cs : List Value) (d : TypeDesc)
    (hp : tmps.getD p undef = .pointer (some ⟨b, o, none⟩)) (hc : w.rangeAt b o cs) (hu : P.underlying ty = some d) (hd : d.isRow = true) (hi : (P.info? ty).map (·.size) = some cs.length) :
    (results fn tmps).run P w = .ok (.tuple #[.agg cs.toArray, tmps.getD u undef]) w := by
  rw [results_cell_tmp h, hp]
  simp [asAddr, run_loadVar_mid w b o ty cs d hc hu hd hi]
theorem there_belowS {W W' : World} {B b n : Nat} (h : W.there b 0 n) (hb : Below B W W') (hlt : b < B) : W'.there b 0 n := fun j hj => by
  have e := hb.block b hlt
  rw [World.cell?_of_block (a := ⟨b, 0 + j, none⟩) e, World.frozen?_of_block (a := ⟨b, 0 + j, none⟩) e]
  exact h j hj
/-- A variable of the call's own that holds a space, and may be stored into. -/
structure SVar (W : World) (b : Nat) : Prop where
  th : W.there b 0 3
  lt : b < W.heap.size
theorem SVar.below {W W' : World} {B b : Nat} (h : SVar W b) (hb : Below B W W') (hlt : b < B) : SVar W' b := ⟨there_belowS h.th hb hlt, Nat.lt_of_lt_of_le h.lt hb.size⟩
theorem SVar.grow {W W' : World} {b : Nat} (h : SVar W b) (hb : Below W.heap.size W W') : SVar W' b := h.below hb h.lt
theorem svar_new (w : World) (x y z : Value) (t : TypeId) (g : Nat) (hg : w.heap.size = g) : SVar (w.alloc (.cells #[x, y, z] t)) g := by
  subst hg
  refine ⟨fun j hj => ?_, by simp⟩
  have hh := heap_alloc_new w (.cells #[x, y, z] t)
  constructor
  · rw [cell_of_row _ _ _ _ _ _ hh]
    rw [Nat.zero_add]
    simp only [List.getElem?_toArray]
    rw [List.getElem?_eq_getElem (by simpa using hj)]; rfl
  · unfold World.frozen?
    rw [hh]
    simp
/-- What a store of a whole space leaves. -/
theorem sp_stored {a W W' : World} {B b : Nat} {K Y : Int} {A : Option Addr} {n c : Nat} (h : SVar W b) (hw : Hid (W' = W.setCells b 0 #[.int .i64 K, .int .i64 Y, .slice A n c].toList)) (hb : B ≤ b) (h0 : Below B a W) :
    W'.rangeAt b 0 [.int .i64 K, .int .i64 Y, .slice A n c] ∧ Below B a W' := by
  rw [hw.out]
  exact ⟨World.rangeAt_setCells_same _ _ _ _ h.th, sp_setCells hb _ _ _ h0⟩
theorem sp_one (K Y : Int) (A : Option Addr) (n c : Nat) : (#[.int .i64 K, .int .i64 Y, .slice A n c] : Array Value).all (·.oneCell') = true := by simp [Value.oneCell']
theorem sp_size : (Try.prog.info? 28).map (·.size) = some 3 := by kernel_rfl
set_option maxRecDepth 100000 in
set_option maxHeartbeats 1000000 in
theorem iffits_yes {w : World} {B n c : Nat} {A : Option Addr} {l : List PairZ} (K Y : Int) (h : Prs w B A n l) (hB : B ≤ w.heap.size) (hn : n ≤ maxLen) (hq : fitB K Y l = true) (hs : cnt l ≤ 1152921504606846976) :
    Calls Try.prog 38 #[.agg #[.int .i64 K, .int .i64 Y, .slice A n c]] w (fun e w' => e = .returned (.tuple #[.agg #[.int .i64 K, .int .i64 Y, .slice A n c], .int .i64 0]) ∧ Below w.heap.size w w') := by
  obtain ⟨W1, hW1⟩ : ∃ W, W = (w.alloc (.cells #[.int .i64 K, .int .i64 Y, .slice A n c] 28)).alloc (.cells #[.int .i64 0, .int .i64 0, .slice none 0 0] 28) := ⟨_, rfl⟩
  have b1 := Lib.hid (show Below w.heap.size w W1 by rw [hW1]; exact (below_one _ _).alloc (by simp) _)
  have X1 := Lib.hid (show SBox W1 w.heap.size K Y A n c by rw [hW1]; exact (sbox_new _ _ _ _ _ _ _ _ rfl).grow (below_one _ _))
  have V1 := Lib.hid (show SVar W1 (w.heap.size + 1) by rw [hW1]; exact svar_new _ _ _ _ _ _ (by simp))
  have HS := Lib.hid sp_size
  have FM := Lib.hid (fits_any K Y c true (h.below b1.out hB) (Nat.le_trans hB b1.out.size) hn hq (fun _ => hs))
  have HW1 := Lib.hid hW1
  clear hW1 h
  go_enter Try.func38, Try.ntmps38
  go_upto_region 1 with fail
  rw [← HW1.out]
  obtain ⟨h1, h2, h3⟩ := X1.out
  go_wp2_with (first
    | (go_at_call 47; refine FM.out.mono ?_; rintro e w5 ⟨rfl, b5⟩; have B5 := Lib.hid (b1.out.trans (b5.mono b1.out.size)); obtain ⟨h4, h5, h6⟩ := X1.out.grow b5; have V5 := Lib.hid (V1.out.grow b5); clear b5)
    | (refine sp_store_as (op := ⟨none, .store 28 (.tmp 2) (.tmp 8), _, _, _, _⟩) rfl 28 (.tmp 2) (.tmp 8) rfl (w.heap.size + 1) 0 #[.int .i64 K, .int .i64 Y, .slice A n c] rfl rfl V5.out.th HS.out (sp_one _ _ _ _ _) ?_; intro w6 hw6)
    | fail)
  obtain ⟨R6, B6⟩ := sp_stored V5.out hw6 (by omega) B5.out
  exact bodyPost_ret (v := .tuple #[.agg #[.int .i64 K, .int .i64 Y, .slice A n c], .int .i64 0]) (sp_results2 (p := 2) (u := 3) (ty := 28) rfl _ _ (w.heap.size + 1) 0 [.int .i64 K, .int .i64 Y, .slice A n c] _ rfl R6 Try.underlying28 rfl HS.out) rfl ⟨rfl, B6⟩
set_option maxRecDepth 100000 in
set_option maxHeartbeats 1000000 in
theorem iffits_no {w : World} {B n c : Nat} {A : Option Addr} {l : List PairZ} (K Y : Int) (h : Prs w B A n l) (hB : B ≤ w.heap.size) (hn : n ≤ maxLen) (hq : fitB K Y l = false) (hs : cnt l ≤ 1152921504606846976) :
    Calls Try.prog 38 #[.agg #[.int .i64 K, .int .i64 Y, .slice A n c]] w (fun e w' => e = .returned (.tuple #[.agg #[.int .i64 0, .int .i64 0, .slice none 0 0], .int .i64 120]) ∧ Below w.heap.size w w') := by
  obtain ⟨W1, hW1⟩ : ∃ W, W = (w.alloc (.cells #[.int .i64 K, .int .i64 Y, .slice A n c] 28)).alloc (.cells #[.int .i64 0, .int .i64 0, .slice none 0 0] 28) := ⟨_, rfl⟩
  have b1 := Lib.hid (show Below w.heap.size w W1 by rw [hW1]; exact (below_one _ _).alloc (by simp) _)
  have X1 := Lib.hid (show SBox W1 w.heap.size K Y A n c by rw [hW1]; exact (sbox_new _ _ _ _ _ _ _ _ rfl).grow (below_one _ _))
  have V1 := Lib.hid (show SVar W1 (w.heap.size + 1) by rw [hW1]; exact svar_new _ _ _ _ _ _ (by simp))
  have HS := Lib.hid sp_size
  have FM := Lib.hid (fits_any K Y c false (h.below b1.out hB) (Nat.le_trans hB b1.out.size) hn hq (fun _ => hs))
  have HW1 := Lib.hid hW1
  clear hW1 h
  go_enter Try.func38, Try.ntmps38
  go_upto_region 1 with fail
  rw [← HW1.out]
  obtain ⟨h1, h2, h3⟩ := X1.out
  go_wp2_with (first
    | (go_at_call 47; refine FM.out.mono ?_; rintro e w5 ⟨rfl, b5⟩; have B5 := Lib.hid (b1.out.trans (b5.mono b1.out.size)); have V5 := Lib.hid (V1.out.grow b5); clear b5)
    | (refine sp_store_as (op := ⟨none, .store 28 (.tmp 2) (.tmp 7), _, _, _, _⟩) rfl 28 (.tmp 2) (.tmp 7) rfl (w.heap.size + 1) 0 #[.int .i64 0, .int .i64 0, .slice none 0 0] rfl rfl V5.out.th HS.out (sp_one _ _ _ _ _) ?_; intro w6 hw6)
    | fail)
  obtain ⟨R6, B6⟩ := sp_stored V5.out hw6 (by omega) B5.out
  exact bodyPost_ret (v := .tuple #[.agg #[.int .i64 0, .int .i64 0, .slice none 0 0], .int .i64 120]) (sp_results2 (p := 2) (u := 3) (ty := 28) rfl _ _ (w.heap.size + 1) 0 [.int .i64 0, .int .i64 0, .slice none 0 0] _ rfl R6 Try.underlying28 rfl HS.out) rfl ⟨rfl, B6⟩
end Go.Proofs.Ytmlkcedhjnmfgaa
