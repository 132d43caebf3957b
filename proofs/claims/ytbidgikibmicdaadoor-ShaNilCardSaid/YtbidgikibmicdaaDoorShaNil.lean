/- A hash that nobody made: what each call tells of it. -/
import Derived.Test.YtbidgikibmicdaaDoorShaSumB
import Derived.Test.YtbidgikibmicdaaDoorTagEq
namespace Go.Proofs.YtbidgikibmicdaaDoor
open Go.ChangeShapes Go.WideShapes Go.ChangeAt Go.RowKit
set_option linter.unusedVariables false
open Plain Sha
/-- Nobody made it: it is nil, or its first cell is false and its last nought. -/
def Unmade (w : World) (p : Option Addr) : Prop := p = none ∨ ∃ b, p = some ⟨b, 0, none⟩ ∧ w.cell? ⟨b, 0, none⟩ = some (.bool false) ∧ w.cell? ⟨b, 73, none⟩ = some (.int .i64 0)
set_option maxRecDepth 100000 in
set_option maxHeartbeats 1000000 in
theorem lenNil_any {w : World} {p : Option Addr} (h : Unmade w p) : Calls Tryd.prog 17 #[.pointer p] w fun e w' => e = .returned (.int .i64 0) ∧ w = w' := by
  rcases h with rfl | ⟨b, rfl, h0, h73⟩
  all_goals
    go_enter Tryd.func17, Tryd.ntmps17
    go_wp2
    go_ret
    exact ⟨rfl, rfl⟩
set_option maxRecDepth 100000 in
set_option maxHeartbeats 1000000 in
theorem writeNil_any {w : World} {p : Option Addr} (h : Unmade w p) (A : Option Addr) (n c : Nat) : Calls Tryd.prog 18 #[.pointer p, .slice A n c] w fun e w' => e = .returned (.int .i64 1) ∧ w = w' := by
  rcases h with rfl | ⟨b, rfl, h0, h73⟩
  all_goals
    go_enter Tryd.func18, Tryd.ntmps18
    go_wp2
    go_ret
    exact ⟨rfl, rfl⟩
set_option maxRecDepth 100000 in
set_option maxHeartbeats 1000000 in
theorem sumNil_any {w : World} {p : Option Addr} (h : Unmade w p) : Calls Tryd.prog 16 #[.pointer p] w fun e w' => e = .returned (.tuple #[.agg (vals (List.replicate 32 0)).toArray, .int .i64 1]) ∧ Below w.heap.size w w' := by
  have T4 : Hid ((w.alloc (.cells (vals (List.replicate 32 0)).toArray 25)).there w.heap.size 0 (vals (List.replicate 32 0)).toArray.size) := Lib.hid (by
    have e : (vals (List.replicate 32 0)).toArray.size = 32 := by rw [List.size_toArray, vals_len, List.length_replicate]
    rw [e]; simpa using (Row8.new w (List.replicate 32 0) 25).there)
  have T5 := T4
  have HI := Lib.hid (show (Tryd.prog.info? 25).map (·.size) = some (vals (List.replicate 32 0)).length by rw [vals_len, List.length_replicate]; kernel_rfl)
  have A32 := Lib.hid (all_oneCell_toArray (vals_one (List.replicate 32 0)))
  rcases h with rfl | ⟨b, rfl, h0, h73⟩
  · go_enter Tryd.func16, Tryd.ntmps16
    go_wp2_with (have g := T4; clear g; refine wpList_store_as (op := ⟨none, .store 25 (.tmp 2) (.tmp 13), _, _, _, _⟩) rfl 25 (.tmp 2) (.tmp 13) rfl w.heap.size 0 (vals (List.replicate 32 0)).toArray rfl rfl T5.out HI.out A32.out ?_; intro w4 hw4; clear T4)
    have R5 : w4.rangeAt w.heap.size 0 (vals (List.replicate 32 0)) := by rw [hw4.out]; exact World.rangeAt_setCells_same _ _ _ _ T5.out
    have b5 : Below w.heap.size w w4 := by rw [hw4.out]; exact below_setCells (Nat.le_refl _) _ _ _ ((Below.refl _ _).alloc (Nat.le_refl _) _)
    go_wp2
    exact bodyPost_ret (v := .tuple #[.agg (vals (List.replicate 32 0)).toArray, .int .i64 1]) (results_mid_tmp (p := 2) (u := 3) (ty := 25) rfl _ _ w.heap.size 0 (vals (List.replicate 32 0)) _ rfl R5 Tryd.underlying25 rfl HI.out) rfl ⟨rfl, b5⟩
  · have h0' : ∀ o, (w.alloc o).cell? ⟨b, 0, none⟩ = some (.bool false) := fun o => by
      rw [World.cell?_alloc_lt w _ ⟨b, 0, none⟩ (World.block_lt_of_cell? _ _ h0)]; exact h0
    clear h0
    go_enter Tryd.func16, Tryd.ntmps16
    go_wp2_with (have g := T4; clear g; refine wpList_store_as (op := ⟨none, .store 25 (.tmp 2) (.tmp 13), _, _, _, _⟩) rfl 25 (.tmp 2) (.tmp 13) rfl w.heap.size 0 (vals (List.replicate 32 0)).toArray rfl rfl T5.out HI.out A32.out ?_; intro w4 hw4; clear T4)
    have R5 : w4.rangeAt w.heap.size 0 (vals (List.replicate 32 0)) := by rw [hw4.out]; exact World.rangeAt_setCells_same _ _ _ _ T5.out
    have b5 : Below w.heap.size w w4 := by rw [hw4.out]; exact below_setCells (Nat.le_refl _) _ _ _ ((Below.refl _ _).alloc (Nat.le_refl _) _)
    go_wp2
    exact bodyPost_ret (v := .tuple #[.agg (vals (List.replicate 32 0)).toArray, .int .i64 1]) (results_mid_tmp (p := 2) (u := 3) (ty := 25) rfl _ _ w.heap.size 0 (vals (List.replicate 32 0)) _ rfl R5 Tryd.underlying25 rfl HI.out) rfl ⟨rfl, b5⟩
def zeroHash : List Value := .bool false :: (List.replicate 8 (.int .u32 0) ++ List.replicate 64 (.int .u8 0) ++ [.int .i64 0])
theorem zero_hash (w : World) : (zeroValue 43).run Tryd.prog w = .ok (.agg zeroHash.toArray) w := by kernel_rfl
theorem lit_noughts : (#[Value.int .u8 0, Value.int .u8 0, Value.int .u8 0, Value.int .u8 0, Value.int .u8 0, Value.int .u8 0, Value.int .u8 0, Value.int .u8 0, Value.int .u8 0, Value.int .u8 0, Value.int .u8 0, Value.int .u8 0, Value.int .u8 0, Value.int .u8 0, Value.int .u8 0, Value.int .u8 0, Value.int .u8 0, Value.int .u8 0, Value.int .u8 0, Value.int .u8 0, Value.int .u8 0, Value.int .u8 0, Value.int .u8 0, Value.int .u8 0, Value.int .u8 0, Value.int .u8 0, Value.int .u8 0, Value.int .u8 0, Value.int .u8 0, Value.int .u8 0, Value.int .u8 0, Value.int .u8 0] : Array Value) = (vals (List.replicate 32 0)).toArray := by rfl
theorem ne_noughts (w : World) : (binOp .neq 25 (.agg #[Value.int .u8 0, Value.int .u8 0, Value.int .u8 0, Value.int .u8 0, Value.int .u8 0, Value.int .u8 0, Value.int .u8 0, Value.int .u8 0, Value.int .u8 0, Value.int .u8 0, Value.int .u8 0, Value.int .u8 0, Value.int .u8 0, Value.int .u8 0, Value.int .u8 0, Value.int .u8 0, Value.int .u8 0, Value.int .u8 0, Value.int .u8 0, Value.int .u8 0, Value.int .u8 0, Value.int .u8 0, Value.int .u8 0, Value.int .u8 0, Value.int .u8 0, Value.int .u8 0, Value.int .u8 0, Value.int .u8 0, Value.int .u8 0, Value.int .u8 0, Value.int .u8 0, Value.int .u8 0]) (.agg #[Value.int .u8 0, Value.int .u8 0, Value.int .u8 0, Value.int .u8 0, Value.int .u8 0, Value.int .u8 0, Value.int .u8 0, Value.int .u8 0, Value.int .u8 0, Value.int .u8 0, Value.int .u8 0, Value.int .u8 0, Value.int .u8 0, Value.int .u8 0, Value.int .u8 0, Value.int .u8 0, Value.int .u8 0, Value.int .u8 0, Value.int .u8 0, Value.int .u8 0, Value.int .u8 0, Value.int .u8 0, Value.int .u8 0, Value.int .u8 0, Value.int .u8 0, Value.int .u8 0, Value.int .u8 0, Value.int .u8 0, Value.int .u8 0, Value.int .u8 0, Value.int .u8 0, Value.int .u8 0])).run Tryd.prog w = .ok (.bool false) w := by
  rw [lit_noughts, run_tagNe (List.replicate 32 0) (List.replicate 32 0) (List.length_replicate ..) (List.length_replicate ..) w, show eqB (List.replicate 32 (0 : Int)) (List.replicate 32 0) = true by simp [eqB]]
  rfl
theorem ne_noughts2 (w : World) : (binOp .neq 25 (.agg (vals (List.replicate 32 0)).toArray) (.agg #[Value.int .u8 0, Value.int .u8 0, Value.int .u8 0, Value.int .u8 0, Value.int .u8 0, Value.int .u8 0, Value.int .u8 0, Value.int .u8 0, Value.int .u8 0, Value.int .u8 0, Value.int .u8 0, Value.int .u8 0, Value.int .u8 0, Value.int .u8 0, Value.int .u8 0, Value.int .u8 0, Value.int .u8 0, Value.int .u8 0, Value.int .u8 0, Value.int .u8 0, Value.int .u8 0, Value.int .u8 0, Value.int .u8 0, Value.int .u8 0, Value.int .u8 0, Value.int .u8 0, Value.int .u8 0, Value.int .u8 0, Value.int .u8 0, Value.int .u8 0, Value.int .u8 0, Value.int .u8 0])).run Tryd.prog w = .ok (.bool false) w := by
  rw [lit_noughts, run_tagNe (List.replicate 32 0) (List.replicate 32 0) (List.length_replicate ..) (List.length_replicate ..) w, show eqB (List.replicate 32 (0 : Int)) (List.replicate 32 0) = true by simp [eqB]]
  rfl
theorem eq_noughts {ns : List Int} (h : List.replicate 32 0 = ns) (w : World) : (Op.equalIn 10000 25 (.agg (vals ns).toArray) (.agg #[Value.int .u8 0, Value.int .u8 0, Value.int .u8 0, Value.int .u8 0, Value.int .u8 0, Value.int .u8 0, Value.int .u8 0, Value.int .u8 0, Value.int .u8 0, Value.int .u8 0, Value.int .u8 0, Value.int .u8 0, Value.int .u8 0, Value.int .u8 0, Value.int .u8 0, Value.int .u8 0, Value.int .u8 0, Value.int .u8 0, Value.int .u8 0, Value.int .u8 0, Value.int .u8 0, Value.int .u8 0, Value.int .u8 0, Value.int .u8 0, Value.int .u8 0, Value.int .u8 0, Value.int .u8 0, Value.int .u8 0, Value.int .u8 0, Value.int .u8 0, Value.int .u8 0, Value.int .u8 0])).run Tryd.prog w = .ok true w := by
  subst h
  rw [lit_noughts, run_tagIn (List.replicate 32 0) (List.replicate 32 0) (List.length_replicate ..) (List.length_replicate ..) w, show eqB (List.replicate 32 (0 : Int)) (List.replicate 32 0) = true by simp [eqB]]
/-- A guarded load of a long array, whose guard holds. -/
theorem wpList_load_guarded {P : Program} {ops : Array Oper} {rest : List Oper} {op : Oper} {a : Act} {w : World} {Q : Exit → Act → World → Prop} (hw : Region.wanted op (yielded ops a.tmps) = true) (ty : TypeId) (x : Operand) (ho : op.op = .load ty x)
    (b o : Nat) (hx : a.eval x = .pointer (some ⟨b, o, none⟩)) (cs : List Value) (d : TypeDesc) (hc : w.rangeAt b o cs)
    (hu : P.underlying ty = some d) (hd : d.isRow = true) (hi : (P.info? ty).map (·.size) = some cs.length)
    (h : wpList P ops Q rest (a.put op.dst (.agg cs.toArray)) w) : wpList P ops Q (op :: rest) a w := by
  simp only [wpList, hw, if_true]
  exact .inl (wp_load_mid ty x ho b o hx cs d hc hu hd hi h)
theorem Unmade.below {w w' : World} {p : Option Addr} (h : Unmade w p) {B : Nat} (hb : Below B w w') (hB : ∀ a, p = some a → a.block < B) : Unmade w' p := by
  rcases h with rfl | ⟨b, rfl, h0, h73⟩
  · exact .inl rfl
  · have := hB _ rfl
    exact .inr ⟨b, rfl, (hb.cell (p := ⟨b, 0, none⟩) this).trans h0, (hb.cell (p := ⟨b, 73, none⟩) this).trans h73⟩
set_option maxRecDepth 100000 in
set_option maxHeartbeats 2000000 in
theorem shaNil_any (a0 : Option Addr) (len0 cap0 : Nat) (z0 : List Int) (w : World) (w0 : IsRow .u8 w a0 len0 cap0 z0) (hK : LaidK w) :
    Calls Tryd.prog 5 #[.slice a0 len0 cap0] w fun e w' => e = .returned (.bool true) ∧ Below w.heap.size w w' := by
  by_cases h : 5000 < (len0 : Int)
  · go_enter Tryd.func5, Tryd.ntmps5
    go_wp2
    go_ret
    exact ⟨rfl, Below.refl _ _⟩
  · obtain ⟨V, hV⟩ : ∃ V : Array Value, V = zeroHash.toArray := ⟨_, rfl⟩
    have hz : ∀ w, (zeroValue 43).run Tryd.prog w = .ok (.agg V) w := fun w => by rw [hV]; exact zero_hash w
    have v0 : V[0]? = some (.bool false) := by rw [hV]; rfl
    have v73 : V[73]? = some (.int .i64 0) := by rw [hV]; rfl
    have HV := Lib.hid hV
    clear hV
    go_enter Tryd.func5, Tryd.ntmps5
    go_wp2
    obtain ⟨ns, hns⟩ : ∃ ns, List.replicate 32 (0 : Int) = ns := ⟨_, rfl⟩
    have NS := Lib.hid hns
    clear hns
    obtain ⟨w2, hw2⟩ : ∃ w2, w2 = (w.alloc (.cells V 43)).alloc (.cells #[.pointer none, .pointer (some ⟨w.heap.size, 0, none⟩)] 31) := ⟨_, rfl⟩
    have b2 : Below w.heap.size w w2 := by rw [hw2]; exact ((Below.refl _ _).alloc (Nat.le_refl _) _).alloc (by simp) _
    have s2 : w2.heap.size = w.heap.size + 2 := by rw [hw2]; simp
    obtain ⟨lb, hlb⟩ : ∃ lb, w.heap.size + 1 = lb := ⟨_, rfl⟩
    have hr0 : w2.heap[w.heap.size]? = some (.cells V 43) := by
      rw [hw2, Below.heap_alloc _ _ _ (by simp)]; exact heap_alloc_new w _
    have hr1 : w2.heap[lb]? = some (.cells #[.pointer none, .pointer (some ⟨w.heap.size, 0, none⟩)] 31) := by
      rw [hw2, ← hlb, show w.heap.size + 1 = (w.alloc (.cells V 43)).heap.size by simp]; exact heap_alloc_new _ _
    have CP : Hid (∀ k : Nat, k < 2 → ∃ pk, w2.cell? ⟨lb, k, none⟩ = some (.pointer pk) ∧ Unmade w2 pk ∧ ∀ a, pk = some a → a.block < w2.heap.size) := Lib.hid (fun k hk => by
      have hcell : ∀ j, w2.cell? ⟨lb, j, none⟩ = #[Value.pointer none, Value.pointer (some ⟨w.heap.size, 0, none⟩)][j]? := fun j => cell_of_row _ _ _ _ _ _ hr1
      have hcell0 : ∀ j, w2.cell? ⟨w.heap.size, j, none⟩ = V[j]? := fun j => cell_of_row _ _ _ _ _ _ hr0
      match k, hk with
      | 0, _ => exact ⟨none, hcell 0, .inl rfl, fun a h => by cases h⟩
      | 1, _ => exact ⟨_, hcell 1, .inr ⟨_, rfl, (hcell0 0).trans v0, (hcell0 73).trans v73⟩, fun a h => by cases h; show w.heap.size < _; omega⟩)
    refine (show Code.wp Tryd.prog _ _ _ ((w.alloc (.cells V 43)).alloc (.cells #[.pointer none, .pointer (some ⟨w.heap.size, 0, none⟩)] 31)) from ?_)
    rw [← hw2]
    simp only [hlb]
    have hlb2 : lb < w2.heap.size := by omega
    have B2 := Lib.hid b2
    clear hr0 hr1 hw2 hz v0 v73 hlb s2 b2
    go_loopw [5] (fun i wr => ∃ k : Nat, k ≤ 2 ∧ i = .int .i64 k ∧ Below w2.heap.size w2 wr) (fun i _ => 2 - (intOf i).toNat)
    case atStart => exact ⟨0, by omega, rfl, Below.refl _ _⟩
    case round =>
      obtain ⟨k, hk, rfl, hbel⟩ := hrel
      by_cases hlt : k < 2
      · obtain ⟨pk, hc, hU, hlt2⟩ := CP.out k hlt
        have hc1 : wr.cell? ⟨lb, k, none⟩ = some (.pointer pk) := (hbel.cell (p := ⟨lb, k, none⟩) hlb2).trans hc
        have hltI : (k : Int) < 2 := by omega
        have hs1 := hbel.size
        have HU := Lib.hid hU
        have HL := Lib.hid hlt2
        have HC := Lib.hid hc
        clear hU hlt2 hc
        go_wp2_with fail
        refine (sumNil_any (HU.out.below hbel HL.out)).mono ?_
        rw [NS.out]
        rintro e w3 ⟨rfl, b3⟩
        have hb3 := Lib.hid (hbel.trans (b3.mono hs1))
        have hs3 := hb3.out.size
        have T4 : Hid ((w3.alloc (.cells (vals (List.replicate 32 0)).toArray 25)).there w3.heap.size 0 (vals ns).toArray.size) := Lib.hid (by
          have e : (vals ns).toArray.size = 32 := by rw [List.size_toArray, vals_len, ← NS.out, List.length_replicate]
          rw [e]; simpa using (Row8.new w3 (List.replicate 32 0) 25).there)
        have T5 := T4
        have HI := Lib.hid (show (Tryd.prog.info? 25).map (·.size) = some (vals ns).length by rw [vals_len, ← NS.out, List.length_replicate]; kernel_rfl)
        have A32 := Lib.hid (all_oneCell_toArray (vals_one ns))
        have hNe := eq_noughts NS.out
        clear b3 hc1
        go_wp2_with (have g := T4; clear g; refine wpList_store_as (op := ⟨none, .store 25 (.tmp 6) (.tmp 27), _, _, _, _⟩) rfl 25 (.tmp 6) (.tmp 27) rfl w3.heap.size 0 (vals ns).toArray rfl rfl T5.out HI.out A32.out ?_; intro w4 hw4; clear T4; have hb4 := Lib.hid (show Below w2.heap.size w2 w4 by rw [hw4.out]; exact below_setCells (by omega) _ _ _ (hb3.out.alloc (by omega) _)); have c4 : w4.cell? ⟨lb, k, none⟩ = some (.pointer pk) := (hb4.out.cell (p := ⟨lb, k, none⟩) hlb2).trans HC.out; have R4 := Lib.hid (show w4.rangeAt w3.heap.size 0 (vals ns) by rw [hw4.out]; exact World.rangeAt_setCells_same _ _ _ _ T5.out))
        refine (writeNil_any (HU.out.below hb4.out HL.out) a0 len0 cap0).mono ?_
        rintro e w5 ⟨rfl, rfl⟩
        have G := R4
        go_wp2_with (have g := G; clear g; refine wpList_load_guarded (op := ⟨some 41, .load 25 (.tmp 6), _, _, _, some (11, false)⟩) rfl 25 (.tmp 6) rfl w3.heap.size 0 rfl (vals ns) _ R4.out Tryd.underlying25 rfl HI.out ?_; clear G)
        refine (lenNil_any (HU.out.below hb4.out HL.out)).mono ?_
        rintro e w6 ⟨rfl, rfl⟩
        go_wp2
        go_roundw
        case rel => exact ⟨k + 1, by omega, by go_num, hb4.out⟩
        case measure => simp [intOf]; omega
      · have hkn : k = 2 := by omega
        subst hkn
        go_wp2
        go_ret
        exact ⟨rfl, B2.out.trans (hbel.mono B2.out.size)⟩
end Go.Proofs.YtbidgikibmicdaaDoor
