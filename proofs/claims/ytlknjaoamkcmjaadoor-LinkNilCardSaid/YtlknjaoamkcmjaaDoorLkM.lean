/- Packets as they stand in memory; the map of a links' own. -/
import Derived.Test.YtlknjaoamkcmjaaDoorLkA
import Derived.Maps.OwnOps
import Derived.DeepKeys4
namespace Go.Proofs.YtlknjaoamkcmjaaDoor
open Go.ChangeShapes Go.WideShapes Go.ChangeAt Go.RowKit
set_option linter.unusedVariables false
set_option maxRecDepth 100000
set_option linter.unusedSimpArgs false
open Plain Sha Wn Lk
namespace Lk
/-- A packet as it stands: with where its body stands. -/
structure PX where
  z : PkZ
  A : Option Addr
  n : Nat
  c : Nat
/-- Its cells. -/
def pnum (p : PkZ) : List Value := [.int .i64 p.fr, .int .i64 p.tw, .int .i64 p.ep, .int .i64 p.bo, .int .i64 p.sq]
def pc (x : PX) : List Value := pnum x.z ++ .slice x.A x.n x.c :: vals x.z.tag
theorem pc_len {x : PX} (h : x.z.tag.length = 32) : (pc x).length = 38 := by simp [pc, pnum, vals_len, h]
theorem pc_one (x : PX) : ∀ u ∈ pc x, u.oneCell' = true := by
  intro u hu
  unfold pc pnum at hu
  simp only [List.mem_append, List.mem_cons, List.not_mem_nil, or_false] at hu
  rcases hu with (rfl | rfl | rfl | rfl | rfl) | rfl | hu
  · rfl
  · rfl
  · rfl
  · rfl
  · rfl
  · rfl
  · exact vals_one _ _ hu
def px0 : PX := ⟨p0, none, 0, 0⟩
end Lk
/-- A packet whose body stands below block B. -/
structure PXOk (w : World) (B : Nat) (x : PX) : Prop where
  ok : POk x.z
  body : Bs w B x.A x.n x.z.body
  nc : x.n ≤ x.c
  cm : x.c ≤ maxLen
section
variable {w w' : World} {B B' : Nat} {x : PX}
theorem PXOk.keep (h : PXOk w B x) (hk : ∀ p : Addr, p.block < B → w'.cell? p = w.cell? p) : PXOk w' B x := ⟨h.ok, h.body.keep hk, h.nc, h.cm⟩
theorem PXOk.below (h : PXOk w B x) (hb : Below B' w w') (hB : B ≤ B') : PXOk w' B x := h.keep fun _ hp => (hb.mono hB).cell hp
theorem PXOk.more (h : PXOk w B x) (hB : B ≤ B') : PXOk w B' x := ⟨h.ok, h.body.more hB, h.nc, h.cm⟩
end
theorem p0_ok : POk p0 := ⟨by unfold InL p0; decide, by unfold InL p0; decide, by unfold InL p0; decide, by unfold InL p0; decide, by unfold InL p0; decide, IsBytes.nil, by simp [p0], by unfold p0; exact rep_bytes 32 0 (by omega) (by omega), by simp [p0]⟩
theorem px0_ok (w : World) (B : Nat) : PXOk w B px0 := ⟨p0_ok, Bs.nil, Nat.le_refl _, by simp [px0, maxLen]⟩
theorem p_size {x : PX} (h : x.z.tag.length = 32) : (Tryd.prog.info? 26).map (·.size) = some (pc x).length := by rw [pc_len h]; kernel_rfl
theorem p_sizeA {x : PX} (h : x.z.tag.length = 32) : (Tryd.prog.info? 26).map (·.size) = some (pc x).toArray.size := by rw [List.size_toArray]; exact p_size h
theorem p_oneA (x : PX) : (pc x).toArray.all (·.oneCell') = true := all_oneCell_toArray (pc_one x)
/-- What a packet's cells read as, wherever it stands. -/
theorem rng_p {w : World} {b o : Nat} {x : PX} (h : w.rangeAt b o (pc x)) : w.cell? ⟨b, o, none⟩ = some (.int .i64 x.z.fr) ∧ w.cell? ⟨b, o + 1, none⟩ = some (.int .i64 x.z.tw) ∧ w.cell? ⟨b, o + 2, none⟩ = some (.int .i64 x.z.ep) ∧ w.cell? ⟨b, o + 3, none⟩ = some (.int .i64 x.z.bo) ∧ w.cell? ⟨b, o + 4, none⟩ = some (.int .i64 x.z.sq) ∧ w.cell? ⟨b, o + 5, none⟩ = some (.slice x.A x.n x.c) :=
  ⟨h 0 _ rfl, h 1 _ rfl, h 2 _ rfl, h 3 _ rfl, h 4 _ rfl, h 5 _ rfl⟩
theorem rng_tag {w : World} {b o : Nat} {x : PX} (h : w.rangeAt b o (pc x)) : w.rangeAt b (o + 6) (vals x.z.tag) := fun j v hv => by
  have := h (6 + j) v (by
    rw [show pc x = (pnum x.z ++ [.slice x.A x.n x.c]) ++ vals x.z.tag from by simp [pc]]
    rw [List.getElem?_append_right (by simp [pnum])]
    have e6 : (pnum x.z ++ [Value.slice x.A x.n x.c]).length = 6 := by simp [pnum]
    rw [e6, show 6 + j - 6 = j by omega]
    exact hv)
  rwa [show o + (6 + j) = o + 6 + j by omega] at this
namespace Lk
/-- A link's key; what is kept of it. -/
def kyv (o e : Int) : Value := .agg #[.int .i64 o, .int .i64 e]
def kev (s : Int) (q : Option Nat) : Value := .agg #[.int .i64 s, .pointer (q.map fun k => ⟨k, 0, none⟩)]
theorem kyv_inj {a b c d : Int} (h : kyv a b = kyv c d) : a = c ∧ b = d := by
  unfold kyv at h
  simp at h
  exact h
end Lk
/-- Block b is a map that tells f. -/
def LMap (w : World) (b : Nat) (f : Int → Int → Value) : Prop :=
  ∃ es clock, w.heap[b]? = some (.map es clock) ∧ (∀ x ∈ es.toList, ∃ o e, InL o ∧ InL e ∧ x.key = kyv o e ∧ x.val = f o e) ∧ (es.toList.map (·.key)).Nodup ∧ ∀ o e, (∀ x ∈ es.toList, x.key ≠ kyv o e) → f o e = kev 0 none
theorem LMap.lt {w : World} {b : Nat} {f : Int → Int → Value} (h : LMap w b f) : b < w.heap.size := by
  obtain ⟨es, clock, hb, _⟩ := h
  exact (Array.getElem?_eq_some_iff.1 hb).1
theorem LMap.same {w w' : World} {b : Nat} {f : Int → Int → Value} (h : LMap w b f) (e : w'.heap[b]? = w.heap[b]?) : LMap w' b f := by
  obtain ⟨es, clock, hb, h1⟩ := h
  exact ⟨es, clock, e.trans hb, h1⟩
theorem lmap_new (w : World) (b : Nat) (hb : w.heap.size = b) : LMap (w.alloc (.map #[] 0)) b (fun _ _ => kev 0 none) := by
  subst hb
  exact ⟨#[], 0, (MapKept.heap_alloc w _).1, by simp, by simp, fun _ _ _ => rfl⟩
theorem between_law : WideMaps.KeyLaw Tryd.prog 71 := deep_law_laid (by kernel_rfl) (m := 2) (by omega) (of_decide_eq_true (by kernel_rfl)) (by kernel_rfl) (by kernel_rfl)
theorem between_fields : (Tryd.prog.fieldsOf 71).toList.map (fun f => (f.type, f.offset)) = [(3, 0), (3, 1)] := by kernel_rfl
theorem between_under : Tryd.prog.underlying 71 = some (.struct (Tryd.prog.fieldsOf 71)) := by kernel_rfl
theorem between_cells : Tryd.prog.cellsOf 71 = 2 := by kernel_rfl
theorem int_cellsL : Tryd.prog.cellsOf 3 = 1 := by kernel_rfl
theorem between_names : (Tryd.prog.fieldsOf 71).all (·.name != "_") = true := by kernel_rfl
theorem key_litsI (d : Nat) {o : Int} (h : InL o) : Tryd.prog.keyLits (d + 1) 3 [.int .i64 o] = some [.int .i64 o] := by
  have hw : (Lit.int .i64 o).wf = true := by unfold InL at h; simp [Lit.wf, IntKind.min, IntKind.max, IntKind.signed, IntKind.bits]; omega
  simp [Program.keyLits, Tryd.underlying3, hw]
theorem mapM_two {β : Type} (g : Field → Option (List β)) (fs : List Field) (t u : TypeId) (h : fs.map (fun f => (f.type, f.offset)) = [(t, 0), (u, 1)]) (a b : List β) (ha : ∀ f, f.type = t → f.offset = 0 → g f = some a) (hb : ∀ f, f.type = u → f.offset = 1 → g f = some b) : fs.mapM g = some [a, b] := by
  cases fs with
  | nil => simp at h
  | cons f fs =>
    cases fs with
    | nil => simp at h
    | cons k fs =>
      cases fs with
      | cons _ _ => simp at h
      | nil =>
        simp only [List.map_cons, List.map_nil, List.cons.injEq, Prod.mk.injEq, and_true] at h
        obtain ⟨⟨h1, h2⟩, h3, h4⟩ := h
        simp [List.mapM_cons, ha f h1 h2, hb k h3 h4]
/-- A link's key can be looked up. -/
theorem between_key {o e : Int} (ho : InL o) (he : InL e) : ∃ l, keyOf Tryd.prog 71 (kyv o e) = some l := by
  have hk : Tryd.prog.keyType 71 = true := by kernel_rfl
  have hf : (kyv o e).formed Tryd.prog 71 = true := by
    unfold kyv Value.formed
    simp [between_under, between_cells]
  have hl : ∃ m, Tryd.prog.types.size + 1 = m + 2 := ⟨Tryd.prog.types.size - 1, by
    have : 0 < Tryd.prog.types.size := of_decide_eq_true (by kernel_rfl)
    omega⟩
  obtain ⟨m, hm⟩ := hl
  have hls : Tryd.prog.keyLits (m + 2) 71 (kyv o e).cells.toList = some [.int .i64 o, .int .i64 e] := by
    have hc : (kyv o e).cells.toList = [.int .i64 o, .int .i64 e] := rfl
    rw [hc]
    unfold Program.keyLits
    simp only [between_under]
    rw [if_pos ⟨by rw [between_cells]; rfl, between_names⟩]
    rw [mapM_two _ _ 3 3 between_fields [Lit.int .i64 o] [Lit.int .i64 e] (fun f h1 h2 => by
      rw [h1, h2, int_cellsL]
      exact key_litsI m ho) (fun f h1 h2 => by
      rw [h1, h2, int_cellsL]
      exact key_litsI m he)]
    rfl
  refine ⟨.string (keyBytes [.int .i64 o, .int .i64 e]), ?_⟩
  unfold keyOf
  simp only [between_under, hk, hf, Bool.and_self, if_true]
  rw [hm, hls]
  rfl
theorem kept_zero (w : World) : (zeroValue 74).run Tryd.prog w = .ok (kev 0 none) w := by
  obtain ⟨i, hi, hz, hs, hb⟩ := info_parts (show (Tryd.prog.info? 74).map (fun i => (i.zero, i.size, i.bytes)) = some (some (.agg #[.int .i64 0, .pointer none]), 2, 16) by kernel_rfl)
  simp [zeroValue, run_typeInfo w hi, hz, kev]
section
variable {w : World} {b : Nat} {f : Int → Int → Value} {o e : Int}
/-- What is told of a key. -/
theorem run_lookupL (h : LMap w b f) (ho : InL o) (he : InL e) : (Instr.lookup 41 (.map (some b)) (kyv o e) false).run Tryd.prog w = .ok (f o e) w := by
  obtain ⟨es, clock, hb, hv, hn, hz⟩ := h
  obtain ⟨l, hl⟩ := between_key ho he
  have hk : ∀ x ∈ es.toList, ∃ l, keyOf Tryd.prog 71 x.key = some l := fun x hx => by
    obtain ⟨o', e', h1, h2, h3, _⟩ := hv x hx
    rw [h3]; exact between_key h1 h2
  rcases between_law.find w hl es.toList hk with ⟨h1, h2⟩ | ⟨j, e0, h1, h2, h3⟩
  · rw [hz o e h2]
    simp [Instr.lookup, run_underlying Tryd.underlying41, MapKept.run_getObj_map hb, between_law.check w _ hl, h1, kept_zero, Result.andThen]
    rfl
  · have : e0.val = f o e := by
      obtain ⟨o', e', _, _, k3, k4⟩ := hv e0 (List.mem_of_getElem? h2)
      rw [h3] at k3
      obtain ⟨rfl, rfl⟩ := kyv_inj k3
      exact k4
    rw [← this]
    simp [Instr.lookup, run_underlying Tryd.underlying41, MapKept.run_getObj_map hb, between_law.check w _ hl, h1, Result.andThen]
open Go.ChangeMaps (setBlock modify_eq_set heap_setBlock_same heap_setBlock_other) in
/-- What is kept of a key is stored. -/
theorem run_updateL (h : LMap w b f) (ho : InL o) (he : InL e) (v : Value) : ∃ w', (Instr.mapUpdate 41 (.map (some b)) (kyv o e) v).run Tryd.prog w = .ok () w' ∧ LMap w' b (upd f o e v) ∧ w.grownBy w' (some b) := by
  obtain ⟨es, clock, hb, hv, hn, hz⟩ := h
  obtain ⟨l, hl⟩ := between_key ho he
  have hk : ∀ x ∈ es.toList, ∃ l, keyOf Tryd.prog 71 x.key = some l := fun x hx => by
    obtain ⟨o', e', h1, h2, h3, _⟩ := hv x hx
    rw [h3]; exact between_key h1 h2
  have old : ∀ x ∈ es.toList, x.key ≠ kyv o e → ∃ o' e', InL o' ∧ InL e' ∧ x.key = kyv o' e' ∧ x.val = upd f o e v o' e' := fun x hx hne => by
    obtain ⟨o', e', h1, h2, h3, h4⟩ := hv x hx
    exact ⟨o', e', h1, h2, h3, by rw [upd_other f v (fun hh => hne (by rw [h3, hh.1, hh.2]))]; exact h4⟩
  have gr : ∀ o', w.grownBy (setBlock w b o') (some b) := fun o' => ⟨rfl, rfl, rfl, by simp [setBlock], fun i _ hi => heap_setBlock_other hb _ (fun e => hi (by rw [e]))⟩
  rcases between_law.find w hl es.toList hk with ⟨h1, h2⟩ | ⟨j, e0, h1, h2, h3⟩
  · refine ⟨setBlock w b (.map (es.push ⟨kyv o e, v, clock⟩) (clock + 1)), ?_, ⟨_, _, heap_setBlock_same hb _, ?_, ?_, ?_⟩, gr _⟩
    · simp [Instr.mapUpdate, run_underlying Tryd.underlying41, MapKept.run_getObj_map hb, between_law.check w false hl, h1, MapKept.run_setObj_map _ hb, Result.andThen, setBlock]
    · intro x hx
      simp only [Array.toList_push, List.mem_append, List.mem_singleton] at hx
      rcases hx with hx | rfl
      · exact old x hx (h2 x hx)
      · exact ⟨o, e, ho, he, rfl, (upd_same f o e v).symm⟩
    · simp only [Array.toList_push, List.map_append, List.map_cons, List.map_nil]
      refine List.nodup_append.2 ⟨hn, by simp, fun a ha c hc hac => ?_⟩
      obtain ⟨x, hx, rfl⟩ := List.mem_map.1 ha
      simp only [List.mem_singleton] at hc
      exact h2 x hx (hac.trans hc)
    · intro o' e' hh
      have hne : ¬ (o' = o ∧ e' = e) := fun hq => hh ⟨kyv o e, v, clock⟩ (by simp) (by rw [hq.1, hq.2])
      rw [upd_other f v hne]
      exact hz o' e' (fun x hx => hh x (by simp only [Array.toList_push, List.mem_append]; exact .inl hx))
  · have hj : es[j]? = some e0 := by simpa using h2
    have hjl : j < es.toList.length := (List.getElem?_eq_some_iff.1 h2).1
    have hlist : (es.modify j (fun e' => { e' with key := kyv o e, val := v })).toList = es.toList.set j { e0 with key := kyv o e, val := v } := by rw [Array.toList_modify, modify_eq_set _ _ _ _ h2]
    have hkeys : (es.toList.set j { e0 with key := kyv o e, val := v }).map (·.key) = es.toList.map (·.key) := by
      rw [List.map_set]
      refine List.ext_getElem (by simp) fun i h4 h5 => ?_
      rw [List.getElem_set]
      split
      · next hij =>
        subst hij
        have : es.toList[j] = e0 := by rw [List.getElem?_eq_getElem hjl] at h2; injection h2
        simp [this, h3]
      · rfl
    refine ⟨setBlock w b (.map (es.modify j (fun e' => { e' with key := kyv o e, val := v })) clock), ?_, ⟨_, _, heap_setBlock_same hb _, ?_, ?_, ?_⟩, gr _⟩
    · simp [Instr.mapUpdate, run_underlying Tryd.underlying41, MapKept.run_getObj_map hb, between_law.check w false hl, h1, hj, h3, between_law.stays w hl, MapKept.run_setObj_map _ hb, Result.andThen, setBlock]
    · intro x hx
      rw [hlist] at hx
      obtain ⟨i, hi, ex⟩ := List.getElem_of_mem hx
      rw [List.getElem_set] at ex
      split at ex
      · subst ex
        exact ⟨o, e, ho, he, rfl, (upd_same f o e v).symm⟩
      · rename_i hne
        have hi' : i < es.toList.length := by simpa using hi
        refine old x (ex ▸ List.getElem_mem hi') (fun hq => hne ?_)
        have k1 : (es.toList.map (·.key))[j]? = some (kyv o e) := by rw [List.getElem?_map, h2]; simp [h3]
        have k2 : (es.toList.map (·.key))[i]? = some (kyv o e) := by rw [List.getElem?_map, List.getElem?_eq_getElem hi']; simp [ex, hq]
        exact (List.getElem?_inj (by simpa using hjl) hn).1 (k1.trans k2.symm)
    · rw [hlist, hkeys]; exact hn
    · intro o' e' hh
      rw [hlist] at hh
      have hne : ¬ (o' = o ∧ e' = e) := fun hq => hh { e0 with key := kyv o e, val := v } (List.mem_iff_getElem.2 ⟨j, by simpa using hjl, by simp⟩) (by rw [hq.1, hq.2])
      rw [upd_other f v hne]
      refine hz o' e' (fun x hx hxk => ?_)
      have hm : kyv o' e' ∈ es.toList.map (·.key) := List.mem_map.2 ⟨x, hx, hxk⟩
      rw [← hkeys] at hm
      obtain ⟨y, hy, hyk⟩ := List.mem_map.1 hm
      exact hh y hy hyk
end
/-- A look-up at the operation. -/
theorem exec_lookupL {w : World} {b : Nat} {f : Int → Int → Value} {o e : Int} (h : LMap w b f) (ho : InL o) (he : InL e) {a : Act} {op : Oper} {m x : Operand} (hop : op.op = .lookup 41 m x false) (hm : a.eval m = .map (some b)) (hx : a.eval x = kyv o e) : (execOp a.eval op).run Tryd.prog w = .ok (.value (f o e)) w := by
  unfold execOp
  simp only [hop, hm, hx]
  simp [run_lookupL h ho he]
/-- A store into the map at the operation. -/
theorem exec_updateL {w w' : World} {b : Nat} {o e : Int} {v : Value} (hr : (Instr.mapUpdate 41 (.map (some b)) (kyv o e) v).run Tryd.prog w = .ok () w') {a : Act} {op : Oper} {m x y : Operand} (hop : op.op = .mapUpdate 41 m x y) (hm : a.eval m = .map (some b)) (hx : a.eval x = kyv o e) (hy : a.eval y = v) : (execOp a.eval op).run Tryd.prog w = .ok .skip w' := by
  unfold execOp
  simp only [hop, hm, hx, hy]
  simp [hr]
theorem wp_skipL {P : Program} {op : Oper} {a : Act} {w w' : World} {K : Act → World → Prop} {Q : Exit → Act → World → Prop}
    (hrun : (execOp a.eval op).run P w = .ok .skip w') (h : K (a.put op.dst undef) w') : op.wp P a w K Q := by
  unfold Oper.wp
  simp only [hrun]
  exact h
theorem wp_execL {P : Program} {op : Oper} {a : Act} {w : World} {K : Act → World → Prop} {Q : Exit → Act → World → Prop} (v : Value)
    (hrun : (execOp a.eval op).run P w = .ok (.value v) w) (h : K (a.put op.dst v) w) : op.wp P a w K Q := by
  unfold Oper.wp
  simp only [hrun]
  exact h
end Go.Proofs.YtlknjaoamkcmjaaDoor
