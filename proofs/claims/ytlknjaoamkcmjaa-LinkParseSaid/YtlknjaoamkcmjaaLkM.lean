/- Packets as they stand in memory; the map of a links' own. -/
import Derived.Test.YtlknjaoamkcmjaaLkA
import Derived.Maps.OwnOps
import Derived.DeepKeys4
namespace Go.Proofs.Ytlknjaoamkcmjaa
open Go.ChangeShapes Go.WideShapes Go.ChangeAt Go.RowKit
set_option linter.unusedVariables false
set_option maxRecDepth 100000
set_option linter.unusedSimpArgs false
open Plain Sha Wn Lk
namespace Lk
/-- A packet as it stands: with where its body stands. -/
structure PX where
  z : PkZ
  A : Option Addr
  n : Nat
  c : Nat
/-- Its cells. -/
def pnum (p : PkZ) : List Value := [.int .i64 p.fr, .int .i64 p.tw, .int .i64 p.ep, .int .i64 p.bo, .int .i64 p.sq]
def pc (x : PX) : List Value := pnum x.z ++ .slice x.A x.n x.c :: vals x.z.tag
theorem pc_len {x : PX} (h : x.z.tag.length = 32) : (pc x).length = 38 := by simp [pc, pnum, vals_len, h]
theorem pc_one (x : PX) : ∀ u ∈ pc x, u.oneCell' = true := by
  intro u hu
  unfold pc pnum at hu
  simp only [List.mem_append, List.mem_cons, List.not_mem_nil, or_false] at hu
  rcases hu with (rfl | rfl | rfl | rfl | rfl) | rfl | hu
  · rfl
  · rfl
  · rfl
  · rfl
  · rfl
  · rfl
  · exact vals_one _ _ hu
def px0 : PX := ⟨p0, none, 0, 0⟩
end Lk
/-- A packet whose body stands below block B. -/
structure PXOk (w : World) (B : Nat) (x : PX) : Prop where
  ok : POk x.z
  body : Bs w B x.A x.n x.z.body
  nc : x.n ≤ x.c
  cm : x.c ≤ maxLen
section
variable {w w' : World} {B B' : Nat} {x : PX}
theorem PXOk.keep (h : PXOk w B x) (hk : ∀ p : Addr, p.block < B → w'.cell? p = w.cell? p) : PXOk w' B x := ⟨h.ok, h.body.keep hk, h.nc, h.cm⟩
theorem PXOk.below (h : PXOk w B x) (hb : Below B' w w') (hB : B ≤ B') : PXOk w' B x := h.keep fun _ hp => (hb.mono hB).cell hp
theorem PXOk.more (h : PXOk w B x) (hB : B ≤ B') : PXOk w B' x := ⟨h.ok, h.body.more hB, h.nc, h.cm⟩
end
theorem p0_ok : POk p0 := ⟨by unfold InL p0; decide, by unfold InL p0; decide, by unfold InL p0; decide, by unfold InL p0; decide, by unfold InL p0; decide, IsBytes.nil, by simp [p0], by unfold p0; exact rep_bytes 32 0 (by omega) (by omega), by simp [p0]⟩
theorem px0_ok (w : World) (B : Nat) : PXOk w B px0 := ⟨p0_ok, Bs.nil, Nat.le_refl _, by simp [px0, maxLen]⟩
theorem p_size {x : PX} (h : x.z.tag.length = 32) : (Try.prog.info? 26).map (·.size) = some (pc x).length := by rw [pc_len h]; kernel_rfl
theorem p_sizeA {x : PX} (h : x.z.tag.length = 32) : (Try.prog.info? 26).map (·.size) = some (pc x).toArray.size := by rw [List.size_toArray]; exact p_size h
theorem p_oneA (x : PX) : (pc x).toArray.all (·.oneCell') = true := all_oneCell_toArray (pc_one x)
/-- What a packet's cells read as, wherever it stands. -/
theorem rng_p {w : World} {b o : Nat} {x : PX} (h : w.rangeAt b o (pc x)) : w.cell? ⟨b, o, none⟩ = some (.int .i64 x.z.fr) ∧ w.cell? ⟨b, o + 1, none⟩ = some (.int .i64 x.z.tw) ∧ w.cell? ⟨b, o + 2, none⟩ = some (.int .i64 x.z.ep) ∧ w.cell? ⟨b, o + 3, none⟩ = some (.int .i64 x.z.bo) ∧ w.cell? ⟨b, o + 4, none⟩ = some (.int .i64 x.z.sq) ∧ w.cell? ⟨b, o + 5, none⟩ = some (.slice x.A x.n x.c) :=
  ⟨h 0 _ rfl, h 1 _ rfl, h 2 _ rfl, h 3 _ rfl, h 4 _ rfl, h 5 _ rfl⟩
theorem rng_tag {w : World} {b o : Nat} {x : PX} (h : w.rangeAt b o (pc x)) : w.rangeAt b (o + 6) (vals x.z.tag) := fun j v hv => by
  have := h (6 + j) v (by
    rw [show pc x = (pnum x.z ++ [.slice x.A x.n x.c]) ++ vals x.z.tag from by simp [pc]]
    rw [List.getElem?_append_right (by simp [pnum])]
    have e6 : (pnum x.z ++ [Value.slice x.A x.n x.c]).length = 6 := by simp [pnum]
    rw [e6, show 6 + j - 6 = j by omega]
    exact hv)
  rwa [show o + (6 + j) = o + 6 + j by omega] at this
namespace Lk
/-- A link's key; what is kept of it. -/
def kyv (o e : Int) : Value := .agg #[.int .i64 o, .int .i64 e]
def kev (s : Int) (q : Option Nat) : Value := .agg #[.int .i64 s, .pointer (q.map fun k => ⟨k, 0, none⟩)]
theorem kyv_inj {a b c d : Int} (h : kyv a b = kyv c d) : a = c ∧ b = d := by
  unfold kyv at h
  simp at h
  exact h
end Lk
/-- Block b is a map that tells f. -/
def LMap (w : World) (b : Nat) (f : Int → Int → Value) : Prop :=
  ∃ es clock, w.heap[b]? = some (.map es clock) ∧ (∀ x ∈ es.toList, ∃ o e, InL o ∧ InL e ∧ x.key = kyv o e ∧ x.val = f o e) ∧ (es.toList.map (·.key)).Nodup ∧ ∀ o e, (∀ x ∈ es.toList, x.key ≠ kyv o e) → f o e = kev 0 none
theorem LMap.lt {w : World} {b : Nat} {f : Int → Int → Value} (h : LMap w b f) : b < w.heap.size := by
  obtain ⟨es, clock, hb, _⟩ := h
  exact (Array.getElem?_eq_some_iff.1 hb).1
theorem LMap.same {w w' : World} {b : Nat} {f : Int → Int → Value} (h : LMap w b f) (e : w'.heap[b]? = w.heap[b]?) : LMap w' b f := by
  obtain ⟨es, clock, hb, h1⟩ := h
  exact ⟨es, clock, e.trans hb, h1⟩
theorem lmap_new (w : World) (b : Nat) (hb : w.heap.size = b) : LMap (w.alloc (.map #[] 0)) b (fun _ _ => kev 0 none) := by
  subst hb
  exact ⟨#[], 0, (MapKept.heap_alloc w _).1, by simp, by simp, fun _ _ _ => rfl⟩
theorem int_cellsL : Try.prog.cellsOf 3 = 1 := by kernel_rfl
theorem key_litsI (d : Nat) {o : Int} (h : InL o) : Try.prog.keyLits (d + 1) 3 [.int .i64 o] = some [.int .i64 o] := by
  have hw : (Lit.int .i64 o).wf = true := by unfold InL at h; simp [Lit.wf, IntKind.min, IntKind.max, IntKind.signed, IntKind.bits]; omega
  simp [Program.keyLits, Try.underlying3, hw]
theorem mapM_two {β : Type} (g : Field → Option (List β)) (fs : List Field) (t u : TypeId) (h : fs.map (fun f => (f.type, f.offset)) = [(t, 0), (u, 1)]) (a b : List β) (ha : ∀ f, f.type = t → f.offset = 0 → g f = some a) (hb : ∀ f, f.type = u → f.offset = 1 → g f = some b) : fs.mapM g = some [a, b] := by
  cases fs with
  | nil => simp at h
  | cons f fs =>
    cases fs with
    | nil => simp at h
    | cons k fs =>
      cases fs with
      | cons _ _ => simp at h
      | nil =>
        simp only [List.map_cons, List.map_nil, List.cons.injEq, Prod.mk.injEq, and_true] at h
        obtain ⟨⟨h1, h2⟩, h3, h4⟩ := h
        simp [List.mapM_cons, ha f h1 h2, hb k h3 h4]
section
variable {w : World} {b : Nat} {f : Int → Int → Value} {o e : Int}
open Go.ChangeMaps (setBlock modify_eq_set heap_setBlock_same heap_setBlock_other) in
end
theorem wp_skipL {P : Program} {op : Oper} {a : Act} {w w' : World} {K : Act → World → Prop} {Q : Exit → Act → World → Prop}
    (hrun : (execOp a.eval op).run P w = .ok .skip w') (h : K (a.put op.dst undef) w') : op.wp P a w K Q := by
  unfold Oper.wp
  simp only [hrun]
  exact h
theorem wp_execL {P : Program} {op : Oper} {a : Act} {w : World} {K : Act → World → Prop} {Q : Exit → Act → World → Prop} (v : Value)
    (hrun : (execOp a.eval op).run P w = .ok (.value v) w) (h : K (a.put op.dst v) w) : op.wp P a w K Q := by
  unfold Oper.wp
  simp only [hrun]
  exact h
end Go.Proofs.Ytlknjaoamkcmjaa
