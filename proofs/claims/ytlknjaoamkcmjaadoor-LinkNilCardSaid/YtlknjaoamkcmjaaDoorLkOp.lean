/- Packets that came in. -/
import Derived.Test.YtlknjaoamkcmjaaDoorLkM
import Derived.OpenShut
import Derived.SizedLaws
import Derived.Deep.Slices
import Derived.ChangeArms
import Derived.WalkArith
namespace Go.Proofs.YtlknjaoamkcmjaaDoor
open Go.ChangeShapes Go.WideShapes Go.ChangeAt Go.RowKit Go.Deep
set_option linter.unusedVariables false
set_option maxRecDepth 100000
open Plain Sha Wn Lk
/-- A packet that came in: of whatever length its body is. -/
structure PXIn (w : World) (x : PX) : Prop where
  fr : InL x.z.fr
  tw : InL x.z.tw
  ep : InL x.z.ep
  bo : InL x.z.bo
  sq : InL x.z.sq
  tl : x.z.tag.length = 32
  tag : IsBytes x.z.tag
  body : Bs w w.heap.size x.A x.n x.z.body
  nc : x.n ≤ x.c
  cm : x.c ≤ maxLen
theorem PXIn.ok {w : World} {x : PX} (h : PXIn w x) (hn : x.n ≤ 65536) : PXOk w w.heap.size x :=
  ⟨⟨h.fr, h.tw, h.ep, h.bo, h.sq, h.body.isBytes, by rw [h.body.len]; exact hn, h.tag, h.tl⟩, h.body, h.nc, h.cm⟩
section
variable {H : Type} {enc : TypeId × Value → H} {W : World} {base : Nat} {sp : Nat → Bool} {held : Bool}
def numAtL : Value → Int
  | .int _ n => n
  | _ => 0
theorem u8_ofL {n : Int} (h : (Lit.int .u8 n).wf = true) : 0 ≤ n ∧ n < 256 := by
  have := bounds_u8 h
  omega
theorem open_tagL {fuel : Nat} {cs : List Value} {x : DataW H × List MemPlace} (hf : DataW.trod enc Tryd.prog W base sp held fuel 24 cs = some x) : ∃ a : List Int, cs = vals a ∧ a.length = 32 ∧ IsBytes a := by
  obtain ⟨xs, m, _, _, hlen, hn, hel⟩ := DataW.trod_array Tryd.underlying24 hf
  have c1 : Tryd.prog.cellsOf 5 = 1 := by kernel_rfl
  have cT : Tryd.prog.cellsOf 24 = 32 := by kernel_rfl
  rw [cT] at hlen
  have key : ∀ j, j < 32 → ∃ k, cs[j]? = some (.int .u8 k) ∧ 0 ≤ k ∧ k < 256 := fun j hj => by
    have h0 := hel j hj
    rw [c1, List.getElem?_eq_getElem (show j < xs.length by omega)] at h0
    obtain ⟨k, e1, _, e3⟩ := DataW.trod_int Tryd.underlying5 h0
    have h4 : (cs.drop (j * 1)).take 1 = [.int .u8 k] := e1
    refine ⟨k, ?_, u8_ofL e3⟩
    have := congrArg (·[0]?) h4
    simpa [List.getElem?_take, List.getElem?_drop] using this
  have e : cs = vals (cs.map numAtL) := by
    apply List.ext_getElem?
    intro j
    by_cases hj : j < 32
    · obtain ⟨k, hk, _⟩ := key j hj
      simp only [vals, List.map_map, List.getElem?_map, hk, Option.map_some]
      rfl
    · rw [List.getElem?_eq_none (by omega), List.getElem?_eq_none (by rw [vals_len, List.length_map]; omega)]
  refine ⟨cs.map numAtL, e, by rw [List.length_map, hlen], ?_⟩
  intro j hj
  rw [List.length_map, hlen] at hj
  obtain ⟨k, hk, h1⟩ := key j hj
  simpa [List.getD_eq_getElem?_getD, List.getElem?_map, hk, numAtL] using h1
theorem pk_cells : Tryd.prog.cellsOf 26 = 38 := by kernel_rfl
theorem cut_offL (cs : List Value) (o n : Nat) : cs.drop o = (cs.drop o).take n ++ cs.drop (o + n) := by
  rw [← List.drop_drop, List.take_append_drop]
theorem seven_parts (cs : List Value) (h : cs.length = 38) : cs = (cs.drop 0).take 1 ++ ((cs.drop 1).take 1 ++ ((cs.drop 2).take 1 ++ ((cs.drop 3).take 1 ++ ((cs.drop 4).take 1 ++ ((cs.drop 5).take 1 ++ (cs.drop 6).take 32))))) := by
  have e : (cs.drop 6).take 32 = cs.drop 6 := List.take_of_length_le (by rw [List.length_drop]; omega)
  rw [e, ← cut_offL cs 5 1, ← cut_offL cs 4 1, ← cut_offL cs 3 1, ← cut_offL cs 2 1, ← cut_offL cs 1 1, ← cut_offL cs 0 1, List.drop_zero]
theorem u8_bytesL : Tryd.prog.bytesOf 5 = 1 := by kernel_rfl
/-- One packet, by its cells. -/
theorem open_packet {fuel : Nat} {cs : List Value} {x : DataW H × List MemPlace} (hf : DataW.trod enc Tryd.prog W base (fun _ => true) held fuel 26 cs = some x) (hz : ∀ n ∈ x.1.weights Tryd.prog 26, n ≤ 140737488355328) :
    ∃ q : PX, cs = pc q ∧ PXIn W q ∧ q.n ≤ 140737488355328 := by
  obtain ⟨xs, m, _, hx, hlen, hn, hel⟩ := DataW.trod_struct Tryd.underlying26 hf
  rw [pk_cells] at hlen
  have ci : Tryd.prog.cellsOf 3 = 1 := by kernel_rfl
  have cu : Tryd.prog.cellsOf 5 = 1 := by kernel_rfl
  have cb : Tryd.prog.cellsOf 22 = 1 := by kernel_rfl
  have cT : Tryd.prog.cellsOf 24 = 32 := by kernel_rfl
  have g0 : DataW.trod enc Tryd.prog W base (fun _ => true) held m 3 ((cs.drop 0).take (Tryd.prog.cellsOf 3)) = xs[0]? := hel 0 _ rfl
  have g1 : DataW.trod enc Tryd.prog W base (fun _ => true) held m 3 ((cs.drop 1).take (Tryd.prog.cellsOf 3)) = xs[1]? := hel 1 _ rfl
  have g2 : DataW.trod enc Tryd.prog W base (fun _ => true) held m 3 ((cs.drop 2).take (Tryd.prog.cellsOf 3)) = xs[2]? := hel 2 _ rfl
  have g3 : DataW.trod enc Tryd.prog W base (fun _ => true) held m 3 ((cs.drop 3).take (Tryd.prog.cellsOf 3)) = xs[3]? := hel 3 _ rfl
  have g4 : DataW.trod enc Tryd.prog W base (fun _ => true) held m 3 ((cs.drop 4).take (Tryd.prog.cellsOf 3)) = xs[4]? := hel 4 _ rfl
  have g5 : DataW.trod enc Tryd.prog W base (fun _ => true) held m 22 ((cs.drop 5).take (Tryd.prog.cellsOf 22)) = xs[5]? := hel 5 _ rfl
  have g6 : DataW.trod enc Tryd.prog W base (fun _ => true) held m 24 ((cs.drop 6).take (Tryd.prog.cellsOf 24)) = xs[6]? := hel 6 _ rfl
  have hn7 : xs.length = 7 := hn
  rw [ci] at g0 g1 g2 g3 g4
  rw [cb] at g5
  rw [cT] at g6
  match xs, hn7 with
  | [y0, y1, y2, y3, y4, y5, y6], _ =>
    obtain ⟨k0, e0, _, w0⟩ := DataW.trod_int Tryd.underlying3 g0
    obtain ⟨k1, e1, _, w1⟩ := DataW.trod_int Tryd.underlying3 g1
    obtain ⟨k2, e2, _, w2⟩ := DataW.trod_int Tryd.underlying3 g2
    obtain ⟨k3, e3, _, w3⟩ := DataW.trod_int Tryd.underlying3 g3
    obtain ⟨k4, e4, _, w4⟩ := DataW.trod_int Tryd.underlying3 g4
    obtain ⟨T, e6, hT, hTb⟩ := open_tagL g6
    have hcs := seven_parts cs hlen
    rw [e0, e1, e2, e3, e4, e6] at hcs
    rcases open_ints Tryd.underlying22 Tryd.underlying5 cu g5 with ⟨e5, _⟩ | ⟨a, len, cap, zs, e5, _, hl, hm, hzl, hy, hcell, hwz⟩
    · rw [e5] at hcs
      exact ⟨⟨⟨k0, k1, k2, k3, k4, [], T⟩, none, 0, 0⟩, hcs, ⟨bounds_i64 w0, bounds_i64 w1, bounds_i64 w2, bounds_i64 w3, bounds_i64 w4, hT, hTb, Bs.nil, Nat.le_refl _, by simp [maxLen]⟩, by show (0 : Nat) ≤ _; omega⟩
    · rw [e5] at hcs
      have hzl' : zs.length = cap := by simpa using hzl
      have hr : IsRow .u8 W (some a) len cap zs := .inr ⟨a, rfl, hl, hm, hzl', hcell, hwz⟩
      have hcap : cap ≤ 140737488355328 := by
        have m1 : cap ∈ y5.1.weights Tryd.prog 22 := by
          rw [hy]
          simp only [DataW.weights, Tryd.underlying22, u8_bytesL]
          refine List.mem_cons.2 (.inl ?_)
          simp [lits]
          omega
        refine hz cap ?_
        rw [hx]
        simp only [DataW.weights, Tryd.underlying26]
        exact DataW.weights_mem_each (j := 5) (t := 22) (d := y5.1) rfl rfl _ m1
      exact ⟨⟨⟨k0, k1, k2, k3, k4, zs.take len, T⟩, some a, len, cap⟩, hcs, ⟨bounds_i64 w0, bounds_i64 w1, bounds_i64 w2, bounds_i64 w3, bounds_i64 w4, hT, hTb, hr.bs.1, hl, hm⟩, by show len ≤ _; omega⟩
end
end Go.Proofs.YtlknjaoamkcmjaaDoor
