/- Links, and acts, that came in. -/
import Derived.Test.YtkaojhcmdichfaaDoorAuC2
import Derived.OpenShut
import Derived.SizedLaws
import Derived.Deep.Slices
import Derived.ChangeArms
import Derived.WalkArith
namespace Go.Proofs.YtkaojhcmdichfaaDoor
open Go.ChangeShapes Go.WideShapes Go.ChangeAt Go.RowKit Go.Deep
set_option linter.unusedVariables false
set_option maxRecDepth 100000
open Au
section
variable {H : Type} {enc : TypeId × Value → H} {W : World} {base : Nat} {sp : Nat → Bool} {held : Bool}
def numAt : Value → Int
  | .int _ n => n
  | _ => 0
theorem u8_of {n : Int} (h : (Lit.int .u8 n).wf = true) : 0 ≤ n ∧ n < 256 := by
  have := bounds_u8 h
  omega
theorem open_tag {fuel : Nat} {cs : List Value} {x : DataW H × List MemPlace} (hf : DataW.trod enc Tryd.prog W base sp held fuel 24 cs = some x) : ∃ a : List Int, cs = vals a ∧ a.length = 32 ∧ IsBytes a := by
  obtain ⟨xs, m, _, _, hlen, hn, hel⟩ := DataW.trod_array Tryd.underlying24 hf
  have c1 : Tryd.prog.cellsOf 5 = 1 := by kernel_rfl
  have cT : Tryd.prog.cellsOf 24 = 32 := by kernel_rfl
  rw [cT] at hlen
  have key : ∀ j, j < 32 → ∃ k, cs[j]? = some (.int .u8 k) ∧ 0 ≤ k ∧ k < 256 := fun j hj => by
    have h0 := hel j hj
    rw [c1, List.getElem?_eq_getElem (show j < xs.length by omega)] at h0
    obtain ⟨k, e1, _, e3⟩ := DataW.trod_int Tryd.underlying5 h0
    have h4 : (cs.drop (j * 1)).take 1 = [.int .u8 k] := e1
    refine ⟨k, ?_, u8_of e3⟩
    have := congrArg (·[0]?) h4
    simpa [List.getElem?_take, List.getElem?_drop] using this
  have e : cs = vals (cs.map numAt) := by
    apply List.ext_getElem?
    intro j
    by_cases hj : j < 32
    · obtain ⟨k, hk, _⟩ := key j hj
      simp only [vals, List.map_map, List.getElem?_map, hk, Option.map_some]
      rfl
    · rw [List.getElem?_eq_none (by omega), List.getElem?_eq_none (by rw [vals_len, List.length_map]; omega)]
  refine ⟨cs.map numAt, e, by rw [List.length_map, hlen], ?_⟩
  intro j hj
  rw [List.length_map, hlen] at hj
  obtain ⟨k, hk, h1⟩ := key j hj
  simpa [List.getD_eq_getElem?_getD, List.getElem?_map, hk, numAt] using h1
theorem link_cells : Tryd.prog.cellsOf 26 = 71 := by kernel_rfl
theorem cut_off (cs : List Value) (o n : Nat) : cs.drop o = (cs.drop o).take n ++ cs.drop (o + n) := by
  rw [← List.drop_drop, List.take_append_drop]
theorem nine_parts (cs : List Value) (h : cs.length = 71) : cs = (cs.drop 0).take 1 ++ ((cs.drop 1).take 1 ++ ((cs.drop 2).take 1 ++ ((cs.drop 3).take 1 ++ ((cs.drop 4).take 1 ++ ((cs.drop 5).take 1 ++ ((cs.drop 6).take 1 ++ ((cs.drop 7).take 32 ++ (cs.drop 39).take 32))))))) := by
  have e : (cs.drop 39).take 32 = cs.drop 39 := List.take_of_length_le (by rw [List.length_drop]; omega)
  rw [e, ← cut_off cs 7 32, ← cut_off cs 6 1, ← cut_off cs 5 1, ← cut_off cs 4 1, ← cut_off cs 3 1, ← cut_off cs 2 1, ← cut_off cs 1 1, ← cut_off cs 0 1, List.drop_zero]
/-- One link, by its cells. -/
theorem open_link {fuel : Nat} {cs : List Value} {x : DataW H × List MemPlace} (hf : DataW.trod enc Tryd.prog W base (fun _ => true) held fuel 26 cs = some x) :
    ∃ g : LinkZ, cs = lc g ∧ LOk g := by
  obtain ⟨xs, m, _, hx, hlen, hn, hel⟩ := DataW.trod_struct Tryd.underlying26 hf
  rw [link_cells] at hlen
  have ci : Tryd.prog.cellsOf 3 = 1 := by kernel_rfl
  have cu : Tryd.prog.cellsOf 5 = 1 := by kernel_rfl
  have cT : Tryd.prog.cellsOf 24 = 32 := by kernel_rfl
  have g0 : DataW.trod enc Tryd.prog W base (fun _ => true) held m 3 ((cs.drop 0).take (Tryd.prog.cellsOf 3)) = xs[0]? := hel 0 _ rfl
  have g1 : DataW.trod enc Tryd.prog W base (fun _ => true) held m 3 ((cs.drop 1).take (Tryd.prog.cellsOf 3)) = xs[1]? := hel 1 _ rfl
  have g2 : DataW.trod enc Tryd.prog W base (fun _ => true) held m 5 ((cs.drop 2).take (Tryd.prog.cellsOf 5)) = xs[2]? := hel 2 _ rfl
  have g3 : DataW.trod enc Tryd.prog W base (fun _ => true) held m 3 ((cs.drop 3).take (Tryd.prog.cellsOf 3)) = xs[3]? := hel 3 _ rfl
  have g4 : DataW.trod enc Tryd.prog W base (fun _ => true) held m 3 ((cs.drop 4).take (Tryd.prog.cellsOf 3)) = xs[4]? := hel 4 _ rfl
  have g5 : DataW.trod enc Tryd.prog W base (fun _ => true) held m 3 ((cs.drop 5).take (Tryd.prog.cellsOf 3)) = xs[5]? := hel 5 _ rfl
  have g6 : DataW.trod enc Tryd.prog W base (fun _ => true) held m 3 ((cs.drop 6).take (Tryd.prog.cellsOf 3)) = xs[6]? := hel 6 _ rfl
  have g7 : DataW.trod enc Tryd.prog W base (fun _ => true) held m 24 ((cs.drop 7).take (Tryd.prog.cellsOf 24)) = xs[7]? := hel 7 _ rfl
  have g8 : DataW.trod enc Tryd.prog W base (fun _ => true) held m 24 ((cs.drop 39).take (Tryd.prog.cellsOf 24)) = xs[8]? := hel 8 _ rfl
  have hn9 : xs.length = 9 := hn
  rw [ci] at g0 g1 g3 g4 g5 g6
  rw [cu] at g2
  rw [cT] at g7 g8
  match xs, hn9 with
  | [y0, y1, y2, y3, y4, y5, y6, y7, y8], _ =>
    obtain ⟨k0, e0, _, w0⟩ := DataW.trod_int Tryd.underlying3 g0
    obtain ⟨k1, e1, _, w1⟩ := DataW.trod_int Tryd.underlying3 g1
    obtain ⟨k2, e2, _, w2⟩ := DataW.trod_int Tryd.underlying5 g2
    obtain ⟨k3, e3, _, w3⟩ := DataW.trod_int Tryd.underlying3 g3
    obtain ⟨k4, e4, _, w4⟩ := DataW.trod_int Tryd.underlying3 g4
    obtain ⟨k5, e5, _, w5⟩ := DataW.trod_int Tryd.underlying3 g5
    obtain ⟨k6, e6, _, w6⟩ := DataW.trod_int Tryd.underlying3 g6
    obtain ⟨T7, e7, hT7, hB7⟩ := open_tag g7
    obtain ⟨T8, e8, hT8, hB8⟩ := open_tag g8
    have hcs := nine_parts cs hlen
    rw [e0, e1, e2, e3, e4, e5, e6, e7, e8] at hcs
    exact ⟨⟨k0, k1, k2, k3, k4, k5, k6, T7, T8, hT7, hT8⟩, hcs, ⟨bounds_i64 w0, bounds_i64 w1, u8_of w2, bounds_i64 w3, bounds_i64 w4, bounds_i64 w5, bounds_i64 w6, hB7, hB8⟩⟩
/-- Links that came in. -/
theorem open_links {fuel : Nat} {x : DataW H × List MemPlace} {a0 : Option Addr} {len0 cap0 : Nat} (hf : DataW.trod enc Tryd.prog W base (fun _ => true) held fuel 22 [.slice a0 len0 cap0] = some x) :
    ∃ l, Lks W W.heap.size a0 len0 l ∧ len0 ≤ cap0 ∧ cap0 ≤ maxLen := by
  have inh : Inhabited LinkZ := ⟨l0⟩
  rcases open_slice Tryd.underlying22 hf with ⟨hcs, _⟩ | ⟨a, len, cap, m, n, D, Pl, hcs, hb, hl, hm, hmm, hx, hall⟩
  · simp only [List.cons.injEq, and_true] at hcs
    injection hcs with e1 e2 e3
    subst e1 e2 e3
    exact ⟨[], Lks.nil, Nat.le_refl _, by simp [maxLen]⟩
  · simp only [List.cons.injEq, and_true] at hcs
    injection hcs with e1 e2 e3
    subst e1 e2 e3
    simp only [if_true] at hmm
    subst hmm
    have each : ∀ i, i < len0 → ∃ f : LinkZ, W.cells? base (a.add (i * 71)) 71 = some (lc f) ∧ LOk f := by
      intro i hi
      obtain ⟨cs', h1, h2⟩ := hall i (by omega)
      rw [link_cells] at h1
      obtain ⟨f, rfl, hok⟩ := open_link h2
      exact ⟨f, h1, hok⟩
    obtain ⟨F, hF⟩ := choose_lt each
    have hgl : ∀ j, j < len0 → ((List.range len0).map F)[j]? = some (F j) := fun j hj => by simp [List.getElem?_map, List.getElem?_range hj]
    refine ⟨(List.range len0).map F, ⟨by simp, fun h0 => ?_, fun g hg => ?_⟩, hl, hm⟩
    · have hcell : ∀ j, j < len0 → ∀ i, i < 71 → W.cell? (a.add (j * 71 + i)) = (lc (F j))[i]? := by
        intro j hj i hi
        have := (World.cells?_some (hF j hj).1).2.2 i hi
        rwa [add_add] at this
      obtain ⟨b, off, spot⟩ := a
      have h00 : W.cell? ((⟨b, off, spot⟩ : Addr).add (0 * 71 + 0)) = some (.int .i64 (F 0).n) := hcell 0 h0 0 (by omega)
      have hs : spot = none := by
        simpa [Addr.add] using World.cell?_spot h00
      subst hs
      refine ⟨b, off, rfl, ?_, fun i u hu => ?_⟩
      · rw [Go.WideShapes.add_plain] at h00
        exact World.block_lt_of_cell? _ _ h00
      · have hi := (List.getElem?_eq_some_iff.1 hu).1
        rw [lvs_len] at hi
        simp only [List.length_map, List.length_range] at hi
        have hj : i / 71 < len0 := by omega
        have hr : i % 71 < 71 := Nat.mod_lt _ (by omega)
        have e : i / 71 * 71 + i % 71 = i := by omega
        have h1 := hcell (i / 71) hj (i % 71) hr
        rw [Go.WideShapes.add_plain, e, ← lvs_at _ _ _ (hgl _ hj) _ hr, e, hu] at h1
        exact h1
    · obtain ⟨j, hj, rfl⟩ := List.mem_map.1 hg
      exact (hF j (List.mem_range.1 hj)).2
theorem act_cells : Tryd.prog.cellsOf 41 = 6 := by kernel_rfl
/-- One act, by its cells. -/
theorem open_act {fuel : Nat} {cs : List Value} {x : DataW H × List MemPlace} (hf : DataW.trod enc Tryd.prog W base (fun _ => true) held fuel 41 cs = some x) :
    ∃ g : AZ, cs = ac g ∧ AOk g := by
  obtain ⟨xs, m, _, hx, hlen, hn, hel⟩ := DataW.trod_struct Tryd.underlying41 hf
  rw [act_cells] at hlen
  have ci : Tryd.prog.cellsOf 3 = 1 := by kernel_rfl
  have cu : Tryd.prog.cellsOf 5 = 1 := by kernel_rfl
  obtain ⟨c0, c1, c2, c3, c4, c5, rfl⟩ : ∃ c0 c1 c2 c3 c4 c5, cs = [c0, c1, c2, c3, c4, c5] := by
    match cs, hlen with
    | [c0, c1, c2, c3, c4, c5], _ => exact ⟨c0, c1, c2, c3, c4, c5, rfl⟩
  have hn6 : xs.length = 6 := hn
  have g0 : DataW.trod enc Tryd.prog W base (fun _ => true) held m 3 ((([c0, c1, c2, c3, c4, c5] : List Value).drop 0).take (Tryd.prog.cellsOf 3)) = xs[0]? := hel 0 _ rfl
  have g1 : DataW.trod enc Tryd.prog W base (fun _ => true) held m 5 ((([c0, c1, c2, c3, c4, c5] : List Value).drop 1).take (Tryd.prog.cellsOf 5)) = xs[1]? := hel 1 _ rfl
  have g2 : DataW.trod enc Tryd.prog W base (fun _ => true) held m 3 ((([c0, c1, c2, c3, c4, c5] : List Value).drop 2).take (Tryd.prog.cellsOf 3)) = xs[2]? := hel 2 _ rfl
  have g3 : DataW.trod enc Tryd.prog W base (fun _ => true) held m 3 ((([c0, c1, c2, c3, c4, c5] : List Value).drop 3).take (Tryd.prog.cellsOf 3)) = xs[3]? := hel 3 _ rfl
  have g4 : DataW.trod enc Tryd.prog W base (fun _ => true) held m 3 ((([c0, c1, c2, c3, c4, c5] : List Value).drop 4).take (Tryd.prog.cellsOf 3)) = xs[4]? := hel 4 _ rfl
  have g5 : DataW.trod enc Tryd.prog W base (fun _ => true) held m 3 ((([c0, c1, c2, c3, c4, c5] : List Value).drop 5).take (Tryd.prog.cellsOf 3)) = xs[5]? := hel 5 _ rfl
  rw [ci] at g0 g2 g3 g4 g5
  rw [cu] at g1
  match xs, hn6 with
  | [y0, y1, y2, y3, y4, y5], _ =>
    obtain ⟨k0, e0, _, w0⟩ := DataW.trod_int Tryd.underlying3 g0
    obtain rfl : c0 = .int .i64 k0 := by simpa using e0
    obtain ⟨k1, e1, _, w1⟩ := DataW.trod_int Tryd.underlying5 g1
    obtain rfl : c1 = .int .u8 k1 := by simpa using e1
    obtain ⟨k2, e2, _, w2⟩ := DataW.trod_int Tryd.underlying3 g2
    obtain rfl : c2 = .int .i64 k2 := by simpa using e2
    obtain ⟨k3, e3, _, w3⟩ := DataW.trod_int Tryd.underlying3 g3
    obtain rfl : c3 = .int .i64 k3 := by simpa using e3
    obtain ⟨k4, e4, _, w4⟩ := DataW.trod_int Tryd.underlying3 g4
    obtain rfl : c4 = .int .i64 k4 := by simpa using e4
    obtain ⟨k5, e5, _, w5⟩ := DataW.trod_int Tryd.underlying3 g5
    obtain rfl : c5 = .int .i64 k5 := by simpa using e5
    exact ⟨⟨k0, k1, k2, k3, k4, k5⟩, rfl, ⟨⟨bounds_i64 w0, u8_of w1, bounds_i64 w2, bounds_i64 w3, bounds_i64 w4, bounds_i64 w5⟩⟩⟩
/-- Acts that came in. -/
theorem open_acts {fuel : Nat} {x : DataW H × List MemPlace} {a0 : Option Addr} {len0 cap0 : Nat} (hf : DataW.trod enc Tryd.prog W base (fun _ => true) held fuel 38 [.slice a0 len0 cap0] = some x) :
    ∃ l, Ats W W.heap.size a0 len0 l ∧ len0 ≤ cap0 ∧ cap0 ≤ maxLen := by
  have inh : Inhabited AZ := ⟨⟨0, 0, 0, 0, 0, 0⟩⟩
  rcases open_slice Tryd.underlying38 hf with ⟨hcs, _⟩ | ⟨a, len, cap, m, n, D, Pl, hcs, hb, hl, hm, hmm, hx, hall⟩
  · simp only [List.cons.injEq, and_true] at hcs
    injection hcs with e1 e2 e3
    subst e1 e2 e3
    exact ⟨[], ⟨rfl, fun h => absurd h (by omega), fun x h => by simp at h⟩, Nat.le_refl _, by simp [maxLen]⟩
  · simp only [List.cons.injEq, and_true] at hcs
    injection hcs with e1 e2 e3
    subst e1 e2 e3
    simp only [if_true] at hmm
    subst hmm
    have each : ∀ i, i < len0 → ∃ f : AZ, W.cells? base (a.add (i * 6)) 6 = some (ac f) ∧ AOk f := by
      intro i hi
      obtain ⟨cs', h1, h2⟩ := hall i (by omega)
      rw [act_cells] at h1
      obtain ⟨f, rfl, hok⟩ := open_act h2
      exact ⟨f, h1, hok⟩
    obtain ⟨F, hF⟩ := choose_lt each
    have hgl : ∀ j, j < len0 → ((List.range len0).map F)[j]? = some (F j) := fun j hj => by simp [List.getElem?_map, List.getElem?_range hj]
    refine ⟨(List.range len0).map F, ⟨by simp, fun h0 => ?_, fun g hg => ?_⟩, hl, hm⟩
    · have hcell : ∀ j, j < len0 → ∀ i, i < 6 → W.cell? (a.add (j * 6 + i)) = (ac (F j))[i]? := by
        intro j hj i hi
        have := (World.cells?_some (hF j hj).1).2.2 i hi
        rwa [add_add] at this
      obtain ⟨b, off, spot⟩ := a
      have h00 : W.cell? ((⟨b, off, spot⟩ : Addr).add (0 * 6 + 0)) = some (.int .i64 (F 0).st) := hcell 0 h0 0 (by omega)
      have hs : spot = none := by
        simpa [Addr.add] using World.cell?_spot h00
      subst hs
      refine ⟨b, off, rfl, ?_, fun i u hu => ?_⟩
      · rw [Go.WideShapes.add_plain] at h00
        exact World.block_lt_of_cell? _ _ h00
      · have hi := (List.getElem?_eq_some_iff.1 hu).1
        rw [avs_len] at hi
        simp only [List.length_map, List.length_range] at hi
        have hj : i / 6 < len0 := by omega
        have hr : i % 6 < 6 := Nat.mod_lt _ (by omega)
        have e : i / 6 * 6 + i % 6 = i := by omega
        have h1 := hcell (i / 6) hj (i % 6) hr
        rw [Go.WideShapes.add_plain, e, ← avs_at _ _ _ (hgl _ hj) _ hr, e, hu] at h1
        exact h1
    · obtain ⟨j, hj, rfl⟩ := List.mem_map.1 hg
      exact (hF j (List.mem_range.1 hj)).2
end
end Go.Proofs.YtkaojhcmdichfaaDoor
