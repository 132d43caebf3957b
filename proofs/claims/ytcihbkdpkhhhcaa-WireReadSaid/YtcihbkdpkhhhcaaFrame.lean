/- Fields that came in, as a row's frame opens them. -/
import Derived.Test.YtcihbkdpkhhhcaaFields
import Derived.OpenShut
import Derived.SizedLaws
import Derived.Deep.Slices
import Derived.ChangeArms
namespace Go.Proofs.Ytcihbkdpkhhhcaa
open Go.ChangeShapes Go.WideShapes Go.ChangeAt Go.RowKit Go.Deep
set_option linter.unusedVariables false
open Plain
def numOf : Value → Int
  | .int _ n => n
  | _ => 0
section
variable {H : Type} {enc : TypeId × Value → H} {W : World} {base : Nat} {sp : Nat → Bool} {held : Bool}
theorem open_tag {fuel : Nat} {cs : List Value} {x : DataW H × List MemPlace} (hf : DataW.trod enc Try.prog W base sp held fuel 28 cs = some x) : ∃ a : List Int, cs = vals a ∧ a.length = 32 ∧ IsBytes a := by
  obtain ⟨xs, m, _, _, hlen, hn, hel⟩ := DataW.trod_array Try.underlying28 hf
  have c1 : Try.prog.cellsOf 5 = 1 := by kernel_rfl
  have cT : Try.prog.cellsOf 28 = 32 := by kernel_rfl
  rw [cT] at hlen
  have key : ∀ j, j < 32 → ∃ k, cs[j]? = some (.int .u8 k) ∧ 0 ≤ k ∧ k < 256 := fun j hj => by
    have h0 := hel j hj
    rw [c1, List.getElem?_eq_getElem (show j < xs.length by omega)] at h0
    obtain ⟨k, e1, _, e3⟩ := DataW.trod_int Try.underlying5 h0
    have h4 : (cs.drop (j * 1)).take 1 = [.int .u8 k] := e1
    refine ⟨k, ?_, wf_u8 e3⟩
    have := congrArg (·[0]?) h4
    simpa [List.getElem?_take, List.getElem?_drop] using this
  have e : cs = vals (cs.map numOf) := by
    apply List.ext_getElem?
    intro j
    by_cases hj : j < 32
    · obtain ⟨k, hk, _⟩ := key j hj
      simp only [vals, List.map_map, List.getElem?_map, hk, Option.map_some]
      rfl
    · rw [List.getElem?_eq_none (by omega), List.getElem?_eq_none (by rw [vals_len, List.length_map]; omega)]
  refine ⟨cs.map numOf, e, by rw [List.length_map, hlen], ?_⟩
  intro j hj
  rw [List.length_map, hlen] at hj
  obtain ⟨k, hk, h1⟩ := key j hj
  simpa [List.getD_eq_getElem?_getD, List.getElem?_map, hk, numOf] using h1
theorem field_cells : Try.prog.cellsOf 30 = 35 := by kernel_rfl
theorem u8_bytes : Try.prog.bytesOf 5 = 1 := by kernel_rfl
/-- What a row weighs is among what the whole list weighs. -/
theorem weightsAll_mem {P : Program} {e : TypeId} : ∀ (ds : List (DataW H)) (j : Nat) (d : DataW H), ds[j]? = some d → ∀ n ∈ d.weights P e, n ∈ DataW.weightsAll P e ds
  | [], j, d, hd, n, hn => by simp at hd
  | x :: r, 0, d, hd, n, hn => by
    have e : x = d := by simpa using hd
    subst e
    rw [DataW.weightsAll]
    exact List.mem_append.2 (.inl hn)
  | x :: r, j + 1, d, hd, n, hn => by
    rw [DataW.weightsAll]
    exact List.mem_append.2 (.inr (weightsAll_mem r j d (by simpa using hd) n hn))
theorem four_parts (cs : List Value) (h : cs.length = 35) : cs = (cs.drop 0).take 1 ++ ((cs.drop 1).take 1 ++ ((cs.drop 2).take 1 ++ (cs.drop 3).take 32)) := by
  have h3 : (cs.drop 3).take 32 = cs.drop 3 := List.take_of_length_le (by rw [List.length_drop]; omega)
  rw [h3, List.drop_zero]
  have e2 : (cs.drop 2).take 1 ++ cs.drop 3 = cs.drop 2 := by
    have := List.take_append_drop 1 (cs.drop 2)
    rwa [List.drop_drop] at this
  have e1 : (cs.drop 1).take 1 ++ cs.drop 2 = cs.drop 1 := by
    have := List.take_append_drop 1 (cs.drop 1)
    rwa [List.drop_drop] at this
  rw [e2, e1, List.take_append_drop]
/-- One field, by its cells. -/
theorem open_field {fuel : Nat} {cs : List Value} {x : DataW H × List MemPlace} (hf : DataW.trod enc Try.prog W base (fun _ => true) held fuel 30 cs = some x) (hz : ∀ n ∈ x.1.weights Try.prog 30, n ≤ 140737488355328) :
    ∃ f : FieldZ, cs = fCells f ∧ FieldOk W W.heap.size f := by
  obtain ⟨xs, m, _, hx, hlen, hn, hel⟩ := DataW.trod_struct Try.underlying30 hf
  rw [field_cells] at hlen
  have c3 : Try.prog.cellsOf 3 = 1 := by kernel_rfl
  have c26 : Try.prog.cellsOf 26 = 1 := by kernel_rfl
  have c28 : Try.prog.cellsOf 28 = 32 := by kernel_rfl
  have c5 : Try.prog.cellsOf 5 = 1 := by kernel_rfl
  have g0 : DataW.trod enc Try.prog W base (fun _ => true) held m 3 ((cs.drop 0).take (Try.prog.cellsOf 3)) = xs[0]? := hel 0 _ rfl
  have g1 : DataW.trod enc Try.prog W base (fun _ => true) held m 3 ((cs.drop 1).take (Try.prog.cellsOf 3)) = xs[1]? := hel 1 _ rfl
  have g2 : DataW.trod enc Try.prog W base (fun _ => true) held m 26 ((cs.drop 2).take (Try.prog.cellsOf 26)) = xs[2]? := hel 2 _ rfl
  have g3 : DataW.trod enc Try.prog W base (fun _ => true) held m 28 ((cs.drop 3).take (Try.prog.cellsOf 28)) = xs[3]? := hel 3 _ rfl
  have hn4 : xs.length = 4 := hn
  rw [c3] at g0 g1
  rw [c26] at g2
  rw [c28] at g3
  match xs, hn4 with
  | [y0, y1, y2, y3], _ =>
    obtain ⟨k, e0, _, w0⟩ := DataW.trod_int Try.underlying3 g0
    obtain ⟨n, e1, _, w1⟩ := DataW.trod_int Try.underlying3 g1
    obtain ⟨T, e3, hT, hB⟩ := open_tag g3
    have hcs := four_parts cs hlen
    rw [e0, e1, e3] at hcs
    rcases open_ints Try.underlying26 Try.underlying5 c5 g2 with ⟨e2, _⟩ | ⟨a, len, cap, zs, e2, _, hl, hm, hzl, hy, hcell, hwz⟩
    · rw [e2] at hcs
      exact ⟨⟨k, n, none, 0, 0, [], T⟩, hcs, ⟨wf_i64 w0, wf_i64 w1, Bs.nil, Nat.le_refl _, by simp [maxLen], by show (0 : Nat) ≤ _; omega, hT, hB⟩⟩
    · rw [e2] at hcs
      have hzl' : zs.length = cap := by simpa using hzl
      have hr : IsRow .u8 W (some a) len cap zs := .inr ⟨a, rfl, hl, hm, hzl', hcell, hwz⟩
      have hcap : cap ≤ 140737488355328 := by
        have m1 : cap ∈ y2.1.weights Try.prog 26 := by
          rw [hy]
          simp only [DataW.weights, Try.underlying26, u8_bytes]
          refine List.mem_cons.2 (.inl ?_)
          simp [lits]
          omega
        refine hz cap ?_
        rw [hx]
        simp only [DataW.weights, Try.underlying30]
        exact DataW.weights_mem_each (j := 2) (t := 26) (d := y2.1) rfl rfl _ m1
      exact ⟨⟨k, n, some a, len, cap, zs.take len, T⟩, hcs, ⟨wf_i64 w0, wf_i64 w1, hr.bs.1, hl, hm, by show len ≤ _; omega, hT, hB⟩⟩
/-- Fields that came in. -/
theorem open_fields {fuel : Nat} {x : DataW H × List MemPlace} {a0 : Option Addr} {len0 cap0 : Nat} (hf : DataW.trod enc Try.prog W base (fun _ => true) held fuel 22 [.slice a0 len0 cap0] = some x) (hz : ∀ n ∈ x.1.weights Try.prog 22, n ≤ 140737488355328) :
    ∃ F, Fields W W.heap.size a0 len0 F ∧ len0 ≤ cap0 ∧ cap0 ≤ maxLen := by
  rcases open_slice Try.underlying22 hf with ⟨hcs, _⟩ | ⟨a, len, cap, m, n, D, Pl, hcs, hb, hl, hm, hmm, hx, hall⟩
  · simp only [List.cons.injEq, and_true] at hcs
    injection hcs with e1 e2 e3
    subst e1 e2 e3
    exact ⟨fun _ => ⟨0, 0, none, 0, 0, [], []⟩, ⟨fun h => absurd h (by omega), fun j h => absurd h (by omega)⟩, Nat.le_refl _, by simp [maxLen]⟩
  · simp only [List.cons.injEq, and_true] at hcs
    injection hcs with e1 e2 e3
    subst e1 e2 e3
    simp only [if_true] at hmm
    subst hmm
    have each : ∀ i, i < len0 → ∃ f : FieldZ, W.cells? base (a.add (i * 35)) 35 = some (fCells f) ∧ FieldOk W W.heap.size f := by
      intro i hi
      obtain ⟨cs', h1, h2⟩ := hall i (by omega)
      rw [field_cells] at h1
      obtain ⟨f, rfl, hok⟩ := open_field h2 (fun k hk => by
        refine hz k ?_
        rw [hx]
        simp only [DataW.weights, Try.underlying22]
        refine List.mem_cons.2 (.inr (List.mem_append.2 (.inl ?_)))
        exact weightsAll_mem _ i _ (by simp [hi]) _ hk)
      exact ⟨f, h1, hok⟩
    have inh : Inhabited FieldZ := ⟨⟨0, 0, none, 0, 0, [], []⟩⟩
    obtain ⟨F, hF⟩ := choose_lt each
    refine ⟨F, ⟨fun h0 => ?_, fun j hj => (hF j hj).2⟩, hl, hm⟩
    have hcell : ∀ j, j < len0 → ∀ i, i < 35 → W.cell? (a.add (j * 35 + i)) = (fCells (F j))[i]? := by
      intro j hj i hi
      have := (World.cells?_some (hF j hj).1).2.2 i hi
      rwa [add_add] at this
    obtain ⟨b, off, spot⟩ := a
    have h00 := hcell 0 h0 0 (by omega)
    have hs : spot = none := by
      have h1 : W.cell? ((⟨b, off, spot⟩ : Addr).add (0 * 35 + 0)) = some (.int .i64 (F 0).kind) := h00
      simpa [Addr.add] using World.cell?_spot h1
    subst hs
    refine ⟨b, off, rfl, ?_, fun j hj i u hu => ?_⟩
    · have h1 : W.cell? ((⟨b, off, none⟩ : Addr).add (0 * 35 + 0)) = some (.int .i64 (F 0).kind) := h00
      rw [Go.WideShapes.add_plain] at h1
      exact World.block_lt_of_cell? _ _ h1
    · have hi : i < 35 := by
        have := (List.getElem?_eq_some_iff.1 hu).1
        rwa [fCells_len (hF j hj).2.tag] at this
      have := hcell j hj i hi
      rw [Go.WideShapes.add_plain, ← Nat.add_assoc, hu] at this
      exact this
end
end Go.Proofs.Ytcihbkdpkhhhcaa
