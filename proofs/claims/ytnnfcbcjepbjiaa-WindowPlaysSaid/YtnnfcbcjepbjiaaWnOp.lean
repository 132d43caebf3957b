/- Numbers that came in. -/
import Derived.Test.YtnnfcbcjepbjiaaWnN
import Derived.OpenShut
import Derived.SizedLaws
import Derived.Deep.Slices
import Derived.ChangeArms
import Derived.WalkArith
namespace Go.Proofs.Ytnnfcbcjepbjiaa
open Go.ChangeShapes Go.WideShapes Go.ChangeAt Go.RowKit Go.Deep
set_option linter.unusedVariables false
set_option maxRecDepth 100000
section
variable {H : Type} {enc : TypeId × Value → H} {W : World} {base : Nat} {sp : Nat → Bool} {held : Bool}
theorem number_cells : Try.prog.cellsOf 33 = 2 := by kernel_rfl
theorem number_bytes : Try.prog.bytesOf 33 = 16 := by kernel_rfl
/-- One number, by its cells. -/
theorem open_number {fuel : Nat} {cs : List Value} {x : DataW H × List MemPlace} (hf : DataW.trod enc Try.prog W base (fun _ => true) held fuel 33 cs = some x) :
    ∃ g : NuZ, cs = nuc g ∧ NOk g := by
  obtain ⟨xs, m, _, hx, hlen, hn, hel⟩ := DataW.trod_struct Try.underlying33 hf
  rw [number_cells] at hlen
  have ci : Try.prog.cellsOf 3 = 1 := by kernel_rfl
  obtain ⟨c0, c1, rfl⟩ : ∃ c0 c1, cs = [c0, c1] := by
    match cs, hlen with
    | [c0, c1], _ => exact ⟨c0, c1, rfl⟩
  have hn3 : xs.length = 2 := hn
  have g0 : DataW.trod enc Try.prog W base (fun _ => true) held m 3 ((([c0, c1] : List Value).drop 0).take (Try.prog.cellsOf 3)) = xs[0]? := hel 0 _ rfl
  rw [ci] at g0
  have g1 : DataW.trod enc Try.prog W base (fun _ => true) held m 3 ((([c0, c1] : List Value).drop 1).take (Try.prog.cellsOf 3)) = xs[1]? := hel 1 _ rfl
  rw [ci] at g1
  match xs, hn3 with
  | [y0, y1], _ =>
    obtain ⟨k0, e0, _, w0⟩ := DataW.trod_int Try.underlying3 g0
    obtain rfl : c0 = .int .i64 k0 := by simpa using e0
    obtain ⟨k1, e1, _, w1⟩ := DataW.trod_int Try.underlying3 g1
    obtain rfl : c1 = .int .i64 k1 := by simpa using e1
    exact ⟨⟨k0, k1⟩, rfl, ⟨bounds_i64 w0, bounds_i64 w1⟩⟩
/-- Numbers that came in. -/
theorem open_numbers {fuel : Nat} {x : DataW H × List MemPlace} {a0 : Option Addr} {len0 cap0 : Nat} (hf : DataW.trod enc Try.prog W base (fun _ => true) held fuel 22 [.slice a0 len0 cap0] = some x) (hz : ∀ n ∈ x.1.weights Try.prog 22, n ≤ 140737488355328) :
    ∃ l, Nums W W.heap.size a0 len0 l ∧ len0 * 16 ≤ 140737488355328 := by
  have inh : Inhabited NuZ := ⟨⟨0, 0⟩⟩
  rcases open_slice Try.underlying22 hf with ⟨hcs, _⟩ | ⟨a, len, cap, m, n, D, Pl, hcs, hb, hl, hm, hmm, hx, hall⟩
  · simp only [List.cons.injEq, and_true] at hcs
    injection hcs with e1 e2 e3
    subst e1 e2 e3
    exact ⟨[], Nums.nil, by omega⟩
  · simp only [List.cons.injEq, and_true] at hcs
    injection hcs with e1 e2 e3
    subst e1 e2 e3
    simp only [if_true] at hmm
    subst hmm
    have hcap : m * 16 ≤ 140737488355328 := by
      refine hz _ ?_
      rw [hx]
      simp only [DataW.weights, Try.underlying22, number_bytes]
      refine List.mem_cons.2 (.inl ?_)
      simp
      omega
    have each : ∀ i, i < len0 → ∃ f : NuZ, W.cells? base (a.add (i * 2)) 2 = some (nuc f) ∧ NOk f := by
      intro i hi
      obtain ⟨cs', h1, h2⟩ := hall i (by omega)
      rw [number_cells] at h1
      obtain ⟨f, rfl, hok⟩ := open_number h2
      exact ⟨f, h1, hok⟩
    obtain ⟨F, hF⟩ := choose_lt each
    have hgl : ∀ j, j < len0 → ((List.range len0).map F)[j]? = some (F j) := fun j hj => by simp [List.getElem?_map, List.getElem?_range hj]
    refine ⟨(List.range len0).map F, ⟨by simp, fun h0 => ?_, fun g hg => ?_⟩, by omega⟩
    · have hcell : ∀ j, j < len0 → ∀ i, i < 2 → W.cell? (a.add (j * 2 + i)) = (nuc (F j))[i]? := by
        intro j hj i hi
        have := (World.cells?_some (hF j hj).1).2.2 i hi
        rwa [add_add] at this
      obtain ⟨b, off, spot⟩ := a
      have h00 : W.cell? ((⟨b, off, spot⟩ : Addr).add (0 * 2 + 0)) = some (.int .i64 (F 0).b) := hcell 0 h0 0 (by omega)
      have hs : spot = none := by
        simpa [Addr.add] using World.cell?_spot h00
      subst hs
      refine ⟨b, off, rfl, ?_, fun i u hu => ?_⟩
      · rw [Go.WideShapes.add_plain] at h00
        exact World.block_lt_of_cell? _ _ h00
      · have hi := (List.getElem?_eq_some_iff.1 hu).1
        rw [nvs_len] at hi
        simp only [List.length_map, List.length_range] at hi
        have hj : i / 2 < len0 := by omega
        have hr : i % 2 < 2 := Nat.mod_lt _ (by omega)
        have e : i / 2 * 2 + i % 2 = i := by omega
        have h1 := hcell (i / 2) hj (i % 2) hr
        rw [Go.WideShapes.add_plain, e, ← nvs_at _ _ _ (hgl _ hj) _ hr, e, hu] at h1
        exact h1
    · obtain ⟨j, hj, rfl⟩ := List.mem_map.1 hg
      exact (hF j (List.mem_range.1 hj)).2
end
end Go.Proofs.Ytnnfcbcjepbjiaa
