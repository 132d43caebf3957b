/- Spaces that came in. -/
import Derived.Test.YtmlkcedhjnmfgaaSpM
import Derived.OpenShut
import Derived.SizedLaws
import Derived.Deep.Slices
import Derived.ChangeArms
import Derived.WalkArith
namespace Go.Proofs.Ytmlkcedhjnmfgaa
open Go.ChangeShapes Go.WideShapes Go.ChangeAt Go.RowKit Go.Deep
set_option linter.unusedVariables false
set_option maxRecDepth 100000
open Sp
section
variable {H : Type} {enc : TypeId × Value → H} {W : World} {base : Nat} {sp : Nat → Bool} {held : Bool}
theorem rpair_cells : Try.prog.cellsOf 66 = 2 := by kernel_rfl
theorem wf_i64s {n : Int} (h : (Lit.int .i64 n).wf = true) : -9223372036854775808 ≤ n ∧ n ≤ 9223372036854775807 := bounds_i64 h
/-- One pair, by its cells. -/
theorem open_pair {fuel : Nat} {cs : List Value} {x : DataW H × List MemPlace} (hf : DataW.trod enc Try.prog W base (fun _ => true) held fuel 66 cs = some x) :
    ∃ p : PairZ, cs = [.string p.k, .string p.v] ∧ POk p := by
  obtain ⟨xs, m, _, hx, hlen, hn, hel⟩ := DataW.trod_struct Try.underlying66 hf
  rw [rpair_cells] at hlen
  have cs9 : Try.prog.cellsOf 9 = 1 := by kernel_rfl
  obtain ⟨c0, c1, rfl⟩ : ∃ c0 c1, cs = [c0, c1] := by
    match cs, hlen with
    | [c0, c1], _ => exact ⟨c0, c1, rfl⟩
  have hn3 : xs.length = 2 := hn
  have g0 : DataW.trod enc Try.prog W base (fun _ => true) held m 9 ((([c0, c1] : List Value).drop 0).take (Try.prog.cellsOf 9)) = xs[0]? := hel 0 _ rfl
  rw [cs9] at g0
  have g1 : DataW.trod enc Try.prog W base (fun _ => true) held m 9 ((([c0, c1] : List Value).drop 1).take (Try.prog.cellsOf 9)) = xs[1]? := hel 1 _ rfl
  rw [cs9] at g1
  match xs, hn3 with
  | [y0, y1], _ =>
    obtain ⟨k0, e0, _, w0⟩ := DataW.trod_string Try.underlying9 g0
    obtain rfl : c0 = .string k0 := by simpa using e0
    obtain ⟨k1, e1, _, w1⟩ := DataW.trod_string Try.underlying9 g1
    obtain rfl : c1 = .string k1 := by simpa using e1
    exact ⟨⟨k0, k1⟩, rfl, ⟨w0, w1⟩⟩
/-- Pairs that came in. -/
theorem open_pairs {fuel : Nat} {x : DataW H × List MemPlace} {a0 : Option Addr} {len0 cap0 : Nat} (hf : DataW.trod enc Try.prog W base (fun _ => true) held fuel 22 [.slice a0 len0 cap0] = some x) :
    ∃ l, Prs W W.heap.size a0 len0 l ∧ len0 ≤ cap0 ∧ cap0 ≤ maxLen := by
  have inh : Inhabited PairZ := ⟨⟨⟨#[]⟩, ⟨#[]⟩⟩⟩
  rcases open_slice Try.underlying22 hf with ⟨hcs, _⟩ | ⟨a, len, cap, m, n, D, Pl, hcs, hb, hl, hm, hmm, hx, hall⟩
  · simp only [List.cons.injEq, and_true] at hcs
    injection hcs with e1 e2 e3
    subst e1 e2 e3
    exact ⟨[], Prs.nil, Nat.le_refl _, by simp [maxLen]⟩
  · simp only [List.cons.injEq, and_true] at hcs
    injection hcs with e1 e2 e3
    subst e1 e2 e3
    simp only [if_true] at hmm
    subst hmm
    have each : ∀ i, i < len0 → ∃ f : PairZ, W.cells? base (a.add (i * 2)) 2 = some [.string f.k, .string f.v] ∧ POk f := by
      intro i hi
      obtain ⟨cs', h1, h2⟩ := hall i (by omega)
      rw [rpair_cells] at h1
      obtain ⟨f, rfl, hok⟩ := open_pair h2
      exact ⟨f, h1, hok⟩
    obtain ⟨F, hF⟩ := choose_lt each
    have hgl : ∀ j, j < len0 → ((List.range len0).map F)[j]? = some (F j) := fun j hj => by simp [List.getElem?_map, List.getElem?_range hj]
    refine ⟨(List.range len0).map F, ⟨by simp, fun h0 => ?_, fun g hg => ?_⟩, hl, hm⟩
    · have hcell : ∀ j, j < len0 → ∀ i, i < 2 → W.cell? (a.add (j * 2 + i)) = ([.string (F j).k, .string (F j).v] : List Value)[i]? := by
        intro j hj i hi
        have := (World.cells?_some (hF j hj).1).2.2 i hi
        rwa [add_add] at this
      obtain ⟨b, off, spot⟩ := a
      have h00 : W.cell? ((⟨b, off, spot⟩ : Addr).add (0 * 2 + 0)) = some (.string (F 0).k) := hcell 0 h0 0 (by omega)
      have hs : spot = none := by
        simpa [Addr.add] using World.cell?_spot h00
      subst hs
      refine ⟨b, off, rfl, ?_, fun i u hu => ?_⟩
      · rw [Go.WideShapes.add_plain] at h00
        exact World.block_lt_of_cell? _ _ h00
      · have hi := (List.getElem?_eq_some_iff.1 hu).1
        rw [pvs_len] at hi
        simp only [List.length_map, List.length_range] at hi
        have hj : i / 2 < len0 := by omega
        obtain ⟨p0, p1⟩ := pvs_at _ _ _ (hgl (i / 2) hj)
        rcases Nat.mod_two_eq_zero_or_one i with e | e
        · have e2 : i / 2 * 2 = i := by omega
          have h1 := hcell (i / 2) hj 0 (by omega)
          rw [Go.WideShapes.add_plain, Nat.add_zero, e2] at h1
          rw [e2, hu] at p0
          rw [h1, p0]; rfl
        · have e2 : i / 2 * 2 + 1 = i := by omega
          have h1 := hcell (i / 2) hj 1 (by omega)
          rw [Go.WideShapes.add_plain, e2] at h1
          rw [e2, hu] at p1
          rw [h1, p1]; rfl
    · obtain ⟨j, hj, rfl⟩ := List.mem_map.1 hg
      exact (hF j (List.mem_range.1 hj)).2
theorem rspace_cells : Try.prog.cellsOf 24 = 3 := by kernel_rfl
/-- A space, by its cells. -/
theorem open_space {fuel : Nat} {cs : List Value} {x : DataW H × List MemPlace} (hf : DataW.trod enc Try.prog W base (fun _ => true) held fuel 24 cs = some x) :
    ∃ (K Y : Int) (A : Option Addr) (n c : Nat) (l : List PairZ), cs = [.int .i64 K, .int .i64 Y, .slice A n c] ∧ (-9223372036854775808 ≤ K ∧ K ≤ 9223372036854775807) ∧ (-9223372036854775808 ≤ Y ∧ Y ≤ 9223372036854775807) ∧ Prs W W.heap.size A n l ∧ n ≤ c ∧ c ≤ maxLen := by
  obtain ⟨xs, m, _, hx, hlen, hn, hel⟩ := DataW.trod_struct Try.underlying24 hf
  rw [rspace_cells] at hlen
  have ci : Try.prog.cellsOf 3 = 1 := by kernel_rfl
  have c22 : Try.prog.cellsOf 22 = 1 := by kernel_rfl
  obtain ⟨c0, c1, c2, rfl⟩ : ∃ c0 c1 c2, cs = [c0, c1, c2] := by
    match cs, hlen with
    | [c0, c1, c2], _ => exact ⟨c0, c1, c2, rfl⟩
  have hn3 : xs.length = 3 := hn
  have g0 : DataW.trod enc Try.prog W base (fun _ => true) held m 3 ((([c0, c1, c2] : List Value).drop 0).take (Try.prog.cellsOf 3)) = xs[0]? := hel 0 _ rfl
  rw [ci] at g0
  have g1 : DataW.trod enc Try.prog W base (fun _ => true) held m 3 ((([c0, c1, c2] : List Value).drop 1).take (Try.prog.cellsOf 3)) = xs[1]? := hel 1 _ rfl
  rw [ci] at g1
  have g2 : DataW.trod enc Try.prog W base (fun _ => true) held m 22 ((([c0, c1, c2] : List Value).drop 2).take (Try.prog.cellsOf 22)) = xs[2]? := hel 2 _ rfl
  rw [c22] at g2
  match xs, hn3 with
  | [y0, y1, y2], _ =>
    obtain ⟨k0, e0, _, w0⟩ := DataW.trod_int Try.underlying3 g0
    obtain rfl : c0 = .int .i64 k0 := by simpa using e0
    obtain ⟨k1, e1, _, w1⟩ := DataW.trod_int Try.underlying3 g1
    obtain rfl : c1 = .int .i64 k1 := by simpa using e1
    obtain ⟨a, len, cap, e2⟩ : ∃ a len cap, (([.int .i64 k0, .int .i64 k1, c2] : List Value).drop 2).take 1 = [.slice a len cap] := by
      rcases open_slice Try.underlying22 g2 with ⟨e, _⟩ | ⟨a, len, cap, _, _, _, _, e, _⟩
      · exact ⟨_, _, _, e⟩
      · exact ⟨_, _, _, e⟩
    obtain rfl : c2 = .slice a len cap := by simpa using e2
    obtain ⟨l, hl, hm, hc⟩ := open_pairs (by simpa using g2)
    exact ⟨k0, k1, a, len, cap, l, rfl, wf_i64s w0, wf_i64s w1, hl, hm, hc⟩
end
end Go.Proofs.Ytmlkcedhjnmfgaa
