/- Requests that came in. -/
import Derived.Test.YtcgclaailhhbpaaRqM
import Derived.Test.YtcgclaailhhbpaaRpOp
import Derived.OpenShut
import Derived.SizedLaws
import Derived.Deep.Slices
import Derived.ChangeArms
import Derived.WalkArith
namespace Go.Proofs.Ytcgclaailhhbpaa
open Go.ChangeShapes Go.WideShapes Go.ChangeAt Go.RowKit Go.Deep
set_option linter.unusedVariables false
set_option maxRecDepth 100000
open Plain Sha Au Rp Rq
section
variable {H : Type} {enc : TypeId × Value → H} {W : World} {base : Nat} {sp : Nat → Bool} {held : Bool}
theorem gr_cells : Try.prog.cellsOf 24 = 3 := by kernel_rfl
theorem open_gr {fuel : Nat} {cs : List Value} {x : DataW H × List MemPlace} (hf : DataW.trod enc Try.prog W base (fun _ => true) held fuel 24 cs = some x) :
    ∃ r e s : Int, cs = [.int .u8 r, .int .i64 e, .int .i64 s] ∧ (0 ≤ r ∧ r < 256) ∧ InA e ∧ InA s := by
  obtain ⟨xs, m, _, hx, hlen, hn, hel⟩ := DataW.trod_struct Try.underlying24 hf
  rw [gr_cells] at hlen
  have ci : Try.prog.cellsOf 3 = 1 := by kernel_rfl
  have c5 : Try.prog.cellsOf 5 = 1 := by kernel_rfl
  obtain ⟨c0, c1, c2, rfl⟩ : ∃ c0 c1 c2, cs = [c0, c1, c2] := by
    match cs, hlen with
    | [c0, c1, c2], _ => exact ⟨c0, c1, c2, rfl⟩
  have hn3 : xs.length = 3 := hn
  have g0 : DataW.trod enc Try.prog W base (fun _ => true) held m 5 ((([c0, c1, c2] : List Value).drop 0).take (Try.prog.cellsOf 5)) = xs[0]? := hel 0 _ rfl
  rw [c5] at g0
  have g1 : DataW.trod enc Try.prog W base (fun _ => true) held m 3 ((([c0, c1, c2] : List Value).drop 1).take (Try.prog.cellsOf 3)) = xs[1]? := hel 1 _ rfl
  rw [ci] at g1
  have g2 : DataW.trod enc Try.prog W base (fun _ => true) held m 3 ((([c0, c1, c2] : List Value).drop 2).take (Try.prog.cellsOf 3)) = xs[2]? := hel 2 _ rfl
  rw [ci] at g2
  match xs, hn3 with
  | [y0, y1, y2], _ =>
    obtain ⟨k0, e0, _, w0⟩ := DataW.trod_int Try.underlying5 g0
    obtain rfl : c0 = .int .u8 k0 := by simpa using e0
    obtain ⟨k1, e1, _, w1⟩ := DataW.trod_int Try.underlying3 g1
    obtain rfl : c1 = .int .i64 k1 := by simpa using e1
    obtain ⟨k2, e2, _, w2⟩ := DataW.trod_int Try.underlying3 g2
    obtain rfl : c2 = .int .i64 k2 := by simpa using e2
    exact ⟨k0, k1, k2, rfl, u8_of w0, bounds_i64 w1, bounds_i64 w2⟩
theorem req_cells : Try.prog.cellsOf 26 = 12 := by kernel_rfl
theorem u8_bytesQ : Try.prog.bytesOf 5 = 1 := by kernel_rfl
theorem ten_parts (cs : List Value) (h : cs.length = 12) : cs = (cs.drop 0).take 1 ++ ((cs.drop 1).take 1 ++ ((cs.drop 2).take 1 ++ ((cs.drop 3).take 1 ++ ((cs.drop 4).take 1 ++ ((cs.drop 5).take 1 ++ ((cs.drop 6).take 1 ++ ((cs.drop 7).take 1 ++ ((cs.drop 8).take 1 ++ (cs.drop 9).take 3)))))))) := by
  have e : (cs.drop 9).take 3 = cs.drop 9 := List.take_of_length_le (by rw [List.length_drop]; omega)
  rw [e, ← cut_off cs 8 1, ← cut_off cs 7 1, ← cut_off cs 6 1, ← cut_off cs 5 1, ← cut_off cs 4 1, ← cut_off cs 3 1, ← cut_off cs 2 1, ← cut_off cs 1 1, ← cut_off cs 0 1, List.drop_zero]
/-- One request, by its cells. -/
theorem open_req {fuel : Nat} {cs : List Value} {x : DataW H × List MemPlace} (hf : DataW.trod enc Try.prog W base (fun _ => true) held fuel 26 cs = some x) (hz : ∀ n ∈ x.1.weights Try.prog 26, n ≤ 140737488355328) :
    ∃ q : QX, cs = qc q ∧ QOk W W.heap.size q ∧ q.tl ≤ 140737488355328 := by
  obtain ⟨xs, m, _, hx, hlen, hn, hel⟩ := DataW.trod_struct Try.underlying26 hf
  rw [req_cells] at hlen
  have ci : Try.prog.cellsOf 3 = 1 := by kernel_rfl
  have cu : Try.prog.cellsOf 5 = 1 := by kernel_rfl
  have cs9 : Try.prog.cellsOf 9 = 1 := by kernel_rfl
  have cb : Try.prog.cellsOf 22 = 1 := by kernel_rfl
  have cg : Try.prog.cellsOf 24 = 3 := gr_cells
  have g0 : DataW.trod enc Try.prog W base (fun _ => true) held m 5 ((cs.drop 0).take (Try.prog.cellsOf 5)) = xs[0]? := hel 0 _ rfl
  have g1 : DataW.trod enc Try.prog W base (fun _ => true) held m 22 ((cs.drop 1).take (Try.prog.cellsOf 22)) = xs[1]? := hel 1 _ rfl
  have g2 : DataW.trod enc Try.prog W base (fun _ => true) held m 9 ((cs.drop 2).take (Try.prog.cellsOf 9)) = xs[2]? := hel 2 _ rfl
  have g3 : DataW.trod enc Try.prog W base (fun _ => true) held m 9 ((cs.drop 3).take (Try.prog.cellsOf 9)) = xs[3]? := hel 3 _ rfl
  have g4 : DataW.trod enc Try.prog W base (fun _ => true) held m 9 ((cs.drop 4).take (Try.prog.cellsOf 9)) = xs[4]? := hel 4 _ rfl
  have g5 : DataW.trod enc Try.prog W base (fun _ => true) held m 3 ((cs.drop 5).take (Try.prog.cellsOf 3)) = xs[5]? := hel 5 _ rfl
  have g6 : DataW.trod enc Try.prog W base (fun _ => true) held m 3 ((cs.drop 6).take (Try.prog.cellsOf 3)) = xs[6]? := hel 6 _ rfl
  have g7 : DataW.trod enc Try.prog W base (fun _ => true) held m 3 ((cs.drop 7).take (Try.prog.cellsOf 3)) = xs[7]? := hel 7 _ rfl
  have g8 : DataW.trod enc Try.prog W base (fun _ => true) held m 3 ((cs.drop 8).take (Try.prog.cellsOf 3)) = xs[8]? := hel 8 _ rfl
  have g9 : DataW.trod enc Try.prog W base (fun _ => true) held m 24 ((cs.drop 9).take (Try.prog.cellsOf 24)) = xs[9]? := hel 9 _ rfl
  have hn10 : xs.length = 10 := hn
  rw [cu] at g0
  rw [cb] at g1
  rw [cs9] at g2 g3 g4
  rw [ci] at g5 g6 g7 g8
  rw [cg] at g9
  match xs, hn10 with
  | [y0, y1, y2, y3, y4, y5, y6, y7, y8, y9], _ =>
    obtain ⟨k0, e0, _, w0⟩ := DataW.trod_int Try.underlying5 g0
    obtain ⟨k2, e2, _, _⟩ := DataW.trod_string Try.underlying9 g2
    obtain ⟨k3, e3, _, _⟩ := DataW.trod_string Try.underlying9 g3
    obtain ⟨k4, e4, _, _⟩ := DataW.trod_string Try.underlying9 g4
    obtain ⟨k5, e5, _, w5⟩ := DataW.trod_int Try.underlying3 g5
    obtain ⟨k6, e6, _, w6⟩ := DataW.trod_int Try.underlying3 g6
    obtain ⟨k7, e7, _, w7⟩ := DataW.trod_int Try.underlying3 g7
    obtain ⟨k8, e8, _, w8⟩ := DataW.trod_int Try.underlying3 g8
    obtain ⟨r, ex, sr, e9, wr, wex, wsr⟩ := open_gr g9
    have hcs := ten_parts cs hlen
    rw [e0, e2, e3, e4, e5, e6, e7, e8, e9] at hcs
    rcases open_ints Try.underlying22 Try.underlying5 cu g1 with ⟨e1, _⟩ | ⟨a, len, cap, zs, e1, _, hl, hm, hzl, hy, hcell, hwz⟩
    · rw [e1] at hcs
      exact ⟨⟨k0, none, 0, 0, [], k2, k3, k4, k5, k6, k7, k8, r, ex, sr⟩, hcs, ⟨u8_of w0, bounds_i64 w5, bounds_i64 w6, bounds_i64 w7, bounds_i64 w8, wr, wex, wsr, Nat.le_refl _, by simp [maxLen], Bs.nil⟩, by show (0 : Nat) ≤ _; omega⟩
    · rw [e1] at hcs
      have hzl' : zs.length = cap := by simpa using hzl
      have hr : IsRow .u8 W (some a) len cap zs := .inr ⟨a, rfl, hl, hm, hzl', hcell, hwz⟩
      have hcap : cap ≤ 140737488355328 := by
        have m1 : cap ∈ y1.1.weights Try.prog 22 := by
          rw [hy]
          simp only [DataW.weights, Try.underlying22, u8_bytesQ]
          refine List.mem_cons.2 (.inl ?_)
          simp [lits]
          omega
        refine hz cap ?_
        rw [hx]
        simp only [DataW.weights, Try.underlying26]
        exact DataW.weights_mem_each (j := 1) (t := 22) (d := y1.1) rfl rfl _ m1
      exact ⟨⟨k0, some a, len, cap, zs.take len, k2, k3, k4, k5, k6, k7, k8, r, ex, sr⟩, hcs, ⟨u8_of w0, bounds_i64 w5, bounds_i64 w6, bounds_i64 w7, bounds_i64 w8, wr, wex, wsr, hl, hm, hr.bs.1⟩, by show len ≤ _; omega⟩
end
end Go.Proofs.Ytcgclaailhhbpaa
