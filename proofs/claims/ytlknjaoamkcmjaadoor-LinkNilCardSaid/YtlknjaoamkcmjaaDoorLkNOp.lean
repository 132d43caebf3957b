/- An act that came in. -/
import Derived.Test.YtlknjaoamkcmjaaDoorLkOp
import Derived.Test.YtlknjaoamkcmjaaDoorB1
import Derived.OpenShut
import Derived.SizedLaws
import Derived.Deep.Slices
import Derived.ChangeArms
namespace Go.Proofs.YtlknjaoamkcmjaaDoor
open Go.ChangeShapes Go.WideShapes Go.ChangeAt Go.RowKit Go.Deep
set_option linter.unusedVariables false
set_option maxRecDepth 100000
set_option linter.unusedSimpArgs false
open Plain Sha Wn Lk
structure ActZ where
  send : Bool
  tw : Int
  ep : Int
  A : Option Addr
  n : Nat
  c : Nat
  zs : List Int
  A2 : Option Addr
  n2 : Nat
  c2 : Nat
  zs2 : List Int
def aCells (a : ActZ) : List Value := [.bool a.send, .int .i64 a.tw, .int .i64 a.ep, .slice a.A a.n a.c, .slice a.A2 a.n2 a.c2]
structure ActOk (w : World) (B : Nat) (a : ActZ) : Prop where
  tw : -9223372036854775808 ≤ a.tw ∧ a.tw ≤ 9223372036854775807
  ep : -9223372036854775808 ≤ a.ep ∧ a.ep ≤ 9223372036854775807
  bs : Bs w B a.A a.n a.zs
  nc : a.n ≤ a.c
  cm : a.c ≤ maxLen
  small : a.n ≤ 140737488355328
  bs2 : Bs w B a.A2 a.n2 a.zs2
  nc2 : a.n2 ≤ a.c2
  cm2 : a.c2 ≤ maxLen
  small2 : a.n2 ≤ 140737488355328
section
variable {H : Type} {enc : TypeId × Value → H} {W : World} {base : Nat} {sp : Nat → Bool} {held : Bool}
theorem act_cells : Tryd.prog.cellsOf 39 = 5 := by kernel_rfl
theorem act_u8_bytes : Tryd.prog.bytesOf 5 = 1 := by kernel_rfl
theorem open_list8L {m : Nat} {c : Value} {y : DataW H × List MemPlace} (g : DataW.trod enc Tryd.prog W base (fun _ => true) held m 22 [c] = some y) (hz : ∀ n ∈ y.1.weights Tryd.prog 22, n ≤ 140737488355328) :
    ∃ A n k zs, c = .slice A n k ∧ Bs W W.heap.size A n zs ∧ n ≤ k ∧ k ≤ maxLen ∧ n ≤ 140737488355328 := by
  have c5 : Tryd.prog.cellsOf 5 = 1 := by kernel_rfl
  rcases open_ints Tryd.underlying22 Tryd.underlying5 c5 g with ⟨eb, _⟩ | ⟨a, len, cap, zs, eb, _, hl, hm, hzl, hy, hcell, hwz⟩
  · obtain rfl : c = .slice none 0 0 := by simpa using eb
    exact ⟨none, 0, 0, [], rfl, Bs.nil, Nat.le_refl _, by simp [maxLen], by omega⟩
  · obtain rfl : c = .slice (some a) len cap := by simpa using eb
    have hzl' : zs.length = cap := by simpa using hzl
    have hr : IsRow .u8 W (some a) len cap zs := .inr ⟨a, rfl, hl, hm, hzl', hcell, hwz⟩
    have hcap : cap ≤ 140737488355328 := by
      refine hz cap ?_
      rw [hy]
      simp only [DataW.weights, Tryd.underlying22, act_u8_bytes]
      refine List.mem_cons.2 (.inl ?_)
      simp [lits]
      omega
    exact ⟨some a, len, cap, zs.take len, rfl, hr.bs.1, hl, hm, by omega⟩
/-- One act, by its cells. -/
theorem open_act {fuel : Nat} {cs : List Value} {x : DataW H × List MemPlace} (hf : DataW.trod enc Tryd.prog W base (fun _ => true) held fuel 39 cs = some x) (hz : ∀ n ∈ x.1.weights Tryd.prog 39, n ≤ 140737488355328) :
    ∃ a : ActZ, cs = aCells a ∧ ActOk W W.heap.size a := by
  obtain ⟨xs, m, _, hx, hlen, hn, hel⟩ := DataW.trod_struct Tryd.underlying39 hf
  rw [act_cells] at hlen
  have ci : Tryd.prog.cellsOf 3 = 1 := by kernel_rfl
  have cb : Tryd.prog.cellsOf 22 = 1 := by kernel_rfl
  have co : Tryd.prog.cellsOf 4 = 1 := by kernel_rfl
  obtain ⟨c0, c1, c2, c3, c4, rfl⟩ : ∃ c0 c1 c2 c3 c4, cs = [c0, c1, c2, c3, c4] := by
    match cs, hlen with
    | [c0, c1, c2, c3, c4], _ => exact ⟨c0, c1, c2, c3, c4, rfl⟩
  have hn4 : xs.length = 5 := hn
  have g0 : DataW.trod enc Tryd.prog W base (fun _ => true) held m 4 ((([c0, c1, c2, c3, c4] : List Value).drop 0).take (Tryd.prog.cellsOf 4)) = xs[0]? := hel 0 _ rfl
  rw [co] at g0
  have g1 : DataW.trod enc Tryd.prog W base (fun _ => true) held m 3 ((([c0, c1, c2, c3, c4] : List Value).drop 1).take (Tryd.prog.cellsOf 3)) = xs[1]? := hel 1 _ rfl
  rw [ci] at g1
  have g2 : DataW.trod enc Tryd.prog W base (fun _ => true) held m 3 ((([c0, c1, c2, c3, c4] : List Value).drop 2).take (Tryd.prog.cellsOf 3)) = xs[2]? := hel 2 _ rfl
  rw [ci] at g2
  have g3 : DataW.trod enc Tryd.prog W base (fun _ => true) held m 22 ((([c0, c1, c2, c3, c4] : List Value).drop 3).take (Tryd.prog.cellsOf 22)) = xs[3]? := hel 3 _ rfl
  rw [cb] at g3
  have g4 : DataW.trod enc Tryd.prog W base (fun _ => true) held m 22 ((([c0, c1, c2, c3, c4] : List Value).drop 4).take (Tryd.prog.cellsOf 22)) = xs[4]? := hel 4 _ rfl
  rw [cb] at g4
  match xs, hn4 with
  | [y0, y1, y2, y3, y4], _ =>
    obtain ⟨k0, e0, _⟩ := DataW.trod_bool Tryd.underlying4 g0
    obtain rfl : c0 = .bool k0 := by simpa using e0
    obtain ⟨k1, e1, _, w1⟩ := DataW.trod_int Tryd.underlying3 g1
    obtain rfl : c1 = .int .i64 k1 := by simpa using e1
    obtain ⟨k2, e2, _, w2⟩ := DataW.trod_int Tryd.underlying3 g2
    obtain rfl : c2 = .int .i64 k2 := by simpa using e2
    obtain ⟨A, n, c, zs, rfl, h3, h4, h5, h6⟩ := open_list8L g3 (fun k hk => hz k (by
      rw [hx]
      simp only [DataW.weights, Tryd.underlying39]
      exact DataW.weights_mem_each (j := 3) (t := 22) (d := y3.1) rfl rfl _ hk))
    obtain ⟨A2, n2, cc2, zs2, rfl, j3, j4, j5, j6⟩ := open_list8L g4 (fun k hk => hz k (by
      rw [hx]
      simp only [DataW.weights, Tryd.underlying39]
      exact DataW.weights_mem_each (j := 4) (t := 22) (d := y4.1) rfl rfl _ hk))
    exact ⟨⟨k0, k1, k2, A, n, c, zs, A2, n2, cc2, zs2⟩, rfl, ⟨wf_i64 w1, wf_i64 w2, h3, h4, h5, h6, j3, j4, j5, j6⟩⟩
end
end Go.Proofs.YtlknjaoamkcmjaaDoor
