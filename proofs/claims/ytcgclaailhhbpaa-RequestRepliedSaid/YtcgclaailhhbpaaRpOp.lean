/- Replies, tables, notes that came in. -/
import Derived.Test.YtcgclaailhhbpaaB5
import Derived.OpenShut
import Derived.SizedLaws
import Derived.Deep.Slices
import Derived.ChangeArms
import Derived.WalkArith
namespace Go.Proofs.Ytcgclaailhhbpaa
open Go.ChangeShapes Go.WideShapes Go.ChangeAt Go.RowKit Go.Deep
set_option linter.unusedVariables false
set_option maxRecDepth 100000
open Plain Sha Au Rp
section
variable {H : Type} {enc : TypeId × Value → H} {W : World} {base : Nat} {sp : Nat → Bool} {held : Bool}
theorem weightsAll_memR {H : Type} {P : Program} {e : TypeId} : ∀ (ds : List (DataW H)) (j : Nat) (d : DataW H), ds[j]? = some d → ∀ n ∈ d.weights P e, n ∈ DataW.weightsAll P e ds
  | [], j, d, hd, n, hn => by simp at hd
  | x :: r, 0, d, hd, n, hn => by
    have e : x = d := by simpa using hd
    subst e
    rw [DataW.weightsAll]
    exact List.mem_append.2 (.inl hn)
  | x :: r, j + 1, d, hd, n, hn => by
    rw [DataW.weightsAll]
    exact List.mem_append.2 (.inr (weightsAll_memR r j d (by simpa using hd) n hn))
def numAt : Value → Int
  | .int _ n => n
  | _ => 0
theorem u8_of {n : Int} (h : (Lit.int .u8 n).wf = true) : 0 ≤ n ∧ n < 256 := by
  have := bounds_u8 h
  omega
theorem open_tag {fuel : Nat} {cs : List Value} {x : DataW H × List MemPlace} (hf : DataW.trod enc Try.prog W base sp held fuel 42 cs = some x) : ∃ a : List Int, cs = vals a ∧ a.length = 32 ∧ IsBytes a := by
  obtain ⟨xs, m, _, _, hlen, hn, hel⟩ := DataW.trod_array Try.underlying42 hf
  have c1 : Try.prog.cellsOf 5 = 1 := by kernel_rfl
  have cT : Try.prog.cellsOf 42 = 32 := by kernel_rfl
  rw [cT] at hlen
  have key : ∀ j, j < 32 → ∃ k, cs[j]? = some (.int .u8 k) ∧ 0 ≤ k ∧ k < 256 := fun j hj => by
    have h0 := hel j hj
    rw [c1, List.getElem?_eq_getElem (show j < xs.length by omega)] at h0
    obtain ⟨k, e1, _, e3⟩ := DataW.trod_int Try.underlying5 h0
    have h4 : (cs.drop (j * 1)).take 1 = [.int .u8 k] := e1
    refine ⟨k, ?_, u8_of e3⟩
    have := congrArg (·[0]?) h4
    simpa [List.getElem?_take, List.getElem?_drop] using this
  have e : cs = vals (cs.map numAt) := by
    apply List.ext_getElem?
    intro j
    by_cases hj : j < 32
    · obtain ⟨k, hk, _⟩ := key j hj
      simp only [vals, List.map_map, List.getElem?_map, hk, Option.map_some]
      rfl
    · rw [List.getElem?_eq_none (by omega), List.getElem?_eq_none (by rw [vals_len, List.length_map]; omega)]
  refine ⟨cs.map numAt, e, by rw [List.length_map, hlen], ?_⟩
  intro j hj
  rw [List.length_map, hlen] at hj
  obtain ⟨k, hk, h1⟩ := key j hj
  simpa [List.getD_eq_getElem?_getD, List.getElem?_map, hk, numAt] using h1
theorem link_cells : Try.prog.cellsOf 44 = 71 := by kernel_rfl
theorem cut_off (cs : List Value) (o n : Nat) : cs.drop o = (cs.drop o).take n ++ cs.drop (o + n) := by
  rw [← List.drop_drop, List.take_append_drop]
theorem nine_parts (cs : List Value) (h : cs.length = 71) : cs = (cs.drop 0).take 1 ++ ((cs.drop 1).take 1 ++ ((cs.drop 2).take 1 ++ ((cs.drop 3).take 1 ++ ((cs.drop 4).take 1 ++ ((cs.drop 5).take 1 ++ ((cs.drop 6).take 1 ++ ((cs.drop 7).take 32 ++ (cs.drop 39).take 32))))))) := by
  have e : (cs.drop 39).take 32 = cs.drop 39 := List.take_of_length_le (by rw [List.length_drop]; omega)
  rw [e, ← cut_off cs 7 32, ← cut_off cs 6 1, ← cut_off cs 5 1, ← cut_off cs 4 1, ← cut_off cs 3 1, ← cut_off cs 2 1, ← cut_off cs 1 1, ← cut_off cs 0 1, List.drop_zero]
/-- One link, by its cells. -/
theorem open_link {fuel : Nat} {cs : List Value} {x : DataW H × List MemPlace} (hf : DataW.trod enc Try.prog W base (fun _ => true) held fuel 44 cs = some x) :
    ∃ g : LinkZ, cs = lc g ∧ LOk g := by
  obtain ⟨xs, m, _, hx, hlen, hn, hel⟩ := DataW.trod_struct Try.underlying44 hf
  rw [link_cells] at hlen
  have ci : Try.prog.cellsOf 3 = 1 := by kernel_rfl
  have cu : Try.prog.cellsOf 5 = 1 := by kernel_rfl
  have cT : Try.prog.cellsOf 42 = 32 := by kernel_rfl
  have g0 : DataW.trod enc Try.prog W base (fun _ => true) held m 3 ((cs.drop 0).take (Try.prog.cellsOf 3)) = xs[0]? := hel 0 _ rfl
  have g1 : DataW.trod enc Try.prog W base (fun _ => true) held m 3 ((cs.drop 1).take (Try.prog.cellsOf 3)) = xs[1]? := hel 1 _ rfl
  have g2 : DataW.trod enc Try.prog W base (fun _ => true) held m 5 ((cs.drop 2).take (Try.prog.cellsOf 5)) = xs[2]? := hel 2 _ rfl
  have g3 : DataW.trod enc Try.prog W base (fun _ => true) held m 3 ((cs.drop 3).take (Try.prog.cellsOf 3)) = xs[3]? := hel 3 _ rfl
  have g4 : DataW.trod enc Try.prog W base (fun _ => true) held m 3 ((cs.drop 4).take (Try.prog.cellsOf 3)) = xs[4]? := hel 4 _ rfl
  have g5 : DataW.trod enc Try.prog W base (fun _ => true) held m 3 ((cs.drop 5).take (Try.prog.cellsOf 3)) = xs[5]? := hel 5 _ rfl
  have g6 : DataW.trod enc Try.prog W base (fun _ => true) held m 3 ((cs.drop 6).take (Try.prog.cellsOf 3)) = xs[6]? := hel 6 _ rfl
  have g7 : DataW.trod enc Try.prog W base (fun _ => true) held m 42 ((cs.drop 7).take (Try.prog.cellsOf 42)) = xs[7]? := hel 7 _ rfl
  have g8 : DataW.trod enc Try.prog W base (fun _ => true) held m 42 ((cs.drop 39).take (Try.prog.cellsOf 42)) = xs[8]? := hel 8 _ rfl
  have hn9 : xs.length = 9 := hn
  rw [ci] at g0 g1 g3 g4 g5 g6
  rw [cu] at g2
  rw [cT] at g7 g8
  match xs, hn9 with
  | [y0, y1, y2, y3, y4, y5, y6, y7, y8], _ =>
    obtain ⟨k0, e0, _, w0⟩ := DataW.trod_int Try.underlying3 g0
    obtain ⟨k1, e1, _, w1⟩ := DataW.trod_int Try.underlying3 g1
    obtain ⟨k2, e2, _, w2⟩ := DataW.trod_int Try.underlying5 g2
    obtain ⟨k3, e3, _, w3⟩ := DataW.trod_int Try.underlying3 g3
    obtain ⟨k4, e4, _, w4⟩ := DataW.trod_int Try.underlying3 g4
    obtain ⟨k5, e5, _, w5⟩ := DataW.trod_int Try.underlying3 g5
    obtain ⟨k6, e6, _, w6⟩ := DataW.trod_int Try.underlying3 g6
    obtain ⟨T7, e7, hT7, hB7⟩ := open_tag g7
    obtain ⟨T8, e8, hT8, hB8⟩ := open_tag g8
    have hcs := nine_parts cs hlen
    rw [e0, e1, e2, e3, e4, e5, e6, e7, e8] at hcs
    exact ⟨⟨k0, k1, k2, k3, k4, k5, k6, T7, T8, hT7, hT8⟩, hcs, ⟨bounds_i64 w0, bounds_i64 w1, u8_of w2, bounds_i64 w3, bounds_i64 w4, bounds_i64 w5, bounds_i64 w6, hB7, hB8⟩⟩
theorem str_bytes : Try.prog.bytesOf 9 = 16 := by kernel_rfl
theorem str_cells : Try.prog.cellsOf 9 = 1 := by kernel_rfl
/-- Texts that came in. -/
theorem open_strs {fuel : Nat} {x : DataW H × List MemPlace} {a0 : Option Addr} {len0 cap0 : Nat} (hf : DataW.trod enc Try.prog W base (fun _ => true) held fuel 40 [.slice a0 len0 cap0] = some x) (hz : ∀ n ∈ x.1.weights Try.prog 40, n ≤ 140737488355328) :
    ∃ l, Sr W W.heap.size a0 len0 l ∧ len0 ≤ cap0 ∧ cap0 ≤ maxLen ∧ len0 ≤ 140737488355328 := by
  have inh : Inhabited ByteArray := ⟨ByteArray.empty⟩
  rcases open_slice Try.underlying40 hf with ⟨hcs, _⟩ | ⟨a, len, cap, m, n, D, Pl, hcs, hb, hl, hm, hmm, hx, hall⟩
  · simp only [List.cons.injEq, and_true] at hcs
    injection hcs with e1 e2 e3
    subst e1 e2 e3
    exact ⟨[], Sr.nil, Nat.le_refl _, by simp [maxLen], by omega⟩
  · simp only [List.cons.injEq, and_true] at hcs
    injection hcs with e1 e2 e3
    subst e1 e2 e3
    simp only [if_true] at hmm
    subst hmm
    have hcap : m * 16 ≤ 140737488355328 := by
      refine hz _ ?_
      rw [hx]
      simp only [DataW.weights, Try.underlying40, str_bytes]
      refine List.mem_cons.2 (.inl ?_)
      simp
      omega
    have each : ∀ i, i < len0 → ∃ f : ByteArray, W.cells? base (a.add (i * 1)) 1 = some [.string f] := by
      intro i hi
      obtain ⟨cs', h1, h2⟩ := hall i (by omega)
      rw [str_cells] at h1
      obtain ⟨k, e, _, _⟩ := DataW.trod_string Try.underlying9 h2
      exact ⟨k, by rw [← e]; exact h1⟩
    obtain ⟨F, hF⟩ := choose_lt each
    have hgl : ∀ j, j < len0 → ((List.range len0).map F)[j]? = some (F j) := fun j hj => by simp [List.getElem?_map, List.getElem?_range hj]
    refine ⟨(List.range len0).map F, ⟨by simp, fun h0 => ?_⟩, hl, hm, by omega⟩
    have hcell : ∀ j, j < len0 → W.cell? (a.add j) = some (.string (F j)) := by
      intro j hj
      have := (World.cells?_some (hF j hj)).2.2 0 (by omega)
      rw [add_add] at this
      simpa using this
    obtain ⟨b, off, spot⟩ := a
    have h00 : W.cell? ((⟨b, off, spot⟩ : Addr).add 0) = some (.string (F 0)) := hcell 0 h0
    have hs : spot = none := by
      simpa [Addr.add] using World.cell?_spot h00
    subst hs
    refine ⟨b, off, rfl, ?_, fun i z hz => ?_⟩
    · rw [Go.WideShapes.add_plain] at h00
      exact World.block_lt_of_cell? _ _ h00
    · have hi := (List.getElem?_eq_some_iff.1 hz).1
      simp only [List.length_map, List.length_range] at hi
      rw [hgl i hi] at hz
      injection hz with hz
      subst hz
      have := hcell i hi
      rwa [Go.WideShapes.add_plain] at this
theorem rep_cells : Try.prog.cellsOf 46 = 75 := by kernel_rfl
theorem five_parts (cs : List Value) (h : cs.length = 75) : cs = (cs.drop 0).take 1 ++ ((cs.drop 1).take 1 ++ ((cs.drop 2).take 1 ++ ((cs.drop 3).take 1 ++ (cs.drop 4).take 71))) := by
  have e : (cs.drop 4).take 71 = cs.drop 4 := List.take_of_length_le (by rw [List.length_drop]; omega)
  rw [e, ← cut_off cs 3 1, ← cut_off cs 2 1, ← cut_off cs 1 1, ← cut_off cs 0 1, List.drop_zero]
/-- One reply, by its cells. -/
theorem open_rep {fuel : Nat} {cs : List Value} {x : DataW H × List MemPlace} (hf : DataW.trod enc Try.prog W base (fun _ => true) held fuel 46 cs = some x) (hz : ∀ n ∈ x.1.weights Try.prog 46, n ≤ 140737488355328) :
    ∃ r : RX, cs = rc r ∧ ROk W W.heap.size r ∧ r.kn ≤ 140737488355328 := by
  obtain ⟨xs, m, _, hx, hlen, hn, hel⟩ := DataW.trod_struct Try.underlying46 hf
  rw [rep_cells] at hlen
  have ce : Try.prog.cellsOf 29 = 1 := by kernel_rfl
  have ci : Try.prog.cellsOf 3 = 1 := by kernel_rfl
  have cs9 : Try.prog.cellsOf 9 = 1 := by kernel_rfl
  have ck : Try.prog.cellsOf 40 = 1 := by kernel_rfl
  have cl : Try.prog.cellsOf 44 = 71 := by kernel_rfl
  have g0 : DataW.trod enc Try.prog W base (fun _ => true) held m 29 ((cs.drop 0).take (Try.prog.cellsOf 29)) = xs[0]? := hel 0 _ rfl
  have g1 : DataW.trod enc Try.prog W base (fun _ => true) held m 9 ((cs.drop 1).take (Try.prog.cellsOf 9)) = xs[1]? := hel 1 _ rfl
  have g2 : DataW.trod enc Try.prog W base (fun _ => true) held m 40 ((cs.drop 2).take (Try.prog.cellsOf 40)) = xs[2]? := hel 2 _ rfl
  have g3 : DataW.trod enc Try.prog W base (fun _ => true) held m 3 ((cs.drop 3).take (Try.prog.cellsOf 3)) = xs[3]? := hel 3 _ rfl
  have g4 : DataW.trod enc Try.prog W base (fun _ => true) held m 44 ((cs.drop 4).take (Try.prog.cellsOf 44)) = xs[4]? := hel 4 _ rfl
  have hn5 : xs.length = 5 := hn
  rw [ce] at g0
  rw [cs9] at g1
  rw [ck] at g2
  rw [ci] at g3
  rw [cl] at g4
  match xs, hn5 with
  | [y0, y1, y2, y3, y4], _ =>
    obtain ⟨k0, e0, _, w0⟩ := DataW.trod_int Try.underlying29 g0
    obtain ⟨k1, e1, _, w1⟩ := DataW.trod_string Try.underlying9 g1
    obtain ⟨k3, e3, _, w3⟩ := DataW.trod_int Try.underlying3 g3
    obtain ⟨g, e4, hg⟩ := open_link g4
    obtain ⟨a, len, cap, e2⟩ : ∃ a len cap, (cs.drop 2).take 1 = [.slice a len cap] := by
      rcases open_slice Try.underlying40 g2 with ⟨e, _⟩ | ⟨a, len, cap, _, _, _, _, e, _⟩
      · exact ⟨_, _, _, e⟩
      · exact ⟨_, _, _, e⟩
    rw [e2] at g2
    obtain ⟨l, hl, hm, hc, hlk⟩ := open_strs g2 (fun k hk => by
      refine hz k ?_
      rw [hx]
      simp only [DataW.weights, Try.underlying46]
      exact DataW.weights_mem_each (j := 2) (t := 40) (d := y2.1) rfl rfl _ hk)
    have hcs := five_parts cs hlen
    rw [e0, e1, e2, e3, e4] at hcs
    exact ⟨⟨k0, k1, a, len, cap, l, k3, g⟩, hcs, ⟨bounds_i64 w0, bounds_i64 w3, hg, hm, hc, hl⟩, hlk⟩
theorem three_parts (cs : List Value) (h : cs.length = 77) : cs = (cs.drop 0).take 1 ++ ((cs.drop 1).take 1 ++ (cs.drop 2).take 75) := by
  have e : (cs.drop 2).take 75 = cs.drop 2 := List.take_of_length_le (by rw [List.length_drop]; omega)
  rw [e, ← cut_off cs 1 1, ← cut_off cs 0 1, List.drop_zero]
end
end Go.Proofs.Ytcgclaailhhbpaa
