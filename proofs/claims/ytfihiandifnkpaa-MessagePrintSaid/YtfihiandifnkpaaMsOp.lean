/- Messages, entries, configurations that came in. Printed by gen_msop.py. -/
import Derived.Test.YtfihiandifnkpaaMsM
import Derived.OpenShut
import Derived.SizedLaws
import Derived.Deep.Slices
import Derived.ChangeArms
import Derived.WalkArith
namespace Go.Proofs.Ytfihiandifnkpaa
open Go.ChangeShapes Go.WideShapes Go.ChangeAt Go.RowKit Go.Deep
set_option linter.unusedVariables false
set_option maxRecDepth 100000
open Plain Ms
section
variable {H : Type} {enc : TypeId × Value → H} {W : World} {base : Nat} {sp : Nat → Bool} {held : Bool}
theorem weightsAll_memM {H : Type} {P : Program} {e : TypeId} : ∀ (ds : List (DataW H)) (j : Nat) (d : DataW H), ds[j]? = some d → ∀ n ∈ d.weights P e, n ∈ DataW.weightsAll P e ds
  | [], j, d, hd, n, hn => by simp at hd
  | x :: r, 0, d, hd, n, hn => by
    have e : x = d := by simpa using hd
    subst e
    rw [DataW.weightsAll]
    exact List.mem_append.2 (.inl hn)
  | x :: r, j + 1, d, hd, n, hn => by
    rw [DataW.weightsAll]
    exact List.mem_append.2 (.inr (weightsAll_memM r j d (by simpa using hd) n hn))
theorem cut_offM (cs : List Value) (o n : Nat) : cs.drop o = (cs.drop o).take n ++ cs.drop (o + n) := by
  rw [← List.drop_drop, List.take_append_drop]
theorem u8_ofM {n : Int} (h : (Lit.int .u8 n).wf = true) : 0 ≤ n ∧ n < 256 := by
  have := bounds_u8 h
  omega
theorem u8_bytesM : Try.prog.bytesOf 5 = 1 := by kernel_rfl
theorem u8_cellsM : Try.prog.cellsOf 5 = 1 := by kernel_rfl
/-- Bytes that came in, by their one cell. -/
theorem open_bytesM {fuel : Nat} {cs : List Value} {x : DataW H × List MemPlace} (hf : DataW.trod enc Try.prog W base (fun _ => true) held fuel 22 cs = some x) (hz : ∀ n ∈ x.1.weights Try.prog 22, n ≤ 140737488355328) :
    ∃ (A : Option Addr) (n c : Nat) (zs : List Int), cs = [.slice A n c] ∧ Bs W W.heap.size A n zs ∧ n ≤ c ∧ c ≤ maxLen ∧ n ≤ 140737488355328 := by
  rcases open_ints Try.underlying22 Try.underlying5 u8_cellsM hf with ⟨e1, _⟩ | ⟨a, len, cap, zs, e1, _, hl, hm, hzl, hy, hcell, hwz⟩
  · exact ⟨none, 0, 0, [], e1, Bs.nil, Nat.le_refl _, by simp [maxLen], by omega⟩
  · have hzl' : zs.length = cap := by simpa using hzl
    have hr : IsRow .u8 W (some a) len cap zs := .inr ⟨a, rfl, hl, hm, hzl', hcell, hwz⟩
    have hcap : cap ≤ 140737488355328 := by
      refine hz cap ?_
      rw [hy]
      simp only [DataW.weights, Try.underlying22, u8_bytesM]
      refine List.mem_cons.2 (.inl ?_)
      simp [lits]
      omega
    exact ⟨some a, len, cap, zs.take len, e1, hr.bs.1, hl, hm, by omega⟩
theorem ent_parts (cs : List Value) (h : cs.length = 5) : cs = (cs.drop 0).take 1 ++ ((cs.drop 1).take 1 ++ ((cs.drop 2).take 1 ++ ((cs.drop 3).take 1 ++ ((cs.drop 4).take 1)))) := by
  have e : (cs.drop 4).take 1 = cs.drop 4 := List.take_of_length_le (by rw [List.length_drop]; omega)
  rw [e, ← cut_offM cs 3 1, ← cut_offM cs 2 1, ← cut_offM cs 1 1, ← cut_offM cs 0 1, List.drop_zero]
theorem mem_parts (cs : List Value) (h : cs.length = 3) : cs = (cs.drop 0).take 1 ++ ((cs.drop 1).take 1 ++ ((cs.drop 2).take 1)) := by
  have e : (cs.drop 2).take 1 = cs.drop 2 := List.take_of_length_le (by rw [List.length_drop]; omega)
  rw [e, ← cut_offM cs 1 1, ← cut_offM cs 0 1, List.drop_zero]
theorem conf_parts (cs : List Value) (h : cs.length = 2) : cs = (cs.drop 0).take 1 ++ ((cs.drop 1).take 1) := by
  have e : (cs.drop 1).take 1 = cs.drop 1 := List.take_of_length_le (by rw [List.length_drop]; omega)
  rw [e, ← cut_offM cs 0 1, List.drop_zero]
theorem msg_parts (cs : List Value) (h : cs.length = 12) : cs = (cs.drop 0).take 1 ++ ((cs.drop 1).take 1 ++ ((cs.drop 2).take 1 ++ ((cs.drop 3).take 1 ++ ((cs.drop 4).take 1 ++ ((cs.drop 5).take 1 ++ ((cs.drop 6).take 1 ++ ((cs.drop 7).take 1 ++ ((cs.drop 8).take 1 ++ ((cs.drop 9).take 2 ++ ((cs.drop 11).take 1)))))))))) := by
  have e : (cs.drop 11).take 1 = cs.drop 11 := List.take_of_length_le (by rw [List.length_drop]; omega)
  rw [e, ← cut_offM cs 9 2, ← cut_offM cs 8 1, ← cut_offM cs 7 1, ← cut_offM cs 6 1, ← cut_offM cs 5 1, ← cut_offM cs 4 1, ← cut_offM cs 3 1, ← cut_offM cs 2 1, ← cut_offM cs 1 1, ← cut_offM cs 0 1, List.drop_zero]
/-- One entry, by its cells. -/
theorem open_ent {fuel : Nat} {cs : List Value} {x : DataW H × List MemPlace} (hf : DataW.trod enc Try.prog W base (fun _ => true) held fuel 42 cs = some x) (hz : ∀ n ∈ x.1.weights Try.prog 42, n ≤ 140737488355328) :
    ∃ y : EX, cs = ec y ∧ EOk W W.heap.size y ∧ y.n ≤ 140737488355328 := by
  obtain ⟨xs, m, _, hx, hlen, hn, hel⟩ := DataW.trod_struct Try.underlying42 hf
  rw [show Try.prog.cellsOf 42 = 5 by kernel_rfl] at hlen
  have g0 : DataW.trod enc Try.prog W base (fun _ => true) held m 3 ((cs.drop 0).take (Try.prog.cellsOf 3)) = xs[0]? := hel 0 _ rfl
  rw [show Try.prog.cellsOf 3 = 1 by kernel_rfl] at g0
  have g1 : DataW.trod enc Try.prog W base (fun _ => true) held m 3 ((cs.drop 1).take (Try.prog.cellsOf 3)) = xs[1]? := hel 1 _ rfl
  rw [show Try.prog.cellsOf 3 = 1 by kernel_rfl] at g1
  have g2 : DataW.trod enc Try.prog W base (fun _ => true) held m 3 ((cs.drop 2).take (Try.prog.cellsOf 3)) = xs[2]? := hel 2 _ rfl
  rw [show Try.prog.cellsOf 3 = 1 by kernel_rfl] at g2
  have g3 : DataW.trod enc Try.prog W base (fun _ => true) held m 3 ((cs.drop 3).take (Try.prog.cellsOf 3)) = xs[3]? := hel 3 _ rfl
  rw [show Try.prog.cellsOf 3 = 1 by kernel_rfl] at g3
  have g4 : DataW.trod enc Try.prog W base (fun _ => true) held m 22 ((cs.drop 4).take (Try.prog.cellsOf 22)) = xs[4]? := hel 4 _ rfl
  rw [show Try.prog.cellsOf 22 = 1 by kernel_rfl] at g4
  have hn5 : xs.length = 5 := hn
  match xs, hn5 with
  | [y0, y1, y2, y3, y4], _ =>
    obtain ⟨k0, e0, _, w0⟩ := DataW.trod_int Try.underlying3 g0
    obtain ⟨k1, e1, _, w1⟩ := DataW.trod_int Try.underlying3 g1
    obtain ⟨k2, e2, _, w2⟩ := DataW.trod_int Try.underlying3 g2
    obtain ⟨k3, e3, _, w3⟩ := DataW.trod_int Try.underlying3 g3
    obtain ⟨A, n, c, zs, e4, hb, h1, h2, h3⟩ := open_bytesM g4 (fun k hk => by
      refine hz k ?_
      rw [hx]
      simp only [DataW.weights, Try.underlying42]
      exact DataW.weights_mem_each (j := 4) (t := 22) (d := y4.1) rfl rfl _ hk)
    have hcs := ent_parts cs hlen
    rw [e0, e1, e2, e3, e4] at hcs
    exact ⟨⟨k0, k1, k2, k3, A, n, c, zs⟩, hcs, ⟨bounds_i64 w0, bounds_i64 w1, bounds_i64 w2, bounds_i64 w3, h1, h2, hb⟩, h3⟩
theorem ent_cells : Try.prog.cellsOf 42 = 5 := by kernel_rfl
theorem ent_bytes : Try.prog.bytesOf 42 = 56 := by kernel_rfl
/-- A row of them. -/
theorem open_ents {fuel : Nat} {x : DataW H × List MemPlace} {a0 : Option Addr} {len0 cap0 : Nat} (hf : DataW.trod enc Try.prog W base (fun _ => true) held fuel 23 [.slice a0 len0 cap0] = some x) (hz : ∀ n ∈ x.1.weights Try.prog 23, n ≤ 140737488355328) :
    ∃ l, Ents W W.heap.size a0 len0 l ∧ len0 ≤ cap0 ∧ cap0 ≤ maxLen ∧ len0 ≤ 140737488355328 ∧ ∀ y, y ∈ l → y.n ≤ 140737488355328 := by
  have inh : Inhabited EX := ⟨ex0⟩
  rcases open_slice Try.underlying23 hf with ⟨hcs, _⟩ | ⟨a, len, cap, m, n, D, Pl, hcs, hb, hl, hm, hmm, hx, hall⟩
  · simp only [List.cons.injEq, and_true] at hcs
    injection hcs with e1 e2 e3
    subst e1 e2 e3
    exact ⟨[], ⟨Rws.nil, fun y hy => by simp at hy⟩, Nat.le_refl _, by simp [maxLen], by omega, fun y hy => by simp at hy⟩
  · simp only [List.cons.injEq, and_true] at hcs
    injection hcs with e1 e2 e3
    subst e1 e2 e3
    simp only [if_true] at hmm
    subst hmm
    have hcap : m * 56 ≤ 140737488355328 := by
      refine hz _ ?_
      rw [hx]
      simp only [DataW.weights, Try.underlying23, ent_bytes]
      refine List.mem_cons.2 (.inl ?_)
      simp
      omega
    have each : ∀ i, i < len0 → ∃ f : EX, W.cells? base (a.add (i * 5)) 5 = some (ec f) ∧ EOk W W.heap.size f ∧ f.n ≤ 140737488355328 := by
      intro i hi
      obtain ⟨cs', h1, h2⟩ := hall i (by omega)
      rw [ent_cells] at h1
      obtain ⟨f, rfl, hok⟩ := open_ent h2 (fun k hk => by
        refine hz k ?_
        rw [hx]
        simp only [DataW.weights, Try.underlying23]
        refine List.mem_cons.2 (.inr (List.mem_append.2 (.inl ?_)))
        exact weightsAll_memM _ i _ (by simp [hi]) _ hk)
      exact ⟨f, h1, hok⟩
    obtain ⟨F, hF⟩ := choose_lt each
    have hgl : ∀ j, j < len0 → ((List.range len0).map F)[j]? = some (F j) := fun j hj => by simp [List.getElem?_map, List.getElem?_range hj]
    refine ⟨(List.range len0).map F, ⟨⟨by simp, fun h0 => ?_⟩, fun g hg => ?_⟩, hl, hm, by omega, fun y hy => ?_⟩
    · have hcell : ∀ j, j < len0 → ∀ i, i < 5 → W.cell? (a.add (j * 5 + i)) = (ec (F j))[i]? := by
        intro j hj i hi
        have := (World.cells?_some (hF j hj).1).2.2 i hi
        rwa [add_add] at this
      obtain ⟨b, off, spot⟩ := a
      have h00 : W.cell? ((⟨b, off, spot⟩ : Addr).add (0 * 5 + 0)) = some (.int .i64 (F 0).pos) := hcell 0 h0 0 (by omega)
      have hs : spot = none := by
        simpa [Addr.add] using World.cell?_spot h00
      subst hs
      refine ⟨b, off, rfl, ?_, fun i u hu => ?_⟩
      · rw [Go.WideShapes.add_plain] at h00
        exact World.block_lt_of_cell? _ _ h00
      · have hi := (List.getElem?_eq_some_iff.1 hu).1
        rw [flat_len ec_len] at hi
        simp only [List.length_map, List.length_range] at hi
        have hj : i / 5 < len0 := by omega
        have hr : i % 5 < 5 := Nat.mod_lt _ (by omega)
        have e : i / 5 * 5 + i % 5 = i := by omega
        have h1 := hcell (i / 5) hj (i % 5) hr
        rw [Go.WideShapes.add_plain, e, ← flat_at ec_len _ _ _ (hgl _ hj) _ hr, e, hu] at h1
        exact h1
    · obtain ⟨j, hj, rfl⟩ := List.mem_map.1 hg
      exact (hF j (List.mem_range.1 hj)).2.1
    · obtain ⟨j, hj, rfl⟩ := List.mem_map.1 hy
      exact (hF j (List.mem_range.1 hj)).2.2
/-- One member, by its cells. -/
theorem open_mem {fuel : Nat} {cs : List Value} {x : DataW H × List MemPlace} (hf : DataW.trod enc Try.prog W base (fun _ => true) held fuel 91 cs = some x) (hz : ∀ n ∈ x.1.weights Try.prog 91, n ≤ 140737488355328) :
    ∃ y : MemZ, cs = bc y ∧ MemOk y := by
  obtain ⟨xs, m, _, hx, hlen, hn, hel⟩ := DataW.trod_struct Try.underlying91 hf
  rw [show Try.prog.cellsOf 91 = 3 by kernel_rfl] at hlen
  have g0 : DataW.trod enc Try.prog W base (fun _ => true) held m 3 ((cs.drop 0).take (Try.prog.cellsOf 3)) = xs[0]? := hel 0 _ rfl
  rw [show Try.prog.cellsOf 3 = 1 by kernel_rfl] at g0
  have g1 : DataW.trod enc Try.prog W base (fun _ => true) held m 3 ((cs.drop 1).take (Try.prog.cellsOf 3)) = xs[1]? := hel 1 _ rfl
  rw [show Try.prog.cellsOf 3 = 1 by kernel_rfl] at g1
  have g2 : DataW.trod enc Try.prog W base (fun _ => true) held m 4 ((cs.drop 2).take (Try.prog.cellsOf 4)) = xs[2]? := hel 2 _ rfl
  rw [show Try.prog.cellsOf 4 = 1 by kernel_rfl] at g2
  have hn5 : xs.length = 3 := hn
  match xs, hn5 with
  | [y0, y1, y2], _ =>
    obtain ⟨k0, e0, _, w0⟩ := DataW.trod_int Try.underlying3 g0
    obtain ⟨k1, e1, _, w1⟩ := DataW.trod_int Try.underlying3 g1
    obtain ⟨k2, e2, _⟩ := DataW.trod_bool Try.underlying4 g2
    have hcs := mem_parts cs hlen
    rw [e0, e1, e2] at hcs
    exact ⟨⟨k0, k1, k2⟩, hcs, ⟨bounds_i64 w0, bounds_i64 w1⟩⟩
theorem mem_cells : Try.prog.cellsOf 91 = 3 := by kernel_rfl
theorem mem_bytes : Try.prog.bytesOf 91 = 24 := by kernel_rfl
/-- A row of them. -/
theorem open_mems {fuel : Nat} {x : DataW H × List MemPlace} {a0 : Option Addr} {len0 cap0 : Nat} (hf : DataW.trod enc Try.prog W base (fun _ => true) held fuel 24 [.slice a0 len0 cap0] = some x) (hz : ∀ n ∈ x.1.weights Try.prog 24, n ≤ 140737488355328) :
    ∃ l, Mems W W.heap.size a0 len0 l ∧ len0 ≤ cap0 ∧ cap0 ≤ maxLen ∧ len0 ≤ 140737488355328 := by
  have inh : Inhabited MemZ := ⟨mm0⟩
  rcases open_slice Try.underlying24 hf with ⟨hcs, _⟩ | ⟨a, len, cap, m, n, D, Pl, hcs, hb, hl, hm, hmm, hx, hall⟩
  · simp only [List.cons.injEq, and_true] at hcs
    injection hcs with e1 e2 e3
    subst e1 e2 e3
    exact ⟨[], ⟨Rws.nil, fun y hy => by simp at hy⟩, Nat.le_refl _, by simp [maxLen], by omega⟩
  · simp only [List.cons.injEq, and_true] at hcs
    injection hcs with e1 e2 e3
    subst e1 e2 e3
    simp only [if_true] at hmm
    subst hmm
    have hcap : m * 24 ≤ 140737488355328 := by
      refine hz _ ?_
      rw [hx]
      simp only [DataW.weights, Try.underlying24, mem_bytes]
      refine List.mem_cons.2 (.inl ?_)
      simp
      omega
    have each : ∀ i, i < len0 → ∃ f : MemZ, W.cells? base (a.add (i * 3)) 3 = some (bc f) ∧ MemOk f := by
      intro i hi
      obtain ⟨cs', h1, h2⟩ := hall i (by omega)
      rw [mem_cells] at h1
      obtain ⟨f, rfl, hok⟩ := open_mem h2 (fun k hk => by
        refine hz k ?_
        rw [hx]
        simp only [DataW.weights, Try.underlying24]
        refine List.mem_cons.2 (.inr (List.mem_append.2 (.inl ?_)))
        exact weightsAll_memM _ i _ (by simp [hi]) _ hk)
      exact ⟨f, h1, hok⟩
    obtain ⟨F, hF⟩ := choose_lt each
    have hgl : ∀ j, j < len0 → ((List.range len0).map F)[j]? = some (F j) := fun j hj => by simp [List.getElem?_map, List.getElem?_range hj]
    refine ⟨(List.range len0).map F, ⟨⟨by simp, fun h0 => ?_⟩, fun g hg => ?_⟩, hl, hm, by omega⟩
    · have hcell : ∀ j, j < len0 → ∀ i, i < 3 → W.cell? (a.add (j * 3 + i)) = (bc (F j))[i]? := by
        intro j hj i hi
        have := (World.cells?_some (hF j hj).1).2.2 i hi
        rwa [add_add] at this
      obtain ⟨b, off, spot⟩ := a
      have h00 : W.cell? ((⟨b, off, spot⟩ : Addr).add (0 * 3 + 0)) = some (.int .i64 (F 0).node) := hcell 0 h0 0 (by omega)
      have hs : spot = none := by
        simpa [Addr.add] using World.cell?_spot h00
      subst hs
      refine ⟨b, off, rfl, ?_, fun i u hu => ?_⟩
      · rw [Go.WideShapes.add_plain] at h00
        exact World.block_lt_of_cell? _ _ h00
      · have hi := (List.getElem?_eq_some_iff.1 hu).1
        rw [flat_len bc_len] at hi
        simp only [List.length_map, List.length_range] at hi
        have hj : i / 3 < len0 := by omega
        have hr : i % 3 < 3 := Nat.mod_lt _ (by omega)
        have e : i / 3 * 3 + i % 3 = i := by omega
        have h1 := hcell (i / 3) hj (i % 3) hr
        rw [Go.WideShapes.add_plain, e, ← flat_at bc_len _ _ _ (hgl _ hj) _ hr, e, hu] at h1
        exact h1
    · obtain ⟨j, hj, rfl⟩ := List.mem_map.1 hg
      exact (hF j (List.mem_range.1 hj)).2
/-- A configuration, by its cells. -/
theorem open_conf {fuel : Nat} {cs : List Value} {x : DataW H × List MemPlace} (hf : DataW.trod enc Try.prog W base (fun _ => true) held fuel 26 cs = some x) (hz : ∀ n ∈ x.1.weights Try.prog 26, n ≤ 140737488355328) :
    ∃ (ep : Int) (A : Option Addr) (n c : Nat) (l : List MemZ), cs = gc ep A n c ∧ InM ep ∧ Mems W W.heap.size A n l ∧ n ≤ c ∧ c ≤ maxLen ∧ n ≤ 140737488355328 := by
  obtain ⟨xs, m, _, hx, hlen, hn, hel⟩ := DataW.trod_struct Try.underlying26 hf
  rw [show Try.prog.cellsOf 26 = 2 by kernel_rfl] at hlen
  have g0 : DataW.trod enc Try.prog W base (fun _ => true) held m 3 ((cs.drop 0).take (Try.prog.cellsOf 3)) = xs[0]? := hel 0 _ rfl
  rw [show Try.prog.cellsOf 3 = 1 by kernel_rfl] at g0
  have g1 : DataW.trod enc Try.prog W base (fun _ => true) held m 24 ((cs.drop 1).take (Try.prog.cellsOf 24)) = xs[1]? := hel 1 _ rfl
  rw [show Try.prog.cellsOf 24 = 1 by kernel_rfl] at g1
  have hn5 : xs.length = 2 := hn
  match xs, hn5 with
  | [y0, y1], _ =>
    obtain ⟨k0, e0, _, w0⟩ := DataW.trod_int Try.underlying3 g0
    obtain ⟨a1, len1, cap1, e1⟩ : ∃ a len cap, (cs.drop 1).take 1 = [.slice a len cap] := by
      rcases open_slice Try.underlying24 g1 with ⟨e, _⟩ | ⟨a, len, cap, _, _, _, _, e, _⟩
      · exact ⟨_, _, _, e⟩
      · exact ⟨_, _, _, e⟩
    rw [e1] at g1
    obtain ⟨l, hl, h1, h2, h3⟩ := open_mems g1 (fun k hk => by
      refine hz k ?_
      rw [hx]
      simp only [DataW.weights, Try.underlying26]
      exact DataW.weights_mem_each (j := 1) (t := 24) (d := y1.1) rfl rfl _ hk)
    have hcs := conf_parts cs hlen
    rw [e0, e1] at hcs
    exact ⟨k0, a1, len1, cap1, l, hcs, bounds_i64 w0, hl, h1, h2, h3⟩
/-- A message, by its cells. -/
theorem open_msg {fuel : Nat} {cs : List Value} {x : DataW H × List MemPlace} (hf : DataW.trod enc Try.prog W base (fun _ => true) held fuel 28 cs = some x) (hz : ∀ n ∈ x.1.weights Try.prog 28, n ≤ 140737488355328) :
    ∃ y : MX, cs = mc y ∧ MXOk W W.heap.size y ∧ y.n ≤ 140737488355328 ∧ ∀ e, e ∈ y.es → e.n ≤ 140737488355328 := by
  obtain ⟨xs, m, _, hx, hlen, hn, hel⟩ := DataW.trod_struct Try.underlying28 hf
  rw [show Try.prog.cellsOf 28 = 12 by kernel_rfl] at hlen
  have g0 : DataW.trod enc Try.prog W base (fun _ => true) held m 5 ((cs.drop 0).take (Try.prog.cellsOf 5)) = xs[0]? := hel 0 _ rfl
  rw [show Try.prog.cellsOf 5 = 1 by kernel_rfl] at g0
  have g1 : DataW.trod enc Try.prog W base (fun _ => true) held m 3 ((cs.drop 1).take (Try.prog.cellsOf 3)) = xs[1]? := hel 1 _ rfl
  rw [show Try.prog.cellsOf 3 = 1 by kernel_rfl] at g1
  have g2 : DataW.trod enc Try.prog W base (fun _ => true) held m 3 ((cs.drop 2).take (Try.prog.cellsOf 3)) = xs[2]? := hel 2 _ rfl
  rw [show Try.prog.cellsOf 3 = 1 by kernel_rfl] at g2
  have g3 : DataW.trod enc Try.prog W base (fun _ => true) held m 22 ((cs.drop 3).take (Try.prog.cellsOf 22)) = xs[3]? := hel 3 _ rfl
  rw [show Try.prog.cellsOf 22 = 1 by kernel_rfl] at g3
  have g4 : DataW.trod enc Try.prog W base (fun _ => true) held m 3 ((cs.drop 4).take (Try.prog.cellsOf 3)) = xs[4]? := hel 4 _ rfl
  rw [show Try.prog.cellsOf 3 = 1 by kernel_rfl] at g4
  have g5 : DataW.trod enc Try.prog W base (fun _ => true) held m 3 ((cs.drop 5).take (Try.prog.cellsOf 3)) = xs[5]? := hel 5 _ rfl
  rw [show Try.prog.cellsOf 3 = 1 by kernel_rfl] at g5
  have g6 : DataW.trod enc Try.prog W base (fun _ => true) held m 23 ((cs.drop 6).take (Try.prog.cellsOf 23)) = xs[6]? := hel 6 _ rfl
  rw [show Try.prog.cellsOf 23 = 1 by kernel_rfl] at g6
  have g7 : DataW.trod enc Try.prog W base (fun _ => true) held m 3 ((cs.drop 7).take (Try.prog.cellsOf 3)) = xs[7]? := hel 7 _ rfl
  rw [show Try.prog.cellsOf 3 = 1 by kernel_rfl] at g7
  have g8 : DataW.trod enc Try.prog W base (fun _ => true) held m 3 ((cs.drop 8).take (Try.prog.cellsOf 3)) = xs[8]? := hel 8 _ rfl
  rw [show Try.prog.cellsOf 3 = 1 by kernel_rfl] at g8
  have g9 : DataW.trod enc Try.prog W base (fun _ => true) held m 26 ((cs.drop 9).take (Try.prog.cellsOf 26)) = xs[9]? := hel 9 _ rfl
  rw [show Try.prog.cellsOf 26 = 2 by kernel_rfl] at g9
  have g10 : DataW.trod enc Try.prog W base (fun _ => true) held m 3 ((cs.drop 11).take (Try.prog.cellsOf 3)) = xs[10]? := hel 10 _ rfl
  rw [show Try.prog.cellsOf 3 = 1 by kernel_rfl] at g10
  have hn5 : xs.length = 11 := hn
  match xs, hn5 with
  | [y0, y1, y2, y3, y4, y5, y6, y7, y8, y9, y10], _ =>
    obtain ⟨k0, e0, _, w0⟩ := DataW.trod_int Try.underlying5 g0
    obtain ⟨k1, e1, _, w1⟩ := DataW.trod_int Try.underlying3 g1
    obtain ⟨k2, e2, _, w2⟩ := DataW.trod_int Try.underlying3 g2
    obtain ⟨k4, e4, _, w4⟩ := DataW.trod_int Try.underlying3 g4
    obtain ⟨k5, e5, _, w5⟩ := DataW.trod_int Try.underlying3 g5
    obtain ⟨k7, e7, _, w7⟩ := DataW.trod_int Try.underlying3 g7
    obtain ⟨k8, e8, _, w8⟩ := DataW.trod_int Try.underlying3 g8
    obtain ⟨k10, e10, _, w10⟩ := DataW.trod_int Try.underlying3 g10
    obtain ⟨A, n, c, zs, e3, hb, b1, b2, b3⟩ := open_bytesM g3 (fun k hk => by
      refine hz k ?_
      rw [hx]
      simp only [DataW.weights, Try.underlying28]
      exact DataW.weights_mem_each (j := 3) (t := 22) (d := y3.1) rfl rfl _ hk)
    obtain ⟨a6, len6, cap6, e6⟩ : ∃ a len cap, (cs.drop 6).take 1 = [.slice a len cap] := by
      rcases open_slice Try.underlying23 g6 with ⟨e, _⟩ | ⟨a, len, cap, _, _, _, _, e, _⟩
      · exact ⟨_, _, _, e⟩
      · exact ⟨_, _, _, e⟩
    rw [e6] at g6
    obtain ⟨l, hl, h1, h2, h3, h4⟩ := open_ents g6 (fun k hk => by
      refine hz k ?_
      rw [hx]
      simp only [DataW.weights, Try.underlying28]
      exact DataW.weights_mem_each (j := 6) (t := 23) (d := y6.1) rfl rfl _ hk)
    obtain ⟨ep, MA, mn, mcp, ml, e9, m0, m1, m2, m3, m4⟩ := open_conf g9 (fun k hk => by
      refine hz k ?_
      rw [hx]
      simp only [DataW.weights, Try.underlying28]
      exact DataW.weights_mem_each (j := 9) (t := 26) (d := y9.1) rfl rfl _ hk)
    have hcs := msg_parts cs hlen
    rw [e0, e1, e2, e3, e4, e5, e6, e7, e8, e9, e10] at hcs
    exact ⟨⟨k0, k1, k2, A, n, c, zs, k4, k5, a6, len6, cap6, l, k7, k8, ep, MA, mn, mcp, ml, k10⟩, hcs, ⟨u8_ofM w0, bounds_i64 w1, bounds_i64 w2, b1, b2, hb, bounds_i64 w4, bounds_i64 w5, h1, h2, hl, bounds_i64 w7, bounds_i64 w8, m0, m2, m3, m1, bounds_i64 w10⟩, b3, h4⟩
end
end Go.Proofs.Ytfihiandifnkpaa
