/- The acts of wal's law as they came in; whether they are too many. (Out of gen/gen_acts.py.) -/
import Derived.Test.YtjfeepmjebdahaaDoorB6
import Derived.OpenShut
import Derived.SizedLaws
import Derived.Deep.Slices
import Derived.ChangeArms
namespace Go.Proofs.YtjfeepmjebdahaaDoor
open Go.ChangeShapes Go.WideShapes Go.ChangeAt Go.RowKit Go.Deep
set_option linter.unusedVariables false
def gsum7 (F : Nat → ActZ) : Nat → Nat
  | 0 => 0
  | k + 1 => gsum7 F k + (F k).len + 40
theorem gsum7_le (F : Nat → ActZ) : ∀ k m, k ≤ m → gsum7 F k ≤ gsum7 F m := by
  intro k m h
  induction m with
  | zero => have : k = 0 := by omega
            subst this; exact Nat.le_refl _
  | succ m ih =>
    by_cases hk : k = m + 1
    · subst hk; exact Nat.le_refl _
    · have := ih (by omega)
      show _ ≤ gsum7 F m + (F m).len + 40
      omega
theorem gsum7_many (F : Nat → ActZ) : ∀ k, 40 * k ≤ gsum7 F k
  | 0 => by simp [gsum7]
  | k + 1 => by have := gsum7_many F k; simp only [gsum7]; omega
set_option maxRecDepth 100000 in
set_option maxHeartbeats 1000000 in
theorem great7_any {w : World} {B m : Nat} {A : Option Addr} {F : Nat → ActZ} (c : Nat) (h : Acts w B A m F) (hm : m ≤ maxLen) : Calls Tryd.prog 8 #[.slice A m c] w (fun e w' => e = .returned (.bool (decide (2000 < gsum7 F m))) ∧ w = w') := by
  unfold maxLen at hm
  obtain ⟨r, hr⟩ : ∃ r, decide (2000 < gsum7 F m) = r := ⟨_, rfl⟩
  rw [hr]
  have HR := Lib.hid hr
  have HLE := Lib.hid (gsum7_le F)
  have HF := Lib.hid h
  clear hr h
  go_enter Tryd.func8, Tryd.ntmps8
  go_wp2
  go_loop [3, 4] (fun n i => ∃ k : Nat, k ≤ m ∧ i = .int .i64 k ∧ ∃ s : Nat, n = .int .i64 s ∧ Hid (gsum7 F k = s) ∧ s ≤ 2000) (fun _ i => m - (intOf i).toNat)
  case atStart => exact ⟨0, by omega, rfl, 0, rfl, rfl, by omega⟩
  case round =>
    obtain ⟨k, hk, rfl, s, rfl, HS, hs⟩ := hrel
    by_cases hlt : k < m
    · obtain ⟨b, off, rfl, hb, c0, c1, c2, c3⟩ := HF.out.at_ hlt
      have hl := (HF.out.ok k hlt).small
      have h2 : Hid (gsum7 F (k + 1) = s + (F k).len + 40) := Lib.hid (by rw [← HS.out]; rfl)
      have h3 := Lib.hid (HLE.out (k + 1) m (by omega))
      generalize (F k).len = lk at *
      have hltI : (k : Int) < (m : Int) := by omega
      have e1 : wrap64 ((s : Int) + (lk : Int)) = (s : Int) + (lk : Int) := by unfold wrap64; omega
      have e2 : wrap64 ((s : Int) + (lk : Int) + 40) = (s : Int) + (lk : Int) + 40 := by unfold wrap64; omega
      by_cases hbig : 2000 < s + lk + 40
      · have hbI : 2000 < (s : Int) + (lk : Int) + 40 := by omega
        have HT : Hid (r = true) := Lib.hid (by rw [← HR.out]; have := h2.out; have := h3.out; exact decide_eq_true (by omega))
        clear hbig hs
        go_wp2
        go_ret
        exact ⟨by rw [HT.out]; rfl, rfl⟩
      · have hbI : ¬ 2000 < (s : Int) + (lk : Int) + 40 := by omega
        have hb2 := Lib.hid hbig
        clear hs hbig
        go_wp2
        go_round
        case rel => exact ⟨k + 1, by omega, by go_num, s + lk + 40, by go_num, h2, by have := hb2.out; omega⟩
        case measure => simp [intOf]; omega
    · have hkm : k = m := by omega
      have HT : Hid (r = false) := Lib.hid (by rw [← HR.out, ← hkm, HS.out]; exact decide_eq_false (by omega))
      clear hkm hs
      go_wp2
      go_ret
      exact ⟨by rw [HT.out]; rfl, rfl⟩
section
variable {H : Type} {enc : TypeId × Value → H} {W : World} {base : Nat} {sp : Nat → Bool} {held : Bool}
theorem act_cells : Tryd.prog.cellsOf 44 = 4 := by kernel_rfl
set_option maxRecDepth 100000 in
theorem open_act {fuel : Nat} {cs : List Value} {x : DataW H × List MemPlace} (hf : DataW.trod enc Tryd.prog W base (fun _ => true) held fuel 44 cs = some x) (hz : ∀ n ∈ x.1.weights Tryd.prog 44, n ≤ 140737488355328) :
    ∃ a : ActZ, cs = aCells a ∧ ActOk W W.heap.size a := by
  obtain ⟨xs, m, _, hx, hlen, hn, hel⟩ := DataW.trod_struct Tryd.underlying44 hf
  rw [act_cells] at hlen
  have ci : Tryd.prog.cellsOf 3 = 1 := by kernel_rfl
  have cb : Tryd.prog.cellsOf 27 = 1 := by kernel_rfl
  have c5 : Tryd.prog.cellsOf 5 = 1 := by kernel_rfl
  obtain ⟨c0, c1, c2, c3, rfl⟩ : ∃ c0 c1 c2 c3, cs = [c0, c1, c2, c3] := by
    match cs, hlen with
    | [c0, c1, c2, c3], _ => exact ⟨c0, c1, c2, c3, rfl⟩
  have hn4 : xs.length = 4 := hn
  have g0 : DataW.trod enc Tryd.prog W base (fun _ => true) held m 3 ((([c0, c1, c2, c3] : List Value).drop 0).take (Tryd.prog.cellsOf 3)) = xs[0]? := hel 0 _ rfl
  rw [ci] at g0
  have g1 : DataW.trod enc Tryd.prog W base (fun _ => true) held m 3 ((([c0, c1, c2, c3] : List Value).drop 1).take (Tryd.prog.cellsOf 3)) = xs[1]? := hel 1 _ rfl
  rw [ci] at g1
  have g2 : DataW.trod enc Tryd.prog W base (fun _ => true) held m 3 ((([c0, c1, c2, c3] : List Value).drop 2).take (Tryd.prog.cellsOf 3)) = xs[2]? := hel 2 _ rfl
  rw [ci] at g2
  have g3 : DataW.trod enc Tryd.prog W base (fun _ => true) held m 27 ((([c0, c1, c2, c3] : List Value).drop 3).take (Tryd.prog.cellsOf 27)) = xs[3]? := hel 3 _ rfl
  rw [cb] at g3
  match xs, hn4 with
  | [y0, y1, y2, y3], _ =>
    obtain ⟨k0, e0, _, w0⟩ := DataW.trod_int Tryd.underlying3 g0
    obtain rfl : c0 = .int .i64 k0 := by simpa using e0
    obtain ⟨k1, e1, _, w1⟩ := DataW.trod_int Tryd.underlying3 g1
    obtain rfl : c1 = .int .i64 k1 := by simpa using e1
    obtain ⟨k2, e2, _, w2⟩ := DataW.trod_int Tryd.underlying3 g2
    obtain rfl : c2 = .int .i64 k2 := by simpa using e2
    rcases open_ints Tryd.underlying27 Tryd.underlying5 c5 g3 with ⟨eb, _⟩ | ⟨a, len, cap, zs, eb, _, hl, hm, hzl, hy, hcell, hwz⟩
    · obtain rfl : c3 = .slice none 0 0 := by simpa using eb
      exact ⟨⟨k0, k1, k2, none, 0, 0, []⟩, rfl, ⟨wf_i64 w0, wf_i64 w1, wf_i64 w2, Bs.nil, Nat.le_refl _, by simp [maxLen], by show (0 : Nat) ≤ _; omega⟩⟩
    · obtain rfl : c3 = .slice (some a) len cap := by simpa using eb
      have hzl' : zs.length = cap := by simpa using hzl
      have hr : IsRow .u8 W (some a) len cap zs := .inr ⟨a, rfl, hl, hm, hzl', hcell, hwz⟩
      have hcap : cap ≤ 140737488355328 := by
        have m1 : cap ∈ y3.1.weights Tryd.prog 27 := by
          rw [hy]
          simp only [DataW.weights, Tryd.underlying27, act_u8_bytes]
          refine List.mem_cons.2 (.inl ?_)
          simp [lits]
          omega
        refine hz cap ?_
        rw [hx]
        simp only [DataW.weights, Tryd.underlying44]
        exact DataW.weights_mem_each (j := 3) (t := 27) (d := y3.1) rfl rfl _ m1
      exact ⟨⟨k0, k1, k2, some a, len, cap, zs.take len⟩, rfl, ⟨wf_i64 w0, wf_i64 w1, wf_i64 w2, hr.bs.1, hl, hm, by show len ≤ _; omega⟩⟩
set_option maxRecDepth 100000 in
/-- Acts that came in. -/
theorem open_acts {fuel : Nat} {x : DataW H × List MemPlace} {a0 : Option Addr} {len0 cap0 : Nat} (hf : DataW.trod enc Tryd.prog W base (fun _ => true) held fuel 22 [.slice a0 len0 cap0] = some x) (hz : ∀ n ∈ x.1.weights Tryd.prog 22, n ≤ 140737488355328) :
    ∃ F, Acts W W.heap.size a0 len0 F ∧ len0 ≤ cap0 ∧ cap0 ≤ maxLen := by
  have inh : Inhabited ActZ := ⟨⟨0, 0, 0, none, 0, 0, []⟩⟩
  rcases open_slice Tryd.underlying22 hf with ⟨hcs, _⟩ | ⟨a, len, cap, m, n, D, Pl, hcs, hb, hl, hm, hmm, hx, hall⟩
  · simp only [List.cons.injEq, and_true] at hcs
    injection hcs with e1 e2 e3
    subst e1 e2 e3
    exact ⟨fun _ => default, ⟨fun h => absurd h (by omega), fun j h => absurd h (by omega)⟩, Nat.le_refl _, by simp [maxLen]⟩
  · simp only [List.cons.injEq, and_true] at hcs
    injection hcs with e1 e2 e3
    subst e1 e2 e3
    simp only [if_true] at hmm
    subst hmm
    have each : ∀ i, i < len0 → ∃ f : ActZ, W.cells? base (a.add (i * 4)) 4 = some (aCells f) ∧ ActOk W W.heap.size f := by
      intro i hi
      obtain ⟨cs', h1, h2⟩ := hall i (by omega)
      rw [act_cells] at h1
      obtain ⟨f, rfl, hok⟩ := open_act h2 (fun k hk => by
        refine hz k ?_
        rw [hx]
        simp only [DataW.weights, Tryd.underlying22]
        refine List.mem_cons.2 (.inr (List.mem_append.2 (.inl ?_)))
        exact actWeights_mem _ i _ (by simp [hi]) _ hk)
      exact ⟨f, h1, hok⟩
    obtain ⟨F, hF⟩ := choose_lt each
    refine ⟨F, ⟨fun h0 => ?_, fun j hj => (hF j hj).2⟩, hl, hm⟩
    have hcell : ∀ j, j < len0 → ∀ i, i < 4 → W.cell? (a.add (j * 4 + i)) = (aCells (F j))[i]? := by
      intro j hj i hi
      have := (World.cells?_some (hF j hj).1).2.2 i hi
      rwa [add_add] at this
    obtain ⟨b, off, spot⟩ := a
    have h00 := hcell 0 h0 0 (by omega)
    have hs : spot = none := by
      have h1 : W.cell? ((⟨b, off, spot⟩ : Addr).add (0 * 4 + 0)) = some (.int .i64 (F 0).kind) := h00
      simpa [Addr.add] using World.cell?_spot h1
    subst hs
    refine ⟨b, off, rfl, ?_, fun j hj i u hu => ?_⟩
    · have h1 : W.cell? ((⟨b, off, none⟩ : Addr).add (0 * 4 + 0)) = some (.int .i64 (F 0).kind) := h00
      rw [Go.WideShapes.add_plain] at h1
      exact World.block_lt_of_cell? _ _ h1
    · have hi : i < 4 := by
        have := (List.getElem?_eq_some_iff.1 hu).1
        simpa [aCells] using this
      have := hcell j hj i hi
      rw [Go.WideShapes.add_plain, ← Nat.add_assoc, hu] at this
      exact this
end
end Go.Proofs.YtjfeepmjebdahaaDoor
