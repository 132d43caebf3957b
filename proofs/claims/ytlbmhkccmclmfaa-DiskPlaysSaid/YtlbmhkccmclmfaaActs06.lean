/- The acts of a law as they came in; whether they are too many. (Printed by gen/gen_acts.py.) -/
import Derived.Test.YtlbmhkccmclmfaaOwn
import Derived.OpenShut
import Derived.SizedLaws
import Derived.Deep.Slices
import Derived.ChangeArms
namespace Go.Proofs.Ytlbmhkccmclmfaa
open Go.ChangeShapes Go.WideShapes Go.ChangeAt Go.RowKit Go.Deep
set_option linter.unusedVariables false
structure ActZ where
  kind : Int
  n : Int
  m : Int
  A : Option Addr
  len : Nat
  cap : Nat
  zs : List Int
def aCells (a : ActZ) : List Value := [.int .i64 a.kind, .int .i64 a.n, .int .i64 a.m, .slice a.A a.len a.cap]
structure ActOk (w : World) (B : Nat) (a : ActZ) : Prop where
  kind : -9223372036854775808 ≤ a.kind ∧ a.kind ≤ 9223372036854775807
  n : -9223372036854775808 ≤ a.n ∧ a.n ≤ 9223372036854775807
  m : -9223372036854775808 ≤ a.m ∧ a.m ≤ 9223372036854775807
  bs : Bs w B a.A a.len a.zs
  cap : a.len ≤ a.cap
  max : a.cap ≤ maxLen
  small : a.len ≤ 140737488355328
theorem ActOk.below {w w' : World} {B : Nat} {a : ActZ} (h : ActOk w B a) (hb : Below B w w') : ActOk w' B a := ⟨h.kind, h.n, h.m, h.bs.below hb, h.cap, h.max, h.small⟩
/-- The m acts that the slice at A holds. -/
structure Acts (w : World) (B : Nat) (A : Option Addr) (m : Nat) (F : Nat → ActZ) : Prop where
  row : 0 < m → ∃ b off, A = some ⟨b, off, none⟩ ∧ b < B ∧ ∀ j, j < m → ∀ i v, (aCells (F j))[i]? = some v → w.cell? ⟨b, off + j * 4 + i, none⟩ = some v
  ok : ∀ j, j < m → ActOk w B (F j)
theorem Acts.below {w w' : World} {B m : Nat} {A : Option Addr} {F : Nat → ActZ} (h : Acts w B A m F) (hb : Below B w w') : Acts w' B A m F :=
  ⟨fun hm => by
    obtain ⟨b, off, rfl, hlt, hc⟩ := h.row hm
    exact ⟨b, off, rfl, hlt, fun j hj i v hv => (hb.cell (p := ⟨b, off + j * 4 + i, none⟩) hlt).trans (hc j hj i v hv)⟩, fun j hj => (h.ok j hj).below hb⟩
theorem Acts.at_ {w : World} {B m : Nat} {A : Option Addr} {F : Nat → ActZ} (h : Acts w B A m F) {k : Nat} (hk : k < m) :
    ∃ b off, A = some ⟨b, off, none⟩ ∧ b < B ∧ w.cell? ⟨b, off + k * 4, none⟩ = some (.int .i64 (F k).kind) ∧ w.cell? ⟨b, off + k * 4 + 1, none⟩ = some (.int .i64 (F k).n) ∧ w.cell? ⟨b, off + k * 4 + 2, none⟩ = some (.int .i64 (F k).m) ∧ w.cell? ⟨b, off + k * 4 + 3, none⟩ = some (.slice (F k).A (F k).len (F k).cap) := by
  obtain ⟨b, off, rfl, hlt, hc⟩ := h.row (by omega)
  exact ⟨b, off, rfl, hlt, hc k hk 0 _ rfl, hc k hk 1 _ rfl, hc k hk 2 _ rfl, hc k hk 3 _ rfl⟩
theorem acts_one {w : World} {B : Nat} {a : ActZ} (h : ActOk w B a) (hB : B ≤ w.heap.size) (t : TypeId) (g : Nat) (hg : w.heap.size = g) : Acts (w.alloc (.cells (aCells a).toArray t)) (g + 1) (some ⟨g, 0, none⟩) 1 (fun _ => a) := by
  subst hg
  have hh := heap_alloc_new w (.cells (aCells a).toArray t)
  refine ⟨fun _ => ⟨w.heap.size, 0, rfl, by omega, fun j hj i v hv => ?_⟩, fun j hj => ⟨h.kind, h.n, h.m, (h.bs.alloc hB _).more (by omega), h.cap, h.max, h.small⟩⟩
  have : j = 0 := by omega
  subst this
  rw [cell_of_row _ _ _ _ _ _ hh, List.getElem?_toArray]
  simpa using hv
def gsum (F : Nat → ActZ) : Nat → Nat
  | 0 => 0
  | k + 1 => gsum F k + (F k).len + 20
theorem gsum_le (F : Nat → ActZ) : ∀ k m, k ≤ m → gsum F k ≤ gsum F m := by
  intro k m h
  induction m with
  | zero => have : k = 0 := by omega
            subst this; exact Nat.le_refl _
  | succ m ih =>
    by_cases hk : k = m + 1
    · subst hk; exact Nat.le_refl _
    · have := ih (by omega)
      show _ ≤ gsum F m + (F m).len + 20
      omega
theorem gsum_many (F : Nat → ActZ) : ∀ k, 20 * k ≤ gsum F k
  | 0 => by simp [gsum]
  | k + 1 => by have := gsum_many F k; simp only [gsum]; omega
set_option maxRecDepth 100000 in
set_option maxHeartbeats 1000000 in
theorem great_any {w : World} {B m : Nat} {A : Option Addr} {F : Nat → ActZ} (c : Nat) (h : Acts w B A m F) (hm : m ≤ maxLen) : Calls Try.prog 8 #[.slice A m c] w (fun e w' => e = .returned (.bool (decide (4000 < gsum F m))) ∧ w = w') := by
  unfold maxLen at hm
  obtain ⟨r, hr⟩ : ∃ r, decide (4000 < gsum F m) = r := ⟨_, rfl⟩
  rw [hr]
  have HR := Lib.hid hr
  have HLE := Lib.hid (gsum_le F)
  have HF := Lib.hid h
  clear hr h
  go_enter Try.func8, Try.ntmps8
  go_wp2
  go_loop [3, 4] (fun n i => ∃ k : Nat, k ≤ m ∧ i = .int .i64 k ∧ ∃ s : Nat, n = .int .i64 s ∧ Hid (gsum F k = s) ∧ s ≤ 4000) (fun _ i => m - (intOf i).toNat)
  case atStart => exact ⟨0, by omega, rfl, 0, rfl, rfl, by omega⟩
  case round =>
    obtain ⟨k, hk, rfl, s, rfl, HS, hs⟩ := hrel
    by_cases hlt : k < m
    · obtain ⟨b, off, rfl, hb, c0, c1, c2, c3⟩ := HF.out.at_ hlt
      have hl := (HF.out.ok k hlt).small
      have h2 : Hid (gsum F (k + 1) = s + (F k).len + 20) := Lib.hid (by rw [← HS.out]; rfl)
      have h3 := Lib.hid (HLE.out (k + 1) m (by omega))
      generalize (F k).len = lk at *
      have hltI : (k : Int) < (m : Int) := by omega
      have e1 : wrap64 ((s : Int) + (lk : Int)) = (s : Int) + (lk : Int) := by unfold wrap64; omega
      have e2 : wrap64 ((s : Int) + (lk : Int) + 20) = (s : Int) + (lk : Int) + 20 := by unfold wrap64; omega
      by_cases hbig : 4000 < s + lk + 20
      · have hbI : 4000 < (s : Int) + (lk : Int) + 20 := by omega
        have HT : Hid (r = true) := Lib.hid (by rw [← HR.out]; have := h2.out; have := h3.out; exact decide_eq_true (by omega))
        clear hbig hs
        go_wp2
        go_ret
        exact ⟨by rw [HT.out]; rfl, rfl⟩
      · have hbI : ¬ 4000 < (s : Int) + (lk : Int) + 20 := by omega
        have hb2 := Lib.hid hbig
        clear hs hbig
        go_wp2
        go_round
        case rel => exact ⟨k + 1, by omega, by go_num, s + lk + 20, by go_num, h2, by have := hb2.out; omega⟩
        case measure => simp [intOf]; omega
    · have hkm : k = m := by omega
      have HT : Hid (r = false) := Lib.hid (by rw [← HR.out, ← hkm, HS.out]; exact decide_eq_false (by omega))
      clear hkm hs
      go_wp2
      go_ret
      exact ⟨by rw [HT.out]; rfl, rfl⟩
section
variable {H : Type} {enc : TypeId × Value → H} {W : World} {base : Nat} {sp : Nat → Bool} {held : Bool}
theorem act_cells : Try.prog.cellsOf 37 = 4 := by kernel_rfl
theorem act_u8_bytes : Try.prog.bytesOf 5 = 1 := by kernel_rfl
/-- What a row weighs is among what the whole list weighs. -/
theorem actWeights_mem {P : Program} {e : TypeId} : ∀ (ds : List (DataW H)) (j : Nat) (d : DataW H), ds[j]? = some d → ∀ n ∈ d.weights P e, n ∈ DataW.weightsAll P e ds
  | [], j, d, hd, n, hn => by simp at hd
  | x :: r, 0, d, hd, n, hn => by
    have e : x = d := by simpa using hd
    subst e
    rw [DataW.weightsAll]
    exact List.mem_append.2 (.inl hn)
  | x :: r, j + 1, d, hd, n, hn => by
    rw [DataW.weightsAll]
    exact List.mem_append.2 (.inr (actWeights_mem r j d (by simpa using hd) n hn))
/-- One act, by its cells. -/
theorem open_act {fuel : Nat} {cs : List Value} {x : DataW H × List MemPlace} (hf : DataW.trod enc Try.prog W base (fun _ => true) held fuel 37 cs = some x) (hz : ∀ n ∈ x.1.weights Try.prog 37, n ≤ 140737488355328) :
    ∃ a : ActZ, cs = aCells a ∧ ActOk W W.heap.size a := by
  obtain ⟨xs, m, _, hx, hlen, hn, hel⟩ := DataW.trod_struct Try.underlying37 hf
  rw [act_cells] at hlen
  have ci : Try.prog.cellsOf 3 = 1 := by kernel_rfl
  have cb : Try.prog.cellsOf 27 = 1 := by kernel_rfl
  have c5 : Try.prog.cellsOf 5 = 1 := by kernel_rfl
  obtain ⟨c0, c1, c2, c3, rfl⟩ : ∃ c0 c1 c2 c3, cs = [c0, c1, c2, c3] := by
    match cs, hlen with
    | [c0, c1, c2, c3], _ => exact ⟨c0, c1, c2, c3, rfl⟩
  have hn4 : xs.length = 4 := hn
  have g0 : DataW.trod enc Try.prog W base (fun _ => true) held m 3 ((([c0, c1, c2, c3] : List Value).drop 0).take (Try.prog.cellsOf 3)) = xs[0]? := hel 0 _ rfl
  rw [ci] at g0
  have g1 : DataW.trod enc Try.prog W base (fun _ => true) held m 3 ((([c0, c1, c2, c3] : List Value).drop 1).take (Try.prog.cellsOf 3)) = xs[1]? := hel 1 _ rfl
  rw [ci] at g1
  have g2 : DataW.trod enc Try.prog W base (fun _ => true) held m 3 ((([c0, c1, c2, c3] : List Value).drop 2).take (Try.prog.cellsOf 3)) = xs[2]? := hel 2 _ rfl
  rw [ci] at g2
  have g3 : DataW.trod enc Try.prog W base (fun _ => true) held m 27 ((([c0, c1, c2, c3] : List Value).drop 3).take (Try.prog.cellsOf 27)) = xs[3]? := hel 3 _ rfl
  rw [cb] at g3
  match xs, hn4 with
  | [y0, y1, y2, y3], _ =>
    obtain ⟨k0, e0, _, w0⟩ := DataW.trod_int Try.underlying3 g0
    obtain rfl : c0 = .int .i64 k0 := by simpa using e0
    obtain ⟨k1, e1, _, w1⟩ := DataW.trod_int Try.underlying3 g1
    obtain rfl : c1 = .int .i64 k1 := by simpa using e1
    obtain ⟨k2, e2, _, w2⟩ := DataW.trod_int Try.underlying3 g2
    obtain rfl : c2 = .int .i64 k2 := by simpa using e2
    rcases open_ints Try.underlying27 Try.underlying5 c5 g3 with ⟨eb, _⟩ | ⟨a, len, cap, zs, eb, _, hl, hm, hzl, hy, hcell, hwz⟩
    · obtain rfl : c3 = .slice none 0 0 := by simpa using eb
      exact ⟨⟨k0, k1, k2, none, 0, 0, []⟩, rfl, ⟨wf_i64 w0, wf_i64 w1, wf_i64 w2, Bs.nil, Nat.le_refl _, by simp [maxLen], by show (0 : Nat) ≤ _; omega⟩⟩
    · obtain rfl : c3 = .slice (some a) len cap := by simpa using eb
      have hzl' : zs.length = cap := by simpa using hzl
      have hr : IsRow .u8 W (some a) len cap zs := .inr ⟨a, rfl, hl, hm, hzl', hcell, hwz⟩
      have hcap : cap ≤ 140737488355328 := by
        have m1 : cap ∈ y3.1.weights Try.prog 27 := by
          rw [hy]
          simp only [DataW.weights, Try.underlying27, act_u8_bytes]
          refine List.mem_cons.2 (.inl ?_)
          simp [lits]
          omega
        refine hz cap ?_
        rw [hx]
        simp only [DataW.weights, Try.underlying37]
        exact DataW.weights_mem_each (j := 3) (t := 27) (d := y3.1) rfl rfl _ m1
      exact ⟨⟨k0, k1, k2, some a, len, cap, zs.take len⟩, rfl, ⟨wf_i64 w0, wf_i64 w1, wf_i64 w2, hr.bs.1, hl, hm, by show len ≤ _; omega⟩⟩
/-- Acts that came in. -/
theorem open_acts {fuel : Nat} {x : DataW H × List MemPlace} {a0 : Option Addr} {len0 cap0 : Nat} (hf : DataW.trod enc Try.prog W base (fun _ => true) held fuel 22 [.slice a0 len0 cap0] = some x) (hz : ∀ n ∈ x.1.weights Try.prog 22, n ≤ 140737488355328) :
    ∃ F, Acts W W.heap.size a0 len0 F ∧ len0 ≤ cap0 ∧ cap0 ≤ maxLen := by
  have inh : Inhabited ActZ := ⟨⟨0, 0, 0, none, 0, 0, []⟩⟩
  rcases open_slice Try.underlying22 hf with ⟨hcs, _⟩ | ⟨a, len, cap, m, n, D, Pl, hcs, hb, hl, hm, hmm, hx, hall⟩
  · simp only [List.cons.injEq, and_true] at hcs
    injection hcs with e1 e2 e3
    subst e1 e2 e3
    exact ⟨fun _ => default, ⟨fun h => absurd h (by omega), fun j h => absurd h (by omega)⟩, Nat.le_refl _, by simp [maxLen]⟩
  · simp only [List.cons.injEq, and_true] at hcs
    injection hcs with e1 e2 e3
    subst e1 e2 e3
    simp only [if_true] at hmm
    subst hmm
    have each : ∀ i, i < len0 → ∃ f : ActZ, W.cells? base (a.add (i * 4)) 4 = some (aCells f) ∧ ActOk W W.heap.size f := by
      intro i hi
      obtain ⟨cs', h1, h2⟩ := hall i (by omega)
      rw [act_cells] at h1
      obtain ⟨f, rfl, hok⟩ := open_act h2 (fun k hk => by
        refine hz k ?_
        rw [hx]
        simp only [DataW.weights, Try.underlying22]
        refine List.mem_cons.2 (.inr (List.mem_append.2 (.inl ?_)))
        exact actWeights_mem _ i _ (by simp [hi]) _ hk)
      exact ⟨f, h1, hok⟩
    obtain ⟨F, hF⟩ := choose_lt each
    refine ⟨F, ⟨fun h0 => ?_, fun j hj => (hF j hj).2⟩, hl, hm⟩
    have hcell : ∀ j, j < len0 → ∀ i, i < 4 → W.cell? (a.add (j * 4 + i)) = (aCells (F j))[i]? := by
      intro j hj i hi
      have := (World.cells?_some (hF j hj).1).2.2 i hi
      rwa [add_add] at this
    obtain ⟨b, off, spot⟩ := a
    have h00 := hcell 0 h0 0 (by omega)
    have hs : spot = none := by
      have h1 : W.cell? ((⟨b, off, spot⟩ : Addr).add (0 * 4 + 0)) = some (.int .i64 (F 0).kind) := h00
      simpa [Addr.add] using World.cell?_spot h1
    subst hs
    refine ⟨b, off, rfl, ?_, fun j hj i u hu => ?_⟩
    · have h1 : W.cell? ((⟨b, off, none⟩ : Addr).add (0 * 4 + 0)) = some (.int .i64 (F 0).kind) := h00
      rw [Go.WideShapes.add_plain] at h1
      exact World.block_lt_of_cell? _ _ h1
    · have hi : i < 4 := by
        have := (List.getElem?_eq_some_iff.1 hu).1
        simpa [aCells] using this
      have := hcell j hj i hi
      rw [Go.WideShapes.add_plain, ← Nat.add_assoc, hu] at this
      exact this
end
end Go.Proofs.Ytlbmhkccmclmfaa
