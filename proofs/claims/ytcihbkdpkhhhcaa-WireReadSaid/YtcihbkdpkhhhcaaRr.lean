/- The document's own reader. -/
import Derived.Test.YtcihbkdpkhhhcaaAgainZ
import Derived.BigQuiet
namespace Go.Proofs.Ytcihbkdpkhhhcaa
open Go.ChangeShapes Go.WideShapes Go.ChangeAt Go.RowKit
set_option linter.unusedVariables false
open Plain
/-- Block b holds the document's reader: why it is bad, what is left of it. -/
structure Rr (w : World) (b B : Nat) (s : Int × List Int) : Prop where
  ex : ∃ (A : Option Addr) (len cap : Nat) (bs : List Int) (a : Nat), w.cell? ⟨b, 0, none⟩ = some (.slice A len cap) ∧ w.cell? ⟨b, 1, none⟩ = some (.int .i64 (a : Int)) ∧ w.cell? ⟨b, 2, none⟩ = some (.int .i64 s.1) ∧
    Bs w B A len bs ∧ len ≤ cap ∧ a ≤ len ∧ len ≤ 65536 ∧ (s.1 = 0 → s.2 = bs.drop a) ∧ (s.1 ≠ 0 → s.2 = [])
  f1 : w.frozen? ⟨b, 1, none⟩ = false
  f2 : w.frozen? ⟨b, 2, none⟩ = false
  le : B ≤ b
section
variable {w w' : World} {b B : Nat} {s : Int × List Int}
theorem Rr.lt (h : Rr w b B s) : b < w.heap.size := by
  obtain ⟨A, len, cap, bs, a, c0, _⟩ := h.ex
  exact World.block_lt_of_cell? _ _ c0
theorem Rr.keep (h : Rr w b B s) (hb : w'.heap[b]? = w.heap[b]?) (hB : ∀ k, k < B → w'.heap[k]? = w.heap[k]?) : Rr w' b B s := by
  obtain ⟨⟨A, len, cap, bs, a, c0, c1, c2, hz, r⟩, f1, f2, hle⟩ := h
  exact ⟨⟨A, len, cap, bs, a, (World.cell?_of_block (a := ⟨b, 0, none⟩) hb).trans c0, (World.cell?_of_block (a := ⟨b, 1, none⟩) hb).trans c1, (World.cell?_of_block (a := ⟨b, 2, none⟩) hb).trans c2,
    hz.keep (fun p hp => World.cell?_of_block (hB p.block hp)), r⟩, (World.frozen?_of_block (a := ⟨b, 1, none⟩) hb).trans f1, (World.frozen?_of_block (a := ⟨b, 2, none⟩) hb).trans f2, hle⟩
theorem Rr.below {B' : Nat} (h : Rr w b B s) (hb : Below B' w w') (hB : b < B') : Rr w' b B s :=
  h.keep (hb.block b hB) (fun k hk => hb.block k (by have := h.le; omega))
theorem Rr.grown {r : Option Nat} (h : Rr w b B s) (hg : w.grownBy w' r) (hr : ∀ k, r = some k → k ≠ b ∧ B ≤ k) : Rr w' b B s :=
  h.keep (hg.block b h.lt (fun e => (hr b e.symm).1 rfl)) (fun k hk => hg.block k (by have := h.lt; have := h.le; omega) (fun e => by have := (hr k e.symm).2; omega))
theorem Rr.small (h : Rr w b B s) : s.2.length ≤ 65536 := by
  obtain ⟨A, len, cap, bs, a, _, _, _, hz, _, _, h5, hg, hb⟩ := h.ex
  by_cases h0 : s.1 = 0
  · rw [hg h0, List.length_drop, hz.len]; omega
  · rw [hb h0]; simp
theorem Rr.isBytes (h : Rr w b B s) : IsBytes s.2 := by
  obtain ⟨A, len, cap, bs, a, _, _, _, hz, _, _, h5, hg, hb⟩ := h.ex
  by_cases h0 : s.1 = 0
  · rw [hg h0]; have := hz.isBytes; rw [isBytes_iff] at *; exact fun z hz => this z (List.mem_of_mem_drop hz)
  · rw [hb h0]; exact IsBytes.nil
/-- It is bad from now on. -/
theorem Rr.spoil (h : Rr w b B s) (x : Int) (hx : x ≠ 0) : Rr (w.setCell ⟨b, 2, none⟩ (.int .i64 x)) b B (x, []) := by
  obtain ⟨⟨A, len, cap, bs, a, c0, c1, c2, hz, h1, h2, h3, _, _⟩, f1, f2, hle⟩ := h
  refine ⟨⟨A, len, cap, bs, a, ?_, ?_, World.cell?_setCell_same _ _ _ c2, hz.setCell hle _, h1, h2, h3, fun e => absurd e hx, fun _ => rfl⟩, ?_, ?_, hle⟩
  · rw [World.cell?_setCell_other _ _ _ _ (by simp)]; exact c0
  · rw [World.cell?_setCell_other _ _ _ _ (by simp)]; exact c1
  · rw [World.frozen?_setCell]; exact f1
  · rw [World.frozen?_setCell]; exact f2
end
def RReads (w : World) (b B : Nat) (v : Value) (s : Int × List Int) (e : Ending) (w' : World) : Prop := e = .returned v ∧ Rr w' b B s ∧ w.grownBy w' (some b)
set_option maxRecDepth 100000 in
set_option maxHeartbeats 2000000 in
theorem rsome_ok {w : World} {b B : Nat} {rest : List Int} (h : Rr w b B (0, rest)) (k : Nat) (hk : k ≤ rest.length) :
    Calls Try.prog 69 #[.pointer (some ⟨b, 0, none⟩), .int .i64 (k : Int)] w fun e w' => ∃ x, e = .returned (.tuple #[x, .bool true]) ∧ IsList x w' w.heap.size (rest.take k) ∧ Rr w' b B (0, rest.drop k) ∧ w.grownBy w' (some b) := by
  have hlt := h.lt
  obtain ⟨⟨A, len, cap, bs, a, c0, c1, c2, hz, hlc, hal, hl6, hgood, _⟩, f1, f2, hle⟩ := h
  have hr : rest = bs.drop a := hgood rfl
  have hlr : rest.length = len - a := by rw [hr, List.length_drop, hz.len]
  obtain ⟨M, hM⟩ : ∃ M, len - a = M := ⟨_, rfl⟩
  obtain ⟨P, hP⟩ : ∃ P, a + k = P := ⟨_, rfl⟩
  have g1 : IntKind.i64.wrap ((len : Int) - (a : Int)) = (M : Int) := by rw [IntKind.wrap_i64]; omega
  have g2 : ¬ (M : Int) < (k : Int) := by omega
  have g3 : IntKind.i64.wrap ((a : Int) + (k : Int)) = (P : Int) := by rw [IntKind.wrap_i64]; omega
  have g4 : IntKind.i64.wrap ((P : Int) - (k : Int)) = (a : Int) := by rw [IntKind.wrap_i64]; omega
  obtain ⟨A', hs, hcut⟩ := cut_lh A len cap a P (a : Int) (P : Int) rfl rfl (by omega) (by omega)
  rw [show P - a = k by omega] at hs hcut
  have HZ : Hid (Bs w B A len bs) := Lib.hid hz
  have HR : Hid ((bs.drop a).take k = rest.take k) := Lib.hid (by rw [hr])
  have HD : Hid (bs.drop P = rest.drop k) := Lib.hid (by rw [hr, List.drop_drop, hP])
  have LT : Hid ((rest.take k).length = k) := Lib.hid (by rw [List.length_take]; omega)
  have HCut := Lib.hid hcut
  have HS := Lib.hid hs
  have HP6 : Hid (P ≤ len ∧ a + k ≤ len) := Lib.hid (by omega)
  have Hl6 := Lib.hid hl6
  have HLC := Lib.hid hlc
  have HLE := Lib.hid hle
  have HC2 := Lib.hid c2
  have HC0 := Lib.hid c0
  have HF1 := Lib.hid f1
  have HF2 := Lib.hid f2
  have hk6 : k ≤ 65536 := by omega
  clear hz hgood hr hlr hcut hs hM hP hlc hal hl6
  go_enter Try.func69, Try.ntmps69
  go_wp2_with fail
  go_quiet (fail)
  have e1 : (decide (M < k)) = false := decide_eq_false (by omega)
  obtain ⟨w1, hw1⟩ : ∃ w1, w.drewN nq = w1 := ⟨_, rfl⟩
  have D1 : Hid (w.drewN nq = w1) := Lib.hid hw1
  have d0 : w1.cell? ⟨b, 0, none⟩ = some (.slice A len cap) := by rw [← hw1]; exact HC0.out
  have d1 : w1.cell? ⟨b, 1, none⟩ = some (.int .i64 (a : Int)) := by rw [← hw1]; exact c1
  have d2 : Hid (w1.cell? ⟨b, 2, none⟩ = some (.int .i64 0)) := Lib.hid (by rw [← hw1]; exact HC2.out)
  have d3 : w1.frozen? ⟨b, 1, none⟩ = false := by rw [← hw1]; exact f1
  have HD3 := Lib.hid d3
  have HD1 := Lib.hid d1
  have HD0 := Lib.hid d0
  have d4 : Hid (w1.frozen? ⟨b, 2, none⟩ = false) := Lib.hid (by rw [← hw1]; exact HF2.out)
  have d5 : Hid (b < w1.heap.size) := Lib.hid (by rw [← hw1]; exact hlt)
  have d6 : Hid (Bs w1 B A len bs) := Lib.hid (by rw [← hw1]; exact HZ.out.drewN _)
  have d7 : Hid (w.grownBy w1 (some b)) := Lib.hid (by rw [← hw1]; exact Go.Proofs.Ytcihbkdpkhhhcaa.grown_drewN _ _ _)
  rw [hw1]
  rw [e1]
  clear c0 c1 c2 f1 f2 hw1 HC0 HC2 HF1 HF2 HZ e1
  go_upto_region 7 with fail
  obtain ⟨w2, hw2⟩ : ∃ w2, w1.setCell ⟨b, 1, none⟩ (.int .i64 (P : Int)) = w2 := ⟨_, rfl⟩
  rw [hw2]
  have x0 : w2.cell? ⟨b, 0, none⟩ = some (.slice A len cap) := by rw [← hw2, World.cell?_setCell_other _ _ _ _ (by simp)]; exact HD0.out
  have x1 : w2.cell? ⟨b, 1, none⟩ = some (.int .i64 (P : Int)) := by rw [← hw2]; exact World.cell?_setCell_same _ _ _ HD1.out
  have x2 : Hid (w2.cell? ⟨b, 2, none⟩ = some (.int .i64 0)) := Lib.hid (by rw [← hw2, World.cell?_setCell_other _ _ _ _ (by simp)]; exact d2.out)
  have x3 : Hid (w2.frozen? ⟨b, 1, none⟩ = false ∧ w2.frozen? ⟨b, 2, none⟩ = false) := Lib.hid (by rw [← hw2, World.frozen?_setCell, World.frozen?_setCell]; exact ⟨HD3.out, d4.out⟩)
  have x5 : Hid (b < w2.heap.size ∧ w2.heap.size = w1.heap.size) := Lib.hid (by rw [← hw2]; simp; exact d5.out)
  have x6 : Hid (Bs w2 B A len bs) := Lib.hid (by rw [← hw2]; exact d6.out.setCell HLE.out _)
  have x7 : Hid (w.grownBy w2 (some b)) := Lib.hid (grown_trans d7.out (by rw [← hw2]; exact grown_cell _ _ _))
  clear d0 d1 d3 hw2 D1 d2 HD3 HD1 HD0 d4 d6
  have hs := HS.out
  have X0 := Lib.hid x0
  have X1 := Lib.hid x1
  have zk : Hid (Bs w2 B A' k (rest.take k)) := Lib.hid (by
    have := x6.out.cut (k := a) (m := k) HP6.out.2 A' HCut.out
    rwa [HR.out] at this)
  have C1 : Hid (Calls Try.prog 9 #[.slice A' k (cap - a)] w2.drew (Made w2.drew (rest.take k))) := Lib.hid (refcopy_any (cap - a) zk.out.drew (by have := x5.out.1; have := HLE.out; show B ≤ w2.heap.size; omega) (by omega))
  go_region_held3 (fun w' => w'.cell? ⟨b, 0, none⟩ = some (.slice A len cap) ∧ w'.cell? ⟨b, 1, none⟩ = some (.int .i64 (P : Int)))
    (first
      | (exact ⟨X0.out, X1.out⟩)
      | (exact ⟨y0, y1⟩))
    ((first
      | (go_at_call 9; refine C1.out.mono ?_; intro e w3 hm3; obtain ⟨D, d, rfl, o3, b3, h3, h3'⟩ := hm3.n LT.out; have y0 : w3.cell? ⟨b, 0, none⟩ = some (.slice A len cap) := (b3.cell (p := ⟨b, 0, none⟩) x5.out.1).trans X0.out; have y1 : w3.cell? ⟨b, 1, none⟩ = some (.int .i64 (P : Int)) := (b3.cell (p := ⟨b, 1, none⟩) x5.out.1).trans X1.out)))
  have b3' : Hid (Below w2.heap.size w2 w3) := Lib.hid (((Below.refl w2.heap.size w2).drew).trans b3)
  have L3 : Hid (IsList (.slice D k d) w3 w.heap.size (rest.take k)) := Lib.hid ⟨D, d, by rw [LT.out], by rw [LT.out]; exact own_base o3 x7.out.size, by rw [LT.out]; exact h3, h3'⟩
  have G3 : Hid (w.grownBy w3 (some b)) := Lib.hid (grown_trans x7.out (grown_of_below b3'.out _))
  have R3 : Hid (Rr w3 b B (0, rest.drop k)) := Lib.hid ⟨⟨A, len, cap, bs, P, y0, y1, (b3'.out.cell (p := ⟨b, 2, none⟩) x5.out.1).trans x2.out, x6.out.belowM b3'.out (by have := x5.out.1; have := HLE.out; omega), HLC.out, HP6.out.1, Hl6.out, fun _ => HD.out.symm, fun e => absurd rfl e⟩,
    (World.frozen?_of_block (a := ⟨b, 1, none⟩) (b3'.out.block b x5.out.1)).trans x3.out.1, (World.frozen?_of_block (a := ⟨b, 2, none⟩) (b3'.out.block b x5.out.1)).trans x3.out.2, HLE.out⟩
  clear y0 y1 b3 o3 hm3
  go_wp2
  go_ret2
  exact ⟨_, rfl, L3.out, R3.out, G3.out⟩
theorem rsome_bad {w : World} {b B : Nat} {why : Int} {rest : List Int} (h : Rr w b B (why, rest)) (hw : why ≠ 0) (k : Int) :
    Calls Try.prog 69 #[.pointer (some ⟨b, 0, none⟩), .int .i64 k] w fun e w' => e = .returned (.tuple #[.slice none 0 0, .bool false]) ∧ Rr w' b B (why, []) ∧ w.grownBy w' (some b) := by
  have hrest : rest = [] := by
    obtain ⟨A, len, cap, bs, a, _, _, _, _, _, _, _, _, hb⟩ := h.ex
    exact hb hw
  subst hrest
  have HR := Lib.hid h
  obtain ⟨⟨A, len, cap, bs, a, c0, c1, c2, hz, hlc, hal, hl6, hgood, _⟩, f1, f2, hle⟩ := h
  have c2 : w.cell? ⟨b, 2, none⟩ = some (.int .i64 why) := c2
  clear hgood hz
  go_enter Try.func69, Try.ntmps69
  go_wp2
  go_ret2
  exact ⟨rfl, HR.out, grown_refl _ _⟩
theorem rsome_short {w : World} {b B : Nat} {rest : List Int} (h : Rr w b B (0, rest)) (k : Nat) (hk : rest.length < k) (hk6 : k ≤ 100000) :
    Calls Try.prog 69 #[.pointer (some ⟨b, 0, none⟩), .int .i64 (k : Int)] w fun e w' => e = .returned (.tuple #[.slice none 0 0, .bool false]) ∧ Rr w' b B (40, []) ∧ w.grownBy w' (some b) := by
  have HR := Lib.hid h
  obtain ⟨⟨A, len, cap, bs, a, c0, c1, c2, hz, hlc, hal, hl6, hgood, _⟩, f1, f2, hle⟩ := h
  have hr : rest = bs.drop a := hgood rfl
  have hlr : rest.length = len - a := by rw [hr, List.length_drop, hz.len]
  obtain ⟨M, hM⟩ : ∃ M, len - a = M := ⟨_, rfl⟩
  have g1 : IntKind.i64.wrap ((len : Int) - (a : Int)) = (M : Int) := by rw [IntKind.wrap_i64]; omega
  have hMk : M < k := by omega
  have HMk := Lib.hid hMk
  have HF2 := Lib.hid f2
  have HC2 := Lib.hid c2
  clear hz hgood hr hlr hM
  go_enter Try.func69, Try.ntmps69
  go_wp2_with fail
  go_quiet (fail)
  have d2 : (w.drewN nq).cell? ⟨b, 2, none⟩ = some (.int .i64 0) := HC2.out
  have d3 : (w.drewN nq).frozen? ⟨b, 2, none⟩ = false := HF2.out
  have R1 : Hid (Rr (w.drewN nq) b B (0, rest)) := Lib.hid (HR.out.keep rfl (fun _ _ => rfl))
  obtain ⟨w1, hw1⟩ : ∃ w1, w.drewN nq = w1 := ⟨_, rfl⟩
  have D7 : Hid (w.grownBy w1 (some b)) := Lib.hid (by rw [← hw1]; exact Go.Proofs.Ytcihbkdpkhhhcaa.grown_drewN _ _ _)
  rw [hw1] at d2 d3 R1 ⊢
  clear hw1 c0 c1 c2 f1 f2 HC2 HF2
  go_wp2
  go_ret2
  exact ⟨rfl, R1.out.spoil 40 (by decide), grown_trans D7.out (grown_cell _ _ _)⟩
end Go.Proofs.Ytcihbkdpkhhhcaa
