/- Texts of the proof, one behind the other: Rr Rrs Rrc Rrt WBack RBytes WForm. -/
import Derived.Test.YtfihiandifnkpaaB3
import Derived.BigQuiet
import Derived.Deep.Cut
import Derived.Test.YtfihiandifnkpaaB1
/- The document's own reader. -/
namespace Go.Proofs.Ytfihiandifnkpaa
open Go.ChangeShapes Go.WideShapes Go.ChangeAt Go.RowKit
set_option linter.unusedVariables false
open Plain
/-- Block b holds the document's reader: why it is bad, what is left of it. -/
structure Rr (w : World) (b B : Nat) (s : Int × List Int) : Prop where
  ex : ∃ (A : Option Addr) (len cap : Nat) (bs : List Int) (a : Nat), w.cell? ⟨b, 0, none⟩ = some (.slice A len cap) ∧ w.cell? ⟨b, 1, none⟩ = some (.int .i64 (a : Int)) ∧ w.cell? ⟨b, 2, none⟩ = some (.int .i64 s.1) ∧
    Bs w B A len bs ∧ len ≤ cap ∧ a ≤ len ∧ len ≤ 65536 ∧ (s.1 = 0 → s.2 = bs.drop a) ∧ (s.1 ≠ 0 → s.2 = [])
  f1 : w.frozen? ⟨b, 1, none⟩ = false
  f2 : w.frozen? ⟨b, 2, none⟩ = false
  le : B ≤ b
section
variable {w w' : World} {b B : Nat} {s : Int × List Int}
theorem Rr.lt (h : Rr w b B s) : b < w.heap.size := by
  obtain ⟨A, len, cap, bs, a, c0, _⟩ := h.ex
  exact World.block_lt_of_cell? _ _ c0
theorem Rr.keep (h : Rr w b B s) (hb : w'.heap[b]? = w.heap[b]?) (hB : ∀ k, k < B → w'.heap[k]? = w.heap[k]?) : Rr w' b B s := by
  obtain ⟨⟨A, len, cap, bs, a, c0, c1, c2, hz, r⟩, f1, f2, hle⟩ := h
  exact ⟨⟨A, len, cap, bs, a, (World.cell?_of_block (a := ⟨b, 0, none⟩) hb).trans c0, (World.cell?_of_block (a := ⟨b, 1, none⟩) hb).trans c1, (World.cell?_of_block (a := ⟨b, 2, none⟩) hb).trans c2,
    hz.keep (fun p hp => World.cell?_of_block (hB p.block hp)), r⟩, (World.frozen?_of_block (a := ⟨b, 1, none⟩) hb).trans f1, (World.frozen?_of_block (a := ⟨b, 2, none⟩) hb).trans f2, hle⟩
theorem Rr.below {B' : Nat} (h : Rr w b B s) (hb : Below B' w w') (hB : b < B') : Rr w' b B s :=
  h.keep (hb.block b hB) (fun k hk => hb.block k (by have := h.le; omega))
theorem Rr.grown {r : Option Nat} (h : Rr w b B s) (hg : w.grownBy w' r) (hr : ∀ k, r = some k → k ≠ b ∧ B ≤ k) : Rr w' b B s :=
  h.keep (hg.block b h.lt (fun e => (hr b e.symm).1 rfl)) (fun k hk => hg.block k (by have := h.lt; have := h.le; omega) (fun e => by have := (hr k e.symm).2; omega))
theorem Rr.small (h : Rr w b B s) : s.2.length ≤ 65536 := by
  obtain ⟨A, len, cap, bs, a, _, _, _, hz, _, _, h5, hg, hb⟩ := h.ex
  by_cases h0 : s.1 = 0
  · rw [hg h0, List.length_drop, hz.len]; omega
  · rw [hb h0]; simp
theorem Rr.isBytes (h : Rr w b B s) : IsBytes s.2 := by
  obtain ⟨A, len, cap, bs, a, _, _, _, hz, _, _, h5, hg, hb⟩ := h.ex
  by_cases h0 : s.1 = 0
  · rw [hg h0]; have := hz.isBytes; rw [isBytes_iff] at *; exact fun z hz => this z (List.mem_of_mem_drop hz)
  · rw [hb h0]; exact IsBytes.nil
/-- It is bad from now on. -/
theorem Rr.spoil (h : Rr w b B s) (x : Int) (hx : x ≠ 0) : Rr (w.setCell ⟨b, 2, none⟩ (.int .i64 x)) b B (x, []) := by
  obtain ⟨⟨A, len, cap, bs, a, c0, c1, c2, hz, h1, h2, h3, _, _⟩, f1, f2, hle⟩ := h
  refine ⟨⟨A, len, cap, bs, a, ?_, ?_, World.cell?_setCell_same _ _ _ c2, hz.setCell hle _, h1, h2, h3, fun e => absurd e hx, fun _ => rfl⟩, ?_, ?_, hle⟩
  · rw [World.cell?_setCell_other _ _ _ _ (by simp)]; exact c0
  · rw [World.cell?_setCell_other _ _ _ _ (by simp)]; exact c1
  · rw [World.frozen?_setCell]; exact f1
  · rw [World.frozen?_setCell]; exact f2
end
def RReads (w : World) (b B : Nat) (v : Value) (s : Int × List Int) (e : Ending) (w' : World) : Prop := e = .returned v ∧ Rr w' b B s ∧ w.grownBy w' (some b)
set_option maxRecDepth 100000 in
set_option maxHeartbeats 2000000 in
theorem rsome_ok {w : World} {b B : Nat} {rest : List Int} (h : Rr w b B (0, rest)) (k : Nat) (hk : k ≤ rest.length) :
    Calls Try.prog 76 #[.pointer (some ⟨b, 0, none⟩), .int .i64 (k : Int)] w fun e w' => ∃ x, e = .returned (.tuple #[x, .bool true]) ∧ IsList x w' w.heap.size (rest.take k) ∧ Rr w' b B (0, rest.drop k) ∧ w.grownBy w' (some b) := by
  have hlt := h.lt
  obtain ⟨⟨A, len, cap, bs, a, c0, c1, c2, hz, hlc, hal, hl6, hgood, _⟩, f1, f2, hle⟩ := h
  have hr : rest = bs.drop a := hgood rfl
  have hlr : rest.length = len - a := by rw [hr, List.length_drop, hz.len]
  obtain ⟨M, hM⟩ : ∃ M, len - a = M := ⟨_, rfl⟩
  obtain ⟨P, hP⟩ : ∃ P, a + k = P := ⟨_, rfl⟩
  have g1 : IntKind.i64.wrap ((len : Int) - (a : Int)) = (M : Int) := by rw [IntKind.wrap_i64]; omega
  have g2 : ¬ (M : Int) < (k : Int) := by omega
  have g3 : IntKind.i64.wrap ((a : Int) + (k : Int)) = (P : Int) := by rw [IntKind.wrap_i64]; omega
  have g4 : IntKind.i64.wrap ((P : Int) - (k : Int)) = (a : Int) := by rw [IntKind.wrap_i64]; omega
  obtain ⟨A', hs, hcut⟩ := cut_lh A len cap a P (a : Int) (P : Int) rfl rfl (by omega) (by omega)
  rw [show P - a = k by omega] at hs hcut
  have HZ : Hid (Bs w B A len bs) := Lib.hid hz
  have HR : Hid ((bs.drop a).take k = rest.take k) := Lib.hid (by rw [hr])
  have HD : Hid (bs.drop P = rest.drop k) := Lib.hid (by rw [hr, List.drop_drop, hP])
  have LT : Hid ((rest.take k).length = k) := Lib.hid (by rw [List.length_take]; omega)
  have HCut := Lib.hid hcut
  have HS := Lib.hid hs
  have HP6 : Hid (P ≤ len ∧ a + k ≤ len) := Lib.hid (by omega)
  have Hl6 := Lib.hid hl6
  have HLC := Lib.hid hlc
  have HLE := Lib.hid hle
  have HC2 := Lib.hid c2
  have HC0 := Lib.hid c0
  have HF1 := Lib.hid f1
  have HF2 := Lib.hid f2
  have hk6 : k ≤ 65536 := by omega
  clear hz hgood hr hlr hcut hs hM hP hlc hal hl6
  go_enter Try.func76, Try.ntmps76
  go_wp2_with fail
  go_quiet (fail)
  have e1 : (decide (M < k)) = false := decide_eq_false (by omega)
  obtain ⟨w1, hw1⟩ : ∃ w1, w.drewN nq = w1 := ⟨_, rfl⟩
  have D1 : Hid (w.drewN nq = w1) := Lib.hid hw1
  have d0 : w1.cell? ⟨b, 0, none⟩ = some (.slice A len cap) := by rw [← hw1]; exact HC0.out
  have d1 : w1.cell? ⟨b, 1, none⟩ = some (.int .i64 (a : Int)) := by rw [← hw1]; exact c1
  have d2 : Hid (w1.cell? ⟨b, 2, none⟩ = some (.int .i64 0)) := Lib.hid (by rw [← hw1]; exact HC2.out)
  have d3 : w1.frozen? ⟨b, 1, none⟩ = false := by rw [← hw1]; exact f1
  have HD3 := Lib.hid d3
  have HD1 := Lib.hid d1
  have HD0 := Lib.hid d0
  have d4 : Hid (w1.frozen? ⟨b, 2, none⟩ = false) := Lib.hid (by rw [← hw1]; exact HF2.out)
  have d5 : Hid (b < w1.heap.size) := Lib.hid (by rw [← hw1]; exact hlt)
  have d6 : Hid (Bs w1 B A len bs) := Lib.hid (by rw [← hw1]; exact HZ.out.drewN _)
  have d7 : Hid (w.grownBy w1 (some b)) := Lib.hid (by rw [← hw1]; exact Go.Proofs.Ytfihiandifnkpaa.grown_drewN _ _ _)
  rw [hw1]
  rw [e1]
  clear c0 c1 c2 f1 f2 hw1 HC0 HC2 HF1 HF2 HZ e1
  go_upto_region 7 with fail
  obtain ⟨w2, hw2⟩ : ∃ w2, w1.setCell ⟨b, 1, none⟩ (.int .i64 (P : Int)) = w2 := ⟨_, rfl⟩
  rw [hw2]
  have x0 : w2.cell? ⟨b, 0, none⟩ = some (.slice A len cap) := by rw [← hw2, World.cell?_setCell_other _ _ _ _ (by simp)]; exact HD0.out
  have x1 : w2.cell? ⟨b, 1, none⟩ = some (.int .i64 (P : Int)) := by rw [← hw2]; exact World.cell?_setCell_same _ _ _ HD1.out
  have x2 : Hid (w2.cell? ⟨b, 2, none⟩ = some (.int .i64 0)) := Lib.hid (by rw [← hw2, World.cell?_setCell_other _ _ _ _ (by simp)]; exact d2.out)
  have x3 : Hid (w2.frozen? ⟨b, 1, none⟩ = false ∧ w2.frozen? ⟨b, 2, none⟩ = false) := Lib.hid (by rw [← hw2, World.frozen?_setCell, World.frozen?_setCell]; exact ⟨HD3.out, d4.out⟩)
  have x5 : Hid (b < w2.heap.size ∧ w2.heap.size = w1.heap.size) := Lib.hid (by rw [← hw2]; simp; exact d5.out)
  have x6 : Hid (Bs w2 B A len bs) := Lib.hid (by rw [← hw2]; exact d6.out.setCell HLE.out _)
  have x7 : Hid (w.grownBy w2 (some b)) := Lib.hid (grown_trans d7.out (by rw [← hw2]; exact grown_cell _ _ _))
  clear d0 d1 d3 hw2 D1 d2 HD3 HD1 HD0 d4 d6
  have hs := HS.out
  have X0 := Lib.hid x0
  have X1 := Lib.hid x1
  have zk : Hid (Bs w2 B A' k (rest.take k)) := Lib.hid (by
    have := x6.out.cut (k := a) (m := k) HP6.out.2 A' HCut.out
    rwa [HR.out] at this)
  have C1 : Hid (Calls Try.prog 16 #[.slice A' k (cap - a)] w2.drew (Made w2.drew (rest.take k))) := Lib.hid (refcopy_any (cap - a) zk.out.drew (by have := x5.out.1; have := HLE.out; show B ≤ w2.heap.size; omega) (by omega))
  go_region_held3 (fun w' => w'.cell? ⟨b, 0, none⟩ = some (.slice A len cap) ∧ w'.cell? ⟨b, 1, none⟩ = some (.int .i64 (P : Int)))
    (first
      | (exact ⟨X0.out, X1.out⟩)
      | (exact ⟨y0, y1⟩))
    ((first
      | (go_at_call 16; refine C1.out.mono ?_; intro e w3 hm3; obtain ⟨D, d, rfl, o3, b3, h3, h3'⟩ := hm3.n LT.out; have y0 : w3.cell? ⟨b, 0, none⟩ = some (.slice A len cap) := (b3.cell (p := ⟨b, 0, none⟩) x5.out.1).trans X0.out; have y1 : w3.cell? ⟨b, 1, none⟩ = some (.int .i64 (P : Int)) := (b3.cell (p := ⟨b, 1, none⟩) x5.out.1).trans X1.out)))
  have b3' : Hid (Below w2.heap.size w2 w3) := Lib.hid (((Below.refl w2.heap.size w2).drew).trans b3)
  have L3 : Hid (IsList (.slice D k d) w3 w.heap.size (rest.take k)) := Lib.hid ⟨D, d, by rw [LT.out], by rw [LT.out]; exact own_base o3 x7.out.size, by rw [LT.out]; exact h3, h3'⟩
  have G3 : Hid (w.grownBy w3 (some b)) := Lib.hid (grown_trans x7.out (grown_of_below b3'.out _))
  have R3 : Hid (Rr w3 b B (0, rest.drop k)) := Lib.hid ⟨⟨A, len, cap, bs, P, y0, y1, (b3'.out.cell (p := ⟨b, 2, none⟩) x5.out.1).trans x2.out, x6.out.belowM b3'.out (by have := x5.out.1; have := HLE.out; omega), HLC.out, HP6.out.1, Hl6.out, fun _ => HD.out.symm, fun e => absurd rfl e⟩,
    (World.frozen?_of_block (a := ⟨b, 1, none⟩) (b3'.out.block b x5.out.1)).trans x3.out.1, (World.frozen?_of_block (a := ⟨b, 2, none⟩) (b3'.out.block b x5.out.1)).trans x3.out.2, HLE.out⟩
  clear y0 y1 b3 o3 hm3
  go_wp2
  go_ret2
  exact ⟨_, rfl, L3.out, R3.out, G3.out⟩
theorem rsome_bad {w : World} {b B : Nat} {why : Int} {rest : List Int} (h : Rr w b B (why, rest)) (hw : why ≠ 0) (k : Int) :
    Calls Try.prog 76 #[.pointer (some ⟨b, 0, none⟩), .int .i64 k] w fun e w' => e = .returned (.tuple #[.slice none 0 0, .bool false]) ∧ Rr w' b B (why, []) ∧ w.grownBy w' (some b) := by
  have hrest : rest = [] := by
    obtain ⟨A, len, cap, bs, a, _, _, _, _, _, _, _, _, hb⟩ := h.ex
    exact hb hw
  subst hrest
  have HR := Lib.hid h
  obtain ⟨⟨A, len, cap, bs, a, c0, c1, c2, hz, hlc, hal, hl6, hgood, _⟩, f1, f2, hle⟩ := h
  have c2 : w.cell? ⟨b, 2, none⟩ = some (.int .i64 why) := c2
  clear hgood hz
  go_enter Try.func76, Try.ntmps76
  go_wp2
  go_ret2
  exact ⟨rfl, HR.out, grown_refl _ _⟩
theorem rsome_short {w : World} {b B : Nat} {rest : List Int} (h : Rr w b B (0, rest)) (k : Nat) (hk : rest.length < k) (hk6 : k ≤ 100000) :
    Calls Try.prog 76 #[.pointer (some ⟨b, 0, none⟩), .int .i64 (k : Int)] w fun e w' => e = .returned (.tuple #[.slice none 0 0, .bool false]) ∧ Rr w' b B (40, []) ∧ w.grownBy w' (some b) := by
  have HR := Lib.hid h
  obtain ⟨⟨A, len, cap, bs, a, c0, c1, c2, hz, hlc, hal, hl6, hgood, _⟩, f1, f2, hle⟩ := h
  have hr : rest = bs.drop a := hgood rfl
  have hlr : rest.length = len - a := by rw [hr, List.length_drop, hz.len]
  obtain ⟨M, hM⟩ : ∃ M, len - a = M := ⟨_, rfl⟩
  have g1 : IntKind.i64.wrap ((len : Int) - (a : Int)) = (M : Int) := by rw [IntKind.wrap_i64]; omega
  have hMk : M < k := by omega
  have HMk := Lib.hid hMk
  have HF2 := Lib.hid f2
  have HC2 := Lib.hid c2
  clear hz hgood hr hlr hM
  go_enter Try.func76, Try.ntmps76
  go_wp2_with fail
  go_quiet (fail)
  have d2 : (w.drewN nq).cell? ⟨b, 2, none⟩ = some (.int .i64 0) := HC2.out
  have d3 : (w.drewN nq).frozen? ⟨b, 2, none⟩ = false := HF2.out
  have R1 : Hid (Rr (w.drewN nq) b B (0, rest)) := Lib.hid (HR.out.keep rfl (fun _ _ => rfl))
  obtain ⟨w1, hw1⟩ : ∃ w1, w.drewN nq = w1 := ⟨_, rfl⟩
  have D7 : Hid (w.grownBy w1 (some b)) := Lib.hid (by rw [← hw1]; exact Go.Proofs.Ytfihiandifnkpaa.grown_drewN _ _ _)
  rw [hw1] at d2 d3 R1 ⊢
  clear hw1 c0 c1 c2 f1 f2 HC2 HF2
  go_wp2
  go_ret2
  exact ⟨rfl, R1.out.spoil 40 (by decide), grown_trans D7.out (grown_cell _ _ _)⟩
end Go.Proofs.Ytfihiandifnkpaa
/- What the document's own reader tells. -/
namespace Go.Proofs.Ytfihiandifnkpaa
open Go.ChangeShapes Go.WideShapes Go.ChangeAt Go.RowKit
set_option linter.unusedVariables false
open Plain
section
variable {w : World} {b B : Nat} {why : Int} {rest : List Int}
theorem Rr.nil (h : Rr w b B (why, rest)) (hw : why ≠ 0) : rest = [] := by
  obtain ⟨A, len, cap, bs, a, _, _, _, _, _, _, _, _, hb⟩ := h.ex
  exact hb hw
theorem end_rr (h : Rr w b B (why, rest)) : Calls Try.prog 55 #[.pointer (some ⟨b, 0, none⟩)] w (Quiet (.int .i64 (endZ why rest)) w) := by
  obtain ⟨⟨A, len, cap, bs, a, c0, c1, c2, hz, hlc, hal, hl6, hgood, hbad⟩, f1, f2, hle⟩ := h
  have c2 : w.cell? ⟨b, 2, none⟩ = some (.int .i64 why) := c2
  by_cases hw : why = 0
  · have hr : rest = bs.drop a := hgood hw
    have hlr : rest.length = len - a := by rw [hr, List.length_drop, hz.len]
    subst hw
    by_cases hl : a < len
    · have HE : Hid (endZ 0 rest = 40) := Lib.hid (by unfold endZ; rw [if_neg (by simp), if_neg (by omega)])
      have e1 : decide (a < len) = true := decide_eq_true hl
      have hlI : (a : Int) < (len : Int) := by omega
      have e2 : decide ((a : Int) < (len : Int)) = true := decide_eq_true hlI
      clear hz hgood hbad hr hlr hl hlI
      go_enter Try.func55, Try.ntmps55
      go_wp2_with fail
      go_quiet (fail)
      go_wp2
      go_ret
      exact ⟨(by rw [HE.out] <;> rfl), _, rfl⟩
    · have HE : Hid (endZ 0 rest = 0) := Lib.hid (by unfold endZ; rw [if_neg (by simp), if_pos (by omega)])
      have e1 : decide (a < len) = false := decide_eq_false hl
      have hlI : ¬ (a : Int) < (len : Int) := by omega
      have e2 : decide ((a : Int) < (len : Int)) = false := decide_eq_false hlI
      clear hz hgood hbad hr hlr hl hlI
      go_enter Try.func55, Try.ntmps55
      go_wp2_with fail
      go_quiet (fail)
      have c2' : (w.drewN nq).cell? ⟨b, 2, none⟩ = some (.int .i64 0) := c2
      go_wp2
      go_ret
      exact ⟨(by rw [HE.out] <;> rfl), _, rfl⟩
  · have HE : Hid (endZ why rest = why) := Lib.hid (by unfold endZ; rw [if_pos hw])
    have e1 : (why == 0) = false := by simpa using hw
    clear hz hgood hbad
    go_enter Try.func55, Try.ntmps55
    go_wp2_with fail
    go_quiet (fail)
    have c2' : (w.drewN nq).cell? ⟨b, 2, none⟩ = some (.int .i64 why) := c2
    go_wp2
    go_ret
    exact ⟨(by rw [HE.out] <;> rfl), _, rfl⟩
theorem byte_rr (h : Rr w b B (why, rest)) : Calls Try.prog 49 #[.pointer (some ⟨b, 0, none⟩)] w (RReads w b B (.int .u8 (rByte (why, rest)).1) (rByte (why, rest)).2) := by
  by_cases hw : why = 0
  · subst hw
    by_cases hl : rest.length < 1
    · have C1 := Lib.hid (rsome_short h 1 hl (by omega))
      rw [show rByte (0, rest) = (0, 40, []) from tk_short 1 _ _ _ _ hl]
      go_enter Try.func49, Try.ntmps49
      go_wp2_with (go_at_call 76; refine C1.out.mono ?_; rintro e w' ⟨rfl, r, g⟩)
      go_ret
      exact ⟨rfl, r, g⟩
    · have C1 := Lib.hid (rsome_ok h 1 (by omega))
      rw [show rByte (0, rest) = ((rest.take 1).getD 0 0, 0, rest.drop 1) from tk_ok 1 _ _ _ _ (by omega) rfl]
      have LT : Hid ((rest.take 1).length = 1) := Lib.hid (by rw [List.length_take]; omega)
      have BT : Hid (IsBytes (rest.take 1)) := Lib.hid (by have := h.isBytes; rw [isBytes_iff] at *; exact fun z hz => this z (List.mem_of_mem_take hz))
      clear h hl
      go_enter Try.func49, Try.ntmps49
      go_wp2_with fail
      refine C1.out.mono ?_
      rintro e w' ⟨x, rfl, l, r, g⟩
      obtain ⟨A, c, rfl, z, hc, hc2⟩ := l.bs BT.out
      rw [LT.out] at z hc ⊢
      obtain ⟨b1, o1, u1, rfl, _, HU1, hu1, hu1', hc1⟩ := z.at_ (k := 0) (by omega)
      rw [Nat.add_zero] at hc1
      have R := Lib.hid r
      have G := Lib.hid g
      clear z r g l
      go_wp2
      go_ret
      exact ⟨(by rw [HU1.out] <;> rfl), R.out, G.out⟩
  · have hn := h.nil hw
    subst hn
    have C1 := Lib.hid (rsome_bad h hw 1)
    rw [show rByte (why, []) = (0, why, []) from tk_bad 1 _ _ _ _ _ hw]
    go_enter Try.func49, Try.ntmps49
    go_wp2_with (go_at_call 76; refine C1.out.mono ?_; rintro e w' ⟨rfl, r, g⟩)
    go_ret
    exact ⟨rfl, r, g⟩
theorem int_rr (h : Rr w b B (why, rest)) : Calls Try.prog 50 #[.pointer (some ⟨b, 0, none⟩)] w (RReads w b B (.int .i64 (rInt (why, rest)).1) (rInt (why, rest)).2) := by
  by_cases hw : why = 0
  · subst hw
    by_cases hl : rest.length < 8
    · have C1 := Lib.hid (rsome_short h 8 hl (by omega))
      rw [show rInt (0, rest) = (0, 40, []) from tk_short 8 _ _ _ _ hl]
      go_enter Try.func50, Try.ntmps50
      go_wp2_with (go_at_call 76; refine C1.out.mono ?_; rintro e w' ⟨rfl, r, g⟩)
      go_ret
      exact ⟨rfl, r, g⟩
    · have C1 := Lib.hid (rsome_ok h 8 (by omega))
      rw [show rInt (0, rest) = (intZ (rest.take 8), 0, rest.drop 8) from tk_ok 8 _ _ _ _ (by omega) rfl]
      have LT : Hid ((rest.take 8).length = 8) := Lib.hid (by rw [List.length_take]; omega)
      have BT : Hid (IsBytes (rest.take 8)) := Lib.hid (by have := h.isBytes; rw [isBytes_iff] at *; exact fun z hz => this z (List.mem_of_mem_take hz))
      have HZ : Hid (loadZ (rest.take 8) 0 8 = numZ (rest.take 8)) := Lib.hid (by
        have := loadZ_yes (rest.take 8) 0 8 (by rw [List.length_take]; omega)
        rw [List.drop_zero, List.take_take] at this
        exact this)
      have HI : Hid (IntKind.i64.wrap (numZ (rest.take 8)) = intZ (rest.take 8)) := Lib.hid (by rw [IntKind.wrap_i64]; unfold intZ wrap64; omega)
      clear h hl
      go_enter Try.func50, Try.ntmps50
      go_wp2_with fail
      refine C1.out.mono ?_
      rintro e w' ⟨x, rfl, l, r, g⟩
      obtain ⟨A, c, rfl, z, hc, hc2⟩ := l.bs BT.out
      rw [LT.out] at z hc ⊢
      have C2 : Hid (Calls Try.prog 77 #[.slice A 8 c, .int .i64 0, .int .i64 8] w' (Quiet (.tuple #[.int .u64 (loadZ (rest.take 8) 0 8), .bool (loadOk 8 0 8)]) w')) := Lib.hid (refload_any c z (by unfold maxLen; omega) 0 (by omega) 8 (by omega))
      rw [HZ.out, show loadOk 8 0 8 = true from by decide] at C2
      obtain ⟨u, hu⟩ : ∃ u, numZ (rest.take 8) = u := ⟨_, rfl⟩
      obtain ⟨v, hv⟩ : ∃ v, intZ (rest.take 8) = v := ⟨_, rfl⟩
      rw [hu] at C2
      rw [hu, hv] at HI
      have hwv := HI.out
      have HV := Lib.hid hv
      have R := Lib.hid r
      have G := Lib.hid g
      clear z r g l hu hv
      go_wp2_with (go_at_call 77; refine C2.out.mono ?_; rintro e w2 ⟨rfl, m2, rfl⟩)
      go_ret
      exact ⟨(by rw [HV.out] <;> rfl), R.out.keep rfl (fun _ _ => rfl), grown_trans G.out (Go.Proofs.Ytfihiandifnkpaa.grown_drewN _ _ _)⟩
  · have hn := h.nil hw
    subst hn
    have C1 := Lib.hid (rsome_bad h hw 8)
    rw [show rInt (why, []) = (0, why, []) from tk_bad 8 _ _ _ _ _ hw]
    go_enter Try.func50, Try.ntmps50
    go_wp2_with (go_at_call 76; refine C1.out.mono ?_; rintro e w' ⟨rfl, r, g⟩)
    go_ret
    exact ⟨rfl, r, g⟩
theorem flag_rr (h : Rr w b B (why, rest)) : Calls Try.prog 78 #[.pointer (some ⟨b, 0, none⟩)] w (RReads w b B (.bool (rFlag (why, rest)).1) (rFlag (why, rest)).2) := by
  have C1 := Lib.hid (byte_rr h)
  by_cases hw : why = 0
  · subst hw
    by_cases hl : rest.length < 1
    · rw [show rByte (0, rest) = (0, 40, []) from tk_short 1 _ _ _ _ hl] at C1
      rw [show rFlag (0, rest) = (false, 40, []) from tk_short 1 _ _ _ _ hl]
      clear h
      go_enter Try.func78, Try.ntmps78
      go_wp2_with (go_at_call 49; refine C1.out.mono ?_; rintro e w' ⟨rfl, r, g⟩)
      go_ret
      exact ⟨rfl, r, g⟩
    · have hb1 : rByte (0, rest) = ((rest.take 1).getD 0 0, 0, rest.drop 1) := tk_ok 1 _ _ _ _ (by omega) rfl
      have hrg := (rByte_rng 0 h.isBytes)
      rw [hb1] at C1 hrg
      obtain ⟨x, hx⟩ : ∃ x, (rest.take 1).getD 0 0 = x := ⟨_, rfl⟩
      rw [hx] at C1 hrg
      by_cases hx1 : x ≤ 1
      · have HF : Hid (rFlag (0, rest) = (x == 1, 0, rest.drop 1)) := Lib.hid (by
          have := tk_ok 1 (fun b _ => decide (b.getD 0 0 ≤ 1)) (fun b => b.getD 0 0 == 1) false rest (by omega) (by show decide ((rest.take 1).getD 0 0 ≤ 1) = true; rw [hx]; exact decide_eq_true hx1)
          rw [show rFlag (0, rest) = _ from this]
          show ((rest.take 1).getD 0 0 == 1, _) = _
          rw [hx])
        have hx1' : ¬ 1 < x := by omega
        clear h hb1 hx hrg
        go_enter Try.func78, Try.ntmps78
        go_wp2_with (go_at_call 49; refine C1.out.mono ?_; rintro e w' ⟨rfl, r, g⟩)
        go_ret
        rw [HF.out]
        exact ⟨rfl, r, g⟩
      · have HF : Hid (rFlag (0, rest) = (false, 40, [])) := Lib.hid (tk_no 1 (fun b _ => decide (b.getD 0 0 ≤ 1)) (fun b => b.getD 0 0 == 1) false rest (by show decide ((rest.take 1).getD 0 0 ≤ 1) = false; rw [hx]; exact decide_eq_false hx1))
        have hx1' : 1 < x := by omega
        have hxe : (x == 1) = false := by simp; omega
        clear h hb1 hx hrg hx1
        go_enter Try.func78, Try.ntmps78
        go_wp2_with (go_at_call 49; refine C1.out.mono ?_; rintro e w' ⟨rfl, r, g⟩; have R := Lib.hid r; have G := Lib.hid g; have f2 := r.f2; obtain ⟨cw, c2⟩ : ∃ v, w'.cell? ⟨b, 2, none⟩ = some v := (by obtain ⟨_, _, _, _, _, _, _, h2, _⟩ := r.ex; exact ⟨_, h2⟩); clear r g)
        go_ret
        rw [HF.out]
        exact ⟨rfl, R.out.spoil 40 (by decide), grown_trans G.out (grown_cell _ _ _)⟩
  · have hn := h.nil hw
    subst hn
    rw [show rByte (why, []) = (0, why, []) from tk_bad 1 _ _ _ _ _ hw] at C1
    rw [show rFlag (why, []) = (false, why, []) from tk_bad 1 _ _ _ _ _ hw]
    clear h
    go_enter Try.func78, Try.ntmps78
    go_wp2_with (go_at_call 49; refine C1.out.mono ?_; rintro e w' ⟨rfl, r, g⟩)
    go_ret
    exact ⟨rfl, r, g⟩
theorem isList_nil (w : World) (base : Nat) : IsList (.slice none 0 0) w base [] := ⟨none, 0, rfl, World.ownsRow_nil _ _ _ _, Nat.le_refl _, by unfold maxLen; omega⟩
theorem bytes_rr (h : Rr w b B (why, rest)) : Calls Try.prog 51 #[.pointer (some ⟨b, 0, none⟩)] w (fun e w' => ∃ x, RReads w b B x (rBytes (why, rest)).2 e w' ∧ IsList x w' w.heap.size (rBytes (why, rest)).1) := by
  by_cases hw : why = 0
  · subst hw
    by_cases hl : rest.length < 4
    · have C1 := Lib.hid (rsome_short h 4 hl (by omega))
      have e1 : rLen (0, rest) = (0, 40, []) := tk_short 4 _ _ _ _ hl
      have HE : Hid (rBytes (0, rest) = ([], 40, [])) := Lib.hid (by unfold rBytes; rw [e1]; exact tk_bad _ _ _ _ 40 [] (by decide))
      clear h e1
      go_enter Try.func51, Try.ntmps51
      go_wp2_with (go_at_call 76; refine C1.out.mono ?_; rintro e w' ⟨rfl, r, g⟩)
      go_ret
      rw [HE.out]
      exact ⟨_, ⟨rfl, r, g⟩, isList_nil _ _⟩
    · have C1 := Lib.hid (rsome_ok h 4 (by omega))
      have LT : Hid ((rest.take 4).length = 4) := Lib.hid (by rw [List.length_take]; omega)
      have BT : Hid (IsBytes (rest.take 4)) := Lib.hid (by have := h.isBytes; rw [isBytes_iff] at *; exact fun z hz => this z (List.mem_of_mem_take hz))
      have HZ : Hid (loadZ (rest.take 4) 0 4 = numZ (rest.take 4)) := Lib.hid (by
        have := loadZ_yes (rest.take 4) 0 4 (by rw [List.length_take]; omega)
        rw [List.drop_zero, List.take_take] at this
        exact this)
      have hnr := numZ_range _ (isBytes_iff.1 BT.out)
      rw [LT.out] at hnr
      obtain ⟨m, hm⟩ := Int.eq_ofNat_of_zero_le hnr.1
      have hm4 : m < 4294967296 := by have := hnr.2; rw [hm] at this; omega
      have HM := Lib.hid hm
      have hl4 : 4 ≤ rest.length := by omega
      have HL4 := Lib.hid hl4
      have HR6 := Lib.hid h.small
      clear h hl hnr hm hl4
      by_cases hbig : 65536 < m
      · have HE : Hid (rBytes (0, rest) = ([], 40, [])) := Lib.hid (by
          have e1 : rLen (0, rest) = (0, 40, []) := tk_no 4 _ _ _ _ (by show decide (numZ (rest.take 4) ≤ 65536) = false; rw [HM.out]; exact decide_eq_false (by omega))
          unfold rBytes; rw [e1]; exact tk_bad _ _ _ _ 40 [] (by decide))
        have hbI : 65536 < (m : Int) := by omega
        go_enter Try.func51, Try.ntmps51
        go_wp2_with fail
        refine C1.out.mono ?_
        rintro e w1 ⟨x, rfl, l, r, g⟩
        obtain ⟨A, c, rfl, z, hc, hc2⟩ := l.bs BT.out
        rw [LT.out] at z hc ⊢
        have C2 : Hid (Calls Try.prog 77 #[.slice A 4 c, .int .i64 0, .int .i64 4] w1 (Quiet (.tuple #[.int .u64 (loadZ (rest.take 4) 0 4), .bool (loadOk 4 0 4)]) w1)) := Lib.hid (refload_any c z (by unfold maxLen; omega) 0 (by omega) 4 (by omega))
        rw [HZ.out, show loadOk 4 0 4 = true from by decide, HM.out] at C2
        have R := Lib.hid r
        have G := Lib.hid g
        have f2 := r.f2
        obtain ⟨cw, c2⟩ : ∃ v, w1.cell? ⟨b, 2, none⟩ = some v := (by obtain ⟨_, _, _, _, _, _, _, h2, _⟩ := r.ex; exact ⟨_, h2⟩)
        clear r g z l hc hc2 C1
        go_wp2_with (go_at_call 77; refine C2.out.mono ?_; rintro e w2 ⟨rfl, m2, rfl⟩; have c2' : (w1.drewN m2).cell? ⟨b, 2, none⟩ = some cw := c2; have f2' : (w1.drewN m2).frozen? ⟨b, 2, none⟩ = false := f2)
        go_ret
        rw [HE.out]
        have R2 : Rr (w1.drewN m2) b B (0, rest.drop 4) := R.out.keep rfl (fun _ _ => rfl)
        exact ⟨_, ⟨rfl, R2.spoil 40 (by decide), grown_trans (grown_trans G.out (Go.Proofs.Ytfihiandifnkpaa.grown_drewN _ _ _)) (grown_cell _ _ _)⟩, isList_nil _ _⟩
      · have e1 : Hid (rLen (0, rest) = ((m : Int), 0, rest.drop 4)) := Lib.hid (by
          have := tk_ok 4 (fun b _ => decide (numZ b ≤ 65536)) numZ 0 rest HL4.out (by show decide (numZ (rest.take 4) ≤ 65536) = true; rw [HM.out]; exact decide_eq_true (by omega))
          rw [show rLen (0, rest) = _ from this, HM.out])
        have HE : Hid (rBytes (0, rest) = tk m yes2 id [] (0, rest.drop 4)) := Lib.hid (by unfold rBytes; rw [e1.out]; rfl)
        have hbI : ¬ 65536 < (m : Int) := by omega
        have gw : IntKind.i64.wrap (m : Int) = (m : Int) := by rw [IntKind.wrap_i64]; omega
        go_enter Try.func51, Try.ntmps51
        go_wp2_with fail
        refine C1.out.mono ?_
        rintro e w1 ⟨x, rfl, l, r, g⟩
        obtain ⟨A, c, rfl, z, hc, hc2⟩ := l.bs BT.out
        rw [LT.out] at z hc ⊢
        have C2 : Hid (Calls Try.prog 77 #[.slice A 4 c, .int .i64 0, .int .i64 4] w1 (Quiet (.tuple #[.int .u64 (loadZ (rest.take 4) 0 4), .bool (loadOk 4 0 4)]) w1)) := Lib.hid (refload_any c z (by unfold maxLen; omega) 0 (by omega) 4 (by omega))
        rw [HZ.out, show loadOk 4 0 4 = true from by decide, HM.out] at C2
        have G := Lib.hid g
        have R2 : Hid (∀ m2, Rr (w1.drewN m2) b B (0, rest.drop 4)) := Lib.hid (fun m2 => r.keep rfl (fun _ _ => rfl))
        clear r g z l hc hc2 C1
        by_cases hk : m ≤ (rest.drop 4).length
        · have HT : Hid (rBytes (0, rest) = ((rest.drop 4).take m, 0, (rest.drop 4).drop m)) := Lib.hid (by rw [HE.out]; exact tk_ok m yes2 id [] _ hk rfl)
          go_wp2_with (first
            | (go_at_call 77; refine C2.out.mono ?_; rintro e w2 ⟨rfl, m2, rfl⟩; have C3 := Lib.hid (rsome_ok (R2.out m2) m hk))
            | (go_at_call 76; refine C3.out.mono ?_; rintro e w3 ⟨x3, rfl, l3, r3, g3⟩; have L3 := Lib.hid l3; have R3 := Lib.hid r3; have G3 := Lib.hid g3; clear l3 r3 g3))
          go_ret
          rw [HT.out]
          refine ⟨_, ⟨rfl, R3.out, grown_trans (grown_trans G.out (Go.Proofs.Ytfihiandifnkpaa.grown_drewN _ _ _)) G3.out⟩, ?_⟩
          obtain ⟨A3, c3, e3, o3, h3, h4⟩ := L3.out
          exact ⟨A3, c3, e3, own_base o3 G.out.size, h3, h4⟩
        · have HT : Hid (rBytes (0, rest) = ([], 40, [])) := Lib.hid (by rw [HE.out]; exact tk_short m yes2 id [] _ (by omega))
          have hm6 : m ≤ 100000 := by omega
          go_wp2_with (first
            | (go_at_call 77; refine C2.out.mono ?_; rintro e w2 ⟨rfl, m2, rfl⟩; have C3 := Lib.hid (rsome_short (R2.out m2) m (by omega) hm6))
            | (go_at_call 76; refine C3.out.mono ?_; rintro e w3 ⟨rfl, r3, g3⟩))
          go_ret
          rw [HT.out]
          exact ⟨_, ⟨rfl, r3, grown_trans (grown_trans G.out (Go.Proofs.Ytfihiandifnkpaa.grown_drewN _ _ _)) g3⟩, isList_nil _ _⟩
  · have hn := h.nil hw
    subst hn
    have C1 := Lib.hid (rsome_bad h hw 4)
    have e1 : rLen (why, []) = (0, why, []) := tk_bad 4 _ _ _ _ _ hw
    have HE : Hid (rBytes (why, []) = ([], why, [])) := Lib.hid (by unfold rBytes; rw [e1]; exact tk_bad _ _ _ _ _ _ hw)
    clear h e1
    go_enter Try.func51, Try.ntmps51
    go_wp2_with (go_at_call 76; refine C1.out.mono ?_; rintro e w' ⟨rfl, r, g⟩)
    go_ret
    rw [HE.out]
    exact ⟨_, ⟨rfl, r, g⟩, isList_nil _ _⟩
end
end Go.Proofs.Ytfihiandifnkpaa
/- A count, a tag, as the document's own reader tells them; a new one. -/
namespace Go.Proofs.Ytfihiandifnkpaa
open Go.ChangeShapes Go.WideShapes Go.ChangeAt Go.RowKit
set_option linter.unusedVariables false
open Plain
section
variable {w : World} {b B : Nat} {why : Int} {rest : List Int}
set_option maxHeartbeats 1000000 in
theorem count_rr (h : Rr w b B (why, rest)) (most : Int) : Calls Try.prog 52 #[.pointer (some ⟨b, 0, none⟩), .int .i64 most] w (RReads w b B (.int .i64 (rCount most (why, rest)).1) (rCount most (why, rest)).2) := by
  have C1 := Lib.hid (int_rr h)
  have hv := rInt_rng why h.isBytes
  obtain ⟨v, y, r', hvy⟩ : ∃ v y r', rInt (why, rest) = (v, y, r') := ⟨_, _, _, rfl⟩
  rw [hvy] at C1 hv
  by_cases hy : y = 0
  · subst hy
    have hok : why = 0 ∧ 8 ≤ rest.length := by
      unfold rInt tk at hvy
      split at hvy
      · next hc => exact ⟨hc.1, hc.2.1⟩
      · injection hvy with _ h2
        injection h2 with h2 _
        split at h2
        · cases h2
        · next hne => exact absurd h2 hne
    obtain ⟨rfl, h8⟩ := hok
    have e1 : rInt (0, rest) = (intZ (rest.take 8), 0, rest.drop 8) := tk_ok 8 _ _ _ _ h8 rfl
    rw [e1] at hvy
    injection hvy with hv1 hv2
    injection hv2 with _ hv3
    have HCy : Hid (0 ≤ v ∧ v ≤ most ∧ v ≤ (r'.length : Nat) → rCount most (0, rest) = (v, 0, r')) := Lib.hid (fun hc => by
      have := tk_ok 8 (fun b r => decide (0 ≤ intZ b ∧ intZ b ≤ most ∧ intZ b ≤ (r.length : Nat))) intZ 0 rest h8 (by show decide (0 ≤ intZ (rest.take 8) ∧ intZ (rest.take 8) ≤ most ∧ intZ (rest.take 8) ≤ ((rest.drop 8).length : Nat)) = true; rw [hv1, hv3]; exact decide_eq_true hc)
      rw [show rCount most (0, rest) = _ from this, hv1, hv3])
    have HCn : Hid (¬ (0 ≤ v ∧ v ≤ most ∧ v ≤ (r'.length : Nat)) → rCount most (0, rest) = (0, 40, [])) := Lib.hid (fun hc => tk_no 8 (fun b r => decide (0 ≤ intZ b ∧ intZ b ≤ most ∧ intZ b ≤ (r.length : Nat))) intZ 0 rest (by show decide (0 ≤ intZ (rest.take 8) ∧ intZ (rest.take 8) ≤ most ∧ intZ (rest.take 8) ≤ ((rest.drop 8).length : Nat)) = false; rw [hv1, hv3]; exact decide_eq_false hc))
    clear h e1 hv1 hv3 h8
    go_enter Try.func52, Try.ntmps52
    go_wp2_with fail
    refine C1.out.mono ?_
    rintro e w1 ⟨rfl, r, g⟩
    have R := Lib.hid r
    have G := Lib.hid g
    have R1 : Hid (∀ m, Rr (w1.drewN m) b B (0, r')) := Lib.hid (fun m => r.keep rfl (fun _ _ => rfl))
    obtain ⟨⟨A, len, cap, bs, a, c0, c1, c2, hz, hlc, hal, hl6, hgood, hbad⟩, f1, f2, hle⟩ := r
    have c2 : w1.cell? ⟨b, 2, none⟩ = some (.int .i64 0) := c2
    obtain ⟨M, hM⟩ : ∃ M, r'.length = M := ⟨_, rfl⟩
    have hq : r' = bs.drop a := hgood rfl
    have hM2 : len - a = M := by rw [← hM, hq, List.length_drop, hz.len]
    have g1 : IntKind.i64.wrap ((len : Int) - (a : Int)) = (M : Int) := by rw [IntKind.wrap_i64]; omega
    rw [hM] at HCy HCn
    have HF2 := Lib.hid f2
    have HC2 := Lib.hid c2
    clear hz hgood hbad hq hM hM2 hlc g C1
    by_cases hb1 : v < 0
    · have e1 : decide (v < 0) = true := decide_eq_true hb1
      have HN := Lib.hid (HCn.out (by omega))
      go_wp2_with fail
      go_quiet (fail)
      have c2' : (w1.drewN nq).cell? ⟨b, 2, none⟩ = some (.int .i64 0) := HC2.out
      have f2' : (w1.drewN nq).frozen? ⟨b, 2, none⟩ = false := HF2.out
      go_wp2
      go_ret
      rw [HN.out]
      exact ⟨rfl, (R1.out nq).spoil 40 (by decide), grown_trans (grown_trans G.out (Go.Proofs.Ytfihiandifnkpaa.grown_drewN _ _ _)) (grown_cell _ _ _)⟩
    have e1 : decide (v < 0) = false := decide_eq_false hb1
    by_cases hb2 : most < v
    · have e2 : decide (most < v) = true := decide_eq_true hb2
      have HN := Lib.hid (HCn.out (by omega))
      go_wp2_with fail
      go_quiet (fail)
      have c2' : (w1.drewN nq).cell? ⟨b, 2, none⟩ = some (.int .i64 0) := HC2.out
      have f2' : (w1.drewN nq).frozen? ⟨b, 2, none⟩ = false := HF2.out
      go_wp2
      go_ret
      rw [HN.out]
      exact ⟨rfl, (R1.out nq).spoil 40 (by decide), grown_trans (grown_trans G.out (Go.Proofs.Ytfihiandifnkpaa.grown_drewN _ _ _)) (grown_cell _ _ _)⟩
    have e2 : decide (most < v) = false := decide_eq_false hb2
    by_cases hb3 : (M : Int) < v
    · have e3 : decide ((M : Int) < v) = true := decide_eq_true hb3
      have HN := Lib.hid (HCn.out (by omega))
      go_wp2_with fail
      go_quiet (fail)
      have c2' : (w1.drewN nq).cell? ⟨b, 2, none⟩ = some (.int .i64 0) := HC2.out
      have f2' : (w1.drewN nq).frozen? ⟨b, 2, none⟩ = false := HF2.out
      go_wp2
      go_ret
      rw [HN.out]
      exact ⟨rfl, (R1.out nq).spoil 40 (by decide), grown_trans (grown_trans G.out (Go.Proofs.Ytfihiandifnkpaa.grown_drewN _ _ _)) (grown_cell _ _ _)⟩
    have e3 : decide ((M : Int) < v) = false := decide_eq_false hb3
    have HY := Lib.hid (HCy.out (by omega))
    go_wp2_with fail
    go_quiet (fail)
    have c2' : (w1.drewN nq).cell? ⟨b, 2, none⟩ = some (.int .i64 0) := HC2.out
    go_wp2
    go_ret
    rw [HY.out]
    exact ⟨rfl, R1.out nq, grown_trans G.out (Go.Proofs.Ytfihiandifnkpaa.grown_drewN _ _ _)⟩
  · have HE : Hid (v = 0 ∧ r' = [] ∧ rCount most (why, rest) = (0, y, [])) := Lib.hid (by
      unfold rInt tk at hvy
      split at hvy
      · injection hvy with _ h2
        injection h2 with h2 _
        exact absurd h2.symm hy
      · next hc =>
        injection hvy with q1 h2
        injection h2 with q2 q3
        refine ⟨q1.symm, q3.symm, ?_⟩
        unfold rCount tk
        rw [if_neg (fun hcc => hc ⟨hcc.1, hcc.2.1, rfl⟩)]
        show (0, (if why = 0 then 40 else why), []) = _
        rw [← q2])
    have ey : (y == 0) = false := by simpa using hy
    have ey2 : (y != 0) = true := by simpa using hy
    obtain ⟨rfl, rfl, _⟩ := HE.out
    clear h hvy
    go_enter Try.func52, Try.ntmps52
    go_wp2_with fail
    refine C1.out.mono ?_
    rintro e w1 ⟨rfl, r, g⟩
    have G := Lib.hid g
    have R1 : Hid (∀ m, Rr (w1.drewN m) b B (y, [])) := Lib.hid (fun m => r.keep rfl (fun _ _ => rfl))
    obtain ⟨⟨A, len, cap, bs, a, c0, c1, c2, hz, hlc, hal, hl6, hgood, hbad⟩, f1, f2, hle⟩ := r
    have c2 : w1.cell? ⟨b, 2, none⟩ = some (.int .i64 y) := c2
    have HC2 := Lib.hid c2
    clear hz hgood hbad g C1
    go_wp2_with fail
    go_quiet (fail)
    have c2' : (w1.drewN nq).cell? ⟨b, 2, none⟩ = some (.int .i64 y) := HC2.out
    go_wp2
    go_ret
    rw [HE.out.2.2]
    exact ⟨rfl, R1.out nq, grown_trans G.out (Go.Proofs.Ytfihiandifnkpaa.grown_drewN _ _ _)⟩
end
theorem new_rr {w : World} {B : Nat} {A : Option Addr} {n : Nat} (c : Nat) {bs : List Int} (hz : Bs w B A n bs) (hB : B ≤ w.heap.size) (hn : n ≤ c) (hs : n ≤ 65536) :
    Calls Try.prog 48 #[.slice A n c] w fun e w' => e = .returned (.pointer (some ⟨w.heap.size, 0, none⟩)) ∧ Rr w' w.heap.size B (0, bs) ∧ Below w.heap.size w w' ∧ w.heap.size < w'.heap.size := by
  have g1 : ¬ 65536 < (n : Int) := by omega
  have hh := heap_alloc_new w (.cells #[.slice A n c, .int .i64 0, .int .i64 0] 107)
  have HR : Hid (Rr (w.alloc (.cells #[.slice A n c, .int .i64 0, .int .i64 0] 107)) w.heap.size B (0, bs)) := Lib.hid
    ⟨⟨A, n, c, bs, 0, by rw [cell_of_row _ _ _ _ _ _ hh]; rfl, by rw [cell_of_row _ _ _ _ _ _ hh]; rfl, by rw [cell_of_row _ _ _ _ _ _ hh]; rfl, hz.alloc hB _, hn, Nat.zero_le _, hs, fun _ => rfl, fun e => absurd rfl e⟩, frozen_of_row _ _ _ _ _ hh, frozen_of_row _ _ _ _ _ hh, hB⟩
  clear hh hz
  go_enter Try.func48, Try.ntmps48
  go_wp2
  go_ret
  exact ⟨rfl, HR.out, (Below.refl _ _).alloc (Nat.le_refl _) _, by simp⟩
end Go.Proofs.Ytfihiandifnkpaa
/- A tag, as the document's own reader tells it. -/
namespace Go.Proofs.Ytfihiandifnkpaa
open Go.ChangeShapes Go.WideShapes Go.ChangeAt Go.RowKit
set_option linter.unusedVariables false
open Plain
theorem row8_setT {w : World} {b : Nat} {l : List Int} (h : Row8 w b 0 l) (k : Nat) (x : Int) (hk : k < l.length) : Row8 (w.setCell ⟨b, k, none⟩ (.int .u8 x)) b 0 (l.set k x) := by
  have := h.splice k [x] (by simp; omega)
  have e : splice l k [x] = l.set k x := list_ext_getD (by rw [splice_len (by simp; omega), List.length_set]) (fun j hj => by
    rw [splice_at _ _ _ _ (by simp; omega), getD_set _ _ _ _ hk]
    by_cases e : k = j
    · subst e; rw [if_pos (by simp), if_pos rfl, Nat.sub_self]; rfl
    · rw [if_neg (by simp; omega), if_neg e])
  rw [e, Nat.zero_add] at this
  exact this
theorem row8_cellT {w : World} {b : Nat} {l : List Int} (h : Row8 w b 0 l) {k : Nat} (hk : k < l.length) {x : Int} (hx : l.getD k 0 = x) : w.cell? ⟨b, k, none⟩ = some (.int .u8 x) ∧ w.frozen? ⟨b, k, none⟩ = false := by
  have h1 := h.range k _ (vals_at l k hk)
  have h2 := h.there k hk
  rw [Nat.zero_add] at h1 h2
  rw [hx] at h1
  exact ⟨h1, h2.2⟩
end Go.Proofs.Ytfihiandifnkpaa
/- The statement WireBack: the walk. -/
namespace Go.Proofs.Ytfihiandifnkpaa
open Go.ChangeShapes Go.WideShapes Go.ChangeAt Go.RowKit
set_option linter.unusedVariables false
open Plain
theorem fz_of {w : World} {B : Nat} {f : FieldZ} (h : FieldOk w B f) (hs : f.len ≤ 65536) : FZ f := ⟨h.n, by rw [h.bs.len]; exact hs, h.tag⟩
theorem len_le_gsum (F : Nat → FieldZ) {j m : Nat} (h : j < m) : (F j).len ≤ gsum F m := by
  have := gsum_le F (j + 1) m h
  have h2 : gsum F (j + 1) = gsum F j + (F j).len + 40 := rfl
  omega
theorem wPut_form {F : Nat → FieldZ} {k : Nat} (h : formN F (k + 1) ≤ 65536) : wPut (some (formB F k)) (fieldB (F k)) = some (formB F (k + 1)) := by
  rw [wPut_yes _ _ (by rw [formB_len]; rw [formN_succ] at h; exact h)]; rfl
theorem formB_bytes {w : World} {B m : Nat} {A : Option Addr} {F : Nat → FieldZ} (h : ∀ j, j < m → IsBytes (fieldB (F j))) : IsBytes (formB F m) := catTo_bytes _ m h
theorem fieldB_bytes {w : World} {B : Nat} {f : FieldZ} (h : FieldOk w B f) : IsBytes (fieldB f) := by
  unfold fieldB
  by_cases k0 : f.kind = 0
  · rw [if_pos k0]; exact one_byte _ (by omega) (by omega)
  by_cases k1 : f.kind = 1
  · rw [if_neg k0, if_pos k1]; exact n64_bytes' _
  by_cases k2 : f.kind = 2
  · rw [if_neg k0, if_neg k1, if_pos k2]; split <;> exact one_byte _ (by omega) (by omega)
  by_cases k3 : f.kind = 3
  · rw [if_neg k0, if_neg k1, if_neg k2, if_pos k3]; exact (putZ_bytes _ _).app h.bs.isBytes
  by_cases k4 : f.kind = 4
  · rw [if_neg k0, if_neg k1, if_neg k2, if_neg k3, if_pos k4]; exact (putZ_bytes _ _).app h.bs.isBytes
  by_cases k5 : f.kind = 5
  · rw [if_neg k0, if_neg k1, if_neg k2, if_neg k3, if_neg k4, if_pos k5]; exact h.bytes
  · rw [if_neg k0, if_neg k1, if_neg k2, if_neg k3, if_neg k4, if_neg k5]; exact IsBytes.nil
theorem newWhy_cut (F : Nat → FieldZ) (j m : Nat) (h : m ≤ 65536) : newWhy ((formB F j).take m) = cutSt F j m 0 := by
  have e : formN F 0 = 0 := rfl
  unfold newWhy cutSt
  rw [e, if_pos (Nat.zero_le _), List.drop_zero, if_pos (by rw [List.length_take]; omega)]
theorem wrap_small (m : Nat) (h : m ≤ 4000) : wrap64 (m : Int) = (m : Int) := by unfold wrap64; omega
end Go.Proofs.Ytfihiandifnkpaa
/- The document's own way from a tag to bytes. -/
namespace Go.Proofs.Ytfihiandifnkpaa
open Go.ChangeShapes Go.WideShapes Go.ChangeAt Go.RowKit
set_option linter.unusedVariables false
open Plain Sha
end Go.Proofs.Ytfihiandifnkpaa
/- The document's own form of fields. -/
namespace Go.Proofs.Ytfihiandifnkpaa
open Go.ChangeShapes Go.WideShapes Go.ChangeAt Go.RowKit
set_option linter.unusedVariables false
open Plain
theorem refint_any (n : Int) (h0 : -9223372036854775808 ≤ n) (h1 : n ≤ 9223372036854775807) (w : World) : Calls Try.prog 61 #[.int .i64 n] w (Made w (n64 n)) := by
  have HP : Hid (Calls Try.prog 75 #[.int .u64 (n % 18446744073709551616), .int .i64 8] w (Made w (n64 n))) := Lib.hid (refput_any (n % 18446744073709551616) 8 (by omega) (by omega) (by omega) w)
  have gw : IntKind.u64.wrap n = n % 18446744073709551616 := by rw [IntKind.wrap_u64]
  go_enter Try.func61, Try.ntmps61
  go_wp2_with (go_at_call 75; refine HP.out.mono ?_; rintro e w' ⟨A, c, rfl, hm⟩)
  go_ret
  exact ⟨A, c, rfl, hm⟩
theorem refflag_any (x : Bool) (w : World) : Calls Try.prog 62 #[.bool x] w (Made w [if x then 1 else 0]) := by
  have H : ∀ z : Int, Made w [z] (.returned (.slice (some ⟨w.heap.size, 0, none⟩) 1 1)) (w.alloc (.cells #[.int .u8 z] 5)) := fun z =>
    made_of (n := 1) rfl (World.ownsRow_lit w #[.int .u8 z] 1 (Nat.le_refl _) (by unfold maxLen; omega) rfl) ((Below.refl _ _).alloc (Nat.le_refl _) _)
  cases x
  · have H0 := Lib.hid (H 0)
    clear H
    go_enter Try.func62, Try.ntmps62
    go_wp2
    go_ret
    exact H0.out
  · have H0 := Lib.hid (H 1)
    clear H
    go_enter Try.func62, Try.ntmps62
    go_wp2
    go_ret
    exact H0.out
theorem refbytesW_any {w : World} {B n : Nat} {A : Option Addr} (c : Nat) {zs : List Int} (h : Bs w B A n zs) (hB : B ≤ w.heap.size) (hn : n ≤ 65536) : Calls Try.prog 45 #[.slice A n c] w (Made w (bytesF zs)) := by
  have gw : IntKind.u64.wrap (n : Int) = (n : Int) := by rw [IntKind.wrap_u64]; omega
  have HP := Lib.hid (refput_any (n : Int) 4 (by omega) (by omega) (by omega) w)
  have E1 : Hid (putZ (n : Int) 4 ++ zs = bytesF zs) := Lib.hid (by rw [bytesF_small (by rw [h.len]; exact hn)]; unfold bytesFn; rw [h.len])
  have L1 : Hid ((bytesF zs).length = 4 + n) := Lib.hid (by rw [← E1.out, List.length_append, putZ_len, h.len])
  have HB := Lib.hid h
  clear h
  go_enter Try.func45, Try.ntmps45
  go_wp2_with fail
  refine HP.out.mono ?_
  intro e w1 hm1
  obtain ⟨P1, p1, rfl, ho1, b1, _, _⟩ := hm1.n (putZ_len _ _)
  have C2 := Lib.hid (refcat_any (w := w1) p1 c (Made.bs ho1 (putZ_bytes _ _)) (HB.out.belowM b1 hB) (Nat.le_refl _) (Nat.le_trans hB b1.size) (by omega))
  rw [E1.out] at C2
  have q1 := Lib.hid b1
  clear hm1 ho1 b1 HP
  go_wp2_with fail
  refine C2.out.mono ?_
  intro e w2 hm2
  obtain ⟨P2, p2, rfl, ho2, b2, _, _⟩ := hm2.n L1.out
  have q2 := Lib.hid (q1.out.trans (b2.mono q1.out.size))
  have O2 := Lib.hid (own_base ho2 q1.out.size)
  clear hm2 ho2 b2 C2
  go_wp2
  go_ret
  exact made_of L1.out O2.out q2.out
/-- A field's zero. -/
def f0 : FieldZ := ⟨0, 0, none, 0, 0, [], List.replicate 32 0⟩
theorem fCells_one (f : FieldZ) : ∀ v ∈ fCells f, v.oneCell' = true := by
  intro v hv
  unfold fCells fHead at hv
  rcases List.mem_append.1 hv with hv | hv
  · simp only [List.mem_cons, List.not_mem_nil, or_false] at hv
    rcases hv with rfl | rfl | rfl <;> rfl
  · exact vals_one _ v hv
theorem box_range {w : World} {g : Nat} {f : FieldZ} (h : w.rangeAt g 0 (fCells f)) : Boxed w g f := by
  refine ⟨h 0 _ rfl, h 1 _ rfl, h 2 _ rfl, fun j v hv => ?_⟩
  have := h (3 + j) v (by
    unfold fCells fHead
    rw [List.getElem?_append_right (by simp)]
    simpa using hv)
  rw [Nat.zero_add] at this
  exact this
theorem u8_row2 : (Try.prog.info? 5).map (fun i => (i.zero, i.size, i.bytes)) = some (some (.int .u8 0), 1, 1) := by kernel_rfl
end Go.Proofs.Ytfihiandifnkpaa
