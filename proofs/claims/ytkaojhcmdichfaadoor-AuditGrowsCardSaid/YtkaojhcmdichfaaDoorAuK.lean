/- Links are put together: append onto a row that has just been made, slices.Grow, slices.Concat. -/
import Derived.Test.YtkaojhcmdichfaaDoorAuC
import Derived.Test.YtkaojhcmdichfaaDoorB5
namespace Go.Proofs.YtkaojhcmdichfaaDoor
open Go.ChangeShapes Go.WideShapes Go.ChangeAt Go.RowKit
set_option linter.unusedVariables false
set_option linter.unusedSimpArgs false
open Plain Sha Au
theorem cut_hL (A : Option Addr) (n c hi : Nat) (h : Int) (hh : h = hi) (h2 : hi ≤ c) :
    ∀ W, (Instr.slice 22 (.slice A n c) none (some (.int .i64 h)) none).run Tryd.prog W = .ok (.slice A hi c) W := by
  subst hh
  intro W
  have he : Tryd.prog.elem 22 = 26 := by simp [Program.elem, Tryd.underlying22]
  have hz : (Go.sizeOf 26).run Tryd.prog W = .ok 71 W := Tryd.sizeOf26 W
  rw [run_slice_h W 22 A n c (by rw [he]; exact Tryd.underlying22) .i64 _ (by omega) (by omega), he, hz]
  cases A <;> simp [Result.andThen, sliced, Addr.add]
/-- What a call hands back that makes a row of links. -/
def MadeL (w : World) (l : List LinkZ) (n : Nat) (e : Ending) (w' : World) : Prop :=
  ∃ D d, e = .returned (.slice D n d) ∧ w'.ownsRow w.heap.size 26 71 (.slice D n d) n (lvs l) ∧ Below w.heap.size w w' ∧ n ≤ d ∧ d ≤ maxLen
/-- append onto an empty row that has just been made: nothing that was there is touched. -/
theorem run_newL {w : World} {b base m c B : Nat} {A : Option Addr} {l : List LinkZ} (ty : TypeId) (hown : w.ownsRow base 26 71 (.slice (some ⟨b, 0, none⟩) 0 0) 0 (lvs [])) (hg : Lks w B A m l) (hm : m ≤ 100000) (hbase : base ≤ w.heap.size) :
    ∃ D d w', (Builtin.append_ #[22, 22] ty #[.slice (some ⟨b, 0, none⟩) 0 0, .slice A m c]).run Tryd.prog w = .ok (.slice D m d) w' ∧ w'.ownsRow base 26 71 (.slice D m d) m (lvs l) ∧ Below w.heap.size w w' := by
  obtain ⟨i, z, hi, hz, hsize, hby, hzs⟩ := link_info
  rcases Nat.eq_zero_or_pos m with h0 | h0
  · subst h0
    obtain rfl : l = [] := List.eq_nil_of_length_eq_zero hg.len
    cases hA : A with
    | none => exact ⟨_, _, w, run_append_nothing (P := Tryd.prog) w base 22 ty 26 i 71 Tryd.underlying22 hi _ 0 (lvs []) hown c, hown, Below.refl _ _⟩
    | some ad =>
      have := run_append_room_cells (P := Tryd.prog) (w := w) 22 ty 26 i Tryd.underlying22 hi b 0 0 0 ad 0 c [] (by simp) (fun j u h => by simp at h) (fun u h => by simp at h) (by omega) (fun j h => by simp at h) (fun j h => by simp at h)
      exact ⟨_, _, w, by simpa [World.setCells] using this, hown, Below.refl _ _⟩
  obtain ⟨v', w', q1, q2, _, _⟩ := run_app (P := Tryd.prog) w 22 ty base 26 71 120 Tryd.underlying22 link_info (by omega) _ 0 (lvs []) hown A m c (lvs l) hg.lies.1 hg.lies.2 (lvs_one l) (by unfold maxLen; omega) (by omega) hbase
  obtain ⟨gb, go, hA, _, _⟩ := hg.row h0
  have hl := hg.lies.1
  have q3 := run_append_grow (P := Tryd.prog) (w := w) 22 ty 26 i z Tryd.underlying22 hi hz ⟨b, 0, none⟩ 0 0 [] (by simp) (by simp) ⟨gb, go, none⟩ m c (lvs l) (by rw [hsize]; exact hl.1) (fun j v hj => hl.2 _ hA j v hj) (by omega) (by omega) (by rw [Nat.zero_add, nextslicecap_zero h0, hby]; omega)
  rw [hA] at q1
  have e : (.ok v' w' : Result Value) = _ := q1.symm.trans q3
  have hb : Below w.heap.size w w' := by
    injection e with e1 e2
    rw [e2]
    exact (Below.refl _ _).drew.alloc (Nat.le_refl _) _
  rw [Nat.zero_add, show lvs [] ++ lvs l = lvs l from rfl] at q2
  obtain ⟨D, d, rfl, _, _⟩ := own_shapeA q2
  rw [hA]
  exact ⟨D, d, w', q1, q2, hb⟩
theorem wpList_newL {w : World} {b base m c B : Nat} {A : Option Addr} {l : List LinkZ} {ops : Array Oper} {rest : List Oper} {o : Oper} {a : Act} {Q : Exit → Act → World → Prop} (hgd : o.guard = none) (s x : Operand)
    (ho : o.op = .call { callee := .builtin .append, args := #[s, x], argTypes := #[22, 22] })
    (hs : a.eval s = .slice (some ⟨b, 0, none⟩) 0 0) (hown : w.ownsRow base 26 71 (.slice (some ⟨b, 0, none⟩) 0 0) 0 (lvs [])) (hx : a.eval x = .slice A m c) (hg : Lks w B A m l) (hm : m ≤ 100000) (hbase : base ≤ w.heap.size)
    (h : ∀ D d w', w'.ownsRow base 26 71 (.slice D m d) m (lvs l) → Below w.heap.size w w' → wpList Tryd.prog ops Q rest (a.put o.dst (.slice D m d)) w') : wpList Tryd.prog ops Q (o :: rest) a w := by
  obtain ⟨D, d, w', q1, q2, q3⟩ := run_newL (c := c) o.type hown hg hm hbase
  exact Lib.wpList_append_run w hgd s x _ _ ho _ _ hs hx _ w' q1 (h D d w' q2 q3)
theorem step_newL {w : World} {b base m c B : Nat} {A : Option Addr} {l : List LinkZ} {ops : Array Oper} {o : Oper} {a : Act} {K : Act → World → Prop} {Q : Exit → Act → World → Prop} {E : Prop} (hgd : o.guard = none) (s x : Operand)
    (ho : o.op = .call { callee := .builtin .append, args := #[s, x], argTypes := #[22, 22] })
    (hs : a.eval s = .slice (some ⟨b, 0, none⟩) 0 0) (hown : w.ownsRow base 26 71 (.slice (some ⟨b, 0, none⟩) 0 0) 0 (lvs [])) (hx : a.eval x = .slice A m c) (hg : Lks w B A m l) (hm : m ≤ 100000) (hbase : base ≤ w.heap.size)
    (h : ∀ D d w', w'.ownsRow base 26 71 (.slice D m d) m (lvs l) → Below w.heap.size w w' → K (a.put o.dst (.slice D m d)) w') : if Region.wanted o (yielded ops a.tmps) = true then Oper.wp Tryd.prog o a w K Q else E := by
  have hw : Region.wanted o (yielded ops a.tmps) = true := by simp [Region.wanted, hgd]
  rw [if_pos hw]
  obtain ⟨D, d, w', q1, q2, q3⟩ := run_newL (c := c) o.type hown hg hm hbase
  exact Lib.wp_append_run w s x _ _ ho _ _ hs hx _ w' q1 (h D d w' q2 q3)
/-- slices.Grow of no slice. -/
theorem grow_some (n : Nat) (w : World) (h0 : 0 < n) (hn : n ≤ 200000) : Calls Tryd.prog 24 #[.slice none 0 0, .int .i64 n] w (fun e w' => ∃ v, e = .returned v ∧ w'.ownsRow w.heap.size 26 71 v 0 [] ∧ Below w.heap.size w w') := by
  obtain ⟨i, z, hi, hz, hs, hb, hzs⟩ := link_info
  have hold : (Builtin.firstCells i.size 0 (.slice none 0 0)).run Tryd.prog w.drew = .ok ([] : List Value).toArray w.drew := run_firstCells_none w.drew i.size 0 0 0
  have hrz : ∀ ty, (Builtin.append_ #[22, 3] ty #[.slice none 0 0, .int .i64 (n : Int)]).run Tryd.prog w = _ := fun ty =>
    Lib.run_append_grow_zeros w 22 3 ty 26 i z .i64 .i64 Tryd.underlying22 Tryd.underlying3 hi hz none 0 0 [] hold n h0 (by omega) (by omega) (by omega) (by rw [hb]; omega) (by rw [hb]; exact Nat.le_trans (growslice_fits (by omega) (by omega)) (by omega))
  simp only [Nat.zero_add] at hrz
  have hge := grownCap_ge w n 0 26
  have hle := grownCap_le_maxLen w n 0 26 (by unfold maxLen; omega)
  obtain ⟨G, hG⟩ : ∃ G, grownCap w n 0 26 = G := ⟨_, rfl⟩
  rw [hG] at hrz hge hle
  have hle2 : G ≤ 9223372036854775807 := by unfold maxLen at hle; exact hle
  obtain ⟨cs, hcs⟩ : ∃ cs, [].toArray ++ Builtin.zeroCells z.cells n ++ Builtin.zeroCells z.cells (G - n) = cs := ⟨_, rfl⟩
  have hsz : cs.size = G * 71 := by rw [← hcs]; simp [size_zeroCells, hzs]; omega
  rw [hcs] at hrz
  have C1 := cut_hL (some ⟨w.heap.size, 0, none⟩) n G 0 0 rfl (by omega)
  have HR := Lib.hid hrz
  have hn0 : ¬ ((n : Int) < 0) := by omega
  have hn1 : (n : Int) > 0 := by omega
  clear hrz hG hcs hold
  have HS := Lib.hid hsz
  have HL := Lib.hid hle
  clear hsz hle
  go_enter Tryd.func24, Tryd.ntmps24
  go_wp2_with (at_builtin; refine Lib.wpList_append_run _ rfl _ _ _ _ rfl _ _ rfl rfl _ _ (HR.out _) ?_)
  go_ret
  refine ⟨_, rfl, ⟨rfl, .inr ⟨w.heap.size, G, cs, rfl, Nat.le_refl _, ?_, by omega, HL.out, by rw [HS.out], rfl⟩⟩, ?_⟩
  · exact heap_alloc_new w.drew _
  · exact ((Below.refl w.heap.size w).drew).alloc (Nat.le_refl _) _
/-- The two pieces of a Concat: sums and lists so far. -/
structure TwoP (w : World) (B : Nat) (b : Nat) (n : Nat) (l : List LinkZ) (SM : Nat → Nat) (LL : Nat → List LinkZ) : Prop where
  s0 : SM 0 = 0
  s2 : SM 2 = n
  sle : ∀ k, k ≤ 2 → SM k ≤ n
  l0 : LL 0 = []
  l2 : LL 2 = l
  at_ : ∀ k, k < 2 → ∃ A' n' c' l', w.cell? ⟨b, k, none⟩ = some (.slice A' n' c') ∧ Lks w B A' n' l' ∧ SM (k + 1) = SM k + n' ∧ LL (k + 1) = LL k ++ l'
theorem TwoP.below {w w' : World} {B b n : Nat} {l : List LinkZ} {SM : Nat → Nat} {LL : Nat → List LinkZ} (h : TwoP w B b n l SM LL) (hb : Below w.heap.size w w') (hB : B ≤ w.heap.size) (hlt : b < w.heap.size) : TwoP w' B b n l SM LL :=
  ⟨h.s0, h.s2, h.sle, h.l0, h.l2, fun k hk => by
    obtain ⟨A', n', c', l', h1, h2, h3, h4⟩ := h.at_ k hk
    exact ⟨A', n', c', l', (hb.cell (p := ⟨b, k, none⟩) hlt).trans h1, h2.below hb hB, h3, h4⟩⟩
theorem twoP_of {w : World} {B1 B2 n1 n2 c1 c2 : Nat} {A1 A2 : Option Addr} {l1 l2 : List LinkZ} (h1 : Lks w B1 A1 n1 l1) (h2 : Lks w B2 A2 n2 l2) (hB1 : B1 ≤ w.heap.size) (hB2 : B2 ≤ w.heap.size) (t : TypeId) :
    TwoP (w.alloc (.cells #[.slice A1 n1 c1, .slice A2 n2 c2] t)) w.heap.size w.heap.size (n1 + n2) (l1 ++ l2) (fun k => if k = 0 then 0 else if k = 1 then n1 else n1 + n2) (fun k => if k = 0 then [] else if k = 1 then l1 else l1 ++ l2) := by
  have hb : Below w.heap.size w (w.alloc (.cells #[.slice A1 n1 c1, .slice A2 n2 c2] t)) := (Below.refl _ _).alloc (Nat.le_refl _) _
  have hc := heap_alloc_new w (.cells #[.slice A1 n1 c1, .slice A2 n2 c2] t)
  refine ⟨rfl, rfl, fun k hk => ?_, rfl, rfl, fun k hk => ?_⟩
  · match k, hk with
    | 0, _ => exact Nat.zero_le _
    | 1, _ => exact Nat.le_add_right ..
    | 2, _ => exact Nat.le_refl _
  · match k, hk with
    | 0, _ => exact ⟨A1, n1, c1, l1, by rw [cell_of_row _ _ _ _ _ _ hc]; rfl, (h1.more hB1).below hb (Nat.le_refl _), by simp, by simp⟩
    | 1, _ => exact ⟨A2, n2, c2, l2, by rw [cell_of_row _ _ _ _ _ _ hc]; rfl, (h2.more hB2).below hb (Nat.le_refl _), by simp, by simp⟩
set_option maxHeartbeats 2000000 in
theorem concat_any {w : World} {B b n c : Nat} {l : List LinkZ} {SM : Nat → Nat} {LL : Nat → List LinkZ} (h : TwoP w B b n l SM LL) (hB : B ≤ w.heap.size) (hlt0 : b < w.heap.size) (hn : n ≤ 200000) (hn0 : 0 < n) :
    Calls Tryd.prog 17 #[.slice (some ⟨b, 0, none⟩) 2 c] w (MadeL w l n) := by
  have H := Lib.hid h
  have HS0 := Lib.hid h.s0
  have HS2 := Lib.hid h.s2
  have HSL := Lib.hid h.sle
  have HL0 := Lib.hid h.l0
  have HL2 := Lib.hid h.l2
  clear h
  go_enter Tryd.func17, Tryd.ntmps17
  go_wp2
  go_loop [3, 11] (fun s i => ∃ k : Nat, k ≤ 2 ∧ i = .int .i64 k ∧ s = .int .i64 (SM k : Nat)) (fun _ i => 2 - (intOf i).toNat)
  case atStart => exact ⟨0, by omega, rfl, by rw [HS0.out]; rfl⟩
  case round =>
    obtain ⟨k, hk, rfl, rfl⟩ := hrel
    by_cases hlt : k < 2
    · obtain ⟨A', n', c', l', hc, _, h3, _⟩ := H.out.at_ k hlt
      have h1 := HSL.out (k + 1) (by omega)
      have H2 := Lib.hid h3
      rw [h3] at h1
      clear h3
      generalize hsk : SM k = sk at *
      clear hsk
      have h2 : ¬ ((sk : Int) + (n' : Int) < 0) := by omega
      have hlI : (k : Int) < 2 := by omega
      go_wp2
      go_round
      case rel => exact ⟨k + 1, by omega, by go_num, by rw [H2.out]; go_num⟩
      case measure => simp [intOf]; omega
    · obtain rfl : k = 2 := by omega
      rw [HS2.out]
      have GR := Lib.hid (grow_some n w hn0 hn)
      go_wp2_with (go_at_call 24; refine GR.out.mono ?_; rintro e w1 ⟨v1, rfl, ho1, hb1⟩)
      go_loopw [6, 27] (fun v i wr => ∃ j : Nat, j ≤ 2 ∧ i = .int .i64 j ∧ wr.ownsRow w.heap.size 26 71 v (SM j) (lvs (LL j)) ∧ Below w.heap.size w wr) (fun _ i _ => 2 - (intOf i).toNat)
      case atStart => exact ⟨0, by omega, rfl, by rw [HS0.out, HL0.out]; exact ho1, hb1⟩
      case round =>
        obtain ⟨j, hj, rfl, hown, hbel⟩ := hrel
        by_cases hltj : j < 2
        · obtain ⟨A', n', c', l', hc, hst, h3, h4⟩ := (H.out.below hbel hB hlt0).at_ j hltj
          have h1 := HSL.out (j + 1) (by omega)
          have H2 := Lib.hid h3
          have H4 := Lib.hid h4
          have HST := Lib.hid hst.lies
          rw [h3] at h1
          clear h3 h4 hst
          have HJ : Hid (SM j = SM j) := Lib.hid rfl
          obtain ⟨sj, hsj⟩ : ∃ s, SM j = s := ⟨_, rfl⟩
          rw [hsj] at hown h1
          have HSJ := Lib.hid hsj
          clear hsj HJ
          have hlI : (j : Int) < 2 := by omega
          go_wp2_with (at_builtin; refine wpList_app _ rfl (.tmp 31) (.tmp 32) 22 rfl w.heap.size 26 71 120 Tryd.underlying22 link_info (by omega) u6 sj (lvs (LL j)) rfl hown A' n' c' (lvs l') rfl HST.out.1 HST.out.2 (lvs_one _) (by unfold maxLen; omega) (by omega) hbel.size ?_; intro v2 w2 ho2 hg2)
          go_roundw
          case rel => exact ⟨j + 1, by omega, by go_num, by rw [H2.out, H4.out, lvs_app, HSJ.out]; exact ho2, hbel.grown hg2 hbel.size (fun q hq => (hown.lt q hq).1)⟩
          case measure => simp [intOf]; omega
        · obtain rfl : j = 2 := by omega
          rw [HS2.out, HL2.out] at hown
          obtain ⟨D, d, rfl, hnd, hdm⟩ := own_shapeA hown
          have HM : Hid (MadeL w l n (.returned (.slice D n d)) wr) := Lib.hid ⟨D, d, rfl, hown, hbel, hnd, hdm⟩
          clear hown hbel hnd hdm
          go_wp2
          go_ret
          exact HM.out
end Go.Proofs.YtkaojhcmdichfaaDoor
