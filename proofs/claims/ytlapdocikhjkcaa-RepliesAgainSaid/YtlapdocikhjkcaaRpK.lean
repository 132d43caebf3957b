/- Literals of what a client was told; a row of one; rows put together. -/
import Derived.Test.YtlapdocikhjkcaaRpG
import Derived.Test.YtlapdocikhjkcaaB2
import Derived.Great.BuildSlice
namespace Go.Proofs.Ytlapdocikhjkcaa
open Go.ChangeShapes Go.WideShapes Go.ChangeAt Go.RowKit
set_option linter.unusedVariables false
set_option linter.unusedSimpArgs false
open Plain Sha Au Rp
theorem list32 {T : List Int} (hT : T.length = 32) : T = (List.range 32).map fun i => T.getD i 0 := by
  refine list_ext_getD (by simp [hT]) (fun j hj => ?_)
  rw [hT] at hj
  simp [List.getD_eq_getElem?_getD, hj]
theorem build_P (c id : Int) (r : RX) (W : World) :
    (Instr.build 53 #[(0, .int .i64 c), (1, .int .i64 id), (2, .agg (rc r).toArray)]).run Try.prog W = .ok (.agg (xc ⟨c, id, r⟩).toArray) W := by
  obtain ⟨err, val, A, kn, kc, ks, n, g⟩ := r
  obtain ⟨g1, g2, g3, g4, g5, g6, g7, H, S, hH, hS⟩ := g
  obtain ⟨f, hf⟩ : ∃ f : Nat → Int, H = (List.range 32).map f := ⟨_, list32 hH⟩
  obtain ⟨f2, hf2⟩ : ∃ f : Nat → Int, S = (List.range 32).map f := ⟨_, list32 hS⟩
  subst hf hf2
  exact run_build W 53 _ _ (by kernel_rfl)
theorem exec_P {P : Program} {a : Act} {op : Oper} {x0 x1 x2 : Operand} {c id : Int} {r : RX} {w : World} (hP : P = Try.prog) (ho : op.op = .build 53 #[(0, x0), (1, x1), (2, x2)]) (h0 : a.eval x0 = .int .i64 c) (h1 : a.eval x1 = .int .i64 id) (h2 : a.eval x2 = .agg (rc r).toArray) : (execOp a.eval op).run P w = .ok (.value (.agg (xc ⟨c, id, r⟩).toArray)) w := by
  subst hP
  have hb := build_P c id r w
  unfold execOp
  simp only [ho]
  simp [h0, h1, h2, hb]
theorem slice_P (x : LX) (W : World) : (Instr.buildSlice 24 1 #[(0, .agg (xc x).toArray)]).run Try.prog W = .ok (.slice (some ⟨W.heap.size, 0, none⟩) 1 1) (W.alloc (.cells (xc x).toArray 53)) := by
  obtain ⟨i, hi, hz, hs, hb⟩ := info_parts (show (Try.prog.info? 53).map (fun i => (i.zero, i.size, i.bytes)) = some (some (.agg (xc x0).toArray), 77, 192) by kernel_rfl)
  refine run_buildSlice W 24 53 1 _ _ i _ Try.underlying24 hi hz (by rw [hs]; omega) (by rw [hs]; omega) ?_
  rw [hs]
  have := Great.fill_whole (s := 77) (by omega) [Value.agg (xc x).toArray] ((Array.range (1 * 77)).map ((Value.agg (xc x0).toArray).cells[· % (Value.agg (xc x0).toArray).cells.size]!)) (fun v hv => by
    rw [List.mem_singleton] at hv; subst hv
    show (xc x).toArray.size = 77
    rw [List.size_toArray, xc_len]) (by simp)
  simpa [Value.cells] using this
theorem wp_slice_P {o : Oper} {a : Act} {w : World} {K : Act → World → Prop} {Q : Exit → Act → World → Prop} (x : Operand) (ho : o.op = .buildSlice 24 1 #[(0, x)]) (g : LX) (hx : a.eval x = .agg (xc g).toArray)
    (h : K (a.put o.dst (.slice (some ⟨w.heap.size, 0, none⟩) 1 1)) (w.alloc (.cells (xc g).toArray 53))) : o.wp Try.prog a w K Q := by
  have e : (#[(0, x)] : Array (Nat × Operand)).map (fun (y : Nat × Operand) => (y.1, a.eval y.2)) = #[(0, .agg (xc g).toArray)] := by simp [hx]
  unfold Oper.wp execOp
  simp only [ho, Sem.run_bind]
  rw [show (Instr.buildSlice 24 1 ((#[(0, x)] : Array (Nat × Operand)).map fun (i, x) => (i, a.eval x))).run Try.prog w = _ from (congrArg (fun p => (Instr.buildSlice 24 1 p).run Try.prog w) e).trans (slice_P g w)]
  exact h
theorem wpList_slice_P {ops : Array Oper} {rest : List Oper} {o : Oper} {a : Act} {w : World} {Q : Exit → Act → World → Prop} (hgd : o.guard = none) (x : Operand) (ho : o.op = .buildSlice 24 1 #[(0, x)]) (g : LX) (hx : a.eval x = .agg (xc g).toArray)
    (h : ∀ w', Hid (w' = w.alloc (.cells (xc g).toArray 53)) → wpList Try.prog ops Q rest (a.put o.dst (.slice (some ⟨w.heap.size, 0, none⟩) 1 1)) w') : wpList Try.prog ops Q (o :: rest) a w :=
  wpList_plain hgd fun _ hK => wp_slice_P x ho g hx (hK _ _ (h _ (Lib.hid rfl)))
theorem build_D (c id : Int) (r : RX) (W : World) :
    (Instr.build 40 #[(0, .int .i64 c), (1, .int .i64 id), (2, .agg (rc r).toArray)]).run Try.prog W = .ok (.agg (xc ⟨c, id, r⟩).toArray) W := by
  obtain ⟨err, val, A, kn, kc, ks, n, g⟩ := r
  obtain ⟨g1, g2, g3, g4, g5, g6, g7, H, S, hH, hS⟩ := g
  obtain ⟨f, hf⟩ : ∃ f : Nat → Int, H = (List.range 32).map f := ⟨_, list32 hH⟩
  obtain ⟨f2, hf2⟩ : ∃ f : Nat → Int, S = (List.range 32).map f := ⟨_, list32 hS⟩
  subst hf hf2
  exact run_build W 40 _ _ (by kernel_rfl)
theorem exec_D {P : Program} {a : Act} {op : Oper} {x0 x1 x2 : Operand} {c id : Int} {r : RX} {w : World} (hP : P = Try.prog) (ho : op.op = .build 40 #[(0, x0), (1, x1), (2, x2)]) (h0 : a.eval x0 = .int .i64 c) (h1 : a.eval x1 = .int .i64 id) (h2 : a.eval x2 = .agg (rc r).toArray) : (execOp a.eval op).run P w = .ok (.value (.agg (xc ⟨c, id, r⟩).toArray)) w := by
  subst hP
  have hb := build_D c id r w
  unfold execOp
  simp only [ho]
  simp [h0, h1, h2, hb]
theorem slice_D (x : LX) (W : World) : (Instr.buildSlice 22 1 #[(0, .agg (xc x).toArray)]).run Try.prog W = .ok (.slice (some ⟨W.heap.size, 0, none⟩) 1 1) (W.alloc (.cells (xc x).toArray 40)) := by
  obtain ⟨i, hi, hz, hs, hb⟩ := info_parts (show (Try.prog.info? 40).map (fun i => (i.zero, i.size, i.bytes)) = some (some (.agg (xc x0).toArray), 77, 192) by kernel_rfl)
  refine run_buildSlice W 22 40 1 _ _ i _ Try.underlying22 hi hz (by rw [hs]; omega) (by rw [hs]; omega) ?_
  rw [hs]
  have := Great.fill_whole (s := 77) (by omega) [Value.agg (xc x).toArray] ((Array.range (1 * 77)).map ((Value.agg (xc x0).toArray).cells[· % (Value.agg (xc x0).toArray).cells.size]!)) (fun v hv => by
    rw [List.mem_singleton] at hv; subst hv
    show (xc x).toArray.size = 77
    rw [List.size_toArray, xc_len]) (by simp)
  simpa [Value.cells] using this
theorem wp_slice_D {o : Oper} {a : Act} {w : World} {K : Act → World → Prop} {Q : Exit → Act → World → Prop} (x : Operand) (ho : o.op = .buildSlice 22 1 #[(0, x)]) (g : LX) (hx : a.eval x = .agg (xc g).toArray)
    (h : K (a.put o.dst (.slice (some ⟨w.heap.size, 0, none⟩) 1 1)) (w.alloc (.cells (xc g).toArray 40))) : o.wp Try.prog a w K Q := by
  have e : (#[(0, x)] : Array (Nat × Operand)).map (fun (y : Nat × Operand) => (y.1, a.eval y.2)) = #[(0, .agg (xc g).toArray)] := by simp [hx]
  unfold Oper.wp execOp
  simp only [ho, Sem.run_bind]
  rw [show (Instr.buildSlice 22 1 ((#[(0, x)] : Array (Nat × Operand)).map fun (i, x) => (i, a.eval x))).run Try.prog w = _ from (congrArg (fun p => (Instr.buildSlice 22 1 p).run Try.prog w) e).trans (slice_D g w)]
  exact h
theorem wpList_slice_D {ops : Array Oper} {rest : List Oper} {o : Oper} {a : Act} {w : World} {Q : Exit → Act → World → Prop} (hgd : o.guard = none) (x : Operand) (ho : o.op = .buildSlice 22 1 #[(0, x)]) (g : LX) (hx : a.eval x = .agg (xc g).toArray)
    (h : ∀ w', Hid (w' = w.alloc (.cells (xc g).toArray 40)) → wpList Try.prog ops Q rest (a.put o.dst (.slice (some ⟨w.heap.size, 0, none⟩) 1 1)) w') : wpList Try.prog ops Q (o :: rest) a w :=
  wpList_plain hgd fun _ hK => wp_slice_D x ho g hx (hK _ _ (h _ (Lib.hid rfl)))
/-- A row of one that has just been written out. -/
theorem one_lies (w : World) (x : LX) (t : TypeId) (k : Nat) (hk : w.heap.size = k) : Lies (w.alloc (.cells (xc x).toArray t)) 77 (some ⟨k, 0, none⟩) 1 (xvs [x]) ∧ Sourced (some ⟨k, 0, none⟩) 1 := by
  subst hk
  refine ⟨⟨by rw [xvs_sing, xc_len], fun ad hA => ?_⟩, fun h => by cases h⟩
  injection hA with hA
  subst hA
  intro j u hu
  rw [xvs_sing] at hu
  rw [Go.WideShapes.add_plain, cell_of_row _ _ _ _ _ _ (heap_alloc_new w _), Nat.zero_add, List.getElem?_toArray]
  exact hu
theorem las_one (w : World) (x : LX) (B : Nat) (hx : XOk w B x) (hB : B ≤ w.heap.size) (t : TypeId) (k : Nat) (hk : w.heap.size = k) : Las (w.alloc (.cells (xc x).toArray t)) (k + 1) (some ⟨k, 0, none⟩) 1 [x] := by
  subst hk
  refine ⟨rfl, fun _ => ⟨w.heap.size, 0, rfl, by omega, fun i u hu => ?_⟩, fun y hy => by rw [List.mem_singleton] at hy; subst hy; exact (hx.below (below_one _ _) hB).more (by omega)⟩
  rw [xvs_sing] at hu
  rw [cell_of_row _ _ _ _ _ _ (heap_alloc_new w _), Nat.zero_add, List.getElem?_toArray, hu]
theorem cut_hL (A : Option Addr) (n c hi : Nat) (h : Int) (hh : h = hi) (h2 : hi ≤ c) :
    ∀ W, (Instr.slice 24 (.slice A n c) none (some (.int .i64 h)) none).run Try.prog W = .ok (.slice A hi c) W := by
  subst hh
  intro W
  have he : Try.prog.elem 24 = 53 := by simp [Program.elem, Try.underlying24]
  have hz : (Go.sizeOf 53).run Try.prog W = .ok 77 W := Try.sizeOf53 W
  rw [run_slice_h W 24 A n c (by rw [he]; exact Try.underlying24) .i64 _ (by omega) (by omega), he, hz]
  cases A <;> simp [Result.andThen, sliced, Addr.add]
/-- What a call hands back that makes a table. -/
def MadeL (w : World) (l : List LX) (n : Nat) (e : Ending) (w' : World) : Prop :=
  ∃ D d, e = .returned (.slice D n d) ∧ w'.ownsRow w.heap.size 53 77 (.slice D n d) n (xvs l) ∧ Below w.heap.size w w' ∧ n ≤ d ∧ d ≤ maxLen
theorem grow_some (n : Nat) (w : World) (h0 : 0 < n) (hn : n ≤ 200000) : Calls Try.prog 38 #[.slice none 0 0, .int .i64 n] w (fun e w' => ∃ v, e = .returned v ∧ w'.ownsRow w.heap.size 53 77 v 0 [] ∧ Below w.heap.size w w') := by
  obtain ⟨i, z, hi, hz, hs, hb, hzs⟩ := p_info
  have hold : (Builtin.firstCells i.size 0 (.slice none 0 0)).run Try.prog w.drew = .ok ([] : List Value).toArray w.drew := run_firstCells_none w.drew i.size 0 0 0
  have hrz : ∀ ty, (Builtin.append_ #[24, 3] ty #[.slice none 0 0, .int .i64 (n : Int)]).run Try.prog w = _ := fun ty =>
    Lib.run_append_grow_zeros w 24 3 ty 53 i z .i64 .i64 Try.underlying24 Try.underlying3 hi hz none 0 0 [] hold n h0 (by omega) (by omega) (by omega) (by rw [hb]; omega) (by rw [hb]; exact Nat.le_trans (growslice_fits (by omega) (by omega)) (by omega))
  simp only [Nat.zero_add] at hrz
  have hge := grownCap_ge w n 0 53
  have hle := grownCap_le_maxLen w n 0 53 (by unfold maxLen; omega)
  obtain ⟨G, hG⟩ : ∃ G, grownCap w n 0 53 = G := ⟨_, rfl⟩
  rw [hG] at hrz hge hle
  have hle2 : G ≤ 9223372036854775807 := by unfold maxLen at hle; exact hle
  obtain ⟨cs, hcs⟩ : ∃ cs, [].toArray ++ Builtin.zeroCells z.cells n ++ Builtin.zeroCells z.cells (G - n) = cs := ⟨_, rfl⟩
  have hsz : cs.size = G * 77 := by rw [← hcs]; simp [size_zeroCells, hzs]; omega
  rw [hcs] at hrz
  have C1 := cut_hL (some ⟨w.heap.size, 0, none⟩) n G 0 0 rfl (by omega)
  have HR := Lib.hid hrz
  have hn0 : ¬ ((n : Int) < 0) := by omega
  have hn1 : (n : Int) > 0 := by omega
  clear hrz hG hcs hold
  have HS := Lib.hid hsz
  have HL := Lib.hid hle
  clear hsz hle
  go_enter Try.func38, Try.ntmps38
  go_wp2_with (at_builtin; refine Lib.wpList_append_run _ rfl _ _ _ _ rfl _ _ rfl rfl _ _ (HR.out _) ?_)
  go_ret
  refine ⟨_, rfl, ⟨rfl, .inr ⟨w.heap.size, G, cs, rfl, Nat.le_refl _, ?_, by omega, HL.out, by rw [HS.out], rfl⟩⟩, ?_⟩
  · exact heap_alloc_new w.drew _
  · exact ((Below.refl w.heap.size w).drew).alloc (Nat.le_refl _) _
/-- The three pieces of a Concat: sums and lists so far. -/
structure ThreeP (w : World) (B : Nat) (b : Nat) (n : Nat) (l : List LX) (SM : Nat → Nat) (LL : Nat → List LX) : Prop where
  s0 : SM 0 = 0
  s3 : SM 3 = n
  sle : ∀ k, k ≤ 3 → SM k ≤ n
  l0 : LL 0 = []
  l3 : LL 3 = l
  at_ : ∀ k, k < 3 → ∃ A' n' c' l', w.cell? ⟨b, k, none⟩ = some (.slice A' n' c') ∧ Las w B A' n' l' ∧ SM (k + 1) = SM k + n' ∧ LL (k + 1) = LL k ++ l'
theorem ThreeP.below {w w' : World} {B b n : Nat} {l : List LX} {SM : Nat → Nat} {LL : Nat → List LX} (h : ThreeP w B b n l SM LL) (hb : Below w.heap.size w w') (hB : B ≤ w.heap.size) (hlt : b < w.heap.size) : ThreeP w' B b n l SM LL :=
  ⟨h.s0, h.s3, h.sle, h.l0, h.l3, fun k hk => by
    obtain ⟨A', n', c', l', h1, h2, h3, h4⟩ := h.at_ k hk
    exact ⟨A', n', c', l', (hb.cell (p := ⟨b, k, none⟩) hlt).trans h1, h2.below hb hB, h3, h4⟩⟩
theorem threeP_of {w : World} {B1 B2 B3 n1 n2 n3 c1 c2 c3 : Nat} {A1 A2 A3 : Option Addr} {l1 l2 l3 : List LX} (h1 : Las w B1 A1 n1 l1) (h2 : Las w B2 A2 n2 l2) (h3 : Las w B3 A3 n3 l3) (hB1 : B1 ≤ w.heap.size) (hB2 : B2 ≤ w.heap.size) (hB3 : B3 ≤ w.heap.size) (t : TypeId) :
    ThreeP (w.alloc (.cells #[.slice A1 n1 c1, .slice A2 n2 c2, .slice A3 n3 c3] t)) w.heap.size w.heap.size (n1 + n2 + n3) (l1 ++ l2 ++ l3) (fun k => if k = 0 then 0 else if k = 1 then n1 else if k = 2 then n1 + n2 else n1 + n2 + n3) (fun k => if k = 0 then [] else if k = 1 then l1 else if k = 2 then l1 ++ l2 else l1 ++ l2 ++ l3) := by
  have hb : Below w.heap.size w (w.alloc (.cells #[.slice A1 n1 c1, .slice A2 n2 c2, .slice A3 n3 c3] t)) := (Below.refl _ _).alloc (Nat.le_refl _) _
  have hc := heap_alloc_new w (.cells #[.slice A1 n1 c1, .slice A2 n2 c2, .slice A3 n3 c3] t)
  refine ⟨rfl, rfl, fun k hk => ?_, rfl, rfl, fun k hk => ?_⟩
  · match k, hk with
    | 0, _ => exact Nat.zero_le _
    | 1, _ => show n1 ≤ n1 + n2 + n3; omega
    | 2, _ => show n1 + n2 ≤ n1 + n2 + n3; omega
    | 3, _ => exact Nat.le_refl _
  · match k, hk with
    | 0, _ => exact ⟨A1, n1, c1, l1, by rw [cell_of_row _ _ _ _ _ _ hc]; rfl, (h1.more hB1).below hb (Nat.le_refl _), by simp, by simp⟩
    | 1, _ => exact ⟨A2, n2, c2, l2, by rw [cell_of_row _ _ _ _ _ _ hc]; rfl, (h2.more hB2).below hb (Nat.le_refl _), by simp, by simp⟩
    | 2, _ => exact ⟨A3, n3, c3, l3, by rw [cell_of_row _ _ _ _ _ _ hc]; rfl, (h3.more hB3).below hb (Nat.le_refl _), by simp, by simp⟩
set_option maxHeartbeats 2000000 in
theorem concat_any {w : World} {B b n c : Nat} {l : List LX} {SM : Nat → Nat} {LL : Nat → List LX} (h : ThreeP w B b n l SM LL) (hB : B ≤ w.heap.size) (hlt0 : b < w.heap.size) (hn : n ≤ 200000) (hn0 : 0 < n) :
    Calls Try.prog 32 #[.slice (some ⟨b, 0, none⟩) 3 c] w (MadeL w l n) := by
  have H := Lib.hid h
  have HS0 := Lib.hid h.s0
  have HS2 := Lib.hid h.s3
  have HSL := Lib.hid h.sle
  have HL0 := Lib.hid h.l0
  have HL2 := Lib.hid h.l3
  clear h
  go_enter Try.func32, Try.ntmps32
  go_wp2
  go_loop [3, 11] (fun s i => ∃ k : Nat, k ≤ 3 ∧ i = .int .i64 k ∧ s = .int .i64 (SM k : Nat)) (fun _ i => 3 - (intOf i).toNat)
  case atStart => exact ⟨0, by omega, rfl, by rw [HS0.out]; rfl⟩
  case round =>
    obtain ⟨k, hk, rfl, rfl⟩ := hrel
    by_cases hlt : k < 3
    · obtain ⟨A', n', c', l', hc, _, h3, _⟩ := H.out.at_ k hlt
      have h1 := HSL.out (k + 1) (by omega)
      have H2 := Lib.hid h3
      rw [h3] at h1
      clear h3
      generalize hsk : SM k = sk at *
      clear hsk
      have h2 : ¬ ((sk : Int) + (n' : Int) < 0) := by omega
      have hlI : (k : Int) < 3 := by omega
      go_wp2
      go_round
      case rel => exact ⟨k + 1, by omega, by go_num, by rw [H2.out]; go_num⟩
      case measure => simp [intOf]; omega
    · obtain rfl : k = 3 := by omega
      rw [HS2.out]
      have GR := Lib.hid (grow_some n w hn0 hn)
      go_wp2_with (go_at_call 38; refine GR.out.mono ?_; rintro e w1 ⟨v1, rfl, ho1, hb1⟩)
      go_loopw [6, 27] (fun v i wr => ∃ j : Nat, j ≤ 3 ∧ i = .int .i64 j ∧ wr.ownsRow w.heap.size 53 77 v (SM j) (xvs (LL j)) ∧ Below w.heap.size w wr) (fun _ i _ => 3 - (intOf i).toNat)
      case atStart => exact ⟨0, by omega, rfl, by rw [HS0.out, HL0.out]; exact ho1, hb1⟩
      case round =>
        obtain ⟨j, hj, rfl, hown, hbel⟩ := hrel
        by_cases hltj : j < 3
        · obtain ⟨A', n', c', l', hc, hst, h3, h4⟩ := (H.out.below hbel hB hlt0).at_ j hltj
          have h1 := HSL.out (j + 1) (by omega)
          have H2 := Lib.hid h3
          have H4 := Lib.hid h4
          have HST := Lib.hid hst.lies
          rw [h3] at h1
          clear h3 h4 hst
          have HJ : Hid (SM j = SM j) := Lib.hid rfl
          obtain ⟨sj, hsj⟩ : ∃ s, SM j = s := ⟨_, rfl⟩
          rw [hsj] at hown h1
          have HSJ := Lib.hid hsj
          clear hsj HJ
          have hlI : (j : Int) < 3 := by omega
          go_wp2_with (at_builtin; refine wpList_app _ rfl (.tmp 31) (.tmp 32) 24 rfl w.heap.size 53 77 192 Try.underlying24 p_info (by omega) u6 sj (xvs (LL j)) rfl hown A' n' c' (xvs l') rfl HST.out.1 HST.out.2 (xvs_one _) (by unfold maxLen; omega) (by omega) hbel.size ?_; intro v2 w2 ho2 hg2)
          go_roundw
          case rel => exact ⟨j + 1, by omega, by go_num, by rw [H2.out, H4.out, xvs_app, HSJ.out]; exact ho2, hbel.grown hg2 hbel.size (fun q hq => (hown.lt q hq).1)⟩
          case measure => simp [intOf]; omega
        · obtain rfl : j = 3 := by omega
          rw [HS2.out, HL2.out] at hown
          obtain ⟨D, d, rfl, hnd, hdm⟩ := own_shapeA hown
          have HM : Hid (MadeL w l n (.returned (.slice D n d)) wr) := Lib.hid ⟨D, d, rfl, hown, hbel, hnd, hdm⟩
          clear hown hbel hnd hdm
          go_wp2
          go_ret
          exact HM.out
end Go.Proofs.Ytlapdocikhjkcaa
