/- A tag, as the document's own reader tells it. -/
import Derived.Test.YtcihbkdpkhhhcaaRrc
import Derived.Test.YtcihbkdpkhhhcaaTagRd
namespace Go.Proofs.Ytcihbkdpkhhhcaa
open Go.ChangeShapes Go.WideShapes Go.ChangeAt Go.RowKit
set_option linter.unusedVariables false
open Plain
theorem row8_setT {w : World} {b : Nat} {l : List Int} (h : Row8 w b 0 l) (k : Nat) (x : Int) (hk : k < l.length) : Row8 (w.setCell ⟨b, k, none⟩ (.int .u8 x)) b 0 (l.set k x) := by
  have := h.splice k [x] (by simp; omega)
  have e : splice l k [x] = l.set k x := list_ext_getD (by rw [splice_len (by simp; omega), List.length_set]) (fun j hj => by
    rw [splice_at _ _ _ _ (by simp; omega), getD_set _ _ _ _ hk]
    by_cases e : k = j
    · subst e; rw [if_pos (by simp), if_pos rfl, Nat.sub_self]; rfl
    · rw [if_neg (by simp; omega), if_neg e])
  rw [e, Nat.zero_add] at this
  exact this
theorem row8_cellT {w : World} {b : Nat} {l : List Int} (h : Row8 w b 0 l) {k : Nat} (hk : k < l.length) {x : Int} (hx : l.getD k 0 = x) : w.cell? ⟨b, k, none⟩ = some (.int .u8 x) ∧ w.frozen? ⟨b, k, none⟩ = false := by
  have h1 := h.range k _ (vals_at l k hk)
  have h2 := h.there k hk
  rw [Nat.zero_add] at h1 h2
  rw [hx] at h1
  exact ⟨h1, h2.2⟩
set_option maxRecDepth 100000 in
set_option maxHeartbeats 2000000 in
theorem tag_rr_bad {w : World} {b B : Nat} {why : Int} {rest : List Int} (h : Rr w b B (why, rest)) (s : Int × List Int)
    (hC : ∀ w, Rr w b B (why, rest) → Calls Try.prog 69 #[.pointer (some ⟨b, 0, none⟩), .int .i64 32] w fun e w' => e = .returned (.tuple #[.slice none 0 0, .bool false]) ∧ Rr w' b B s ∧ w.grownBy w' (some b)) :
    Calls Try.prog 47 #[.pointer (some ⟨b, 0, none⟩)] w (RReads w b B (.agg (vals ZT).toArray) s) := by
  obtain ⟨R0, R1, g0, z0⟩ := two0_rows w
  have hlt := h.lt
  have hle := h.le
  have HW0 : Hid (Two0 w = (w.alloc (.cells (vals ZT).toArray 28)).alloc (.cells (vals ZT).toArray 28)) := Lib.hid rfl
  have HC := Lib.hid (hC (Two0 w) (h.grown g0 (fun k hk => by cases hk)))
  generalize Two0 w = W0 at *
  have HR0 := Lib.hid R0
  have HR1 := Lib.hid R1
  have HG0 := Lib.hid g0
  have HI := Lib.hid zt_size
  clear R0 R1 g0 h hC
  go_enter Try.func47, Try.ntmps47
  go_wp2_with fail
  refine (show Calls Try.prog _ _ ((w.alloc (.cells (vals ZT).toArray 28)).alloc (.cells (vals ZT).toArray 28)) _ from ?_)
  rw [← HW0.out]
  refine HC.out.mono ?_
  rintro e w1 ⟨rfl, r1, g1⟩
  have R0 : Hid (Row8 w1 w.heap.size 0 ZT) := Lib.hid (HR0.out.same (g1.block _ (by omega) (by intro e; injection e with e; omega)))
  have R1 : Hid (Row8 w1 (w.heap.size + 1) 0 ZT) := Lib.hid (HR1.out.same (g1.block _ (by omega) (by intro e; injection e with e; omega)))
  have G1 := Lib.hid (grown_trans (grown_more HG0.out) g1)
  have Q1 := Lib.hid r1
  clear r1 g1 HC HR0 HR1 HG0 HW0
  go_wp2
  go_loopw [6] (fun i wr => i = .int .i64 0 ∧ Hid (wr = w1)) (fun i _ => 0)
  case atStart => exact ⟨rfl, Lib.hid rfl⟩
  case round =>
    obtain ⟨rfl, hwr⟩ := hrel
    obtain rfl := hwr.out
    obtain ⟨a3, g3⟩ := tag_stored (T := ZT) R0.out rfl G1.out (Nat.le_refl _)
    have r3 := Q1.out.below (B' := w.heap.size) (below_setCells (Nat.le_refl _) (vals ZT) 0 wr (Below.refl _ _)) hlt
    have T3 : Hid (wr.there w.heap.size 0 (vals ZT).toArray.size) := Lib.hid R0.out.there
    have L1 := Lib.hid R1.out.range
    have A3 := Lib.hid a3
    have G3 := Lib.hid g3
    have R3 := Lib.hid r3
    clear R0 R1 a3 g3 r3
    have G := HI
    go_wp2_with (first
      | (have g := G; refine wpList_load_mid (op := ⟨some 25, .load 28 (.tmp 3), _, _, _, _⟩) rfl 28 (.tmp 3) rfl (w.heap.size + 1) 0 rfl (vals ZT) _ L1.out Try.underlying28 rfl HI.out ?_; clear g)
      | (have g := G; clear g; refine wpList_store_as (op := ⟨none, .store 28 (.tmp 2) (.tmp 25), _, _, _, _⟩) rfl 28 (.tmp 2) (.tmp 25) rfl w.heap.size 0 (vals ZT).toArray rfl rfl T3.out HI.out (all_oneCell_toArray (vals_one ZT)) ?_; intro w5 hw5; clear G))
    have e2 := hw5.out
    have r2 : w5.rangeAt w.heap.size 0 (vals ZT) := by rw [e2]; exact A3.out
    exact bodyPost_ret (v := .agg (vals ZT).toArray) (results_mid (p := 2) (ty := 28) rfl _ _ w.heap.size 0 (vals ZT) _ rfl r2 Try.underlying28 rfl HI.out) rfl ⟨rfl, by rw [e2]; exact R3.out, by rw [e2]; exact G3.out⟩
set_option maxRecDepth 100000 in
set_option maxHeartbeats 2000000 in
theorem tag_rr_ok {w : World} {b B : Nat} {rest : List Int} (h : Rr w b B (0, rest)) (h32 : 32 ≤ rest.length) :
    Calls Try.prog 47 #[.pointer (some ⟨b, 0, none⟩)] w (RReads w b B (.agg (vals (rest.take 32)).toArray) (0, rest.drop 32)) := by
  obtain ⟨R0, R1, g0, z0⟩ := two0_rows w
  have hlt := h.lt
  have hle := h.le
  obtain ⟨T, hT⟩ : ∃ T, rest.take 32 = T := ⟨_, rfl⟩
  have TL : Hid (T.length = 32) := Lib.hid (by rw [← hT, List.length_take]; omega)
  have TB : Hid (IsBytes T) := Lib.hid (by have := h.isBytes; rw [isBytes_iff] at *; rw [← hT]; exact fun z hz => this z (List.mem_of_mem_take hz))
  have HW0 : Hid (Two0 w = (w.alloc (.cells (vals ZT).toArray 28)).alloc (.cells (vals ZT).toArray 28)) := Lib.hid rfl
  have HC := Lib.hid (rsome_ok (h.grown g0 (fun k hk => by cases hk)) 32 h32)
  rw [hT] at HC ⊢
  generalize rest.drop 32 = s at *
  generalize Two0 w = W0 at *
  have HR0 := Lib.hid R0
  have HR1 := Lib.hid R1
  have HG0 := Lib.hid g0
  have HI := Lib.hid (tag_size T TL.out)
  clear R0 R1 g0 h hT h32
  go_enter Try.func47, Try.ntmps47
  go_wp2_with fail
  refine (show Calls Try.prog _ _ ((w.alloc (.cells (vals ZT).toArray 28)).alloc (.cells (vals ZT).toArray 28)) _ from ?_)
  rw [← HW0.out]
  refine HC.out.mono ?_
  rintro e w1 ⟨x, rfl, l1, r1, g1⟩
  obtain ⟨A, c, rfl, o1, hc, hc2⟩ := l1
  have hxlo : Hid (∀ a, A = some a → W0.heap.size ≤ a.block ∧ a.block < w1.heap.size) := Lib.hid (fun a ha => by subst ha; exact o1.lt a.block rfl)
  have z1 : Hid (Bs w1 w1.heap.size A 32 T) := Lib.hid (by have := bs_of_own o1 TB.out; rwa [TL.out] at this)
  rw [TL.out] at hc ⊢
  have R0 : Hid (Row8 w1 w.heap.size 0 ZT) := Lib.hid (HR0.out.same (g1.block _ (by omega) (by intro e; injection e with e; omega)))
  have R1 : Hid (Row8 w1 (w.heap.size + 1) 0 ZT) := Lib.hid (HR1.out.same (g1.block _ (by omega) (by intro e; injection e with e; omega)))
  have G1 := Lib.hid (grown_trans (grown_more HG0.out) g1)
  have s1 := g1.size
  have Q1 := Lib.hid r1
  clear r1 g1 HC HR0 HR1 HG0 HW0 o1
  go_wp2
  go_loopw [6] (fun i wr => ∃ j : Nat, j ≤ 32 ∧ i = .int .i64 (j : Int) ∧ ∃ ds : List Int, Hid (ds.length = 32) ∧ Hid (ds.take j = T.take j) ∧ Hid (Row8 wr (w.heap.size + 1) 0 ds) ∧ Hid (w1.grownBy wr (some (w.heap.size + 1)))) (fun i _ => 32 - (intOf i).toNat)
  case atStart => exact ⟨0, by omega, rfl, ZT, Lib.hid rfl, Lib.hid rfl, R1, Lib.hid (grown_refl _ _)⟩
  case round =>
    clear R1
    obtain ⟨j, hj, rfl, ds, HL, HE, HR, HG⟩ := hrel
    by_cases hlt2 : j < 32
    · have hjI : (j : Int) < 32 := by omega
      obtain ⟨u, hu⟩ : ∃ u, ds.getD j 0 = u := ⟨_, rfl⟩
      obtain ⟨x, hx⟩ : ∃ x, T.getD j 0 = x := ⟨_, rfl⟩
      obtain ⟨c1', c2'⟩ := row8_cellT HR.out (k := j) (by rw [HL.out]; omega) hu
      obtain ⟨k1, o1, e1, hk1, hcx⟩ := z1.out.row (by omega)
      subst e1
      have hb1 := hxlo.out _ rfl
      have cx : wr.cell? ⟨k1, o1 + j, none⟩ = some (.int .u8 x) := (World.cell?_of_block (a := ⟨k1, o1 + j, none⟩) (HG.out.block k1 hk1 (fun e => by injection e with e; have : W0.heap.size ≤ k1 := hb1.1; omega))).trans (by rw [← hx]; exact hcx j hlt2)
      have HR' := Lib.hid (row8_setT HR.out j x (by rw [HL.out]; omega))
      have HG' : Hid (w1.grownBy (wr.setCell ⟨w.heap.size + 1, j, none⟩ (.int .u8 x)) (some (w.heap.size + 1))) := Lib.hid (grown_trans HG.out (grown_cell wr ⟨w.heap.size + 1, j, none⟩ _))
      have HL' : Hid ((ds.set j x).length = 32) := Lib.hid (by rw [List.length_set]; exact HL.out)
      have HE' : Hid ((ds.set j x).take (j + 1) = T.take (j + 1)) := Lib.hid (by
        have h1 := HL.out
        have h2 := TL.out
        rw [List.take_succ_eq_append_getElem (by rw [List.length_set]; omega), List.take_succ_eq_append_getElem (by omega), List.getElem_set_self, List.take_set_of_le (Nat.le_refl j), HE.out]
        rw [← hx, List.getD_eq_getElem?_getD, List.getElem?_eq_getElem (by omega)]
        rfl)
      clear hu hx HR HG HL HE hcx hb1 hxlo z1
      go_wp2
      go_roundw
      case rel => exact ⟨j + 1, by omega, by go_num, _, HL', HE', HR', HG'⟩
      case measure => simp [intOf]; omega
    · obtain rfl : j = 32 := by omega
      have eds : ds = T := by
        have := HE.out
        rwa [List.take_of_length_le (by rw [HL.out]; omega), List.take_of_length_le (by rw [TL.out]; omega)] at this
      subst eds
      have R0' : Row8 wr w.heap.size 0 ZT := R0.out.same (HG.out.block _ (by omega) (by intro e; injection e with e; omega))
      have GW : w.grownBy wr (some b) := by
        refine ⟨HG.out.os.trans G1.out.os, HG.out.tape.trans G1.out.tape, HG.out.output.trans G1.out.output, Nat.le_trans G1.out.size HG.out.size, fun k hk hr => ?_⟩
        rw [HG.out.block k (Nat.lt_of_lt_of_le hk G1.out.size) (by intro e; injection e with e; omega)]
        exact G1.out.block k hk hr
      obtain ⟨a3, g3⟩ := tag_stored (T := ds) R0' (by rw [TL.out]; rfl) GW (Nat.le_refl _)
      have Q2 : Rr wr b B (0, s) := Q1.out.grown HG.out (fun k hk => by injection hk with hk; omega)
      have r3 := Q2.below (B' := w.heap.size) (below_setCells (Nat.le_refl _) (vals ds) 0 wr (Below.refl _ _)) hlt
      have e32 : (vals ds).toArray.size = 32 := by rw [List.size_toArray, vals_len, TL.out]
      have T3 : Hid (wr.there w.heap.size 0 (vals ds).toArray.size) := Lib.hid (by rw [e32]; exact R0'.there)
      have L1 := Lib.hid HR.out.range
      have A3 := Lib.hid a3
      have G3 := Lib.hid g3
      have R3 := Lib.hid r3
      clear R0 R0' a3 g3 r3 Q2 GW HG HR HE HL e32 z1 hxlo
      have G := HI
      go_wp2_with (first
        | (have g := G; refine wpList_load_mid (op := ⟨some 25, .load 28 (.tmp 3), _, _, _, _⟩) rfl 28 (.tmp 3) rfl (w.heap.size + 1) 0 rfl (vals ds) _ L1.out Try.underlying28 rfl HI.out ?_; clear g)
        | (have g := G; clear g; refine wpList_store_as (op := ⟨none, .store 28 (.tmp 2) (.tmp 25), _, _, _, _⟩) rfl 28 (.tmp 2) (.tmp 25) rfl w.heap.size 0 (vals ds).toArray rfl rfl T3.out HI.out (all_oneCell_toArray (vals_one ds)) ?_; intro w5 hw5; clear G))
      have e2 := hw5.out
      have r2 : w5.rangeAt w.heap.size 0 (vals ds) := by rw [e2]; exact A3.out
      exact bodyPost_ret (v := .agg (vals ds).toArray) (results_mid (p := 2) (ty := 28) rfl _ _ w.heap.size 0 (vals ds) _ rfl r2 Try.underlying28 rfl HI.out) rfl ⟨rfl, by rw [e2]; exact R3.out, by rw [e2]; exact G3.out⟩
theorem tag_rr {w : World} {b B : Nat} {why : Int} {rest : List Int} (h : Rr w b B (why, rest)) : Calls Try.prog 47 #[.pointer (some ⟨b, 0, none⟩)] w (RReads w b B (.agg (vals (rTag (why, rest)).1).toArray) (rTag (why, rest)).2) := by
  unfold rTag
  by_cases hw : why = 0
  · subst hw
    by_cases hk : 32 ≤ rest.length
    · rw [tk_ok _ _ _ _ _ hk rfl]
      exact tag_rr_ok h hk
    · rw [tk_short _ _ _ _ _ (by omega)]
      exact tag_rr_bad h _ (fun w h => rsome_short h 32 (by omega) (by omega))
  · have hn := h.nil hw
    subst hn
    rw [tk_bad _ _ _ _ _ _ hw]
    exact tag_rr_bad h _ (fun w h => rsome_bad h hw 32)
end Go.Proofs.Ytcihbkdpkhhhcaa
