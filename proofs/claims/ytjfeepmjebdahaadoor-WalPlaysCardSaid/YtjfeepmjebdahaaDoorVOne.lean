/- What an act makes of a wal and its disk, and of the document's disk. -/
import Derived.Test.YtjfeepmjebdahaaDoorVTrio
namespace Go.Proofs.YtjfeepmjebdahaaDoor
open Go.ChangeShapes Go.WideShapes Go.ChangeAt Go.RowKit
set_option linter.unusedVariables false
open Plain Sha
/-- What an act makes of a state. -/
def wDo (s : DiskZ) (a : ActZ) : DiskZ :=
  if a.kind = 0 ∨ a.kind = 1 ∨ a.kind = 2 then (dWrite s (frameZ a.zs)).2 else if a.kind = 3 then (dSync s).2 else if a.kind = 4 then (dCrash s a.n a.m).2 else if a.kind = 5 ∨ a.kind = 6 then recD (dStart s).2 else if a.kind = 7 then (dWrite s a.zs).2 else if a.kind = 8 then recD s else s
theorem Stands.tight {w : World} {F : Nat → Prop} {A : Option Addr} {n c : Nat} {zs : List Int} (h : Stands w F ⟨A, n, c, zs⟩) : Stands w F ⟨A, n, n, zs⟩ := ⟨h.len, h.bytes, Nat.le_refl _, Nat.le_trans h.cap h.max, h.row⟩
theorem recD_small {s : DiskZ} (h : Small s) : Small (recD s) := by
  unfold recD
  split
  · exact recS_small h
  · exact h
theorem dStart_small {s : DiskZ} (h : Small s) : Small (dStart s).2 := by
  unfold dStart
  split
  · exact h
  · exact ⟨h.bytes, h.writes⟩
set_option maxRecDepth 100000 in
set_option maxHeartbeats 2000000 in
theorem onew_w0 {w0 w : World} {b d r : Nat} {K R : Nat → Prop} {s : DiskZ} (a : ActZ) (h : Trio w0 w b d r K R s s) (hs : Small s) (ha : ActOk w0 w0.heap.size a) (hl : a.len ≤ 65536) (hk : a.kind = 0) :
    Calls Tryd.prog 20 #[.pointer (some ⟨b, 0, none⟩), .pointer (some ⟨d, 0, none⟩), .pointer (some ⟨r, 0, none⟩), .agg (aCells a).toArray] w (OneW w0 b d r ((dWrite s (frameZ a.zs)).2)) := by
  obtain ⟨kind, n, m, A, len, cap, zs⟩ := a
  obtain rfl : kind = 0 := hk
  obtain ⟨_, hn, hm, hbs, hcap, hmax, _⟩ := ha
  simp only at hn hm hbs hcap hmax hl
  obtain ⟨W, hW⟩ : ∃ W, w.alloc (.cells (aCells ⟨0, n, m, A, len, cap, zs⟩).toArray 44) = W := ⟨_, rfl⟩
  have hh : W.heap[w.heap.size]? = some (.cells (aCells ⟨0, n, m, A, len, cap, zs⟩).toArray 44 (0, 0)) := by rw [← hW]; exact heap_alloc_new w _
  have sW : W.heap.size = w.heap.size + 1 := by rw [← hW]; simp
  have bW : Below w.heap.size w W := by rw [← hW]; exact (Below.refl _ _).alloc (Nat.le_refl _) _
  have HH : Hid (∀ v : World, v.heap[w.heap.size]? = W.heap[w.heap.size]? → v.cell? ⟨w.heap.size, 0, none⟩ = some (.int .i64 0) ∧ v.cell? ⟨w.heap.size, 1, none⟩ = some (.int .i64 n) ∧ v.cell? ⟨w.heap.size, 2, none⟩ = some (.int .i64 m) ∧ v.cell? ⟨w.heap.size, 3, none⟩ = some (.slice A len cap)) := Lib.hid (fun v hv => by
    rw [hh] at hv
    exact ⟨by rw [cell_of_row _ _ _ _ _ _ hv]; rfl, by rw [cell_of_row _ _ _ _ _ _ hv]; rfl, by rw [cell_of_row _ _ _ _ _ _ hv]; rfl, by rw [cell_of_row _ _ _ _ _ _ hv]; rfl⟩)
  obtain ⟨c0, c1, c2, c3⟩ := HH.out W rfl
  have HP := Lib.hid (h.below bW)
  have hbw := h.wal.lt
  have HKlt : Hid (¬ K w.heap.size ∧ ¬ R w.heap.size) := Lib.hid ⟨fun e => by have := h.pair.dk.lt _ e; omega, fun e => by have := h.pair.rf.lt _ e; omega⟩
  have HBS := Lib.hid hbs
  have HW := Lib.hid hW
  have HSM := Lib.hid hs
  clear hW hh bW hbs h hs
  have hW0 : w0.heap.size ≤ W.heap.size := HP.out.pair.bel.size
  have BY := Lib.hid HBS.out.isBytes
  have LZ := Lib.hid HBS.out.len
  have HCP := Lib.hid (refcopy_any cap (HBS.out.below HP.out.pair.bel) hW0 (by omega))
  obtain ⟨x, hx⟩ : ∃ x, dWrite s (frameZ zs) = x := ⟨_, rfl⟩
  show Calls _ _ _ _ (OneW w0 b d r (dWrite s (frameZ zs)).2)
  have HX := Lib.hid hx
  rw [hx]
  clear hx
  go_enter Tryd.func20, Tryd.ntmps20
  go_upto_region 1 with fail
  simp only [HW.out]
  go_wp2_with fail
  refine HCP.out.mono ?_
  intro e w1 hm1
  obtain ⟨M, cm, rfl, ho1, hb1, hc1, hc1m⟩ := hm1.n LZ.out
  have HP1 := Lib.hid (HP.out.below hb1)
  have HO1 := Lib.hid ho1
  have s1 := hb1.size
  obtain ⟨d0, d1, d2, d3⟩ := HH.out w1 (hb1.block w.heap.size (by omega))
  have HE1 : Hid (w1.heap[w.heap.size]? = W.heap[w.heap.size]?) := Lib.hid (hb1.block w.heap.size (by omega))
  have HM : Hid (∀ k, (Value.slice M len cm).ownBlock = some k → W.heap.size ≤ k ∧ k < w1.heap.size ∧ ¬ K k ∧ ¬ R k) := Lib.hid (fun k hk => by
    have := ho1.lt k hk
    exact ⟨this.1, this.2, fun e => by have := HP.out.pair.dk.lt k e; omega, fun e => by have := HP.out.pair.rf.lt k e; omega⟩)
  have C1 := Lib.hid (waladd_any cm HP1.out.wal HP1.out.grown HSM.out ((stands_own (F := fun k => ¬ K k) ho1 BY.out (fun k hk => (HM.out k hk).2.2.1)).tight) (by omega))
  rw [HX.out] at C1
  clear hm1 ho1 hb1 HCP c0 c1 c2 c3
  go_wp2_with fail
  refine C1.out.mono ?_
  intro e w2 hd
  obtain ⟨rfl, K1, h1, hm1, hn1⟩ := HP1.out.did hd
  have HP2 := Lib.hid h1
  have s2 := hm1.size
  have HE2 : Hid (w2.heap[w.heap.size]? = W.heap[w.heap.size]?) := Lib.hid ((hm1.block w.heap.size (by omega) HKlt.out.1).trans HE1.out)
  obtain ⟨y0, y1, y2, y3⟩ := HH.out w2 HE2.out
  have HO2 : Hid (w2.ownsRow W.heap.size 5 1 (.slice M len cm) len (vals zs)) := Lib.hid (own_same HO1.out (fun k hk => hm1.block k (HM.out k hk).2.1 (HM.out k hk).2.2.1))
  have HMK : Hid (∀ k, (Value.slice M len cm).ownBlock = some k → ¬ K1 k) := Lib.hid (fun k hk e => by
    rcases hn1 k e with e | e
    · exact (HM.out k hk).2.2.1 e
    · have := (HM.out k hk).2.1; omega)
  have C2 := Lib.hid (radd_any cap HP2.out.pair.rf (HBS.out.below HP2.out.pair.bel) HP2.out.pair.bel.size hl HSM.out)
  rw [HX.out] at C2
  clear h1 hm1 hn1 hd C1 d0 d1 d2 d3
  go_wp2_with fail
  refine C2.out.mono ?_
  intro e w3 hd
  obtain ⟨rfl, R1, h1, hm1, hn1⟩ := HP2.out.rdid hd
  have HP3 := Lib.hid h1
  have s3 := hm1.size
  have HE3 : Hid (w3.heap[w.heap.size]? = W.heap[w.heap.size]?) := Lib.hid ((hm1.block w.heap.size (by omega) HKlt.out.2).trans HE2.out)
  obtain ⟨z0, z1, z2, z3⟩ := HH.out w3 HE3.out
  have HO3 : Hid (w3.ownsRow W.heap.size 5 1 (.slice M len cm) len (vals zs)) := Lib.hid (own_same HO2.out (fun k hk => hm1.block k (by have := (HM.out k hk).2.1; omega) (HM.out k hk).2.2.2))
  have HMR : Hid (∀ k, (Value.slice M len cm).ownBlock = some k → ¬ R1 k) := Lib.hid (fun k hk e => by
    rcases hn1 k e with e | e
    · exact (HM.out k hk).2.2.2 e
    · have := (HM.out k hk).2.1; omega)
  have SM := Lib.hid (refsame_any cm cap (bs_of_own HO3.out BY.out) (HBS.out.below HP3.out.pair.bel) (Nat.le_trans hc1 hc1m) (Nat.le_trans hcap hmax))
  rw [eqB_self] at SM
  clear h1 hm1 hn1 hd C2 y0 y1 y2 y3
  go_wp2_with fail
  refine SM.out.mono ?_
  rintro e w4 ⟨rfl, hq⟩
  have HP4 := Lib.hid (HP3.out.quiet hq)
  have HO4 : Hid (Own w4 W.heap.size M len cm) := Lib.hid (by obtain ⟨j, rfl⟩ := hq; exact Own.of HO3.out BY.out)
  have hcm : len ≤ 9223372036854775807 := by omega
  clear hq SM z0 z1 z2 z3 HO1 HO2 HO3 HP1 HP2 HP3 HE1 HE2 HE3
  go_wp2
  go_loopw [12] (fun i wx => ∃ j : Nat, j ≤ len ∧ i = .int .i64 (j : Int) ∧ Hid (Own wx W.heap.size M len cm) ∧ Hid (Trio w0 wx b d r K1 R1 x.2 x.2)) (fun i _ => len - (intOf i).toNat)
  case atStart => exact ⟨0, by omega, rfl, HO4, HP4⟩
  case round =>
    clear HO4 HP4
    obtain ⟨j, hj, rfl, HO4, HP4⟩ := hrel
    by_cases hltj : j < len
    · obtain ⟨g2, u, rfl, hg1, hg2, hu0, hu1, hcc, hff, HSS⟩ := HO4.out.at_ hltj
      have hjI : (j : Int) < (len : Int) := by omega
      have HPX : Hid (∀ z : Int, Trio w0 (wr.setCell ⟨g2, j, none⟩ (.int .u8 z)) b d r K1 R1 x.2 x.2) := Lib.hid (fun z => HP4.out.cell (HMK.out g2 rfl) (HMR.out g2 rfl) (by show g2 ≠ b; omega) (by show w0.heap.size ≤ g2; omega) _)
      go_wp2
      go_roundw
      case rel => exact ⟨j + 1, by omega, by go_num, Lib.hid (HSS.out _ (by omega) (by omega)), Lib.hid (HPX.out _)⟩
      case measure => simp [intOf]; omega
    · have hjn : ¬ (j : Int) < (len : Int) := by omega
      go_wp2
      go_ret
      exact ⟨rfl, K1, R1, HP4.out⟩
set_option maxRecDepth 100000 in
set_option maxHeartbeats 2000000 in
theorem onew_w1 {w0 w : World} {b d r : Nat} {K R : Nat → Prop} {s : DiskZ} (a : ActZ) (h : Trio w0 w b d r K R s s) (hs : Small s) (ha : ActOk w0 w0.heap.size a) (hl : a.len ≤ 65536) (hk : a.kind = 1) :
    Calls Tryd.prog 20 #[.pointer (some ⟨b, 0, none⟩), .pointer (some ⟨d, 0, none⟩), .pointer (some ⟨r, 0, none⟩), .agg (aCells a).toArray] w (OneW w0 b d r ((dWrite s (frameZ a.zs)).2)) := by
  obtain ⟨kind, n, m, A, len, cap, zs⟩ := a
  obtain rfl : kind = 1 := hk
  obtain ⟨_, hn, hm, hbs, hcap, hmax, _⟩ := ha
  simp only at hn hm hbs hcap hmax hl
  obtain ⟨W, hW⟩ : ∃ W, w.alloc (.cells (aCells ⟨1, n, m, A, len, cap, zs⟩).toArray 44) = W := ⟨_, rfl⟩
  have hh : W.heap[w.heap.size]? = some (.cells (aCells ⟨1, n, m, A, len, cap, zs⟩).toArray 44 (0, 0)) := by rw [← hW]; exact heap_alloc_new w _
  have sW : W.heap.size = w.heap.size + 1 := by rw [← hW]; simp
  have bW : Below w.heap.size w W := by rw [← hW]; exact (Below.refl _ _).alloc (Nat.le_refl _) _
  have HH : Hid (∀ v : World, v.heap[w.heap.size]? = W.heap[w.heap.size]? → v.cell? ⟨w.heap.size, 0, none⟩ = some (.int .i64 1) ∧ v.cell? ⟨w.heap.size, 1, none⟩ = some (.int .i64 n) ∧ v.cell? ⟨w.heap.size, 2, none⟩ = some (.int .i64 m) ∧ v.cell? ⟨w.heap.size, 3, none⟩ = some (.slice A len cap)) := Lib.hid (fun v hv => by
    rw [hh] at hv
    exact ⟨by rw [cell_of_row _ _ _ _ _ _ hv]; rfl, by rw [cell_of_row _ _ _ _ _ _ hv]; rfl, by rw [cell_of_row _ _ _ _ _ _ hv]; rfl, by rw [cell_of_row _ _ _ _ _ _ hv]; rfl⟩)
  obtain ⟨c0, c1, c2, c3⟩ := HH.out W rfl
  have HP := Lib.hid (h.below bW)
  have hbw := h.wal.lt
  have HKlt : Hid (¬ K w.heap.size ∧ ¬ R w.heap.size) := Lib.hid ⟨fun e => by have := h.pair.dk.lt _ e; omega, fun e => by have := h.pair.rf.lt _ e; omega⟩
  have HBS := Lib.hid hbs
  have HW := Lib.hid hW
  have HSM := Lib.hid hs
  clear hW hh bW hbs h hs
  have hW0 : w0.heap.size ≤ W.heap.size := HP.out.pair.bel.size
  have BY := Lib.hid HBS.out.isBytes
  have LZ := Lib.hid HBS.out.len
  have HCP := Lib.hid (refcopy_any cap (HBS.out.below HP.out.pair.bel) hW0 (by omega))
  obtain ⟨x, hx⟩ : ∃ x, dWrite s (frameZ zs) = x := ⟨_, rfl⟩
  show Calls _ _ _ _ (OneW w0 b d r (dWrite s (frameZ zs)).2)
  have HX := Lib.hid hx
  rw [hx]
  clear hx
  go_enter Tryd.func20, Tryd.ntmps20
  go_upto_region 1 with fail
  simp only [HW.out]
  go_wp2_with fail
  refine HCP.out.mono ?_
  intro e w1 hm1
  obtain ⟨M, cm, rfl, ho1, hb1, hc1, hc1m⟩ := hm1.n LZ.out
  have HP1 := Lib.hid (HP.out.below hb1)
  have HO1 := Lib.hid ho1
  have s1 := hb1.size
  obtain ⟨d0, d1, d2, d3⟩ := HH.out w1 (hb1.block w.heap.size (by omega))
  have HE1 : Hid (w1.heap[w.heap.size]? = W.heap[w.heap.size]?) := Lib.hid (hb1.block w.heap.size (by omega))
  have HM : Hid (∀ k, (Value.slice M len cm).ownBlock = some k → W.heap.size ≤ k ∧ k < w1.heap.size ∧ ¬ K k ∧ ¬ R k) := Lib.hid (fun k hk => by
    have := ho1.lt k hk
    exact ⟨this.1, this.2, fun e => by have := HP.out.pair.dk.lt k e; omega, fun e => by have := HP.out.pair.rf.lt k e; omega⟩)
  have C1 := Lib.hid (waladd_any cm HP1.out.wal HP1.out.grown HSM.out ((stands_own (F := fun k => ¬ K k) ho1 BY.out (fun k hk => (HM.out k hk).2.2.1)).tight) (by omega))
  rw [HX.out] at C1
  clear hm1 ho1 hb1 HCP c0 c1 c2 c3
  go_wp2_with fail
  refine C1.out.mono ?_
  intro e w2 hd
  obtain ⟨rfl, K1, h1, hm1, hn1⟩ := HP1.out.did hd
  have HP2 := Lib.hid h1
  have s2 := hm1.size
  have HE2 : Hid (w2.heap[w.heap.size]? = W.heap[w.heap.size]?) := Lib.hid ((hm1.block w.heap.size (by omega) HKlt.out.1).trans HE1.out)
  obtain ⟨y0, y1, y2, y3⟩ := HH.out w2 HE2.out
  have HO2 : Hid (w2.ownsRow W.heap.size 5 1 (.slice M len cm) len (vals zs)) := Lib.hid (own_same HO1.out (fun k hk => hm1.block k (HM.out k hk).2.1 (HM.out k hk).2.2.1))
  have HMK : Hid (∀ k, (Value.slice M len cm).ownBlock = some k → ¬ K1 k) := Lib.hid (fun k hk e => by
    rcases hn1 k e with e | e
    · exact (HM.out k hk).2.2.1 e
    · have := (HM.out k hk).2.1; omega)
  have C2 := Lib.hid (radd_any cap HP2.out.pair.rf (HBS.out.below HP2.out.pair.bel) HP2.out.pair.bel.size hl HSM.out)
  rw [HX.out] at C2
  clear h1 hm1 hn1 hd C1 d0 d1 d2 d3
  go_wp2_with fail
  refine C2.out.mono ?_
  intro e w3 hd
  obtain ⟨rfl, R1, h1, hm1, hn1⟩ := HP2.out.rdid hd
  have HP3 := Lib.hid h1
  have s3 := hm1.size
  have HE3 : Hid (w3.heap[w.heap.size]? = W.heap[w.heap.size]?) := Lib.hid ((hm1.block w.heap.size (by omega) HKlt.out.2).trans HE2.out)
  obtain ⟨z0, z1, z2, z3⟩ := HH.out w3 HE3.out
  have HO3 : Hid (w3.ownsRow W.heap.size 5 1 (.slice M len cm) len (vals zs)) := Lib.hid (own_same HO2.out (fun k hk => hm1.block k (by have := (HM.out k hk).2.1; omega) (HM.out k hk).2.2.2))
  have HMR : Hid (∀ k, (Value.slice M len cm).ownBlock = some k → ¬ R1 k) := Lib.hid (fun k hk e => by
    rcases hn1 k e with e | e
    · exact (HM.out k hk).2.2.2 e
    · have := (HM.out k hk).2.1; omega)
  have SM := Lib.hid (refsame_any cm cap (bs_of_own HO3.out BY.out) (HBS.out.below HP3.out.pair.bel) (Nat.le_trans hc1 hc1m) (Nat.le_trans hcap hmax))
  rw [eqB_self] at SM
  clear h1 hm1 hn1 hd C2 y0 y1 y2 y3
  go_wp2_with fail
  refine SM.out.mono ?_
  rintro e w4 ⟨rfl, hq⟩
  have HP4 := Lib.hid (HP3.out.quiet hq)
  have HO4 : Hid (Own w4 W.heap.size M len cm) := Lib.hid (by obtain ⟨j, rfl⟩ := hq; exact Own.of HO3.out BY.out)
  have hcm : len ≤ 9223372036854775807 := by omega
  clear hq SM z0 z1 z2 z3 HO1 HO2 HO3 HP1 HP2 HP3 HE1 HE2 HE3
  go_wp2
  go_loopw [12] (fun i wx => ∃ j : Nat, j ≤ len ∧ i = .int .i64 (j : Int) ∧ Hid (Own wx W.heap.size M len cm) ∧ Hid (Trio w0 wx b d r K1 R1 x.2 x.2)) (fun i _ => len - (intOf i).toNat)
  case atStart => exact ⟨0, by omega, rfl, HO4, HP4⟩
  case round =>
    clear HO4 HP4
    obtain ⟨j, hj, rfl, HO4, HP4⟩ := hrel
    by_cases hltj : j < len
    · obtain ⟨g2, u, rfl, hg1, hg2, hu0, hu1, hcc, hff, HSS⟩ := HO4.out.at_ hltj
      have hjI : (j : Int) < (len : Int) := by omega
      have HPX : Hid (∀ z : Int, Trio w0 (wr.setCell ⟨g2, j, none⟩ (.int .u8 z)) b d r K1 R1 x.2 x.2) := Lib.hid (fun z => HP4.out.cell (HMK.out g2 rfl) (HMR.out g2 rfl) (by show g2 ≠ b; omega) (by show w0.heap.size ≤ g2; omega) _)
      go_wp2
      go_roundw
      case rel => exact ⟨j + 1, by omega, by go_num, Lib.hid (HSS.out _ (by omega) (by omega)), Lib.hid (HPX.out _)⟩
      case measure => simp [intOf]; omega
    · have hjn : ¬ (j : Int) < (len : Int) := by omega
      go_wp2
      go_ret
      exact ⟨rfl, K1, R1, HP4.out⟩
set_option maxRecDepth 100000 in
set_option maxHeartbeats 2000000 in
theorem onew_w2 {w0 w : World} {b d r : Nat} {K R : Nat → Prop} {s : DiskZ} (a : ActZ) (h : Trio w0 w b d r K R s s) (hs : Small s) (ha : ActOk w0 w0.heap.size a) (hl : a.len ≤ 65536) (hk : a.kind = 2) :
    Calls Tryd.prog 20 #[.pointer (some ⟨b, 0, none⟩), .pointer (some ⟨d, 0, none⟩), .pointer (some ⟨r, 0, none⟩), .agg (aCells a).toArray] w (OneW w0 b d r ((dWrite s (frameZ a.zs)).2)) := by
  obtain ⟨kind, n, m, A, len, cap, zs⟩ := a
  obtain rfl : kind = 2 := hk
  obtain ⟨_, hn, hm, hbs, hcap, hmax, _⟩ := ha
  simp only at hn hm hbs hcap hmax hl
  obtain ⟨W, hW⟩ : ∃ W, w.alloc (.cells (aCells ⟨2, n, m, A, len, cap, zs⟩).toArray 44) = W := ⟨_, rfl⟩
  have hh : W.heap[w.heap.size]? = some (.cells (aCells ⟨2, n, m, A, len, cap, zs⟩).toArray 44 (0, 0)) := by rw [← hW]; exact heap_alloc_new w _
  have sW : W.heap.size = w.heap.size + 1 := by rw [← hW]; simp
  have bW : Below w.heap.size w W := by rw [← hW]; exact (Below.refl _ _).alloc (Nat.le_refl _) _
  have HH : Hid (∀ v : World, v.heap[w.heap.size]? = W.heap[w.heap.size]? → v.cell? ⟨w.heap.size, 0, none⟩ = some (.int .i64 2) ∧ v.cell? ⟨w.heap.size, 1, none⟩ = some (.int .i64 n) ∧ v.cell? ⟨w.heap.size, 2, none⟩ = some (.int .i64 m) ∧ v.cell? ⟨w.heap.size, 3, none⟩ = some (.slice A len cap)) := Lib.hid (fun v hv => by
    rw [hh] at hv
    exact ⟨by rw [cell_of_row _ _ _ _ _ _ hv]; rfl, by rw [cell_of_row _ _ _ _ _ _ hv]; rfl, by rw [cell_of_row _ _ _ _ _ _ hv]; rfl, by rw [cell_of_row _ _ _ _ _ _ hv]; rfl⟩)
  obtain ⟨c0, c1, c2, c3⟩ := HH.out W rfl
  have HP := Lib.hid (h.below bW)
  have hbw := h.wal.lt
  have HKlt : Hid (¬ K w.heap.size ∧ ¬ R w.heap.size) := Lib.hid ⟨fun e => by have := h.pair.dk.lt _ e; omega, fun e => by have := h.pair.rf.lt _ e; omega⟩
  have HBS := Lib.hid hbs
  have HW := Lib.hid hW
  have HSM := Lib.hid hs
  clear hW hh bW hbs h hs
  have hW0 : w0.heap.size ≤ W.heap.size := HP.out.pair.bel.size
  have BY := Lib.hid HBS.out.isBytes
  have LZ := Lib.hid HBS.out.len
  have HCP := Lib.hid (refcopy_any cap (HBS.out.below HP.out.pair.bel) hW0 (by omega))
  obtain ⟨x, hx⟩ : ∃ x, dWrite s (frameZ zs) = x := ⟨_, rfl⟩
  show Calls _ _ _ _ (OneW w0 b d r (dWrite s (frameZ zs)).2)
  have HX := Lib.hid hx
  rw [hx]
  clear hx
  go_enter Tryd.func20, Tryd.ntmps20
  go_upto_region 1 with fail
  simp only [HW.out]
  go_wp2_with fail
  refine HCP.out.mono ?_
  intro e w1 hm1
  obtain ⟨M, cm, rfl, ho1, hb1, hc1, hc1m⟩ := hm1.n LZ.out
  have HP1 := Lib.hid (HP.out.below hb1)
  have HO1 := Lib.hid ho1
  have s1 := hb1.size
  obtain ⟨d0, d1, d2, d3⟩ := HH.out w1 (hb1.block w.heap.size (by omega))
  have HE1 : Hid (w1.heap[w.heap.size]? = W.heap[w.heap.size]?) := Lib.hid (hb1.block w.heap.size (by omega))
  have HM : Hid (∀ k, (Value.slice M len cm).ownBlock = some k → W.heap.size ≤ k ∧ k < w1.heap.size ∧ ¬ K k ∧ ¬ R k) := Lib.hid (fun k hk => by
    have := ho1.lt k hk
    exact ⟨this.1, this.2, fun e => by have := HP.out.pair.dk.lt k e; omega, fun e => by have := HP.out.pair.rf.lt k e; omega⟩)
  have C1 := Lib.hid (waladd_any cm HP1.out.wal HP1.out.grown HSM.out ((stands_own (F := fun k => ¬ K k) ho1 BY.out (fun k hk => (HM.out k hk).2.2.1)).tight) (by omega))
  rw [HX.out] at C1
  clear hm1 ho1 hb1 HCP c0 c1 c2 c3
  go_wp2_with fail
  refine C1.out.mono ?_
  intro e w2 hd
  obtain ⟨rfl, K1, h1, hm1, hn1⟩ := HP1.out.did hd
  have HP2 := Lib.hid h1
  have s2 := hm1.size
  have HE2 : Hid (w2.heap[w.heap.size]? = W.heap[w.heap.size]?) := Lib.hid ((hm1.block w.heap.size (by omega) HKlt.out.1).trans HE1.out)
  obtain ⟨y0, y1, y2, y3⟩ := HH.out w2 HE2.out
  have HO2 : Hid (w2.ownsRow W.heap.size 5 1 (.slice M len cm) len (vals zs)) := Lib.hid (own_same HO1.out (fun k hk => hm1.block k (HM.out k hk).2.1 (HM.out k hk).2.2.1))
  have HMK : Hid (∀ k, (Value.slice M len cm).ownBlock = some k → ¬ K1 k) := Lib.hid (fun k hk e => by
    rcases hn1 k e with e | e
    · exact (HM.out k hk).2.2.1 e
    · have := (HM.out k hk).2.1; omega)
  have C2 := Lib.hid (radd_any cap HP2.out.pair.rf (HBS.out.below HP2.out.pair.bel) HP2.out.pair.bel.size hl HSM.out)
  rw [HX.out] at C2
  clear h1 hm1 hn1 hd C1 d0 d1 d2 d3
  go_wp2_with fail
  refine C2.out.mono ?_
  intro e w3 hd
  obtain ⟨rfl, R1, h1, hm1, hn1⟩ := HP2.out.rdid hd
  have HP3 := Lib.hid h1
  have s3 := hm1.size
  have HE3 : Hid (w3.heap[w.heap.size]? = W.heap[w.heap.size]?) := Lib.hid ((hm1.block w.heap.size (by omega) HKlt.out.2).trans HE2.out)
  obtain ⟨z0, z1, z2, z3⟩ := HH.out w3 HE3.out
  have HO3 : Hid (w3.ownsRow W.heap.size 5 1 (.slice M len cm) len (vals zs)) := Lib.hid (own_same HO2.out (fun k hk => hm1.block k (by have := (HM.out k hk).2.1; omega) (HM.out k hk).2.2.2))
  have HMR : Hid (∀ k, (Value.slice M len cm).ownBlock = some k → ¬ R1 k) := Lib.hid (fun k hk e => by
    rcases hn1 k e with e | e
    · exact (HM.out k hk).2.2.2 e
    · have := (HM.out k hk).2.1; omega)
  have SM := Lib.hid (refsame_any cm cap (bs_of_own HO3.out BY.out) (HBS.out.below HP3.out.pair.bel) (Nat.le_trans hc1 hc1m) (Nat.le_trans hcap hmax))
  rw [eqB_self] at SM
  clear h1 hm1 hn1 hd C2 y0 y1 y2 y3
  go_wp2_with fail
  refine SM.out.mono ?_
  rintro e w4 ⟨rfl, hq⟩
  have HP4 := Lib.hid (HP3.out.quiet hq)
  have HO4 : Hid (Own w4 W.heap.size M len cm) := Lib.hid (by obtain ⟨j, rfl⟩ := hq; exact Own.of HO3.out BY.out)
  have hcm : len ≤ 9223372036854775807 := by omega
  clear hq SM z0 z1 z2 z3 HO1 HO2 HO3 HP1 HP2 HP3 HE1 HE2 HE3
  go_wp2
  go_loopw [12] (fun i wx => ∃ j : Nat, j ≤ len ∧ i = .int .i64 (j : Int) ∧ Hid (Own wx W.heap.size M len cm) ∧ Hid (Trio w0 wx b d r K1 R1 x.2 x.2)) (fun i _ => len - (intOf i).toNat)
  case atStart => exact ⟨0, by omega, rfl, HO4, HP4⟩
  case round =>
    clear HO4 HP4
    obtain ⟨j, hj, rfl, HO4, HP4⟩ := hrel
    by_cases hltj : j < len
    · obtain ⟨g2, u, rfl, hg1, hg2, hu0, hu1, hcc, hff, HSS⟩ := HO4.out.at_ hltj
      have hjI : (j : Int) < (len : Int) := by omega
      have HPX : Hid (∀ z : Int, Trio w0 (wr.setCell ⟨g2, j, none⟩ (.int .u8 z)) b d r K1 R1 x.2 x.2) := Lib.hid (fun z => HP4.out.cell (HMK.out g2 rfl) (HMR.out g2 rfl) (by show g2 ≠ b; omega) (by show w0.heap.size ≤ g2; omega) _)
      go_wp2
      go_roundw
      case rel => exact ⟨j + 1, by omega, by go_num, Lib.hid (HSS.out _ (by omega) (by omega)), Lib.hid (HPX.out _)⟩
      case measure => simp [intOf]; omega
    · have hjn : ¬ (j : Int) < (len : Int) := by omega
      go_wp2
      go_ret
      exact ⟨rfl, K1, R1, HP4.out⟩
set_option maxRecDepth 100000 in
set_option maxHeartbeats 2000000 in
theorem onew_s3 {w0 w : World} {b d r : Nat} {K R : Nat → Prop} {s : DiskZ} (a : ActZ) (h : Trio w0 w b d r K R s s) (hs : Small s) (ha : ActOk w0 w0.heap.size a) (hl : a.len ≤ 65536) (hk : a.kind = 3) :
    Calls Tryd.prog 20 #[.pointer (some ⟨b, 0, none⟩), .pointer (some ⟨d, 0, none⟩), .pointer (some ⟨r, 0, none⟩), .agg (aCells a).toArray] w (OneW w0 b d r ((dSync s).2)) := by
  obtain ⟨kind, n, m, A, len, cap, zs⟩ := a
  obtain rfl : kind = 3 := hk
  obtain ⟨_, hn, hm, hbs, hcap, hmax, _⟩ := ha
  simp only at hn hm hbs hcap hmax hl
  obtain ⟨W, hW⟩ : ∃ W, w.alloc (.cells (aCells ⟨3, n, m, A, len, cap, zs⟩).toArray 44) = W := ⟨_, rfl⟩
  have hh : W.heap[w.heap.size]? = some (.cells (aCells ⟨3, n, m, A, len, cap, zs⟩).toArray 44 (0, 0)) := by rw [← hW]; exact heap_alloc_new w _
  have sW : W.heap.size = w.heap.size + 1 := by rw [← hW]; simp
  have bW : Below w.heap.size w W := by rw [← hW]; exact (Below.refl _ _).alloc (Nat.le_refl _) _
  have HH : Hid (∀ v : World, v.heap[w.heap.size]? = W.heap[w.heap.size]? → v.cell? ⟨w.heap.size, 0, none⟩ = some (.int .i64 3) ∧ v.cell? ⟨w.heap.size, 1, none⟩ = some (.int .i64 n) ∧ v.cell? ⟨w.heap.size, 2, none⟩ = some (.int .i64 m) ∧ v.cell? ⟨w.heap.size, 3, none⟩ = some (.slice A len cap)) := Lib.hid (fun v hv => by
    rw [hh] at hv
    exact ⟨by rw [cell_of_row _ _ _ _ _ _ hv]; rfl, by rw [cell_of_row _ _ _ _ _ _ hv]; rfl, by rw [cell_of_row _ _ _ _ _ _ hv]; rfl, by rw [cell_of_row _ _ _ _ _ _ hv]; rfl⟩)
  obtain ⟨c0, c1, c2, c3⟩ := HH.out W rfl
  have HP := Lib.hid (h.below bW)
  have hbw := h.wal.lt
  have HKlt : Hid (¬ K w.heap.size ∧ ¬ R w.heap.size) := Lib.hid ⟨fun e => by have := h.pair.dk.lt _ e; omega, fun e => by have := h.pair.rf.lt _ e; omega⟩
  have HBS := Lib.hid hbs
  have HW := Lib.hid hW
  have HSM := Lib.hid hs
  clear hW hh bW hbs h hs
  have C1 := Lib.hid (walsync_any HP.out.wal HP.out.pair.dk HSM.out)
  have C2 := Lib.hid (fun (v : World) (h : Rf v r R s) (hb : Below w0.heap.size w0 v) => rsync_any h)
  obtain ⟨x, hx⟩ : ∃ x, dSync s = x := ⟨_, rfl⟩
  rw [hx] at C1 C2
  show Calls _ _ _ _ (OneW w0 b d r (dSync s).2)
  rw [hx]
  clear hx
  go_enter Tryd.func20, Tryd.ntmps20
  go_upto_region 1 with fail
  simp only [HW.out]
  go_wp2_with fail
  refine C1.out.mono ?_
  intro e w1 hd
  obtain ⟨rfl, K1, h1, hm1, hn1⟩ := HP.out.did hd
  have HP1 := Lib.hid h1
  obtain ⟨d0, d1, d2, d3⟩ := HH.out w1 (hm1.block w.heap.size (by omega) HKlt.out.1)
  clear h1 hm1 hn1 hd C1
  go_wp2_with fail
  refine (C2.out w1 HP1.out.pair.rf HP1.out.pair.bel).mono ?_
  intro e w2 hd
  obtain ⟨rfl, R1, h1, hm1, hn1⟩ := HP1.out.rdid hd
  have HP2 := Lib.hid h1
  clear h1 hm1 hn1 hd C2
  go_wp2
  go_ret
  exact ⟨rfl, K1, R1, HP2.out⟩
set_option maxRecDepth 100000 in
set_option maxHeartbeats 2000000 in
theorem onew_c4 {w0 w : World} {b d r : Nat} {K R : Nat → Prop} {s : DiskZ} (a : ActZ) (h : Trio w0 w b d r K R s s) (hs : Small s) (ha : ActOk w0 w0.heap.size a) (hl : a.len ≤ 65536) (hk : a.kind = 4) :
    Calls Tryd.prog 20 #[.pointer (some ⟨b, 0, none⟩), .pointer (some ⟨d, 0, none⟩), .pointer (some ⟨r, 0, none⟩), .agg (aCells a).toArray] w (OneW w0 b d r ((dCrash s a.n a.m).2)) := by
  obtain ⟨kind, n, m, A, len, cap, zs⟩ := a
  obtain rfl : kind = 4 := hk
  obtain ⟨_, hn, hm, hbs, hcap, hmax, _⟩ := ha
  simp only at hn hm hbs hcap hmax hl
  obtain ⟨W, hW⟩ : ∃ W, w.alloc (.cells (aCells ⟨4, n, m, A, len, cap, zs⟩).toArray 44) = W := ⟨_, rfl⟩
  have hh : W.heap[w.heap.size]? = some (.cells (aCells ⟨4, n, m, A, len, cap, zs⟩).toArray 44 (0, 0)) := by rw [← hW]; exact heap_alloc_new w _
  have sW : W.heap.size = w.heap.size + 1 := by rw [← hW]; simp
  have bW : Below w.heap.size w W := by rw [← hW]; exact (Below.refl _ _).alloc (Nat.le_refl _) _
  have HH : Hid (∀ v : World, v.heap[w.heap.size]? = W.heap[w.heap.size]? → v.cell? ⟨w.heap.size, 0, none⟩ = some (.int .i64 4) ∧ v.cell? ⟨w.heap.size, 1, none⟩ = some (.int .i64 n) ∧ v.cell? ⟨w.heap.size, 2, none⟩ = some (.int .i64 m) ∧ v.cell? ⟨w.heap.size, 3, none⟩ = some (.slice A len cap)) := Lib.hid (fun v hv => by
    rw [hh] at hv
    exact ⟨by rw [cell_of_row _ _ _ _ _ _ hv]; rfl, by rw [cell_of_row _ _ _ _ _ _ hv]; rfl, by rw [cell_of_row _ _ _ _ _ _ hv]; rfl, by rw [cell_of_row _ _ _ _ _ _ hv]; rfl⟩)
  obtain ⟨c0, c1, c2, c3⟩ := HH.out W rfl
  have HP := Lib.hid (h.below bW)
  have hbw := h.wal.lt
  have HKlt : Hid (¬ K w.heap.size ∧ ¬ R w.heap.size) := Lib.hid ⟨fun e => by have := h.pair.dk.lt _ e; omega, fun e => by have := h.pair.rf.lt _ e; omega⟩
  have HBS := Lib.hid hbs
  have HW := Lib.hid hW
  have HSM := Lib.hid hs
  clear hW hh bW hbs h hs
  have C1 := Lib.hid (crash_any n m HP.out.pair.dk HSM.out hn hm)
  have C2 := Lib.hid (fun (v : World) (h : Rf v r R s) (hb : Below w0.heap.size w0 v) => rcrash_any n m h HSM.out hn hm)
  obtain ⟨x, hx⟩ : ∃ x, dCrash s n m = x := ⟨_, rfl⟩
  rw [hx] at C1 C2
  show Calls _ _ _ _ (OneW w0 b d r (dCrash s n m).2)
  rw [hx]
  clear hx
  go_enter Tryd.func20, Tryd.ntmps20
  go_upto_region 1 with fail
  simp only [HW.out]
  go_wp2_with fail
  refine C1.out.mono ?_
  intro e w1 hd
  obtain ⟨rfl, K1, h1, hm1, hn1⟩ := HP.out.did hd
  have HP1 := Lib.hid h1
  obtain ⟨d0, d1, d2, d3⟩ := HH.out w1 (hm1.block w.heap.size (by omega) HKlt.out.1)
  clear h1 hm1 hn1 hd C1
  go_wp2_with fail
  refine (C2.out w1 HP1.out.pair.rf HP1.out.pair.bel).mono ?_
  intro e w2 hd
  obtain ⟨rfl, R1, h1, hm1, hn1⟩ := HP1.out.rdid hd
  have HP2 := Lib.hid h1
  clear h1 hm1 hn1 hd C2
  go_wp2
  go_ret
  exact ⟨rfl, K1, R1, HP2.out⟩
set_option maxRecDepth 100000 in
set_option maxHeartbeats 2000000 in
theorem onew_s5 {w0 w : World} {b d r : Nat} {K R : Nat → Prop} {s : DiskZ} (a : ActZ) (h : Trio w0 w b d r K R s s) (hs : Small s) (ha : ActOk w0 w0.heap.size a) (hl : a.len ≤ 65536) (hk : a.kind = 5) :
    Calls Tryd.prog 20 #[.pointer (some ⟨b, 0, none⟩), .pointer (some ⟨d, 0, none⟩), .pointer (some ⟨r, 0, none⟩), .agg (aCells a).toArray] w (OneW w0 b d r (recD (dStart s).2)) := by
  obtain ⟨kind, n, m, A, len, cap, zs⟩ := a
  obtain rfl : kind = 5 := hk
  obtain ⟨_, hn, hm, hbs, hcap, hmax, _⟩ := ha
  simp only at hn hm hbs hcap hmax hl
  obtain ⟨W, hW⟩ : ∃ W, w.alloc (.cells (aCells ⟨5, n, m, A, len, cap, zs⟩).toArray 44) = W := ⟨_, rfl⟩
  have hh : W.heap[w.heap.size]? = some (.cells (aCells ⟨5, n, m, A, len, cap, zs⟩).toArray 44 (0, 0)) := by rw [← hW]; exact heap_alloc_new w _
  have sW : W.heap.size = w.heap.size + 1 := by rw [← hW]; simp
  have bW : Below w.heap.size w W := by rw [← hW]; exact (Below.refl _ _).alloc (Nat.le_refl _) _
  have HH : Hid (∀ v : World, v.heap[w.heap.size]? = W.heap[w.heap.size]? → v.cell? ⟨w.heap.size, 0, none⟩ = some (.int .i64 5) ∧ v.cell? ⟨w.heap.size, 1, none⟩ = some (.int .i64 n) ∧ v.cell? ⟨w.heap.size, 2, none⟩ = some (.int .i64 m) ∧ v.cell? ⟨w.heap.size, 3, none⟩ = some (.slice A len cap)) := Lib.hid (fun v hv => by
    rw [hh] at hv
    exact ⟨by rw [cell_of_row _ _ _ _ _ _ hv]; rfl, by rw [cell_of_row _ _ _ _ _ _ hv]; rfl, by rw [cell_of_row _ _ _ _ _ _ hv]; rfl, by rw [cell_of_row _ _ _ _ _ _ hv]; rfl⟩)
  obtain ⟨c0, c1, c2, c3⟩ := HH.out W rfl
  have HP := Lib.hid (h.below bW)
  have hbw := h.wal.lt
  have HKlt : Hid (¬ K w.heap.size ∧ ¬ R w.heap.size) := Lib.hid ⟨fun e => by have := h.pair.dk.lt _ e; omega, fun e => by have := h.pair.rf.lt _ e; omega⟩
  have HBS := Lib.hid hbs
  have HW := Lib.hid hW
  have HSM := Lib.hid hs
  clear hW hh bW hbs h hs
  have C1 := Lib.hid (start_any HP.out.pair.dk)
  have C2 := Lib.hid (fun (v : World) (h : Rf v r R s) (hb : Below w0.heap.size w0 v) => rstart_any h)
  obtain ⟨x, hx⟩ : ∃ x, dStart s = x := ⟨_, rfl⟩
  rw [hx] at C1 C2
  have HXS : Hid (Small x.2) := Lib.hid (by rw [← hx]; exact dStart_small HSM.out)
  show Calls _ _ _ _ (OneW w0 b d r (recD (dStart s).2))
  rw [hx]
  clear hx
  go_enter Tryd.func20, Tryd.ntmps20
  go_upto_region 1 with fail
  simp only [HW.out]
  go_wp2_with fail
  refine C1.out.mono ?_
  intro e w1 hd
  obtain ⟨rfl, K1, h1, hm1, hn1⟩ := HP.out.did hd
  have HP1 := Lib.hid h1
  obtain ⟨d0, d1, d2, d3⟩ := HH.out w1 (hm1.block w.heap.size (by omega) HKlt.out.1)
  clear h1 hm1 hn1 hd C1
  go_wp2_with fail
  refine (C2.out w1 HP1.out.pair.rf HP1.out.pair.bel).mono ?_
  intro e w2 hd
  obtain ⟨rfl, R1, h1, hm1, hn1⟩ := HP1.out.rdid hd
  have HP2 := Lib.hid h1
  clear h1 hm1 hn1 hd C2
  have C3 := Lib.hid (recovers_any HP2.out HXS.out)
  go_wp2_with fail
  refine C3.out.mono ?_
  rintro e w3 ⟨rfl, h⟩
  have H3 := Lib.hid h
  clear h C3
  go_wp2
  go_ret
  exact ⟨rfl, H3.out⟩
set_option maxRecDepth 100000 in
set_option maxHeartbeats 2000000 in
theorem onew_s6 {w0 w : World} {b d r : Nat} {K R : Nat → Prop} {s : DiskZ} (a : ActZ) (h : Trio w0 w b d r K R s s) (hs : Small s) (ha : ActOk w0 w0.heap.size a) (hl : a.len ≤ 65536) (hk : a.kind = 6) :
    Calls Tryd.prog 20 #[.pointer (some ⟨b, 0, none⟩), .pointer (some ⟨d, 0, none⟩), .pointer (some ⟨r, 0, none⟩), .agg (aCells a).toArray] w (OneW w0 b d r (recD (dStart s).2)) := by
  obtain ⟨kind, n, m, A, len, cap, zs⟩ := a
  obtain rfl : kind = 6 := hk
  obtain ⟨_, hn, hm, hbs, hcap, hmax, _⟩ := ha
  simp only at hn hm hbs hcap hmax hl
  obtain ⟨W, hW⟩ : ∃ W, w.alloc (.cells (aCells ⟨6, n, m, A, len, cap, zs⟩).toArray 44) = W := ⟨_, rfl⟩
  have hh : W.heap[w.heap.size]? = some (.cells (aCells ⟨6, n, m, A, len, cap, zs⟩).toArray 44 (0, 0)) := by rw [← hW]; exact heap_alloc_new w _
  have sW : W.heap.size = w.heap.size + 1 := by rw [← hW]; simp
  have bW : Below w.heap.size w W := by rw [← hW]; exact (Below.refl _ _).alloc (Nat.le_refl _) _
  have HH : Hid (∀ v : World, v.heap[w.heap.size]? = W.heap[w.heap.size]? → v.cell? ⟨w.heap.size, 0, none⟩ = some (.int .i64 6) ∧ v.cell? ⟨w.heap.size, 1, none⟩ = some (.int .i64 n) ∧ v.cell? ⟨w.heap.size, 2, none⟩ = some (.int .i64 m) ∧ v.cell? ⟨w.heap.size, 3, none⟩ = some (.slice A len cap)) := Lib.hid (fun v hv => by
    rw [hh] at hv
    exact ⟨by rw [cell_of_row _ _ _ _ _ _ hv]; rfl, by rw [cell_of_row _ _ _ _ _ _ hv]; rfl, by rw [cell_of_row _ _ _ _ _ _ hv]; rfl, by rw [cell_of_row _ _ _ _ _ _ hv]; rfl⟩)
  obtain ⟨c0, c1, c2, c3⟩ := HH.out W rfl
  have HP := Lib.hid (h.below bW)
  have hbw := h.wal.lt
  have HKlt : Hid (¬ K w.heap.size ∧ ¬ R w.heap.size) := Lib.hid ⟨fun e => by have := h.pair.dk.lt _ e; omega, fun e => by have := h.pair.rf.lt _ e; omega⟩
  have HBS := Lib.hid hbs
  have HW := Lib.hid hW
  have HSM := Lib.hid hs
  clear hW hh bW hbs h hs
  have C1 := Lib.hid (start_any HP.out.pair.dk)
  have C2 := Lib.hid (fun (v : World) (h : Rf v r R s) (hb : Below w0.heap.size w0 v) => rstart_any h)
  obtain ⟨x, hx⟩ : ∃ x, dStart s = x := ⟨_, rfl⟩
  rw [hx] at C1 C2
  have HXS : Hid (Small x.2) := Lib.hid (by rw [← hx]; exact dStart_small HSM.out)
  show Calls _ _ _ _ (OneW w0 b d r (recD (dStart s).2))
  rw [hx]
  clear hx
  go_enter Tryd.func20, Tryd.ntmps20
  go_upto_region 1 with fail
  simp only [HW.out]
  go_wp2_with fail
  refine C1.out.mono ?_
  intro e w1 hd
  obtain ⟨rfl, K1, h1, hm1, hn1⟩ := HP.out.did hd
  have HP1 := Lib.hid h1
  obtain ⟨d0, d1, d2, d3⟩ := HH.out w1 (hm1.block w.heap.size (by omega) HKlt.out.1)
  clear h1 hm1 hn1 hd C1
  go_wp2_with fail
  refine (C2.out w1 HP1.out.pair.rf HP1.out.pair.bel).mono ?_
  intro e w2 hd
  obtain ⟨rfl, R1, h1, hm1, hn1⟩ := HP1.out.rdid hd
  have HP2 := Lib.hid h1
  clear h1 hm1 hn1 hd C2
  have C3 := Lib.hid (recovers_any HP2.out HXS.out)
  go_wp2_with fail
  refine C3.out.mono ?_
  rintro e w3 ⟨rfl, h⟩
  have H3 := Lib.hid h
  clear h C3
  go_wp2
  go_ret
  exact ⟨rfl, H3.out⟩
set_option maxRecDepth 100000 in
set_option maxHeartbeats 2000000 in
theorem onew_w7 {w0 w : World} {b d r : Nat} {K R : Nat → Prop} {s : DiskZ} (a : ActZ) (h : Trio w0 w b d r K R s s) (hs : Small s) (ha : ActOk w0 w0.heap.size a) (hl : a.len ≤ 65536) (hk : a.kind = 7) :
    Calls Tryd.prog 20 #[.pointer (some ⟨b, 0, none⟩), .pointer (some ⟨d, 0, none⟩), .pointer (some ⟨r, 0, none⟩), .agg (aCells a).toArray] w (OneW w0 b d r ((dWrite s a.zs).2)) := by
  obtain ⟨kind, n, m, A, len, cap, zs⟩ := a
  obtain rfl : kind = 7 := hk
  obtain ⟨_, hn, hm, hbs, hcap, hmax, _⟩ := ha
  simp only at hn hm hbs hcap hmax hl
  obtain ⟨W, hW⟩ : ∃ W, w.alloc (.cells (aCells ⟨7, n, m, A, len, cap, zs⟩).toArray 44) = W := ⟨_, rfl⟩
  have hh : W.heap[w.heap.size]? = some (.cells (aCells ⟨7, n, m, A, len, cap, zs⟩).toArray 44 (0, 0)) := by rw [← hW]; exact heap_alloc_new w _
  have sW : W.heap.size = w.heap.size + 1 := by rw [← hW]; simp
  have bW : Below w.heap.size w W := by rw [← hW]; exact (Below.refl _ _).alloc (Nat.le_refl _) _
  have HH : Hid (∀ v : World, v.heap[w.heap.size]? = W.heap[w.heap.size]? → v.cell? ⟨w.heap.size, 0, none⟩ = some (.int .i64 7) ∧ v.cell? ⟨w.heap.size, 1, none⟩ = some (.int .i64 n) ∧ v.cell? ⟨w.heap.size, 2, none⟩ = some (.int .i64 m) ∧ v.cell? ⟨w.heap.size, 3, none⟩ = some (.slice A len cap)) := Lib.hid (fun v hv => by
    rw [hh] at hv
    exact ⟨by rw [cell_of_row _ _ _ _ _ _ hv]; rfl, by rw [cell_of_row _ _ _ _ _ _ hv]; rfl, by rw [cell_of_row _ _ _ _ _ _ hv]; rfl, by rw [cell_of_row _ _ _ _ _ _ hv]; rfl⟩)
  obtain ⟨c0, c1, c2, c3⟩ := HH.out W rfl
  have HP := Lib.hid (h.below bW)
  have hbw := h.wal.lt
  have HKlt : Hid (¬ K w.heap.size ∧ ¬ R w.heap.size) := Lib.hid ⟨fun e => by have := h.pair.dk.lt _ e; omega, fun e => by have := h.pair.rf.lt _ e; omega⟩
  have HBS := Lib.hid hbs
  have HW := Lib.hid hW
  have HSM := Lib.hid hs
  clear hW hh bW hbs h hs
  have C1 := Lib.hid (dkwrite_any cap HP.out.pair.dk (HBS.out.below HP.out.pair.bel) HP.out.pair.bel.size (by omega) HSM.out)
  have C2 := Lib.hid (fun (v : World) (h : Rf v r R s) (hb : Below w0.heap.size w0 v) => rwrite_any cap h (HBS.out.below hb) hb.size (by omega) HSM.out)
  obtain ⟨x, hx⟩ : ∃ x, dWrite s zs = x := ⟨_, rfl⟩
  rw [hx] at C1 C2
  show Calls _ _ _ _ (OneW w0 b d r (dWrite s zs).2)
  rw [hx]
  clear hx
  go_enter Tryd.func20, Tryd.ntmps20
  go_upto_region 1 with fail
  simp only [HW.out]
  go_wp2_with fail
  refine C1.out.mono ?_
  intro e w1 hd
  obtain ⟨rfl, K1, h1, hm1, hn1⟩ := HP.out.did hd
  have HP1 := Lib.hid h1
  obtain ⟨d0, d1, d2, d3⟩ := HH.out w1 (hm1.block w.heap.size (by omega) HKlt.out.1)
  clear h1 hm1 hn1 hd C1
  go_wp2_with fail
  refine (C2.out w1 HP1.out.pair.rf HP1.out.pair.bel).mono ?_
  intro e w2 hd
  obtain ⟨rfl, R1, h1, hm1, hn1⟩ := HP1.out.rdid hd
  have HP2 := Lib.hid h1
  clear h1 hm1 hn1 hd C2
  go_wp2
  go_ret
  exact ⟨rfl, K1, R1, HP2.out⟩
set_option maxRecDepth 100000 in
set_option maxHeartbeats 2000000 in
theorem onew_r8 {w0 w : World} {b d r : Nat} {K R : Nat → Prop} {s : DiskZ} (a : ActZ) (h : Trio w0 w b d r K R s s) (hs : Small s) (ha : ActOk w0 w0.heap.size a) (hl : a.len ≤ 65536) (hk : a.kind = 8) :
    Calls Tryd.prog 20 #[.pointer (some ⟨b, 0, none⟩), .pointer (some ⟨d, 0, none⟩), .pointer (some ⟨r, 0, none⟩), .agg (aCells a).toArray] w (OneW w0 b d r (recD s)) := by
  obtain ⟨kind, n, m, A, len, cap, zs⟩ := a
  obtain rfl : kind = 8 := hk
  obtain ⟨_, hn, hm, hbs, hcap, hmax, _⟩ := ha
  simp only at hn hm hbs hcap hmax hl
  obtain ⟨W, hW⟩ : ∃ W, w.alloc (.cells (aCells ⟨8, n, m, A, len, cap, zs⟩).toArray 44) = W := ⟨_, rfl⟩
  have hh : W.heap[w.heap.size]? = some (.cells (aCells ⟨8, n, m, A, len, cap, zs⟩).toArray 44 (0, 0)) := by rw [← hW]; exact heap_alloc_new w _
  have sW : W.heap.size = w.heap.size + 1 := by rw [← hW]; simp
  have bW : Below w.heap.size w W := by rw [← hW]; exact (Below.refl _ _).alloc (Nat.le_refl _) _
  have HH : Hid (∀ v : World, v.heap[w.heap.size]? = W.heap[w.heap.size]? → v.cell? ⟨w.heap.size, 0, none⟩ = some (.int .i64 8) ∧ v.cell? ⟨w.heap.size, 1, none⟩ = some (.int .i64 n) ∧ v.cell? ⟨w.heap.size, 2, none⟩ = some (.int .i64 m) ∧ v.cell? ⟨w.heap.size, 3, none⟩ = some (.slice A len cap)) := Lib.hid (fun v hv => by
    rw [hh] at hv
    exact ⟨by rw [cell_of_row _ _ _ _ _ _ hv]; rfl, by rw [cell_of_row _ _ _ _ _ _ hv]; rfl, by rw [cell_of_row _ _ _ _ _ _ hv]; rfl, by rw [cell_of_row _ _ _ _ _ _ hv]; rfl⟩)
  obtain ⟨c0, c1, c2, c3⟩ := HH.out W rfl
  have HP := Lib.hid (h.below bW)
  have hbw := h.wal.lt
  have HKlt : Hid (¬ K w.heap.size ∧ ¬ R w.heap.size) := Lib.hid ⟨fun e => by have := h.pair.dk.lt _ e; omega, fun e => by have := h.pair.rf.lt _ e; omega⟩
  have HBS := Lib.hid hbs
  have HW := Lib.hid hW
  have HSM := Lib.hid hs
  clear hW hh bW hbs h hs
  have C3 := Lib.hid (recovers_any HP.out HSM.out)
  go_enter Tryd.func20, Tryd.ntmps20
  go_upto_region 1 with fail
  simp only [HW.out]
  go_wp2_with fail
  refine C3.out.mono ?_
  rintro e w3 ⟨rfl, h⟩
  have H3 := Lib.hid h
  clear h C3
  go_wp2
  go_ret
  exact ⟨rfl, H3.out⟩
set_option maxRecDepth 100000 in
set_option maxHeartbeats 1000000 in
theorem onew_none {w0 w : World} {b d r : Nat} {K R : Nat → Prop} {s : DiskZ} (a : ActZ) (h : Trio w0 w b d r K R s s) (hk : a.kind < 0 ∨ 8 < a.kind) :
    Calls Tryd.prog 20 #[.pointer (some ⟨b, 0, none⟩), .pointer (some ⟨d, 0, none⟩), .pointer (some ⟨r, 0, none⟩), .agg (aCells a).toArray] w (OneW w0 b d r s) := by
  obtain ⟨kind, n, m, A, len, cap, zs⟩ := a
  simp only at hk
  obtain ⟨W, hW⟩ : ∃ W, w.alloc (.cells (aCells ⟨kind, n, m, A, len, cap, zs⟩).toArray 44) = W := ⟨_, rfl⟩
  have hh : W.heap[w.heap.size]? = some (.cells (aCells ⟨kind, n, m, A, len, cap, zs⟩).toArray 44 (0, 0)) := by rw [← hW]; exact heap_alloc_new w _
  have c0 : W.cell? ⟨w.heap.size, 0, none⟩ = some (.int .i64 kind) := by rw [cell_of_row _ _ _ _ _ _ hh]; rfl
  have bW : Below w.heap.size w W := by rw [← hW]; exact (Below.refl _ _).alloc (Nat.le_refl _) _
  have HP := Lib.hid (h.below bW)
  have HW := Lib.hid hW
  have k0 : (kind == 0) = false := by simp; omega
  have k1 : (kind == 1) = false := by simp; omega
  have k2 : (kind == 2) = false := by simp; omega
  have k3 : (kind == 3) = false := by simp; omega
  have k4 : (kind == 4) = false := by simp; omega
  have k5 : (kind == 5) = false := by simp; omega
  have k6 : (kind == 6) = false := by simp; omega
  have k7 : (kind == 7) = false := by simp; omega
  have k8 : (kind == 8) = false := by simp; omega
  clear hW hh bW h hk
  go_enter Tryd.func20, Tryd.ntmps20
  go_upto_region 1 with fail
  simp only [HW.out]
  go_wp2
  go_ret
  exact ⟨rfl, K, R, HP.out⟩
theorem onew_any {w0 w : World} {b d r : Nat} {K R : Nat → Prop} {s : DiskZ} (a : ActZ) (h : Trio w0 w b d r K R s s) (hs : Small s) (ha : ActOk w0 w0.heap.size a) (hl : a.len ≤ 65536) :
    Calls Tryd.prog 20 #[.pointer (some ⟨b, 0, none⟩), .pointer (some ⟨d, 0, none⟩), .pointer (some ⟨r, 0, none⟩), .agg (aCells a).toArray] w (OneW w0 b d r (wDo s a)) := by
  by_cases hk : a.kind < 0 ∨ 8 < a.kind
  · have : wDo s a = s := by
      unfold wDo
      rw [if_neg (by omega), if_neg (by omega), if_neg (by omega), if_neg (by omega), if_neg (by omega), if_neg (by omega)]
    rw [this]
    exact onew_none a h hk
  · rcases (show a.kind = 0 ∨ a.kind = 1 ∨ a.kind = 2 ∨ a.kind = 3 ∨ a.kind = 4 ∨ a.kind = 5 ∨ a.kind = 6 ∨ a.kind = 7 ∨ a.kind = 8 by omega) with e | e | e | e | e | e | e | e | e
    all_goals unfold wDo
    · rw [if_pos (by omega)]; exact onew_w0 a h hs ha hl e
    · rw [if_pos (by omega)]; exact onew_w1 a h hs ha hl e
    · rw [if_pos (by omega)]; exact onew_w2 a h hs ha hl e
    · rw [if_neg (by omega), if_pos (by omega)]; exact onew_s3 a h hs ha hl e
    · rw [if_neg (by omega), if_neg (by omega), if_pos (by omega)]; exact onew_c4 a h hs ha hl e
    · rw [if_neg (by omega), if_neg (by omega), if_neg (by omega), if_pos (by omega)]; exact onew_s5 a h hs ha hl e
    · rw [if_neg (by omega), if_neg (by omega), if_neg (by omega), if_pos (by omega)]; exact onew_s6 a h hs ha hl e
    · rw [if_neg (by omega), if_neg (by omega), if_neg (by omega), if_neg (by omega), if_pos (by omega)]; exact onew_w7 a h hs ha hl e
    · rw [if_neg (by omega), if_neg (by omega), if_neg (by omega), if_neg (by omega), if_neg (by omega), if_pos (by omega)]; exact onew_r8 a h hs ha hl e
end Go.Proofs.YtjfeepmjebdahaaDoor
