/- The statement FrameAll: the walk. -/
import Derived.Test.YtcihbkdpkhhhcaaDoorFLists
import Derived.OneCell
namespace Go.Proofs.YtcihbkdpkhhhcaaDoor
open Go.ChangeShapes Go.WideShapes Go.ChangeAt Go.RowKit
set_option linter.unusedVariables false
open Plain Sha
theorem allSays_open {w w' : World} {bs : List Int} {e : Ending} {k u : Nat} (h : AllSays w bs e w') (hk : (framesZ bs).length = k) (hu : useZ (framesZ bs) = u) :
    ∃ (A' : Option Addr) (c' : Nat) (ps : List Piece), e = .returned (.tuple #[.slice A' k c', .int .i64 (u : Int)]) ∧ w'.ownsRow w.heap.size 22 1 (.slice A' k c') k (ps.map pv) ∧ (∀ p ∈ ps, PieceOk w' w.heap.size p) ∧ ps.map (·.zs) = (framesZ bs).map (payZ bs) ∧ ps.length = k ∧ Below w.heap.size w w' ∧ k ≤ c' ∧ c' ≤ maxLen := by
  obtain ⟨hb, v, ps, rfl, h1, h2, h3⟩ := h
  obtain ⟨A', c', rfl, h4, h5⟩ := own_shape h1
  have hps : ps.length = k := by have := congrArg List.length h3; rw [List.length_map, List.length_map, hk] at this; exact this
  subst hps
  exact ⟨A', c', ps, by rw [hu], h1, h2, h3, rfl, hb, h4, h5⟩
/-- A byte that is written wherever it may be. -/
theorem Own.any {w : World} {base n c : Nat} {A : Option Addr} (h : Own w base A n c) (g j : Nat) (z : Int) (h0 : 0 ≤ z) (h1 : z < 256) : Own (w.setCell ⟨g, j, none⟩ (.int .u8 z)) base A n c := by
  obtain ⟨zs, hl, hz, ho⟩ := h
  by_cases hg : (Value.slice A n c).ownBlock = some g
  · obtain rfl : A = some ⟨g, 0, none⟩ := by
      rcases ho.2 with ⟨e, _⟩ | ⟨g', cap, cur, e, _⟩
      · rw [e] at hg; cases hg
      · injection e with e1 e2 e3
        subst e1
        injection hg with hg
        subst hg
        rfl
    refine ⟨zs.set j z, by simpa using hl, fun i hi => ?_, ?_⟩
    · rw [List.length_set] at hi
      rw [List.getD_eq_getElem?_getD, List.getElem?_set]
      split
      · rename_i hij
        subst hij
        rw [if_pos hi]
        exact ⟨h0, h1⟩
      · rw [← List.getD_eq_getElem?_getD]; exact hz i hi
    · have := (ho.stored j (.int .u8 z)).1
      simpa [vals, List.map_set] using this
  · exact ⟨zs, hl, hz, ownsRow_setCell_other ho hg _⟩
theorem framesF_len (bs : List Int) : ∀ k off, (framesF bs k off).length ≤ k
  | 0, _ => Nat.le_refl _
  | k + 1, off => by
    cases h : firstZ (bs.drop off) with
    | none => rw [framesF_no h]; exact Nat.zero_le _
    | some m =>
      have := framesF_len bs k (off + (m + 12))
      rw [framesF_yes h, List.length_cons]; omega
theorem pay_len {bs : List Int} {zs : List Int} {l : List (Nat × Nat)} (h : zs ∈ l.map (payZ bs)) : zs.length ≤ bs.length := by
  obtain ⟨x, _, rfl⟩ := List.mem_map.1 h
  unfold payZ
  rw [List.length_take, List.length_drop, List.length_drop]
  omega
set_option maxRecDepth 100000 in
set_option maxHeartbeats 4000000 in
theorem frameAll_in {A0 : Option Addr} {n : Nat} (c0 : Nat) {xs : List Int} (w : World) (hx : Bs w w.heap.size A0 n xs) (hc : n ≤ c0) (h0 : n ≤ 3000) (hF : LaidF w) (hK : LaidK w) :
    Calls Tryd.prog 5 #[.slice A0 n c0] w fun e w' => e = .returned (.bool true) ∧ Below w.heap.size w w' := by
  have g0 : ¬ 3000 < (n : Int) := by omega
  have HX := Lib.hid hx
  have HFl := Lib.hid hF.lt
  have HKl := Lib.hid hK.lt
  have HF := Lib.hid hF
  have HK := Lib.hid hK
  have LX := Lib.hid hx.len
  have BX := Lib.hid hx.isBytes
  have C1 := Lib.hid (refcopy_any c0 hx (Nat.le_refl _) (by omega))
  have HM : Hid (n ≤ maxLen) := Lib.hid (by unfold maxLen; omega)
  obtain ⟨K, hK0⟩ : ∃ K, (framesZ xs).length = K := ⟨_, rfl⟩
  obtain ⟨U, hU0⟩ : ∃ U, useZ (framesZ xs) = U := ⟨_, rfl⟩
  have HK0 := Lib.hid hK0
  have HU0 := Lib.hid hU0
  clear hx hF hK hK0 hU0
  go_enter Tryd.func5, Tryd.ntmps5
  go_wp2_with fail
  refine C1.out.mono ?_
  intro e w1 hm1
  obtain ⟨A1, c1, rfl, o1, b1, k1, h1⟩ := hm1.n LX.out
  have q1 := Lib.hid b1
  have z1 := Lib.hid (bs_of_own o1 BX.out)
  clear hm1 o1 b1 C1 h1
  go_wp2_with fail
  refine (refall_any c0 (HX.out.belowM q1.out (Nat.le_refl _)) q1.out.size (by omega) hc).mono ?_
  intro e w2 h2
  obtain ⟨A2, c2, qs, rfl, r2, p2, e2, l2, b2, k2, m2⟩ := allSays_open h2 HK0.out HU0.out
  have q2 := Lib.hid (q1.out.trans (b2.mono q1.out.size))
  have y2 := Lib.hid (z1.out.belowM b2 (Nat.le_refl _))
  have s2 := b2.size
  have R2 := Lib.hid r2
  have P2 := Lib.hid p2
  have E2 := Lib.hid e2
  have K9 : Hid (K ≤ 1000000000) := Lib.hid (by have h1 := framesF_len xs (xs.length + 1) 0; have h2 := HK0.out; have h3 := LX.out; unfold framesZ at h2; omega)
  clear h2 b2 r2 p2 e2 l2 q1 z1 k2 m2
  go_wp2
  go_loopw [6] (fun t wr => ∃ k : Nat, k ≤ 2 ∧ t = .int .i64 (k : Int) ∧ Hid (Below w2.heap.size w2 wr)) (fun t _ => 2 - (intOf t).toNat)
  case atStart => exact ⟨0, by omega, rfl, Lib.hid (Below.refl _ _)⟩
  case round =>
    obtain ⟨k, hk, rfl, HB⟩ := hrel
    by_cases hlt : k < 2
    · have hkI : (k : Int) < 2 := by omega
      have qr := Lib.hid (q2.out.trans (HB.out.mono q2.out.size))
      have sr := HB.out.size
      have C3 := Lib.hid (all_any c1 (y2.out.belowM HB.out s2) (Nat.le_trans s2 sr) (by omega) k1 (HF.out.below qr.out HFl.out) (HK.out.below qr.out HKl.out))
      go_wp2_with fail
      refine C3.out.mono ?_
      intro e w3 h3
      obtain ⟨A3, c3, ps, rfl, r3, p3, e3, l3, b3, k3, m3⟩ := allSays_open h3 HK0.out HU0.out
      have B3 := Lib.hid (HB.out.trans (b3.mono sr))
      have s3 := B3.out.size
      have q3 := Lib.hid (qr.out.trans (b3.mono qr.out.size))
      have PR3 := Lib.hid (pieceRow_of r3 p3)
      have PR2 := Lib.hid (pieceRow_of (own_below R2.out B3.out (Nat.le_refl _)) (fun p hp => (P2.out p hp).below B3.out (Nat.le_refl _)))
      have S1 := Lib.hid (reflists_any c3 c2 PR3.out PR2.out K9.out (e3.trans E2.out.symm))
      have S2 : Hid (∀ m, Calls Tryd.prog 12 #[.slice A1 n c1, .slice A0 n c0] (w3.drewN m) (Quiet (.bool true) (w3.drewN m))) := Lib.hid (fun m => by
        have := refsame_any c1 c0 ((y2.out.belowM B3.out s2).drewN m) ((HX.out.belowM q3.out (Nat.le_refl _)).drewN m) HM.out HM.out
        rwa [eqB_self] at this)
      have R3 := Lib.hid r3
      have O3 : Hid (∀ p ∈ ps, Own w3 wr.heap.size p.A p.n p.c) := Lib.hid (fun p hp => Own.of (p3 p hp).own (p3 p hp).bytes)
      have L3 := Lib.hid l3
      have M3 : Hid (∀ p ∈ ps, p.n ≤ 140737488355327) := Lib.hid (fun p hp => by have h1 := (p3 p hp).len; have h2 := pay_len (bs := xs) (l := framesZ xs) (zs := p.zs) (by rw [← e3]; exact List.mem_map_of_mem hp); have h3 := LX.out; omega)
      clear h3 r3 p3 e3 l3 b3 k3 m3 C3 PR3 PR2
      go_wp2_with (first
        | (go_at_call 17; refine S1.out.mono ?_; rintro e w4 ⟨rfl, m4, rfl⟩)
        | (go_at_call 12; refine (S2.out _).mono ?_; rintro e w4 ⟨rfl, m5, rfl⟩))
      have B5 : Hid (Below w2.heap.size w2 ((w3.drewN m4).drewN m5)) := Lib.hid (below_drewN (below_drewN B3.out _) _)
      have O5 : Hid (∀ p ∈ ps, Own ((w3.drewN m4).drewN m5) wr.heap.size p.A p.n p.c) := Lib.hid O3.out
      have R5 : Hid (((w3.drewN m4).drewN m5).ownsRow wr.heap.size 22 1 (.slice A3 K c3) K (ps.map pv)) := Lib.hid R3.out
      obtain ⟨w5, hw5⟩ : ∃ w5, (w3.drewN m4).drewN m5 = w5 := ⟨_, rfl⟩
      rw [hw5] at B5 O5 R5
      obtain ⟨base, hbase⟩ : ∃ b, wr.heap.size = b := ⟨_, rfl⟩
      rw [hbase] at O5 R5
      have HS : Hid (w2.heap.size ≤ base) := Lib.hid (by omega)
      simp only [World.drewN_drewN] at hw5 ⊢
      try rw [hw5]
      clear hw5 S2 B3 O3 R3 q3
      go_loopw [9] (fun i wx => ∃ j : Nat, j ≤ K ∧ i = .int .i64 (j : Int) ∧ Hid (wx.ownsRow base 22 1 (.slice A3 K c3) K (ps.map pv)) ∧ Hid (∀ p ∈ ps, Own wx base p.A p.n p.c) ∧ Hid (Below w2.heap.size w2 wx)) (fun i _ => K - (intOf i).toNat)
      case atStart => exact ⟨0, by omega, rfl, R5, O5, B5⟩
      case round =>
        clear O5 B5 R5
        obtain ⟨j, hj, rfl, HR, HO, HBx⟩ := hrel
        by_cases hltj : j < K
        · obtain ⟨p, hp⟩ : ∃ p, ps[j]? = some p := ⟨_, List.getElem?_eq_getElem (by rw [L3.out]; exact hltj)⟩
          have hmem := List.mem_of_getElem? hp
          obtain ⟨gh, caph, hv, hgh, hghlt⟩ := HR.out.form (by omega)
          injection hv with e1 e2 e3
          subst e1; subst e3
          have HC : Hid (∀ wx : World, wx.ownsRow base 22 1 (.slice (some ⟨gh, 0, none⟩) K c3) K (ps.map pv) → wx.cell? ⟨gh, j, none⟩ = some (.slice p.A p.n p.c)) := Lib.hid (fun wx h => by
            have := h.cellAt j (by omega)
            rw [List.getElem?_map, hp] at this
            exact this)
          have HM3 := M3.out p hmem
          have HMem := Lib.hid hmem
          obtain ⟨pA, pn, pc, pz⟩ := p
          have HM3 : pn ≤ 140737488355327 := HM3
          have HC : Hid (∀ wx : World, wx.ownsRow base 22 1 (.slice (some ⟨gh, 0, none⟩) K c3) K (ps.map pv) → wx.cell? ⟨gh, j, none⟩ = some (.slice pA pn pc)) := HC
          have hjI : (j : Int) < (K : Int) := by omega
          clear hp hmem
          go_wp2
          go_loopw [10] (fun i wx => ∃ y : Nat, y ≤ pn ∧ i = .int .i64 (y : Int) ∧ Hid (wx.ownsRow base 22 1 (.slice (some ⟨gh, 0, none⟩) K c3) K (ps.map pv)) ∧ Hid (∀ p ∈ ps, Own wx base p.A p.n p.c) ∧ Hid (Below w2.heap.size w2 wx)) (fun i _ => pn - (intOf i).toNat)
          case atStart => exact ⟨0, by omega, rfl, HR, HO, HBx⟩
          case round =>
            clear HR HO HBx
            obtain ⟨y, hy, rfl, HR, HO, HBx⟩ := hrel
            have hcell := HC.out _ HR.out
            by_cases hlty : y < pn
            · have ho1 : Own wr base pA pn pc := HO.out _ HMem.out
              obtain ⟨g, u, rfl, hg1, hg2, hu0, hu1, hcc, hf, _⟩ := ho1.at_ hlty
              have hyI : (y : Int) < (pn : Int) := by omega
              have hgh2 : g ≠ gh := fun e => by
                obtain ⟨zs, _, _, hown⟩ := ho1
                rcases kinds_apart hown HR.out with h | h
                · cases h
                · exact h (by rw [e]; rfl)
              have HX1 : Hid (∀ z : Int, 0 ≤ z → z < 256 → (wr.setCell ⟨g, y, none⟩ (.int .u8 z)).ownsRow base 22 1 (.slice (some ⟨gh, 0, none⟩) K c3) K (ps.map pv) ∧ (∀ p ∈ ps, Own (wr.setCell ⟨g, y, none⟩ (.int .u8 z)) base p.A p.n p.c) ∧ Below w2.heap.size w2 (wr.setCell ⟨g, y, none⟩ (.int .u8 z))) := Lib.hid (fun z h0 h1 =>
                ⟨ownsRow_setCell_other HR.out (fun e => by injection e with e; exact hgh2 e.symm) _, fun p hp => (HO.out p hp).any g y z h0 h1, HBx.out.setCell (by have := HS.out; show w2.heap.size ≤ g; omega) _⟩)
              go_wp2
              go_roundw
              case rel => exact ⟨y + 1, by omega, by go_num, Lib.hid (HX1.out _ (by omega) (by omega)).1, Lib.hid (HX1.out _ (by omega) (by omega)).2.1, Lib.hid (HX1.out _ (by omega) (by omega)).2.2⟩
              case measure => simp [intOf]; omega
            · obtain rfl : y = pn := by omega
              have hK9 : K ≤ 1000000000 := K9.out
              go_wp2
              go_roundw
              case rel => exact ⟨j + 1, by omega, by go_num, HR, HO, HBx⟩
              case measure => simp [intOf]; omega
        · obtain rfl : j = K := by omega
          go_wp2
          go_roundw
          case rel => exact ⟨k + 1, by omega, by go_num, HBx⟩
          case measure => simp [intOf]; omega
    · obtain rfl : k = 2 := by omega
      have qr := Lib.hid (q2.out.trans (HB.out.mono q2.out.size))
      go_wp2
      go_ret
      exact ⟨rfl, qr.out⟩
theorem frameAll_any (a0 : Option Addr) (len0 cap0 : Nat) (z0 : List Int) (w : World) (w0 : IsRow .u8 w a0 len0 cap0 z0) (hF : LaidF w) (hK : LaidK w) :
    Calls Tryd.prog 5 #[.slice a0 len0 cap0] w fun e w' => e = .returned (.bool true) ∧ Below w.heap.size w w' := by
  by_cases h : len0 ≤ 3000
  · exact frameAll_in cap0 w w0.bs.1 w0.bs.2.2 h hF hK
  · have g0 : 3000 < (len0 : Int) := by omega
    clear w0
    go_enter Tryd.func5, Tryd.ntmps5
    go_wp2
    go_ret
    exact ⟨rfl, Below.refl _ _⟩
end Go.Proofs.YtcihbkdpkhhhcaaDoor
