/- The walk of RightsLines. -/
import Derived.Test.YtpnjojkjepblaaaDoorRgC
import Derived.Test.YtpnjojkjepblaaaDoorRgWithin
namespace Go.Proofs.YtpnjojkjepblaaaDoor
open Go.ChangeShapes Go.WideShapes Go.ChangeAt Go.RowKit
set_option linter.unusedVariables false
open Plain
set_option maxRecDepth 100000 in
set_option maxHeartbeats 4000000 in
theorem rightsLines_in {A : Option Addr} {m : Nat} (c : Nat) {l : List GrantZ} (w : World) (g1 : Grants w w.heap.size A m l) (hm : m ≤ 20) (hL : LaidL w) :
    Calls Tryd.prog 4 #[.slice A m c] w (fun e w' => e = .returned (.bool true) ∧ Below w.heap.size w w') := by
  have HL := Lib.hid hL
  have HG := Lib.hid g1
  have hI1 : ¬ 20 < (m : Int) := by omega
  have ho := Lib.hid (own_empty w)
  clear g1 hL
  go_enter Tryd.func4, Tryd.ntmps4
  go_wp2_with (at_builtin; refine wpList_app _ rfl (.tmp 14) (.tmp 15) 27 rfl w.heap.size 35 3 24 Tryd.underlying27 grant_info (by omega) _ 0 (gv []) rfl ho.out A m c (gv l) rfl (HG.out.below ((Below.refl _ _).alloc (Nat.le_refl _) _)).lies.1 HG.out.lies.2 (gv_one l) (by unfold maxLen; omega) (by omega) (by simp) ?_; intro v1 w1 ho1 hg1; have Hw1 : Hid (Below w.heap.size w w1) := Lib.hid (((Below.refl _ _).alloc (Nat.le_refl _) _).grown hg1 (by simp) (fun k hk => (ho.out.lt k hk).1)); rw [Nat.zero_add] at ho1; change w1.ownsRow w.heap.size 35 3 v1 m (gv l) at ho1; obtain ⟨A2, c2, rfl, hc2, _⟩ := own_shapeG ho1; have HI := Lib.hid (grants_of_own ho1 HG.out.ok); clear ho1 hg1)
  clear ho
  have HM : Hid (m ≤ maxLen) := Lib.hid (by unfold maxLen; omega)
  obtain ⟨R, hR⟩ : ∃ q, leR l = q := ⟨_, rfl⟩
  obtain ⟨X, hX⟩ : ∃ q, leX l = q := ⟨_, rfl⟩
  obtain ⟨E, hE⟩ : ∃ q, leE l = q := ⟨_, rfl⟩
  obtain ⟨la, hla⟩ : ∃ q, lineB l = q := ⟨_, rfl⟩
  have HR := Lib.hid hR
  have HX := Lib.hid hX
  have HE := Lib.hid hE
  have HLA := Lib.hid hla
  clear hR hX hE hla
  refine (leaves_val c2 R X E HI.out (Nat.le_refl _) HM.out HR.out HX.out HE.out).mono ?_
  rintro e w2 ⟨rfl, hb⟩
  have Hi2 : Hid (Below w1.heap.size w1 w2) := Lib.hid hb
  clear hb
  go_wp2_with fail
  refine (serials_any c2 (HI.out.below Hi2.out) Hi2.out.size (by omega)).mono ?_
  rintro e w3 ⟨A3, c3, rfl, hb, hs⟩
  have Hi3 : Hid (Below w1.heap.size w1 w3) := Lib.hid (Hi2.out.trans (hb.mono Hi2.out.size))
  have HS := Lib.hid hs
  clear hb hs Hi2
  go_wp2_with fail
  refine (line_val c2 la (HI.out.below Hi3.out) Hi3.out.size HM.out HLA.out).mono ?_
  rintro e w4 ⟨rfl, hb⟩
  have HS4 : Hid (Ir w4 w3.heap.size A3 m (sv l)) := Lib.hid (HS.out.below hb (Nat.le_refl _))
  have Hi4 : Hid (Below w1.heap.size w1 w4) := Lib.hid (Hi3.out.trans (hb.mono Hi3.out.size))
  have Hz : Hid (w3.heap.size ≤ w4.heap.size) := Lib.hid hb.size
  clear hb HS
  go_wp2_with fail
  refine (refline_val c la (HG.out.belowM (Hw1.out.trans (Hi4.out.mono Hw1.out.size)) (Nat.le_refl _)) (Nat.le_trans Hw1.out.size Hi4.out.size) HM.out HLA.out).mono ?_
  rintro e w5 ⟨rfl, hb⟩
  have HS5 : Hid (Ir w5 w5.heap.size A3 m (sv l)) := Lib.hid (by
    have := HS4.out.below hb Hz.out
    have hz := Hz.out
    have hz2 := hb.size
    exact ⟨this.len, fun h => by
      obtain ⟨b, off, e, hlt, hc⟩ := this.row h
      exact ⟨b, off, e, by omega, hc⟩⟩)
  have Hi5 : Hid (Below w1.heap.size w1 w5) := Lib.hid (Hi4.out.trans (hb.mono Hi4.out.size))
  have Hw5 : Hid (Below w.heap.size w w5) := Lib.hid (Hw1.out.trans (Hi5.out.mono Hw1.out.size))
  clear hb HS4 Hi3 Hi4 Hz
  have HI5 : Hid (Grants w5 w5.heap.size A2 m l) := Lib.hid ((HI.out.below Hi5.out).more Hi5.out.size)
  have HG5 : Hid (Grants w5 w5.heap.size A m l) := Lib.hid ((HG.out.below Hw5.out).more Hw5.out.size)
  clear HI HG Hi5 Hw1
  go_wp2
  go_loopw [8] (fun i wr => ∃ k : Nat, k ≤ m ∧ i = .int .i64 k ∧ Hid (Below w5.heap.size w5 wr)) (fun i _ => m - (intOf i).toNat)
  case atStart => exact ⟨0, by omega, rfl, Below.refl _ _⟩
  case round =>
    obtain ⟨k, hk, rfl, HB⟩ := hrel
    by_cases hlt : k < m
    · have hltI : (k : Int) < (m : Int) := by omega
      obtain ⟨b1, o1, g, rfl, hb1, HK, _, c0, c1, c2'⟩ := (HG5.out.below HB.out).at_ hlt
      obtain ⟨b2, o2, g2, rfl, hb2, HK2, _, d0, d1, d2⟩ := (HI5.out.below HB.out).at_ hlt
      obtain rfl : g2 = g := Option.some.inj (HK2.out.symm.trans HK.out)
      obtain ⟨b3, o3, rfl, hb3, s0⟩ := (HS5.out.below HB.out (Nat.le_refl _)).at_ hlt
      rw [sv_at HK.out] at s0
      obtain ⟨q, hq⟩ : ∃ q, mayB g2 = q := ⟨_, rfl⟩
      have HQ := Lib.hid hq
      clear hq
      have HS0 : Hid (wr.cell? ⟨b3, o3 + k, none⟩ = some (.int .i64 g2.s) ∧ wr.cell? ⟨b1, o1 + k * 3, none⟩ = some (.int .u8 g2.r) ∧ wr.cell? ⟨b1, o1 + k * 3 + 1, none⟩ = some (.int .i64 g2.x) ∧ wr.cell? ⟨b1, o1 + k * 3 + 2, none⟩ = some (.int .i64 g2.s) ∧ wr.cell? ⟨b2, o2 + k * 3, none⟩ = some (.int .u8 g2.r) ∧ wr.cell? ⟨b2, o2 + k * 3 + 1, none⟩ = some (.int .i64 g2.x) ∧ wr.cell? ⟨b2, o2 + k * 3 + 2, none⟩ = some (.int .i64 g2.s)) := Lib.hid ⟨s0, c0, c1, c2', d0, d1, d2⟩
      have HST : Hid (∀ W', Below w5.heap.size wr W' → W'.cell? ⟨b3, o3 + k, none⟩ = some (.int .i64 g2.s) ∧ W'.cell? ⟨b1, o1 + k * 3, none⟩ = some (.int .u8 g2.r) ∧ W'.cell? ⟨b1, o1 + k * 3 + 1, none⟩ = some (.int .i64 g2.x) ∧ W'.cell? ⟨b1, o1 + k * 3 + 2, none⟩ = some (.int .i64 g2.s) ∧ W'.cell? ⟨b2, o2 + k * 3, none⟩ = some (.int .u8 g2.r) ∧ W'.cell? ⟨b2, o2 + k * 3 + 1, none⟩ = some (.int .i64 g2.x) ∧ W'.cell? ⟨b2, o2 + k * 3 + 2, none⟩ = some (.int .i64 g2.s)) := Lib.hid (fun W' hW =>
        ⟨(hW.cell (p := ⟨b3, o3 + k, none⟩) hb3).trans s0, (hW.cell (p := ⟨b1, o1 + k * 3, none⟩) hb1).trans c0, (hW.cell (p := ⟨b1, o1 + k * 3 + 1, none⟩) hb1).trans c1, (hW.cell (p := ⟨b1, o1 + k * 3 + 2, none⟩) hb1).trans c2',
         (hW.cell (p := ⟨b2, o2 + k * 3, none⟩) hb2).trans d0, (hW.cell (p := ⟨b2, o2 + k * 3 + 1, none⟩) hb2).trans d1, (hW.cell (p := ⟨b2, o2 + k * 3 + 2, none⟩) hb2).trans d2⟩)
      have HB0 : Hid (Below w5.heap.size wr wr.drew) := Lib.hid (Below.refl _ _).drew
      clear c0 c1 c2' d0 d1 d2 s0
      go_wp2
      go_region_held3 (fun W' => W'.cell? ⟨b3, o3 + k, none⟩ = some (.int .i64 g2.s) ∧ W'.cell? ⟨b1, o1 + k * 3, none⟩ = some (.int .u8 g2.r) ∧ W'.cell? ⟨b1, o1 + k * 3 + 1, none⟩ = some (.int .i64 g2.x) ∧ W'.cell? ⟨b1, o1 + k * 3 + 2, none⟩ = some (.int .i64 g2.s) ∧ W'.cell? ⟨b2, o2 + k * 3, none⟩ = some (.int .u8 g2.r) ∧ W'.cell? ⟨b2, o2 + k * 3 + 1, none⟩ = some (.int .i64 g2.x) ∧ W'.cell? ⟨b2, o2 + k * 3 + 2, none⟩ = some (.int .i64 g2.s))
          (first | (exact HS0.out) | (exact HSA.out) | (exact HSB.out) | (exact HST.out _ HB0.out))
          ((first
            | (go_at_call 17; refine (may_val g2 _ HQ.out _).mono ?_; rintro e wa ⟨rfl, hba⟩; have HA : Hid (Below w5.heap.size wr wa) := Lib.hid (HB0.out.trans (hba.mono HB.out.size)); have HSA := Lib.hid (HST.out wa HA.out); clear hba)
            | (go_at_call 18; refine (refmay_val g2 _ HQ.out _).mono ?_; rintro e wb ⟨rfl, hbb⟩; have HBB : Hid (Below w5.heap.size wr wb) := Lib.hid (HA.out.trans (hbb.mono (Nat.le_trans HB.out.size HA.out.size))); have HSB := Lib.hid (HST.out wb HBB.out); clear hbb)))
      go_wp2
      go_roundw
      case rel => exact ⟨k + 1, by omega, by go_num, HB.out.trans HBB.out⟩
      case measure => simp [intOf]; omega
    · have hkm : k = m := by omega
      subst hkm
      have HG6 := Lib.hid ((HG5.out.below HB.out).more HB.out.size)
      have Hw6 : Hid (Below w.heap.size w wr) := Lib.hid (Hw5.out.trans (HB.out.mono Hw5.out.size))
      go_wp2_with fail
      refine (refline_val c la HG6.out (Nat.le_refl _) HM.out HLA.out).mono ?_
      rintro e w6 ⟨rfl, hb⟩
      have Hw7 : Hid (Below w.heap.size w w6) := Lib.hid (Hw6.out.trans (hb.mono Hw6.out.size))
      have HG7 := Lib.hid ((HG6.out.below hb).more hb.size)
      clear hb HG6 Hw6
      cases la
      · have h3 := le_no HLA.out
        obtain rfl : R = 0 := HR.out.symm.trans h3.1
        obtain rfl : X = 0 := HX.out.symm.trans h3.2.1
        obtain rfl : E = 2 := HE.out.symm.trans h3.2.2
        clear h3
        go_wp2_with (go_at_call 12; refine (awake_any _ (HL.out.grown Hw7.out)).mono ?_; rintro e w8 ⟨rfl, hb8⟩)
        go_ret
        exact ⟨rfl, Hw7.out.trans (hb8.mono Hw7.out.size)⟩
      · have h3 := le_yes HLA.out
        have h4 := rf_line HLA.out HG7.out.ok
        have HR2 : Hid (rfR l = R) := Lib.hid (by rw [h4.1, ← h3.1, HR.out])
        have HX2 : Hid (rfX l = X) := Lib.hid (by rw [h4.2, ← h3.2.1, HX.out])
        obtain rfl : E = 0 := HE.out.symm.trans h3.2.2
        clear h3 h4
        go_wp2_with fail
        refine (refleaves_val c R X HG7.out (Nat.le_refl _) HM.out HR2.out HX2.out).mono ?_
        rintro e w8 ⟨rfl, hb⟩
        have Hw8 : Hid (Below w.heap.size w w8) := Lib.hid (Hw7.out.trans (hb.mono Hw7.out.size))
        clear hb
        go_wp2_with (go_at_call 12; refine (awake_any _ (HL.out.grown Hw8.out)).mono ?_; rintro e w9 ⟨rfl, hb9⟩)
        go_ret
        exact ⟨rfl, Hw8.out.trans (hb9.mono Hw8.out.size)⟩
theorem rightsLines_any (A : Option Addr) (m c : Nat) (l : List GrantZ) (w : World) (g1 : Grants w w.heap.size A m l) (hm : m ≤ maxLen) (hL : LaidL w) :
    Calls Tryd.prog 4 #[.slice A m c] w (fun e w' => e = .returned (.bool true) ∧ Below w.heap.size w w') := by
  unfold maxLen at hm
  by_cases k1 : 20 < m
  · have hI1 : 20 < (m : Int) := by omega
    clear g1 hL
    go_enter Tryd.func4, Tryd.ntmps4
    go_wp2
    go_ret
    exact ⟨rfl, Below.refl _ _⟩
  exact rightsLines_in c w g1 (by omega) hL
end Go.Proofs.YtpnjojkjepblaaaDoor
