/- The frame with which bytes begin. -/
import Derived.Test.YtcihbkdpkhhhcaaDoorFSeal
namespace Go.Proofs.YtcihbkdpkhhhcaaDoor
open Go.ChangeShapes Go.WideShapes Go.ChangeAt Go.RowKit
set_option linter.unusedVariables false
open Plain Sha
/-- How long the payload is of the frame with which bytes begin. -/
def lenZ (bs : List Int) : Nat := (numZ (bs.take 4)).toNat
def IsFrame (bs : List Int) : Prop := 4 ≤ bs.length ∧ lenZ bs ≤ 65536 ∧ lenZ bs + 12 ≤ bs.length ∧ eqB ((bs.drop (4 + lenZ bs)).take 8) (sealZ (bs.take (4 + lenZ bs))) = true
instance (bs : List Int) : Decidable (IsFrame bs) := by unfold IsFrame; infer_instance
def firstZ (bs : List Int) : Option Nat := if IsFrame bs then some (lenZ bs) else none
def FirstV (A : Option Addr) (c : Nat) : Option Nat → Value
  | some m => .tuple #[.slice A (m + 12) c, .bool true]
  | none => .tuple #[.slice none 0 0, .bool false]
theorem firstZ_yes {bs : List Int} (h : IsFrame bs) : firstZ bs = some (lenZ bs) := by unfold firstZ; rw [if_pos h]
theorem firstZ_no {bs : List Int} (h : ¬ IsFrame bs) : firstZ bs = none := by unfold firstZ; rw [if_neg h]
theorem firstZ_some {bs : List Int} {m : Nat} (h : firstZ bs = some m) : IsFrame bs ∧ m = lenZ bs := by
  unfold firstZ at h
  split at h
  · next hf => injection h with h; exact ⟨hf, h.symm⟩
  · cases h
theorem firstZ_none {bs : List Int} (h : firstZ bs = none) : ¬ IsFrame bs := by
  unfold firstZ at h
  split at h
  · cases h
  · next hf => exact hf
set_option maxRecDepth 100000 in
set_option maxHeartbeats 2000000 in
theorem first_any {w : World} {B : Nat} {A : Option Addr} {n : Nat} (c : Nat) {bs : List Int} (hz : Bs w B A n bs) (hB : B ≤ w.heap.size) (hn : n ≤ 100000000) (hc : n ≤ c) (hF : LaidF w) (hK : LaidK w) :
    Calls Tryd.prog 39 #[.slice A n c] w fun e w' => e = .returned (FirstV A c (firstZ bs)) ∧ Below w.heap.size w w' := by
  have HL := Lib.hid hz.len
  have C1 := Lib.hid (load32_any c hz (by unfold maxLen; omega) 0 (by omega))
  by_cases h4 : n < 4
  · have e1 : loadOk n 0 4 = false := loadOk_no _ _ _ (.inr (by omega))
    have HR : Hid (firstZ bs = none) := Lib.hid (firstZ_no (fun h => by have := h.1; rw [HL.out] at this; omega))
    rw [e1] at C1
    generalize loadZ bs 0 4 = u at C1
    clear hz
    go_enter Tryd.func39, Tryd.ntmps39
    go_wp2_with fail
    refine C1.out.mono ?_
    rintro e w1 ⟨rfl, m, rfl⟩
    go_wp2
    go_ret2
    exact ⟨by rw [HR.out]; rfl, below_drewN (Below.refl _ _) _⟩
  have e1 : loadOk n 0 4 = true := loadOk_yes _ 0 _ (by omega)
  have hr := numZ_piece_range bs 0 4 4 (by omega) hz.rng'
  rw [List.drop_zero] at hr
  obtain ⟨N, hN⟩ := Int.eq_ofNat_of_zero_le hr.1
  have hN4 : N < 4294967296 := by have := hr.2; rw [hN] at this; omega
  have e2 : loadZ bs 0 4 = (N : Int) := by
    have := loadZ_yes bs 0 4 (by rw [hz.len]; omega)
    rw [show ((0 : Nat) : Int) = 0 from rfl, List.drop_zero] at this
    rw [this, hN]
  have HN : Hid (lenZ bs = N) := Lib.hid (by unfold lenZ; rw [hN]; rfl)
  rw [e1, e2] at C1
  clear e1 e2 hr hN
  by_cases hbig : 65536 < N
  · have HR : Hid (firstZ bs = none) := Lib.hid (firstZ_no (fun h => by have := h.2.1; rw [HN.out] at this; omega))
    have hbigI : 65536 < (N : Int) := by omega
    clear hz
    go_enter Tryd.func39, Tryd.ntmps39
    go_wp2_with fail
    refine C1.out.mono ?_
    rintro e w1 ⟨rfl, m, rfl⟩
    go_wp2
    go_ret2
    exact ⟨by rw [HR.out]; rfl, below_drewN (Below.refl _ _) _⟩
  have hbigI : ¬ 65536 < (N : Int) := by omega
  have g0 : IntKind.i64.wrap (N : Int) = (N : Int) := by rw [IntKind.wrap_i64]; omega
  have g1 : IntKind.i64.wrap (4 + (N : Int)) = 4 + (N : Int) := by rw [IntKind.wrap_i64]; omega
  have g2 : IntKind.i64.wrap (4 + (N : Int) + 8) = 4 + (N : Int) + 8 := by rw [IntKind.wrap_i64]; omega
  by_cases hsh : n < N + 12
  · have HR : Hid (firstZ bs = none) := Lib.hid (firstZ_no (fun h => by have := h.2.2.1; rw [HN.out, HL.out] at this; omega))
    have hshI : (n : Int) < 4 + (N : Int) + 8 := by omega
    clear hz
    go_enter Tryd.func39, Tryd.ntmps39
    go_wp2_with fail
    refine C1.out.mono ?_
    rintro e w1 ⟨rfl, m, rfl⟩
    go_wp2
    go_region
    go_wp2
    go_ret2
    exact ⟨by rw [HR.out]; rfl, (below_drewN (Below.refl _ _) _).drew⟩
  have hshI : ¬ (n : Int) < 4 + (N : Int) + 8 := by omega
  obtain ⟨b, o, rfl, hb, _⟩ := hz.row (by omega)
  obtain ⟨E, hE⟩ : ∃ E : Nat, 4 + N = E := ⟨_, rfl⟩
  have g1' : IntKind.i64.wrap (4 + (N : Int)) = (E : Int) := by rw [g1]; omega
  have g2' : IntKind.i64.wrap ((E : Int) + 8) = (E : Int) + 8 := by rw [IntKind.wrap_i64]; omega
  have g3 : ¬ (n : Int) < (E : Int) + 8 := by omega
  have G4 : Hid (decide ((n : Int) < (E : Int) + 8) = false) := Lib.hid (decide_eq_false g3)
  have i1 : (0 : Int) ≤ (E : Int) := by omega
  have i2 : (E : Int) + 8 ≤ (c : Int) := by omega
  have i3 : (E : Int) ≤ (E : Int) + 8 := by omega
  have i4 : (E : Int) ≤ (c : Int) := by omega
  have i5 : (0 : Int) ≤ (E : Int) + 8 := by omega
  have i6 : ((E : Int) + 8).toNat = E + 8 := by omega
  have i7 : ¬ c = E := by omega
  have RC1 : Bs w B (some ⟨b, o + E, none⟩) 8 ((bs.drop E).take 8) := hz.cut (by omega) _ (fun b off e _ => by injection e with e; injection e with e1 e2; subst e1 e2; rfl)
  have RC2 : Bs w B (some ⟨b, o, none⟩) E (bs.take E) := by
    have := hz.cut (k := 0) (m := E) (by omega) (some ⟨b, o, none⟩) (fun b off e _ => by injection e with e; injection e with e1 e2; subst e1 e2; rfl)
    simpa using this
  obtain ⟨q, hq⟩ : ∃ q, eqB ((bs.drop E).take 8) (sealZ (bs.take E)) = q := ⟨_, rfl⟩
  have HQ := Lib.hid hq
  have HRC1 := Lib.hid RC1
  have HRC2 := Lib.hid RC2
  have HM : Hid (8 ≤ maxLen) := Lib.hid (by unfold maxLen; omega)
  have HR : Hid (Ending.returned (if q = true then .tuple #[.slice (some ⟨b, o, none⟩) (E + 8) c, .bool true] else .tuple #[.slice none 0 0, .bool false]) = Ending.returned (FirstV (some ⟨b, o, none⟩) c (firstZ bs))) := Lib.hid (by
    cases q with
    | true =>
      rw [firstZ_yes ⟨by rw [HL.out]; omega, by rw [HN.out]; omega, by rw [HN.out, HL.out]; omega, by rw [HN.out, hE]; exact hq⟩, HN.out, if_pos rfl]
      rw [show E + 8 = N + 12 by omega]
      rfl
    | false =>
      rw [firstZ_no (fun h => by have := h.2.2.2; rw [HN.out, hE, hq] at this; cases this), if_neg (by simp)]
      rfl)
  have BW := Lib.hid (Below.refl w.heap.size w)
  have HFl := Lib.hid hF.lt
  have HKl := Lib.hid hK.lt
  have HFw := Lib.hid hF
  have HKw := Lib.hid hK
  have HE1 : E ≤ 1000000000 := by omega
  clear hq RC1 RC2 hz hb g1 g2 hshI hF hK
  go_enter Tryd.func39, Tryd.ntmps39
  go_wp2_with fail
  refine C1.out.mono ?_
  rintro e w1 ⟨rfl, m, rfl⟩
  go_wp2
  have S1 : Hid (Calls Tryd.prog 28 #[.slice (some ⟨b, o, none⟩) E c] (w.drewN (m + 1)) fun e w' => ∃ g, e = .returned (.slice (some ⟨g, 0, none⟩) 8 32) ∧ Bs w' (g + 1) (some ⟨g, 0, none⟩) 8 (sealZ (bs.take E)) ∧ Below w.heap.size w w' ∧ g < w'.heap.size ∧ Bs w' B (some ⟨b, o + E, none⟩) 8 ((bs.drop E).take 8)) :=
    Lib.hid ((sealOf_any c (HRC2.out.drewN _) hB HE1 (HFw.out.below (below_drewN (Below.refl w.heap.size w) (m + 1)) HFl.out) (HKw.out.below (below_drewN (Below.refl w.heap.size w) (m + 1)) HKl.out)).mono (fun e w' ⟨g, he, hs, hb, hl⟩ =>
      ⟨g, he, hs, (below_drewN (Below.refl w.heap.size w) (m + 1)).trans hb, hl, ((HRC1.out.drewN _).belowM hb hB)⟩))
  have g4 := G4.out
  clear g3
  go_region_held3 (fun _ => True) (exact trivial) ((first
    | (go_at_call 28; refine S1.out.mono ?_; rintro e w5 ⟨g, rfl, zs, bw, lg, rc⟩)
    | (go_at_call 21; refine (same_any (c - E) 32 rc zs HM.out HM.out).mono ?_; rw [HQ.out]; rintro e w6 ⟨rfl, m6, rfl⟩)))
  have BW2 := Lib.hid (below_drewN bw m6)
  have gE : IntKind.i64.wrap ((E : Int) + 8) = (E : Int) + 8 := by rw [IntKind.wrap_i64]; omega
  clear zs bw lg rc S1 g4
  cases q with
  | true =>
    go_wp2
    go_ret2
    exact ⟨HR.out, BW2.out⟩
  | false =>
    go_wp2
    go_ret2
    exact ⟨HR.out, BW2.out⟩
end Go.Proofs.YtcihbkdpkhhhcaaDoor
