/- Texts of the proof, one behind the other: FSeal FFirst FIter FNext Round FAll Num Fast FZ FAwake FJoin. -/
import Derived.Test.YtjfeepmjebdahaaDoorB3
import Derived.Test.YtjfeepmjebdahaaDoorB1
import Derived.Deep.Cut
import Derived.Deep.CutRange
import Derived.RangeFuncNested
import Derived.RangeFuncBound
import Derived.RangeFuncCalls
import Derived.RangeFuncLeaves
import Derived.RangeFuncBox
import Derived.Shelf.Abstract
import Derived.Shelf.RegionOpen
import Derived.OwnWalkIn
import Derived.TacticsInMore
import Derived.LoopNIn
import Derived.LoopIn
import Derived.Test.YtjfeepmjebdahaaDoorB2
import Derived.OrdersHeld
import Derived.OrdersIn
import Derived.RowKit
/- A frame's seal; a frame put together. -/
namespace Go.Proofs.YtjfeepmjebdahaaDoor
open Go.ChangeShapes Go.WideShapes Go.ChangeAt Go.RowKit
set_option linter.unusedVariables false
open Plain Sha
theorem shaZ_bytesF (bs : List Int) : IsBytes (shaZ bs) := by unfold shaZ; exact tagZ_bytes _
def sealZ (zs : List Int) : List Int := (shaZ zs).take 8
def aheadZ (zs : List Int) : List Int := putZ (zs.length : Nat) 4 ++ zs
def frameZ (zs : List Int) : List Int := aheadZ zs ++ sealZ (aheadZ zs)
theorem IsBytes.take {zs : List Int} (h : IsBytes zs) (k : Nat) : IsBytes (zs.take k) := by
  rw [isBytes_iff] at *
  exact fun z hz => h z (List.mem_of_mem_take hz)
theorem IsBytes.drop {zs : List Int} (h : IsBytes zs) (k : Nat) : IsBytes (zs.drop k) := by
  rw [isBytes_iff] at *
  exact fun z hz => h z (List.mem_of_mem_drop hz)
theorem sealZ_len (zs : List Int) : (sealZ zs).length = 8 := by unfold sealZ; rw [List.length_take, shaZ_len]; rfl
theorem sealZ_bytes (zs : List Int) : IsBytes (sealZ zs) := (shaZ_bytesF zs).take 8
theorem aheadZ_len (zs : List Int) : (aheadZ zs).length = 4 + zs.length := by unfold aheadZ; rw [List.length_append, putZ_len]
theorem aheadZ_bytes {zs : List Int} (h : IsBytes zs) : IsBytes (aheadZ zs) := (putZ_bytes _ _).app h
theorem frameZ_len (zs : List Int) : (frameZ zs).length = zs.length + 12 := by unfold frameZ; rw [List.length_append, aheadZ_len, sealZ_len]; omega
theorem frameZ_bytes {zs : List Int} (h : IsBytes zs) : IsBytes (frameZ zs) := (aheadZ_bytes h).app (sealZ_bytes _)
theorem bs_of_range {w : World} {g n : Nat} {zs : List Int} (h : w.rangeAt g 0 (vals zs)) (hl : zs.length = n) (hb : IsBytes zs) : Bs w (g + 1) (some ⟨g, 0, none⟩) n zs := by
  subst hl
  exact ⟨rfl, hb, fun _ => ⟨g, 0, rfl, by omega, fun j hj => h j _ (vals_at zs j hj)⟩⟩
set_option maxRecDepth 100000 in
set_option maxHeartbeats 1000000 in
theorem sealOf_any {w : World} {B : Nat} {A : Option Addr} {n : Nat} (c : Nat) {zs : List Int} (hz : Bs w B A n zs) (hB : B ≤ w.heap.size) (hn : n ≤ 1000000000) (hF : LaidF w) (hK : LaidK w) :
    Calls Tryd.prog 62 #[.slice A n c] w fun e w' => ∃ g, e = .returned (.slice (some ⟨g, 0, none⟩) 8 32) ∧ Bs w' (g + 1) (some ⟨g, 0, none⟩) 8 (sealZ zs) ∧ Below w.heap.size w w' ∧ g < w'.heap.size := by
  obtain ⟨T, hT⟩ : ∃ T, shaZ zs = T := ⟨_, rfl⟩
  have LT : Hid (T.length = 32) := Lib.hid (by rw [← hT]; exact shaZ_len _)
  have HTB : Hid (IsBytes T) := Lib.hid (by rw [← hT]; exact shaZ_bytesF _)
  have HS : Hid (T.take 8 = sealZ zs) := Lib.hid (by unfold sealZ; rw [hT])
  have C1 := Lib.hid (sumB_any c hz hB hn hF hK)
  have HT := Lib.hid hT
  clear hT hz hF hK
  go_enter Tryd.func62, Tryd.ntmps62
  go_wp2_with fail
  refine C1.out.mono ?_
  rw [HT.out]
  rintro e w1 ⟨rfl, b1⟩
  have G := LT
  go_upto_region 2 with (have g := G; clear g; refine wpList_store_as (op := ⟨none, .store 100 (.tmp 3) (.tmp 5), _, _, _, _⟩) rfl 100 (.tmp 3) (.tmp 5) rfl w1.heap.size 0 (vals T).toArray rfl rfl (tag_there w1 T LT.out) (tag_size T LT.out) (all_oneCell_toArray (vals_one T)) ?_; intro w2 hw2; clear G)
  obtain ⟨r2, b2, s2⟩ := stored_tag LT.out hw2
  have q2 := Lib.hid (b1.trans (b2.mono b1.size))
  have z2 := bs_of_range r2 LT.out HTB.out
  have Z3 := Lib.hid (z2.cut (k := 0) (m := 8) (by omega) (some ⟨w1.heap.size, 0, none⟩) (fun b off e _ => by injection e with e; injection e with e1 e2; subst e1 e2; rfl))
  clear hw2 r2 z2 b2 b1
  go_wp2
  go_ret
  refine ⟨_, rfl, ?_, q2.out, s2⟩
  have := Z3.out
  rw [List.drop_zero, HS.out] at this
  exact this
set_option maxRecDepth 100000 in
set_option maxHeartbeats 2000000 in
theorem fseal_any {w : World} {B : Nat} {A : Option Addr} {n : Nat} (c : Nat) {zs : List Int} (hz : Bs w B A n zs) (hB : B ≤ w.heap.size) (hn : n ≤ 65536) (hF : LaidF w) (hK : LaidK w) :
    Calls Tryd.prog 43 #[.slice A n c] w fun e w' => ∃ A' c', e = .returned (.tuple #[.slice A' (n + 12) c', .int .i64 0]) ∧ w'.ownsRow w.heap.size 5 1 (.slice A' (n + 12) c') (n + 12) (vals (frameZ zs)) ∧ Below w.heap.size w w' ∧ n + 12 ≤ c' ∧ c' ≤ maxLen := by
  have g1 : ¬ 65536 < (n : Int) := by omega
  have gw : IntKind.u32.wrap (n : Int) = (n : Int) := by rw [IntKind.wrap_u32]; omega
  have C1 := Lib.hid (put32_any (n : Int) (by omega) (by omega) w)
  have HL := hz.len
  have E1 : Hid (putZ (n : Int) 4 ++ zs = aheadZ zs) := Lib.hid (by unfold aheadZ; rw [HL])
  have L1 : Hid ((aheadZ zs).length = 4 + n) := Lib.hid (by rw [aheadZ_len, HL])
  have B1 : Hid (IsBytes (aheadZ zs)) := Lib.hid (aheadZ_bytes hz.isBytes)
  have L2 : Hid ((aheadZ zs ++ sealZ (aheadZ zs)).length = n + 12) := Lib.hid (by rw [List.length_append, L1.out, sealZ_len]; omega)
  have HFl := Lib.hid hF.lt
  have HKl := Lib.hid hK.lt
  have HZ := Lib.hid hz
  have HF := Lib.hid hF
  have HK := Lib.hid hK
  clear hz hF hK HL
  go_enter Tryd.func43, Tryd.ntmps43
  go_wp2_with fail
  refine C1.out.mono ?_
  intro e w1 hm1
  obtain ⟨P1, p1, rfl, ho1, b1, _, _⟩ := hm1.n (putZ_len _ _)
  have z1 := Made.bs ho1 (putZ_bytes _ _)
  have q1 := Lib.hid b1
  have C2 := Lib.hid (cat2_any (w := w1) p1 c 27 z1 (HZ.out.belowM b1 hB) (Nat.le_refl _) (Nat.le_trans hB b1.size) (by omega) 2 w1.heap.size rfl)
  rw [E1.out] at C2
  clear hm1 ho1 b1 z1 C1
  go_wp2_with fail
  refine C2.out.mono ?_
  intro e w2 hm2
  obtain ⟨P2, p2, rfl, ho2, b2, hp2, _⟩ := hm2.n L1.out
  have q2 := Lib.hid ((q1.out.alloc q1.out.size _).trans (b2.mono (by have := q1.out.size; simp; omega)))
  have z2 := Lib.hid (Made.bs ho2 B1.out)
  clear hm2 ho2 b2 C2 q1
  go_wp2_with fail
  refine (sealOf_any p2 z2.out (Nat.le_refl _) (by omega) (HF.out.below q2.out HFl.out) (HK.out.below q2.out HKl.out)).mono ?_
  rintro e w3 ⟨g, rfl, z3, b3, s3⟩
  have q3 := Lib.hid (q2.out.trans (b3.mono q2.out.size))
  have C4 := Lib.hid (cat2_any (w := w3) p2 32 27 (z2.out.below b3) z3 b3.size (by omega) (by omega) 2 w3.heap.size rfl)
  clear z3 b3 z2 q2
  go_wp2_with fail
  refine C4.out.mono ?_
  intro e w4 hm4
  obtain ⟨P4, p4, rfl, ho4, b4, h4, h4'⟩ := hm4.n L2.out
  have q4 := Lib.hid ((q3.out.alloc q3.out.size _).trans (b4.mono (by have := q3.out.size; simp; omega)))
  have O4 := Lib.hid (own_base ho4 (show w.heap.size ≤ _ by have := q3.out.size; simp; omega))
  clear hm4 ho4 b4 C4
  go_wp2
  go_ret2
  exact ⟨_, _, rfl, O4.out, q4.out, h4, h4'⟩
set_option maxRecDepth 100000 in
theorem fseal_long {w : World} {A : Option Addr} {n : Nat} (c : Nat) (hn : 65536 < n) :
    Calls Tryd.prog 43 #[.slice A n c] w fun e w' => e = .returned (.tuple #[.slice none 0 0, .int .i64 3]) ∧ Below w.heap.size w w' := by
  have g1 : 65536 < (n : Int) := by omega
  go_enter Tryd.func43, Tryd.ntmps43
  go_wp2
  go_ret2
  exact ⟨rfl, Below.refl _ _⟩
end Go.Proofs.YtjfeepmjebdahaaDoor
/- The frame with which bytes begin. -/
namespace Go.Proofs.YtjfeepmjebdahaaDoor
open Go.ChangeShapes Go.WideShapes Go.ChangeAt Go.RowKit
set_option linter.unusedVariables false
open Plain Sha
/-- How long the payload is of the frame with which bytes begin. -/
def lenZ (bs : List Int) : Nat := (numZ (bs.take 4)).toNat
def IsFrame (bs : List Int) : Prop := 4 ≤ bs.length ∧ lenZ bs ≤ 65536 ∧ lenZ bs + 12 ≤ bs.length ∧ eqB ((bs.drop (4 + lenZ bs)).take 8) (sealZ (bs.take (4 + lenZ bs))) = true
instance (bs : List Int) : Decidable (IsFrame bs) := by unfold IsFrame; infer_instance
def firstZ (bs : List Int) : Option Nat := if IsFrame bs then some (lenZ bs) else none
def FirstV (A : Option Addr) (c : Nat) : Option Nat → Value
  | some m => .tuple #[.slice A (m + 12) c, .bool true]
  | none => .tuple #[.slice none 0 0, .bool false]
theorem firstZ_yes {bs : List Int} (h : IsFrame bs) : firstZ bs = some (lenZ bs) := by unfold firstZ; rw [if_pos h]
theorem firstZ_no {bs : List Int} (h : ¬ IsFrame bs) : firstZ bs = none := by unfold firstZ; rw [if_neg h]
theorem firstZ_some {bs : List Int} {m : Nat} (h : firstZ bs = some m) : IsFrame bs ∧ m = lenZ bs := by
  unfold firstZ at h
  split at h
  · next hf => injection h with h; exact ⟨hf, h.symm⟩
  · cases h
theorem firstZ_none {bs : List Int} (h : firstZ bs = none) : ¬ IsFrame bs := by
  unfold firstZ at h
  split at h
  · cases h
  · next hf => exact hf
set_option maxRecDepth 100000 in
set_option maxHeartbeats 2000000 in
theorem first_any {w : World} {B : Nat} {A : Option Addr} {n : Nat} (c : Nat) {bs : List Int} (hz : Bs w B A n bs) (hB : B ≤ w.heap.size) (hn : n ≤ 100000000) (hc : n ≤ c) (hF : LaidF w) (hK : LaidK w) :
    Calls Tryd.prog 75 #[.slice A n c] w fun e w' => e = .returned (FirstV A c (firstZ bs)) ∧ Below w.heap.size w w' := by
  have HL := Lib.hid hz.len
  have C1 := Lib.hid (load32_any c hz (by unfold maxLen; omega) 0 (by omega))
  by_cases h4 : n < 4
  · have e1 : loadOk n 0 4 = false := loadOk_no _ _ _ (.inr (by omega))
    have HR : Hid (firstZ bs = none) := Lib.hid (firstZ_no (fun h => by have := h.1; rw [HL.out] at this; omega))
    rw [e1] at C1
    generalize loadZ bs 0 4 = u at C1
    clear hz
    go_enter Tryd.func75, Tryd.ntmps75
    go_wp2_with fail
    refine C1.out.mono ?_
    rintro e w1 ⟨rfl, m, rfl⟩
    go_wp2
    go_ret2
    exact ⟨by rw [HR.out]; rfl, below_drewN (Below.refl _ _) _⟩
  have e1 : loadOk n 0 4 = true := loadOk_yes _ 0 _ (by omega)
  have hr := numZ_piece_range bs 0 4 4 (by omega) hz.rng'
  rw [List.drop_zero] at hr
  obtain ⟨N, hN⟩ := Int.eq_ofNat_of_zero_le hr.1
  have hN4 : N < 4294967296 := by have := hr.2; rw [hN] at this; omega
  have e2 : loadZ bs 0 4 = (N : Int) := by
    have := loadZ_yes bs 0 4 (by rw [hz.len]; omega)
    rw [show ((0 : Nat) : Int) = 0 from rfl, List.drop_zero] at this
    rw [this, hN]
  have HN : Hid (lenZ bs = N) := Lib.hid (by unfold lenZ; rw [hN]; rfl)
  rw [e1, e2] at C1
  clear e1 e2 hr hN
  by_cases hbig : 65536 < N
  · have HR : Hid (firstZ bs = none) := Lib.hid (firstZ_no (fun h => by have := h.2.1; rw [HN.out] at this; omega))
    have hbigI : 65536 < (N : Int) := by omega
    clear hz
    go_enter Tryd.func75, Tryd.ntmps75
    go_wp2_with fail
    refine C1.out.mono ?_
    rintro e w1 ⟨rfl, m, rfl⟩
    go_wp2
    go_ret2
    exact ⟨by rw [HR.out]; rfl, below_drewN (Below.refl _ _) _⟩
  have hbigI : ¬ 65536 < (N : Int) := by omega
  have g0 : IntKind.i64.wrap (N : Int) = (N : Int) := by rw [IntKind.wrap_i64]; omega
  have g1 : IntKind.i64.wrap (4 + (N : Int)) = 4 + (N : Int) := by rw [IntKind.wrap_i64]; omega
  have g2 : IntKind.i64.wrap (4 + (N : Int) + 8) = 4 + (N : Int) + 8 := by rw [IntKind.wrap_i64]; omega
  by_cases hsh : n < N + 12
  · have HR : Hid (firstZ bs = none) := Lib.hid (firstZ_no (fun h => by have := h.2.2.1; rw [HN.out, HL.out] at this; omega))
    have hshI : (n : Int) < 4 + (N : Int) + 8 := by omega
    clear hz
    go_enter Tryd.func75, Tryd.ntmps75
    go_wp2_with fail
    refine C1.out.mono ?_
    rintro e w1 ⟨rfl, m, rfl⟩
    go_wp2
    go_region
    go_wp2
    go_ret2
    exact ⟨by rw [HR.out]; rfl, (below_drewN (Below.refl _ _) _).drew⟩
  have hshI : ¬ (n : Int) < 4 + (N : Int) + 8 := by omega
  obtain ⟨b, o, rfl, hb, _⟩ := hz.row (by omega)
  obtain ⟨E, hE⟩ : ∃ E : Nat, 4 + N = E := ⟨_, rfl⟩
  have g1' : IntKind.i64.wrap (4 + (N : Int)) = (E : Int) := by rw [g1]; omega
  have g2' : IntKind.i64.wrap ((E : Int) + 8) = (E : Int) + 8 := by rw [IntKind.wrap_i64]; omega
  have g3 : ¬ (n : Int) < (E : Int) + 8 := by omega
  have G4 : Hid (decide ((n : Int) < (E : Int) + 8) = false) := Lib.hid (decide_eq_false g3)
  have i1 : (0 : Int) ≤ (E : Int) := by omega
  have i2 : (E : Int) + 8 ≤ (c : Int) := by omega
  have i3 : (E : Int) ≤ (E : Int) + 8 := by omega
  have i4 : (E : Int) ≤ (c : Int) := by omega
  have i5 : (0 : Int) ≤ (E : Int) + 8 := by omega
  have i6 : ((E : Int) + 8).toNat = E + 8 := by omega
  have i7 : ¬ c = E := by omega
  have RC1 : Bs w B (some ⟨b, o + E, none⟩) 8 ((bs.drop E).take 8) := hz.cut (by omega) _ (fun b off e _ => by injection e with e; injection e with e1 e2; subst e1 e2; rfl)
  have RC2 : Bs w B (some ⟨b, o, none⟩) E (bs.take E) := by
    have := hz.cut (k := 0) (m := E) (by omega) (some ⟨b, o, none⟩) (fun b off e _ => by injection e with e; injection e with e1 e2; subst e1 e2; rfl)
    simpa using this
  obtain ⟨q, hq⟩ : ∃ q, eqB ((bs.drop E).take 8) (sealZ (bs.take E)) = q := ⟨_, rfl⟩
  have HQ := Lib.hid hq
  have HRC1 := Lib.hid RC1
  have HRC2 := Lib.hid RC2
  have HM : Hid (8 ≤ maxLen) := Lib.hid (by unfold maxLen; omega)
  have HR : Hid (Ending.returned (if q = true then .tuple #[.slice (some ⟨b, o, none⟩) (E + 8) c, .bool true] else .tuple #[.slice none 0 0, .bool false]) = Ending.returned (FirstV (some ⟨b, o, none⟩) c (firstZ bs))) := Lib.hid (by
    cases q with
    | true =>
      rw [firstZ_yes ⟨by rw [HL.out]; omega, by rw [HN.out]; omega, by rw [HN.out, HL.out]; omega, by rw [HN.out, hE]; exact hq⟩, HN.out, if_pos rfl]
      rw [show E + 8 = N + 12 by omega]
      rfl
    | false =>
      rw [firstZ_no (fun h => by have := h.2.2.2; rw [HN.out, hE, hq] at this; cases this), if_neg (by simp)]
      rfl)
  have BW := Lib.hid (Below.refl w.heap.size w)
  have HFl := Lib.hid hF.lt
  have HKl := Lib.hid hK.lt
  have HFw := Lib.hid hF
  have HKw := Lib.hid hK
  have HE1 : E ≤ 1000000000 := by omega
  clear hq RC1 RC2 hz hb g1 g2 hshI hF hK
  go_enter Tryd.func75, Tryd.ntmps75
  go_wp2_with fail
  refine C1.out.mono ?_
  rintro e w1 ⟨rfl, m, rfl⟩
  go_wp2
  have S1 : Hid (Calls Tryd.prog 62 #[.slice (some ⟨b, o, none⟩) E c] (w.drewN (m + 1)) fun e w' => ∃ g, e = .returned (.slice (some ⟨g, 0, none⟩) 8 32) ∧ Bs w' (g + 1) (some ⟨g, 0, none⟩) 8 (sealZ (bs.take E)) ∧ Below w.heap.size w w' ∧ g < w'.heap.size ∧ Bs w' B (some ⟨b, o + E, none⟩) 8 ((bs.drop E).take 8)) :=
    Lib.hid ((sealOf_any c (HRC2.out.drewN _) hB HE1 (HFw.out.below (below_drewN (Below.refl w.heap.size w) (m + 1)) HFl.out) (HKw.out.below (below_drewN (Below.refl w.heap.size w) (m + 1)) HKl.out)).mono (fun e w' ⟨g, he, hs, hb, hl⟩ =>
      ⟨g, he, hs, (below_drewN (Below.refl w.heap.size w) (m + 1)).trans hb, hl, ((HRC1.out.drewN _).belowM hb hB)⟩))
  have g4 := G4.out
  clear g3
  go_region_held3 (fun _ => True) (exact trivial) ((first
    | (go_at_call 62; refine S1.out.mono ?_; rintro e w5 ⟨g, rfl, zs, bw, lg, rc⟩)
    | (go_at_call 29; refine (same_any (c - E) 32 rc zs HM.out HM.out).mono ?_; rw [HQ.out]; rintro e w6 ⟨rfl, m6, rfl⟩)))
  have BW2 := Lib.hid (below_drewN bw m6)
  have gE : IntKind.i64.wrap ((E : Int) + 8) = (E : Int) + 8 := by rw [IntKind.wrap_i64]; omega
  clear zs bw lg rc S1 g4
  cases q with
  | true =>
    go_wp2
    go_ret2
    exact ⟨HR.out, BW2.out⟩
  | false =>
    go_wp2
    go_ret2
    exact ⟨HR.out, BW2.out⟩
end Go.Proofs.YtjfeepmjebdahaaDoor
/- The frames of bytes, told one by one. -/
namespace Go.Proofs.YtjfeepmjebdahaaDoor
open Go.ChangeShapes Go.WideShapes Go.ChangeAt Go.RowKit Go.Shelf
set_option linter.unusedVariables false
open Plain Sha
attribute [local go_sem] Oper.semAt_some
/-- The frames behind a place, as far as there are: where each stands, how long its payload is. -/
def framesF (bs : List Int) : Nat → Nat → List (Nat × Nat)
  | 0, _ => []
  | k + 1, off => match firstZ (bs.drop off) with
    | none => []
    | some m => (off, m) :: framesF bs k (off + (m + 12))
def framesZ (bs : List Int) : List (Nat × Nat) := framesF bs (bs.length + 1) 0
theorem framesF_no {bs : List Int} {k off : Nat} (h : firstZ (bs.drop off) = none) : framesF bs k off = [] := by
  cases k with
  | zero => rfl
  | succ k => unfold framesF; rw [h]
theorem framesF_yes {bs : List Int} {k off m : Nat} (h : firstZ (bs.drop off) = some m) : framesF bs (k + 1) off = (off, m) :: framesF bs k (off + (m + 12)) := by
  rw [framesF, h]
/-- A frame of the bytes. -/
abbrev Fr (bs : List Int) := { x : Nat × Nat // x.1 + (x.2 + 12) ≤ bs.length ∧ firstZ (bs.drop x.1) = some x.2 }
def shiftA (A : Option Addr) (k : Nat) : Option Addr := A.map fun a => ⟨a.block, a.off + k, none⟩
def frV (A : Option Addr) (c : Nat) {bs : List Int} (x : Fr bs) : Value := .slice (shiftA A x.1.1) (x.1.2 + 12) (c - x.1.1)
theorem shift_cut {A R : Option Addr} {off m : Nat} (h : CutAt A R off m) (hm : 0 < m) (hA : ∃ b o, A = some ⟨b, o, none⟩) : R = shiftA A off := by
  obtain ⟨b, o, rfl⟩ := hA
  rw [h b o rfl hm]; rfl
theorem CutAt.more {A R R' : Option Addr} {off k m m' : Nat} (h : CutAt A R off m) (h' : CutAt R R' k m') (hm : k + m' ≤ m) : CutAt A R' (off + k) m' := fun b o hA h0 => by
  have := h b o hA (by omega)
  have := h' _ _ this h0
  rw [this, Nat.add_assoc]
theorem drop_drop' (bs : List Int) (a b : Nat) : (bs.drop a).drop b = bs.drop (a + b) := by rw [List.drop_drop]
set_option maxRecDepth 100000 in
set_option maxHeartbeats 2000000 in
theorem frames1_in (n : Nat) (hn : 1 ≤ n) (l Bn n₀ : Nat) (A : Option Addr) (len cap : Nat) (bs : List Int) (J Jx : List (Fr bs) → World → Prop)
    (hY : ∀ pre x W, J pre W → pre.length < len + 1 → YieldAt Fence.wide (n - 1) Tryd.prog l #[frV A cap x] W fun e W' =>
      (e = .returned (.bool true) ∧ J (pre ++ [x]) W' ∧ Kept n₀ Bn W W') ∨ (e = .returned (.bool false) ∧ Jx (pre ++ [x]) W'))
    (W : World) (hJ : AbidesFrom W.heap.size J) (hBn : Boxed W Bn 27 (.slice A len cap)) (hB : Bs W n₀ A len bs) (hn₀ : n₀ ≤ W.heap.size) (hlen : len ≤ 100000000) (hcap : len ≤ cap)
    (hF : LaidF W) (hK : LaidK W) (hF0 : 0 < n₀) (hK0 : 1 < n₀) (h0 : J [] W) :
    CallsIn Fence.wide n Tryd.prog 74 #[.func (.yield l) #[] #[], .pointer (some ⟨Bn, 0, none⟩)] W fun e W' => (∃ v, e = .returned v) ∧
      ((∃ ys, ys.map (·.1) = framesZ bs ∧ J ys W') ∨ (∃ pre, (∃ t, pre.map (·.1) ++ t = framesZ bs) ∧ Jx pre W')) := by
  have cB := hBn.cell
  have HL := Lib.hid hB.len
  refine callsIn_of_wp Tryd.func74 rfl trivial ?_ rfl
  simp only [Tryd.ntmps74, List.size_toArray, List.length_cons, List.length_nil, Nat.reduceAdd, Nat.reduceSub, Array.replicate_succ, Array.replicate_zero, List.push_toArray, List.append_toArray, List.nil_append, List.cons_append]
  gi_wp2
  clear cB
  gi_loopw [3] (fun r wr => ∃ (off fuel : Nat) (R : Option Addr) (pre : List (Fr bs)), off ≤ len ∧ r = .slice R (len - off) (cap - off) ∧ Hid (CutAt A R off (len - off)) ∧ Hid (pre.map (·.1) ++ framesF bs fuel off = framesZ bs) ∧ len - off < fuel ∧ pre.length ≤ off ∧ Hid (J pre wr) ∧ Hid (Kept n₀ Bn W wr)) (fun r _ => (match r with | .slice _ m _ => m | _ => 0))
  case atStart =>
    exact ⟨0, len + 1, A, [], by omega, rfl, Lib.hid (fun b o h _ => by rw [h]; rfl), Lib.hid (by show framesF bs (len + 1) 0 = framesF bs (bs.length + 1) 0; rw [HL.out]), by omega, by simp, Lib.hid h0, Lib.hid (Kept.refl _ _ _)⟩
  case round =>
    obtain ⟨wo, hwo⟩ : ∃ wo, wo = wr := ⟨_, rfl⟩
    subst hwo
    obtain ⟨off, fuel, R, pre, hoff, rfl, HC, HP, hfu, hpl, HJ, HK1⟩ := hrel
    have hB1 : Bs wo n₀ A len bs := hB.below HK1.out.1
    have hR : Bs wo n₀ R (len - off) (bs.drop off) := by
      have := hB1.cut (k := off) (m := len - off) (by omega) R HC.out
      rwa [List.take_of_length_le (by rw [List.length_drop, HL.out]; exact Nat.le_refl _)] at this
    have C1 := Lib.hid (first_any (cap - off) hR (Nat.le_trans hn₀ HK1.out.1.size) (by omega) (by omega) (hF.below HK1.out.1 hF0) (hK.below HK1.out.1 hK0))
    have sz1 := HK1.out.1.size
    obtain ⟨fz, hfz⟩ : ∃ fz, firstZ (bs.drop off) = fz := ⟨_, rfl⟩
    rw [hfz] at C1
    cases fz with
    | none =>
      have HP' : Hid (pre.map (·.1) = framesZ bs) := Lib.hid (by have := HP.out; rwa [framesF_no hfz, List.append_nil] at this)
      have HC1 : Hid (Calls Tryd.prog 75 #[.slice R (len - off) (cap - off)] wo fun e w' => e = .returned (.tuple #[.slice none 0 0, .bool false]) ∧ Below wo.heap.size wo w') := C1
      clear hR hB1 C1 hfz HP
      gi_wp2_with (refine ⟨trivial, ?_⟩; gi_at_call 75; refine (callsIn_wide.2 HC1.out).mono ?_; rintro e w1 ⟨rfl, b1⟩)
      have hJ2 : J pre w1 := hJ _ _ _ none HJ.out (below_grown b1) (fun r e => by cases e)
      refine ⟨fun f hf => (by cases hf), ?_⟩
      gi_wp2
      refine bodyPost_ret (results_none rfl _ _ _) rfl ?_
      exact ⟨⟨_, rfl⟩, .inl ⟨pre, HP'.out, hJ2⟩⟩
    | some m =>
      obtain ⟨hfr, hm⟩ := firstZ_some hfz
      have hm12 : m + 12 ≤ len - off := by have := hfr.2.2.1; rw [← hm, List.length_drop, HL.out] at this; exact this
      have hx1 : off + (m + 12) ≤ bs.length := by rw [HL.out]; omega
      obtain ⟨fu', rfl⟩ : ∃ k, fuel = k + 1 := ⟨fuel - 1, by omega⟩
      have HP' : Hid ((pre ++ [⟨(off, m), hx1, hfz⟩] : List (Fr bs)).map (·.1) ++ framesF bs fu' (off + (m + 12)) = framesZ bs) := Lib.hid (by
        have := HP.out; rw [framesF_yes hfz] at this; rw [List.map_append]; simpa using this)
      obtain ⟨b0, o0, hA0, _, _⟩ := hB1.row (by omega)
      have hRS : R = shiftA A off := shift_cut HC.out (by omega) ⟨_, _, hA0⟩
      have HV : Hid (frV A cap (⟨(off, m), hx1, hfz⟩ : Fr bs) = .slice R (m + 12) (cap - off)) := Lib.hid (by rw [hRS]; rfl)
      obtain ⟨R', hs', hcut'⟩ := cut_l R (len - off) (cap - off) (m + 12) ((m : Int) + 12) (by omega) hm12 (by omega)
      have HC' : Hid (CutAt A R' (off + (m + 12)) (len - (off + (m + 12)))) := Lib.hid (by rw [← Nat.sub_sub]; exact HC.out.more hcut' (by omega))
      have HC1 : Hid (Calls Tryd.prog 75 #[.slice R (len - off) (cap - off)] wo fun e w' => e = .returned (.tuple #[.slice R (m + 12) (cap - off), .bool true]) ∧ Below wo.heap.size wo w') := C1
      have HS' := Lib.hid hs'
      clear hR hB1 C1 HP HC hA0 hRS hs' hcut' hm hfr
      gi_wp2_with (first | (refine ⟨trivial, ?_⟩; gi_at_call 75; refine (callsIn_wide.2 HC1.out).mono ?_; rintro e w1 ⟨rfl, b1⟩; have hJ2 : J pre w1 := hJ _ _ _ none HJ.out (below_grown b1) (fun r e => by cases e); obtain ⟨fn, tmps, assign, body, hy, hR⟩ := hY _ (⟨(off, m), hx1, hfz⟩ : Fr bs) w1 hJ2 (by omega); rw [HV.out] at hy))
      have HJ2 := Lib.hid hJ2
      have hk1 : Kept n₀ Bn W w1 := HK1.out.trans ⟨b1.mono (Nat.le_trans hn₀ sz1), b1.block Bn (by have := hBn.lt; omega)⟩
      have HK2 := Lib.hid hk1
      clear hk1 b1 HJ HK1 hJ2 HC1
      refine hR.mono ?_
      clear hR
      rintro e W3 (⟨rfl, hJ3, hk3⟩ | ⟨rfl, hJx3⟩)
      · have HJ3 := Lib.hid hJ3
        have HK3 := Lib.hid (HK2.out.trans hk3)
        have hs' := HS'.out
        clear hJ3 hk3 HK2 HJ2
        gi_wp2
        go_roundw
        case rel => exact ⟨off + (m + 12), fu', R', _, by omega, by rw [Nat.sub_sub, Nat.sub_sub], HC', HP', by omega, by rw [List.length_append]; simp; omega, HJ3, HK3⟩
        case measure => simp; omega
      · gi_wp2
        refine bodyPost_ret (results_none rfl _ _ _) rfl ?_
        exact ⟨⟨_, rfl⟩, .inr ⟨_, ⟨_, HP'.out⟩, hJx3⟩⟩
set_option maxRecDepth 100000 in
theorem frames_any (A : Option Addr) (len cap : Nat) (w : World) :
    Calls Tryd.prog 65 #[.slice A len cap] w fun e w' => e = .returned (.func (.func 74) #[] #[.pointer (some ⟨w.heap.size, 0, none⟩)]) ∧ w' = w.alloc (.cells #[.slice A len cap] 27) := by
  go_enter Tryd.func65, Tryd.ntmps65
  go_wp2
  go_ret
  exact ⟨rfl, rfl⟩
theorem frames_stops (n : Nat) (hn : 1 ≤ n) (Bn n₀ : Nat) (A : Option Addr) (len cap : Nat) (bs : List Int) (w : World) (hBn : Boxed w Bn 27 (.slice A len cap)) (hB : Bs w n₀ A len bs) (hn₀ : n₀ ≤ w.heap.size) (hlen : len ≤ 100000000) (hcap : len ≤ cap)
    (hF : LaidF w) (hK : LaidK w) (hF0 : 0 < n₀) (hK0 : 1 < n₀) :
    SeqStopsK Fence.wide n Tryd.prog 74 #[.pointer (some ⟨Bn, 0, none⟩)] (fun x : Fr bs => #[frV A cap x]) (Kept n₀ Bn) (fun ys => ys.map (·.1) = framesZ bs) (fun pre => ∃ t, pre.map (·.1) ++ t = framesZ bs) (len + 1) w := fun l J Jx W hW hJ _ hY h0 => by
  have h1 : Boxed W Bn 27 (.slice A len cap) := (hW.block Bn hBn.lt).trans hBn
  exact frames1_in n hn l Bn n₀ A len cap bs J Jx hY W hJ h1 (hB.belowM hW hn₀) (Nat.le_trans hn₀ hW.size) hlen hcap (hF.below hW (by omega)) (hK.below hW (by omega)) hF0 hK0 h0
end Go.Proofs.YtjfeepmjebdahaaDoor
/- The frame with which bytes begin, told. -/
namespace Go.Proofs.YtjfeepmjebdahaaDoor
open Go.ChangeShapes Go.WideShapes Go.ChangeAt Go.RowKit Go.Shelf
set_option linter.unusedVariables false
open Plain Sha
attribute [local go_sem] Oper.semAt_some
set_option maxRecDepth 100000 in
theorem payloadOf_any {w : World} {B : Nat} {R : Option Addr} {n : Nat} (c : Nat) {fs : List Int} (hz : Bs w B R n fs) (hB : B ≤ w.heap.size) (h12 : 12 ≤ n) (hn : n ≤ 100000000) (hc : n ≤ c) :
    Calls Tryd.prog 66 #[.slice R n c] w (Made w ((fs.drop 4).take (n - 12))) := by
  obtain ⟨p, hp⟩ : ∃ p : Nat, n - 8 = p := ⟨_, rfl⟩
  have gw : IntKind.i64.wrap ((n : Int) - 8) = (p : Int) := by rw [IntKind.wrap_i64]; omega
  obtain ⟨R', hs', hcut⟩ := cut_lh R n c 4 p 4 (p : Int) rfl rfl (by omega) (by omega)
  have hz' := hz.cut (k := 4) (m := p - 4) (by omega) R' hcut
  have HL : Hid (((fs.drop 4).take (p - 4)).length = p - 4) := Lib.hid hz'.len
  have C1 := Lib.hid (cat1_any (w := w) (c - 4) 27 hz' hB (by omega) 1 w.heap.size rfl)
  have HE : Hid (p - 4 = n - 12) := Lib.hid (by omega)
  rw [HE.out] at HL C1 hs'
  have B0 : Hid (Below w.heap.size w (w.alloc (.cells #[.slice R' (n - 12) (c - 4)] 27))) := Lib.hid ((Below.refl _ _).alloc (Nat.le_refl _) _)
  clear hz hz' hcut hp
  go_enter Tryd.func66, Tryd.ntmps66
  go_wp2_with fail
  refine C1.out.mono ?_
  intro e w1 hm1
  obtain ⟨D, d, rfl, ho, hb, h1, h2⟩ := hm1.n HL.out
  have q1 := Lib.hid (B0.out.trans (hb.mono (by simp)))
  have O1 := Lib.hid (own_base ho (show w.heap.size ≤ _ by simp))
  clear hm1 ho hb C1
  go_wp2
  go_ret
  exact made_of HL.out O1.out q1.out
theorem piece_take {ys : List Int} (m : Nat) : ((ys.take (m + 12)).drop 4).take m = (ys.drop 4).take m := by
  rw [List.drop_take, List.take_take, Nat.min_eq_left (by omega)]
theorem fr_bs {W : World} {B n : Nat} {A : Option Addr} {bs : List Int} (h : Bs W B A n bs) (x : Fr bs) : Bs W B (shiftA A x.1.1) (x.1.2 + 12) ((bs.drop x.1.1).take (x.1.2 + 12)) :=
  h.cut (by have := x.2.1; have := h.len; omega) _ (fun b off e _ => by rw [e]; rfl)
theorem framesZ_nil {bs : List Int} (h : [] = framesZ bs) : firstZ bs = none := by
  cases hf : firstZ bs with
  | none => rfl
  | some m =>
    have h2 : firstZ (bs.drop 0) = some m := hf
    unfold framesZ at h
    rw [framesF_yes h2] at h
    cases h
theorem framesZ_cons {bs : List Int} {off m : Nat} {t : List (Nat × Nat)} (h : (off, m) :: t = framesZ bs) : off = 0 ∧ firstZ bs = some m := by
  cases hf : firstZ bs with
  | none =>
    have h2 : firstZ (bs.drop 0) = none := hf
    unfold framesZ at h
    rw [framesF_no h2] at h
    cases h
  | some k =>
    have h2 : firstZ (bs.drop 0) = some k := hf
    unfold framesZ at h
    rw [framesF_yes h2] at h
    injection h with h3 h4
    injection h3 with h5 h6
    exact ⟨h5, by rw [h6]⟩
def NextSays (w : World) (bs : List Int) (e : Ending) (w' : World) : Prop :=
  Below w.heap.size w w' ∧ match firstZ bs with
    | none => e = .returned (.tuple #[.slice none 0 0, .int .i64 0, .int .i64 50])
    | some m => ∃ A c, e = .returned (.tuple #[.slice A m c, .int .i64 ((m : Int) + 12), .int .i64 0]) ∧ w'.ownsRow w.heap.size 5 1 (.slice A m c) m (vals ((bs.drop 4).take m)) ∧ m ≤ c ∧ c ≤ maxLen
theorem box_kept {W W' : World} {row : Option Nat} {B : Nat} {t : TypeId} {v : Value} (h : Boxed W B t v) (hg : W.grownBy W' row) (hr : ∀ r, row = some r → ∃ o : Obj, W.heap[r]? = some o ∧ o.isCells = false) : Boxed W' B t v :=
  h.kept hg (fun e => by
    obtain ⟨o, ho, hc⟩ := hr B e.symm
    rw [show W.heap[B]? = _ from h] at ho; cases ho; cases hc)
theorem row_kept {W W' : World} {row : Option Nat} {base n size : Nat} {t : TypeId} {v : Value} {xs : List Value} (h : W.ownsRow base t size v n xs) (hg : W.grownBy W' row) (hr : ∀ r, row = some r → ∃ o : Obj, W.heap[r]? = some o ∧ o.isCells = false) : W'.ownsRow base t size v n xs := by
  refine h.kept hg ?_
  rcases h.2 with ⟨rfl, _⟩ | ⟨g, cap, cur, rfl, _, hgb, _⟩
  · exact .inl rfl
  · refine .inr (fun e => ?_)
    obtain ⟨o, ho, hc⟩ := hr g e.symm
    rw [hgb] at ho; cases ho; cases hc
set_option maxRecDepth 100000 in
set_option maxHeartbeats 4000000 in
theorem next_any {w : World} {B : Nat} {A : Option Addr} {n : Nat} (c : Nat) {bs : List Int} (hz : Bs w B A n bs) (hB : B ≤ w.heap.size) (hn : n ≤ 100000000) (hc : n ≤ c) (hF : LaidF w) (hK : LaidK w) :
    Calls Tryd.prog 53 #[.slice A n c] w (NextSays w bs) := by
  have HFl := Lib.hid hF.lt
  have HKl := Lib.hid hK.lt
  have HL := Lib.hid hz.len
  refine (callsIn_wide (n := 10)).1 ?_
  refine callsIn_of_wp_marks Tryd.func53 rfl trivial ?_ rfl
  simp only [Tryd.ntmps53, List.size_toArray, List.length_cons, List.length_nil, Nat.reduceAdd, Nat.reduceSub, Array.replicate_succ, Array.replicate_zero, List.push_toArray, List.append_toArray, List.nil_append, List.cons_append]
  gi_wp2_with (refine ⟨trivial, ?_⟩; gi_at_call 65; refine (callsIn_wide.2 (frames_any _ _ _ _)).mono ?_; rintro e w' ⟨rfl, rfl⟩)
  obtain ⟨W0, hW0⟩ : ∃ W0, (((w.alloc (.cells #[.slice none 0 0] 27)).alloc (.cells #[.int .i64 0] 3)).alloc (.cells #[.int .i64 0] 50)).alloc (.cells #[.slice A n c] 27) = W0 := ⟨_, rfl⟩
  have sW : W0.heap.size = w.heap.size + 4 := by rw [← hW0]; simp
  have r2 : Boxed W0 w.heap.size 27 (.slice none 0 0) := by rw [← hW0]; exact (((Boxed.new w _ _).alloc _).alloc _).alloc _
  have r3 : Boxed W0 (w.heap.size + 1) 3 (.int .i64 0) := by
    have := ((Boxed.new (w.alloc (.cells #[.slice none 0 0] 27)) 3 (.int .i64 0)).alloc (.cells #[.int .i64 0] 50)).alloc (.cells #[.slice A n c] 27)
    rw [hW0] at this; simpa using this
  have r4 : Boxed W0 (w.heap.size + 1 + 1) 50 (.int .i64 0) := by
    have := (Boxed.new ((w.alloc (.cells #[.slice none 0 0] 27)).alloc (.cells #[.int .i64 0] 3)) 50 (.int .i64 0)).alloc (.cells #[.slice A n c] 27)
    rw [hW0] at this; simpa using this
  have r5 : Boxed W0 (w.heap.size + 1 + 1 + 1) 27 (.slice A n c) := by
    have := Boxed.new (((w.alloc (.cells #[.slice none 0 0] 27)).alloc (.cells #[.int .i64 0] 3)).alloc (.cells #[.int .i64 0] 50)) 27 (.slice A n c)
    rw [hW0] at this; simpa using this
  have hb : Below w.heap.size w W0 := by
    rw [← hW0]
    exact ((((Below.refl _ _).alloc (Nat.le_refl _) _).alloc (by simp) _).alloc (by simp; omega) _).alloc (by simp; omega) _
  rw [hW0]
  clear hW0
  have hFw := hF.below hb HFl.out
  have hKw := hK.below hb HKl.out
  have hz0 := (hz.more hB).below hb
  refine wpIn_rangeFunc_ownH rfl (by omega) (gf := 74) (lb := #[.pointer (some ⟨w.heap.size + 1 + 1 + 1, 0, none⟩)]) rfl trivial (enters_of Tryd.func74 (by kernel_rfl) rfl)
    (frames_stops (10 - 1) (by omega) (w.heap.size + 1 + 1 + 1) w.heap.size A n c bs W0 r5 hz0 hb.size hn hc hFw hKw HFl.out HKl.out) Kept.trans
    (fun W l o o' hl h ho hw => ⟨belowK_b (w := W0) hb.size W l o o' hl h ho hw, by
      have := r5.lt
      exact World.putObj_heap_other (by omega)⟩) (Below.refl _ _) (fun _ => rfl)
    (fun pre W => (((Boxed W w.heap.size 27 (.slice none 0 0) ∧ Boxed W (w.heap.size + 1) 3 (.int .i64 0) ∧ Boxed W (w.heap.size + 1 + 1) 50 (.int .i64 0)) ∧ pre = []) ∧ w.heap.size + 4 ≤ W.heap.size) ∧ Below w.heap.size w W)
    (fun cd pre W => ((∃ x, pre = [x] ∧ cd = .ret ∧ ∃ A' c', Boxed W w.heap.size 27 (.slice A' x.1.2 c') ∧ Boxed W (w.heap.size + 1) 3 (.int .i64 ((x.1.2 : Int) + 12)) ∧ Boxed W (w.heap.size + 1 + 1) 50 (.int .i64 0) ∧
      W.ownsRow w.heap.size 5 1 (.slice A' x.1.2 c') x.1.2 (vals (((bs.drop x.1.1).drop 4).take x.1.2)) ∧ x.1.2 ≤ c' ∧ c' ≤ maxLen) ∧ w.heap.size + 4 ≤ W.heap.size) ∧ Below w.heap.size w W)
    (OwnFrom.and (Own.from (fun s X Y row hs hg hr => ⟨⟨⟨box_kept hs.1.1.1 hg hr, box_kept hs.1.1.2.1 hg hr, box_kept hs.1.1.2.2 hg hr⟩, hs.1.2⟩, Nat.le_trans hs.2 hg.size⟩) _) (ownFrom_below (Nat.le_refl _) (by omega)))
    (fun cd => OwnFrom.and (Own.from (fun s X Y row hs hg hr => by
      obtain ⟨⟨x, h1, h2, A', c', b1, b2, b3, h3, h4, h5⟩, h6⟩ := hs
      exact ⟨⟨x, h1, h2, A', c', box_kept b1 hg hr, box_kept b2 hg hr, box_kept b3 hg hr, row_kept h3 hg hr, h4, h5⟩, Nat.le_trans h6 hg.size⟩) _) (ownFrom_below (Nat.le_refl _) (by omega)))
    ⟨⟨⟨⟨r2, r3, r4⟩, rfl⟩, by omega⟩, hb⟩
    (fun x a' W => a' = { tmps := #[.slice A n c, undef, .pointer (some ⟨w.heap.size, 0, none⟩), .pointer (some ⟨w.heap.size + 1, 0, none⟩), .pointer (some ⟨w.heap.size + 1 + 1, 0, none⟩), frV A c x, .slice A n c, .func (.func 74) #[] #[.pointer (some ⟨w.heap.size + 1 + 1 + 1, 0, none⟩)], frV A c x, undef, undef, undef, undef], defers := [] })
    (fun x a' _ X Y row hs hg hr => hs)
    ?assign ?body ?done ?stop
  case assign =>
    rintro l pre x W K hi hK
    have HKK := Lib.hid hK
    clear hK
    gi_wp2
    exact HKK.out _ _ (KeepsFrom.refl _ _) (Kept.refl _ _ _) hi rfl
  case body =>
    rintro l pre x a' W hl ⟨r, hr⟩ ⟨⟨⟨⟨q2, q3, q4⟩, rfl⟩, hsz⟩, hB1⟩ rfl hlt
    have hzW := (hz.more hB).below hB1
    have z1 := fr_bs hzW x
    obtain ⟨⟨off, m⟩, hx1, hxf⟩ := x
    have hx2 : off + (m + 12) ≤ n := by have := HL.out; dsimp only at hx1; omega
    have C1 := Lib.hid (CallsIn.inRound l (callsIn_wide (n := 10 - 1 - 1 - 1) |>.2 (payloadOf_any (c - off) z1 hB1.size (by dsimp only; omega) (by dsimp only; omega) (by dsimp only; omega))))
    have HX : Hid ((((bs.drop off).take (m + 12)).drop 4).take (m + 12 - 12) = ((bs.drop off).drop 4).take m) := Lib.hid (by rw [Nat.add_sub_cancel]; exact piece_take m)
    have LX : Hid ((((bs.drop off).drop 4).take m).length = m) := Lib.hid (by rw [List.length_take, List.length_drop, List.length_drop]; dsimp only at hx1; omega)
    dsimp only at C1
    rw [HX.out] at C1
    clear hzW HX z1
    simp only [frV]
    obtain ⟨R, hR⟩ : ∃ R, shiftA A off = R := ⟨_, rfl⟩
    obtain ⟨cc, hcc⟩ : ∃ cc, c - off = cc := ⟨_, rfl⟩
    rw [hR, hcc] at C1
    rw [hR, hcc]
    obtain ⟨Z, hZ⟩ : ∃ Z, ((bs.drop off).drop 4).take m = Z := ⟨_, rfl⟩
    rw [hZ] at C1 LX
    have HZ := Lib.hid hZ
    clear hR hcc hZ
    gi_wp2_with (refine ⟨trivial, ?_⟩; refine C1.out.mono ?_; intro e W1 hm1; obtain ⟨D, d, rfl, ho, b1, h4, h5⟩ := hm1.n LX.out; have e2 : Boxed W1 w.heap.size 27 (.slice none 0 0) := (b1.block _ (by omega)).trans q2; have e3 : Boxed W1 (w.heap.size + 1) 3 (.int .i64 0) := (b1.block _ (by omega)).trans q3; have e4 : Boxed W1 (w.heap.size + 1 + 1) 50 (.int .i64 0) := (b1.block _ (by omega)).trans q4; have c2 := e2.cell; have c3 := e3.cell; have c4 := e4.cell; have f2 := e2.frozen; have f3 := e3.frozen; have f4 := e4.frozen)
    refine ⟨?_, ⟨⟨⟨(off, m), hx1, hxf⟩, rfl, rfl, D, d, ?_, ?_, ?_, ?_, h4, h5⟩, ?_⟩, ?_⟩
    · exact ((keeps_below b1).trans (((KeepsOthers.setCell _ _ _).trans (KeepsOthers.setCell _ _ _)).trans (KeepsOthers.setCell _ _ _))).from _
    · exact ((e2.set _).other (by omega) _).other (by omega) _
    · exact ((e3.other (by omega) _).set _).other (by omega) _
    · exact ((e4.other (by omega) _).other (by omega) _).set _
    · dsimp only
      rw [HZ.out]
      exact own_base (ownsRow_setCell_below (ownsRow_setCell_below (ownsRow_setCell_below ho (by show w.heap.size < _; omega) _) (by show w.heap.size + 1 < _; omega) _) (by show w.heap.size + 1 + 1 < _; omega) _) hB1.size
    · have := b1.size; simp; omega
    · exact (((hB1.trans (b1.mono hB1.size)).setCell (Nat.le_refl _) _).setCell (p := ⟨w.heap.size + 1, 0, none⟩) (by show w.heap.size ≤ w.heap.size + 1; omega) _).setCell (p := ⟨w.heap.size + 1 + 1, 0, none⟩) (by show w.heap.size ≤ w.heap.size + 1 + 1; omega) _
  case done =>
    rintro D ys W hD hys ⟨⟨⟨⟨q2, q3, q4⟩, rfl⟩, hsz⟩, hB1⟩ hD2
    have hn1 := framesZ_nil (bs := bs) (by simpa using hys)
    have c2 := q2.cell
    have c3 := q3.cell
    have c4 := q4.cell
    have f2 := q2.frozen
    have f3 := q3.frozen
    have f4 := q4.frozen
    gi_wp2
    have hD6 := (((KeepsOthers.setCell W ⟨w.heap.size, 0, none⟩ (.slice none 0 0)).trans (KeepsOthers.setCell _ ⟨w.heap.size + 1, 0, none⟩ (.int .i64 0))).trans (KeepsOthers.setCell _ ⟨w.heap.size + 1 + 1, 0, none⟩ (.int .i64 50))).same D _ hD2 rfl
    refine ⟨by simp, .inl ⟨_, _, rfl, run_takeDeferred hD6, ?_⟩⟩
    have hg := fun (W' : World) (h6 : W'.heap[D]? = some (.deferred (some []))) => (fun r (e : some D = some r) => (by cases e; exact ⟨_, h6, rfl⟩ : ∃ o : Obj, W'.heap[r]? = some o ∧ o.isCells = false))
    have e2 := ((q2.set (.slice none 0 0)).other (show w.heap.size ≠ w.heap.size + 1 by omega) (.int .i64 0)).other (show w.heap.size ≠ w.heap.size + 1 + 1 by omega) (.int .i64 50)
    have e3 := ((q3.other (show w.heap.size + 1 ≠ w.heap.size by omega) (.slice none 0 0)).set (.int .i64 0)).other (show w.heap.size + 1 ≠ w.heap.size + 1 + 1 by omega) (.int .i64 50)
    have e4 := ((q4.other (show w.heap.size + 1 + 1 ≠ w.heap.size by omega) (.slice none 0 0)).other (show w.heap.size + 1 + 1 ≠ w.heap.size + 1 by omega) (.int .i64 0)).set (.int .i64 50)
    have g2 := (box_kept e2 (grownBy_putObj' _ D (.deferred none)) (hg _ hD6)).cell
    have g3 := (box_kept e3 (grownBy_putObj' _ D (.deferred none)) (hg _ hD6)).cell
    have g4 := (box_kept e4 (grownBy_putObj' _ D (.deferred none)) (hg _ hD6)).cell
    refine ⟨.tuple #[.slice none 0 0, .int .i64 0, .int .i64 50], ?_, ?_, ?_⟩
    · simp [results, Tryd.f53, go_sem, g2, g3, g4]
    · exact (((hB1.setCell (Nat.le_refl _) _).setCell (p := ⟨w.heap.size + 1, 0, none⟩) (by show w.heap.size ≤ w.heap.size + 1; omega) _).setCell (p := ⟨w.heap.size + 1 + 1, 0, none⟩) (by show w.heap.size ≤ w.heap.size + 1 + 1; omega) _).trans (belowK_b (w := w) (Nat.le_refl _) _ D _ _ (by omega) hD6 rfl rfl)
    · rw [hn1]
  case stop =>
    rintro D cd pre W hD ⟨t, ht⟩ ⟨⟨⟨x, rfl, rfl, A', c', q2, q3, q4, ho, h4, h5⟩, hsz⟩, hB1⟩ hD2
    obtain ⟨⟨off, m⟩, hx1, hxf⟩ := x
    obtain ⟨rfl, hn1⟩ := framesZ_cons (bs := bs) (by simpa using ht)
    gi_wp2
    refine ⟨by simp, .inl ⟨_, _, rfl, run_takeDeferred hD2, ?_⟩⟩
    have hg := (fun r (e : some D = some r) => (by cases e; exact ⟨_, hD2, rfl⟩ : ∃ o : Obj, W.heap[r]? = some o ∧ o.isCells = false))
    have g2 := (box_kept q2 (grownBy_putObj' _ D (.deferred none)) hg).cell
    have g3 := (box_kept q3 (grownBy_putObj' _ D (.deferred none)) hg).cell
    have g4 := (box_kept q4 (grownBy_putObj' _ D (.deferred none)) hg).cell
    refine ⟨.tuple #[.slice A' m c', .int .i64 ((m : Int) + 12), .int .i64 0], ?_, ?_, ?_⟩
    · simp [results, Tryd.f53, go_sem, g2, g3, g4]
    · exact hB1.trans (belowK_b (w := w) (Nat.le_refl _) _ D _ _ (by omega) hD2 rfl rfl)
    · rw [hn1]
      exact ⟨A', c', rfl, row_kept ho (grownBy_putObj' _ D (.deferred none)) hg, h4, h5⟩
end Go.Proofs.YtjfeepmjebdahaaDoor
/- A region that draws its order, within a round of a range over a function: walked as anywhere. -/
namespace Go.Proofs.YtjfeepmjebdahaaDoor
open Go.ChangeShapes Go.WideShapes Go.ChangeAt Go.RowKit
set_option linter.unusedVariables false
theorem oper_round {l n : Nat} {P : Program} {o : Oper} {a : Act} {w : World} {K : Act → World → Prop} {Q : Exit → Act → World → Prop} (hd : ∀ c, o.op ≠ .defer c) (h : o.wp P a w K Q) : o.wpIn (Fence.wide.inRound l) n P a w K Q := by
  unfold Oper.wpIn
  refine ⟨fun f _ => trivial, ?_⟩
  rw [Oper.semAt_eq _ _ _ hd]
  unfold Oper.wp at h
  generalize (execOp a.eval o).run P w = r at h ⊢
  cases r with
  | ok x w' =>
    cases x <;> simp only [Oper.upon, Oper.uponIn] at h ⊢ <;>
      first
        | exact h
        | exact ⟨fun h => (by cases h), CallsIn.inRound l (callsIn_wide.2 h)⟩
        | exact ⟨fun h => (by cases h), fun c cs _ => (let ⟨v, w1, r, s⟩ := h c cs; ⟨v, w1, r, stepsIn_wide.2 s⟩)⟩
        | exact h.elim
  | halt x w' => cases x <;> simp only [Oper.upon, Oper.uponIn] at h ⊢ <;> exact h
theorem any_round {l n : Nat} {P : Program} {md : Region.Mode} {ops : Array Oper} {Q : Exit → Act → World → Prop} (hd : ∀ (i : Nat) o, ops[i]? = some o → ∀ c, o.op ≠ .defer c) (hL : ¬ LetsOut Q) :
    ∀ (fuel : Nat) (listed : Array Bool) (a : Act) (w : World), wpAny P md ops Q fuel listed a w → wpAnyIn (Fence.wide.inRound l) n P md ops Q fuel listed a w
  | 0, _, _, _, h => h
  | fuel + 1, listed, a, w, h => by
    refine ⟨h.1, fun i hi => ?_⟩
    have h2 := h.2 i hi
    unfold wpOp at h2
    unfold wpOpIn
    cases ho : ops[i]? with
    | none => rw [ho] at h2; exact any_round hd hL fuel _ _ _ h2
    | some o =>
      rw [ho] at h2
      simp only at h2 ⊢
      split
      · next hw =>
        rw [if_pos hw] at h2
        rcases h2 with h2 | ⟨_, h2⟩
        · exact Oper.wpIn_mono (fun a w => any_round hd hL fuel _ a w) (oper_round (hd i o ho) h2)
        · exact absurd h2 hL
      · next hw =>
        rw [if_neg hw] at h2
        exact ⟨fun _ _ => trivial, any_round hd hL fuel _ _ _ h2⟩
theorem region_round {l n id : Nat} {P : Program} {ops : Array Oper} {Q : Exit → Act → World → Prop} {a : Act} {w : World} (hm : P.follows .mixedOrders = true) (hd : (ops.toList.all fun o => match o.op with | .defer _ => false | _ => true) = true) (hL : ¬ LetsOut Q)
    (h : wpAny P .any ops Q ops.size (Array.replicate ops.size false) a w.drew) : (Code.region id ops true).wpIn (Fence.wide.inRound l) n P Q a w := by
  refine wpIn_region_any hm (any_round (fun i o hi c hc => ?_) hL _ _ _ _ h)
  have := List.all_eq_true.1 hd o (by
    have h2 : ops.toList[i]? = some o := by rw [Array.getElem?_toList]; exact hi
    exact List.mem_of_getElem? h2)
  rw [hc] at this
  cases this
end Go.Proofs.YtjfeepmjebdahaaDoor
/- All frames with which bytes begin, told. -/
namespace Go.Proofs.YtjfeepmjebdahaaDoor
open Go.ChangeShapes Go.WideShapes Go.ChangeAt Go.RowKit Go.Shelf
set_option linter.unusedVariables false
open Plain Sha
attribute [local go_sem] Oper.semAt_some
/-- A list of bytes that somebody holds. -/
structure Piece where
  A : Option Addr
  n : Nat
  c : Nat
  zs : List Int
def pv (p : Piece) : Value := .slice p.A p.n p.c
structure PieceOk (W : World) (base : Nat) (p : Piece) : Prop where
  len : p.zs.length = p.n
  bytes : IsBytes p.zs
  own : W.ownsRow base 5 1 (.slice p.A p.n p.c) p.n (vals p.zs)
  cap : p.n ≤ p.c
  max : p.c ≤ maxLen
def payZ (bs : List Int) (x : Nat × Nat) : List Int := ((bs.drop x.1).drop 4).take x.2
def useZ (l : List (Nat × Nat)) : Nat := (l.map fun x => x.2 + 12).sum
theorem useZ_snoc (l : List (Nat × Nat)) (x : Nat × Nat) : useZ (l ++ [x]) = useZ l + (x.2 + 12) := by simp [useZ]
theorem useZ_le {bs : List Int} : ∀ pre : List (Fr bs), useZ (pre.map (·.1)) ≤ pre.length * bs.length
  | [] => by simp [useZ]
  | x :: pre => by
    have := useZ_le pre
    have := x.2.1
    simp only [useZ, List.map_cons, List.sum_cons, List.length_cons, Nat.succ_mul] at *
    omega
theorem PieceOk.kept {W W' : World} {base : Nat} {p : Piece} {row : Option Nat} (h : PieceOk W base p) (hg : W.grownBy W' row) (hr : ∀ r, row = some r → ∃ o : Obj, W.heap[r]? = some o ∧ o.isCells = false) : PieceOk W' base p :=
  ⟨h.len, h.bytes, row_kept h.own hg hr, h.cap, h.max⟩
theorem PieceOk.below {W W' : World} {base B : Nat} {p : Piece} (h : PieceOk W base p) (hb : Below B W W') (hB : W.heap.size ≤ B) : PieceOk W' base p :=
  ⟨h.len, h.bytes, own_below h.own hb hB, h.cap, h.max⟩
theorem slice_row : (Tryd.prog.info? 27).map (fun i => (i.zero, i.size, i.bytes)) = some (some (.slice none 0 0), 1, 24) := by kernel_rfl
def AllSays (w : World) (bs : List Int) (e : Ending) (w' : World) : Prop :=
  Below w.heap.size w w' ∧ ∃ (v : Value) (ps : List Piece), e = .returned (.tuple #[v, .int .i64 ((useZ (framesZ bs) : Nat) : Int)]) ∧ w'.ownsRow w.heap.size 27 1 v ps.length (ps.map pv) ∧ (∀ p ∈ ps, PieceOk w' w.heap.size p) ∧ ps.map (·.zs) = (framesZ bs).map (payZ bs)
/-- Between two rounds. -/
def AllI (w : World) (bs : List Int) (pre : List (Fr bs)) (W : World) : Prop :=
  ((∃ (v : Value) (ps : List Piece), Boxed W w.heap.size 33 v ∧ Boxed W (w.heap.size + 1) 3 (.int .i64 ((useZ (pre.map (·.1)) : Nat) : Int)) ∧ W.ownsRow (w.heap.size + 3) 27 1 v ps.length (ps.map pv) ∧ (∀ p ∈ ps, PieceOk W (w.heap.size + 3) p) ∧ ps.map (·.zs) = pre.map (fun x => payZ bs x.1)) ∧ w.heap.size + 3 ≤ W.heap.size) ∧ Below w.heap.size w W
theorem allI_own (w : World) (bs : List Int) (B : Nat) (hB : w.heap.size ≤ B) : OwnFrom B (AllI w bs) :=
  OwnFrom.and (Own.from (fun s X Y row hs hg hr => by
    obtain ⟨⟨v, ps, b1, b2, h1, h2, h3⟩, h4⟩ := hs
    exact ⟨⟨v, ps, box_kept b1 hg hr, box_kept b2 hg hr, row_kept h1 hg hr, fun p hp => (h2 p hp).kept hg hr, h3⟩, Nat.le_trans h4 hg.size⟩) _) (ownFrom_below (Nat.le_refl _) hB)
theorem own_kind {W : World} {b n s : Nat} {t : TypeId} {v : Value} {xs : List Value} (h : W.ownsRow b t s v n xs) : ∀ g, v.ownBlock = some g → ∃ c fz, W.heap[g]? = some (.cells c t fz) := by
  intro g hg
  rcases h.2 with ⟨rfl, _⟩ | ⟨g', cap, cur, rfl, _, hgb, _⟩
  · cases hg
  · injection hg with hg
    subst hg
    exact ⟨_, _, hgb⟩
theorem kinds_apart {W : World} {b1 b2 n1 n2 s1 s2 : Nat} {v1 v2 : Value} {xs1 xs2 : List Value} (h1 : W.ownsRow b1 5 s1 v1 n1 xs1) (h2 : W.ownsRow b2 27 s2 v2 n2 xs2) : v1.ownBlock = none ∨ v1.ownBlock ≠ v2.ownBlock := by
  cases ho : v1.ownBlock with
  | none => exact .inl rfl
  | some g =>
    refine .inr (fun e => ?_)
    obtain ⟨c1, f1, e1⟩ := own_kind h1 g ho
    obtain ⟨c2, f2, e2⟩ := own_kind h2 g e.symm
    rw [e1] at e2
    injection e2 with e2
    injection e2 with _ e2
    exact absurd e2 (by decide)
theorem all_tail {w W W1 w3 : World} {bs : List Int} {pre : List (Fr bs)} {x : Fr bs} {v : Value} {ps : List Piece} {D : Option Addr} {d g cap m U : Nat} {Z : List Int} (B0 : Nat)
    (hB1 : Below w.heap.size w W) (hsz : w.heap.size + 3 ≤ W.heap.size) (hown : W.ownsRow (w.heap.size + 3) 27 1 v ps.length (ps.map pv)) (hps : ∀ p ∈ ps, PieceOk W (w.heap.size + 3) p)
    (LX : Z.length = m) (BX : IsBytes Z) (ho : W1.ownsRow W.heap.size 5 1 (.slice D m d) m (vals Z)) (b1 : Below W.heap.size W W1) (h4 : m ≤ d) (h5 : d ≤ maxLen)
    (ho3 : w3.ownsRow (w.heap.size + 3) 27 1 (.slice (some ⟨g, 0, none⟩) (ps.length + 1) cap) (ps.length + 1) (ps.map pv ++ [.slice D m d]))
    (hg3 : (W1.alloc (.cells #[.slice D m d] 27)).grownBy w3 v.ownBlock) (e3 : Boxed w3 w.heap.size 33 v) (q3 : Boxed W (w.heap.size + 1) 3 (.int .i64 (U : Int)))
    (hZS : ∀ p : Piece, p.zs = Z → (ps ++ [p]).map (·.zs) = (pre ++ [x]).map (fun x => payZ bs x.1)) (hU : ((U : Int) + ((m : Int) + 12)) = ((useZ ((pre ++ [x]).map (·.1)) : Nat) : Int)) :
    KeepsFrom B0 W ((w3.setCell ⟨w.heap.size, 0, none⟩ (.slice (some ⟨g, 0, none⟩) (ps.length + 1) cap)).setCell ⟨w.heap.size + 1, 0, none⟩ (.int .i64 ((U : Int) + ((m : Int) + 12)))) ∧
    Kept w.heap.size (w.heap.size + 1 + 1) W ((w3.setCell ⟨w.heap.size, 0, none⟩ (.slice (some ⟨g, 0, none⟩) (ps.length + 1) cap)).setCell ⟨w.heap.size + 1, 0, none⟩ (.int .i64 ((U : Int) + ((m : Int) + 12)))) ∧
    AllI w bs (pre ++ [x]) ((w3.setCell ⟨w.heap.size, 0, none⟩ (.slice (some ⟨g, 0, none⟩) (ps.length + 1) cap)).setCell ⟨w.heap.size + 1, 0, none⟩ (.int .i64 ((U : Int) + ((m : Int) + 12)))) := by
  have s1 := b1.size
  have hv := hown.lt
  have HO2 := (own_below hown b1 (Nat.le_refl _)).alloc (.cells #[.slice D m d] 27)
  have q3' : Boxed w3 (w.heap.size + 1) 3 (.int .i64 (U : Int)) := (Boxed.alloc ((b1.block (w.heap.size + 1) (by omega)).trans q3 : Boxed W1 _ _ _) _).kept hg3 (fun e => by have := (hv _ e.symm).1; omega)
  have bW3 : Below w.heap.size W w3 := ((b1.mono (by omega)).alloc (by omega) _).grown hg3 (by simp; omega) (fun k e => by have := (hv k e).1; omega)
  have s3 := hg3.size
  simp at s3
  have bW5 : Below w.heap.size W ((w3.setCell ⟨w.heap.size, 0, none⟩ (.slice (some ⟨g, 0, none⟩) (ps.length + 1) cap)).setCell ⟨w.heap.size + 1, 0, none⟩ (.int .i64 ((U : Int) + ((m : Int) + 12)))) :=
    (bW3.setCell (Nat.le_refl _) _).setCell (p := ⟨w.heap.size + 1, 0, none⟩) (by show w.heap.size ≤ w.heap.size + 1; omega) _
  have hset : ∀ {base n : Nat} {t : TypeId} {vv : Value} {xs : List Value}, w.heap.size + 3 ≤ base → w3.ownsRow base t 1 vv n xs → ((w3.setCell ⟨w.heap.size, 0, none⟩ (.slice (some ⟨g, 0, none⟩) (ps.length + 1) cap)).setCell ⟨w.heap.size + 1, 0, none⟩ (.int .i64 ((U : Int) + ((m : Int) + 12)))).ownsRow base t 1 vv n xs := fun hb hh =>
    ownsRow_setCell_below (ownsRow_setCell_below hh (by show w.heap.size < _; omega) _) (by show w.heap.size + 1 < _; omega) _
  refine ⟨?_, ⟨bW5, ?_⟩, ⟨⟨.slice (some ⟨g, 0, none⟩) (ps.length + 1) cap, ps ++ [⟨D, m, d, Z⟩], (e3.set _).other (by omega) _, ?_, ?_, ?_, hZS _ rfl⟩, ?_⟩, hB1.trans bW5⟩
  · refine (((((keeps_below b1).trans (KeepsOthers.alloc _ _)).trans (KeepsOthers.of_grownBy hg3 (fun j o e ho => ?_))).trans (KeepsOthers.setCell _ _ _)).trans (KeepsOthers.setCell _ _ _)).from _
    obtain ⟨c1, f1, e1⟩ := own_kind HO2 j e
    rw [e1] at ho
    injection ho with ho
    subst ho
    rfl
  · refine (heap_setCells (w.heap.size + 1) (w.heap.size + 1 + 1) (by omega) [_] 0 _).trans ?_
    refine (heap_setCells w.heap.size (w.heap.size + 1 + 1) (by omega) [_] 0 _).trans ?_
    refine (hg3.block _ (by simp; omega) (fun e => by have := (hv _ e.symm).1; omega)).trans ?_
    rw [Below.heap_alloc _ _ _ (by omega)]
    exact b1.block _ (by omega)
  · have := (q3'.other (show w.heap.size + 1 ≠ w.heap.size by omega) (.slice (some ⟨g, 0, none⟩) (ps.length + 1) cap)).set (.int .i64 ((U : Int) + ((m : Int) + 12)))
    rw [hU] at this ⊢
    exact this
  · rw [List.length_append, List.map_append]
    exact hset (Nat.le_refl _) ho3
  · intro p hp
    rcases List.mem_append.1 hp with hp | hp
    · have h := hps p hp
      have h2 := (own_below h.own b1 (Nat.le_refl _)).alloc (.cells #[.slice D m d] 27)
      exact ⟨h.len, h.bytes, hset (Nat.le_refl _) (h2.kept hg3 (kinds_apart h2 HO2)), h.cap, h.max⟩
    · obtain rfl := List.mem_singleton.1 hp
      have h2 := ho.alloc (.cells #[.slice D m d] 27)
      exact ⟨LX, BX, hset (Nat.le_refl _) (own_base (h2.kept hg3 (kinds_apart h2 HO2)) hsz), h4, h5⟩
  · simp; omega
end Go.Proofs.YtjfeepmjebdahaaDoor
/- Numbers and their bytes, there and back. -/
namespace Go.Proofs.YtjfeepmjebdahaaDoor
open Go.ChangeShapes Go.WideShapes Go.ChangeAt Go.RowKit
set_option linter.unusedVariables false
open Plain
theorem putZ_succ (x : Int) (s : Nat) (h0 : 0 ≤ x) : putZ x (s + 1) = putZ (x / 256) s ++ [x % 256] := by
  refine list_ext_getD (by simp [putZ_len]) (fun j hj => ?_)
  rw [putZ_len] at hj
  rw [putZ_at x (s + 1) j hj]
  by_cases hjs : j < s
  · have e : (putZ (x / 256) s ++ [x % 256]).getD j 0 = (putZ (x / 256) s).getD j 0 := by
      simp only [List.getD_eq_getElem?_getD]
      rw [List.getElem?_append_left (by rw [putZ_len]; exact hjs)]
    rw [e, putZ_at _ s j hjs, show s + 1 - 1 - j = (s - 1 - j) + 1 from by omega, Int.pow_succ, Int.mul_comm (256 ^ (s - 1 - j)), Int.ediv_ediv_of_nonneg (by omega)]
  · obtain rfl : j = s := by omega
    have e : (putZ (x / 256) j ++ [x % 256]).getD j 0 = x % 256 := by
      simp only [List.getD_eq_getElem?_getD]
      rw [List.getElem?_append_right (by rw [putZ_len]; omega), putZ_len]
      simp
    rw [e, show j + 1 - 1 - j = 0 from by omega]
    simp
theorem numZ_putZ (s : Nat) : ∀ x : Int, 0 ≤ x → x < 256 ^ s → numZ (putZ x s) = x := by
  induction s with
  | zero => intro x h0 h1; have : x = 0 := by simp at h1; omega
            subst this; rfl
  | succ s ih =>
    intro x h0 h1
    rw [Int.pow_succ] at h1
    rw [putZ_succ x s h0, numZ_snoc, ih (x / 256) (by omega) (by omega)]
    omega
end Go.Proofs.YtjfeepmjebdahaaDoor
/- The hash, reckoned fast: for the kernel; it is the same. The tags of the examples; of up to 200 noughts all are unlike. -/
namespace Go.Proofs.YtjfeepmjebdahaaDoor.Sha
open Go.Proofs.YtjfeepmjebdahaaDoor.Plain
set_option linter.unusedVariables false
/-- A number is reckoned out ahead of what hangs on it. -/
def fz {α : Sort _} (n : Nat) (f : Nat → α) : α := match n with | 0 => f 0 | m + 1 => f (m + 1)
theorem fz_eq {α : Sort _} (n : Nat) (f : Nat → α) : fz n f = f n := by cases n <;> rfl
def frot (x p q : Nat) : Nat := Nat.add (Nat.div x p) (Nat.mul (Nat.mod x p) q)
def fx3 (x a a' b b' c c' : Nat) : Nat := Nat.xor (Nat.xor (frot x a a') (frot x b b')) (frot x c c')
def fs0 (x : Nat) : Nat := Nat.xor (Nat.xor (frot x 128 33554432) (frot x 262144 16384)) (Nat.div x 8)
def fs1 (x : Nat) : Nat := Nat.xor (Nat.xor (frot x 131072 32768) (frot x 524288 8192)) (Nat.div x 1024)
def fch (e f g : Nat) : Nat := Nat.lor (Nat.land e f) (Nat.land (Nat.sub 4294967295 e) g)
def fmj (a b c : Nat) : Nat := Nat.lor (Nat.lor (Nat.land a b) (Nat.land a c)) (Nat.land b c)
def fgo (a b c d e f g h : Nat) (w0 w1 w2 w3 w4 w5 w6 w7 w8 w9 w10 w11 w12 w13 w14 w15 : Nat) : List Nat → List Nat
 | [] => [a, b, c, d, e, f, g, h]
 | k :: l =>
   fz (Nat.mod (Nat.add (Nat.add (Nat.add (Nat.add h (fx3 e 64 67108864 2048 2097152 33554432 128)) (fch e f g)) k) w0) 4294967296) fun t1 =>
   fz (Nat.mod (Nat.add (Nat.add t1 (fx3 a 4 1073741824 8192 524288 4194304 1024)) (fmj a b c)) 4294967296) fun a' =>
   fz (Nat.mod (Nat.add d t1) 4294967296) fun e' =>
   fz (Nat.mod (Nat.add (Nat.add (Nat.add (fs1 w14) w9) (fs0 w1)) w0) 4294967296) fun w' =>
   fgo a' a b c e' e f g w1 w2 w3 w4 w5 w6 w7 w8 w9 w10 w11 w12 w13 w14 w15 w' l
def fblk (v : List Nat) (ws : List Nat) : List Nat :=
  match v, ws with
  | [a, b, c, d, e, f, g, h], [w0, w1, w2, w3, w4, w5, w6, w7, w8, w9, w10, w11, w12, w13, w14, w15] => List.zipWith (fun x y => fz (Nat.mod (Nat.add x y) 4294967296) id) v (fgo a b c d e f g h w0 w1 w2 w3 w4 w5 w6 w7 w8 w9 w10 w11 w12 w13 w14 w15 kTab)
  | _, _ => []

theorem bs1_fast (x : Nat) : fx3 x 64 67108864 2048 2097152 33554432 128 = bs1 x := rfl
theorem bs0_fast (x : Nat) : fx3 x 4 1073741824 8192 524288 4194304 1024 = bs0 x := rfl
theorem sg0_fast (x : Nat) : fs0 x = sg0 x := rfl
theorem sg1_fast (x : Nat) : fs1 x = sg1 x := rfl
theorem ch_fast (e f g : Nat) : fch e f g = ch e f g := rfl
theorem mj_fast (a b c : Nat) : fmj a b c = mj a b c := rfl
theorem fgo_cons (a b c d e f g h w0 w1 w2 w3 w4 w5 w6 w7 w8 w9 w10 w11 w12 w13 w14 w15 k : Nat) (l : List Nat) :
    fgo a b c d e f g h w0 w1 w2 w3 w4 w5 w6 w7 w8 w9 w10 w11 w12 w13 w14 w15 (k :: l) = fgo (rnd ⟨a, b, c, d, e, f, g, h⟩ k w0).a a b c (rnd ⟨a, b, c, d, e, f, g, h⟩ k w0).e e f g w1 w2 w3 w4 w5 w6 w7 w8 w9 w10 w11 w12 w13 w14 w15 (wNext w14 w9 w1 w0) l := by
  rw [fgo, fz_eq, fz_eq, fz_eq, fz_eq]
  rfl
theorem fgo_run (ws : List Nat) (hl : ws.length = 16) (s : H8) : ∀ (l : List Nat) (t : Nat), t + l.length = 64 → kTab.drop t = l →
    fgo (rnds ws s t).a (rnds ws s t).b (rnds ws s t).c (rnds ws s t).d (rnds ws s t).e (rnds ws s t).f (rnds ws s t).g (rnds ws s t).h (wAt ws t) (wAt ws (t + 1)) (wAt ws (t + 2)) (wAt ws (t + 3)) (wAt ws (t + 4)) (wAt ws (t + 5)) (wAt ws (t + 6)) (wAt ws (t + 7)) (wAt ws (t + 8)) (wAt ws (t + 9)) (wAt ws (t + 10)) (wAt ws (t + 11)) (wAt ws (t + 12)) (wAt ws (t + 13)) (wAt ws (t + 14)) (wAt ws (t + 15)) l = (rnds ws s 64).list
  | [], t, ht, _ => by
    have : t = 64 := by simpa using ht
    subst this; rfl
  | k :: l, t, ht, hk => by
    have hk0 : kTab.getD t 0 = k := by
      have : (kTab.drop t)[0]? = some k := by rw [hk]; rfl
      rw [List.getElem?_drop] at this
      rw [List.getD_eq_getElem?_getD]; simp at this; rw [this]; rfl
    have hk1 : kTab.drop (t + 1) = l := by rw [← List.drop_drop, hk]; rfl
    have := fgo_run ws hl s l (t + 1) (by simp at ht; omega) hk1
    rw [fgo_cons, ← this]
    have hw : wNext (wAt ws (t + 14)) (wAt ws (t + 9)) (wAt ws (t + 1)) (wAt ws t) = wAt ws (t + 1 + 15) := by rw [show t + 1 + 15 = 16 + t from by omega, wAt_hi ws hl t]
    have hr : rnds ws s (t + 1) = rnd (rnds ws s t) k (wAt ws t) := by show rnd _ (kTab.getD t 0) _ = _; rw [hk0]
    rw [hw, hr]
    rfl
theorem at16 (f : Nat → Nat) : ∀ j, j < 16 → f j = [f 0, f 1, f 2, f 3, f 4, f 5, f 6, f 7, f 8, f 9, f 10, f 11, f 12, f 13, f 14, f 15].getD j 0
  | 0, _ => rfl
  | 1, _ => rfl
  | 2, _ => rfl
  | 3, _ => rfl
  | 4, _ => rfl
  | 5, _ => rfl
  | 6, _ => rfl
  | 7, _ => rfl
  | 8, _ => rfl
  | 9, _ => rfl
  | 10, _ => rfl
  | 11, _ => rfl
  | 12, _ => rfl
  | 13, _ => rfl
  | 14, _ => rfl
  | 15, _ => rfl
  | n + 16, h => absurd h (by omega)
theorem list16 (ws : List Nat) (hl : ws.length = 16) : ws = [wAt ws 0, wAt ws 1, wAt ws 2, wAt ws 3, wAt ws 4, wAt ws 5, wAt ws 6, wAt ws 7, wAt ws 8, wAt ws 9, wAt ws 10, wAt ws 11, wAt ws 12, wAt ws 13, wAt ws 14, wAt ws 15] := by
  refine list_ext_N (by rw [hl]; rfl) (fun j hj => ?_)
  rw [hl] at hj
  rw [← wAt_lo ws hl j hj]
  exact at16 (wAt ws) j hj
theorem fblk_lit (a b c d e f g h w0 w1 w2 w3 w4 w5 w6 w7 w8 w9 w10 w11 w12 w13 w14 w15 : Nat) : fblk [a, b, c, d, e, f, g, h] [w0, w1, w2, w3, w4, w5, w6, w7, w8, w9, w10, w11, w12, w13, w14, w15] = List.zipWith (fun x y => fz (Nat.mod (Nat.add x y) 4294967296) id) [a, b, c, d, e, f, g, h] (fgo a b c d e f g h w0 w1 w2 w3 w4 w5 w6 w7 w8 w9 w10 w11 w12 w13 w14 w15 kTab) := rfl
theorem zip_add (v r : H8) : List.zipWith (fun x y => fz (Nat.mod (Nat.add x y) 4294967296) id) [v.a, v.b, v.c, v.d, v.e, v.f, v.g, v.h] r.list = (addV v r).list := by
  simp only [fz_eq]
  rfl
theorem fblk_eq (v : H8) (ws : List Nat) (hl : ws.length = 16) : fblk v.list ws = (blk v ws).list := by
  have h := fgo_run ws hl v kTab 0 rfl rfl
  simp only [Nat.zero_add] at h
  have h' : fgo v.a v.b v.c v.d v.e v.f v.g v.h (wAt ws 0) (wAt ws 1) (wAt ws 2) (wAt ws 3) (wAt ws 4) (wAt ws 5) (wAt ws 6) (wAt ws 7) (wAt ws 8) (wAt ws 9) (wAt ws 10) (wAt ws 11) (wAt ws 12) (wAt ws 13) (wAt ws 14) (wAt ws 15) kTab = (rnds ws v 64).list := h
  have e : fblk v.list ws = fblk [v.a, v.b, v.c, v.d, v.e, v.f, v.g, v.h] [wAt ws 0, wAt ws 1, wAt ws 2, wAt ws 3, wAt ws 4, wAt ws 5, wAt ws 6, wAt ws 7, wAt ws 8, wAt ws 9, wAt ws 10, wAt ws 11, wAt ws 12, wAt ws 13, wAt ws 14, wAt ws 15] := by rw [← list16 ws hl]; rfl
  rw [e, fblk_lit, h', zip_add]
  rfl
/-- Each number of a list is reckoned out ahead of what hangs on them. -/
def fzl {α : Type} (l : List Nat) (k : List Nat → α) : α :=
  match l with
  | [] => k []
  | x :: l => fz x fun y => fzl l fun r => k (y :: r)
theorem fzl_eq {α : Type} : ∀ (l : List Nat) (k : List Nat → α), fzl l k = k l
  | [], k => rfl
  | x :: l, k => by rw [fzl, fz_eq, fzl_eq l]
def fbeh (v : List Nat) (bs : List Int) : Nat → List Nat
  | 0 => v
  | k + 1 => fzl (fbeh v bs k) fun v' => fzl (wordsAt bs k) fun ws => fblk v' ws
theorem fbeh_eq (v : H8) (bs : List Int) : ∀ k, fbeh v.list bs k = (behindTo v bs k).list
  | 0 => rfl
  | k + 1 => by rw [fbeh, fzl_eq, fzl_eq, fbeh_eq v bs k, fblk_eq _ _ (wordsAt_len bs k)]; rfl
theorem h8_ext {v r : H8} (h : v.list = r.list) : v = r := by
  obtain ⟨a, b, c, d, e, f, g, i⟩ := v
  obtain ⟨a', b', c', d', e', f', g', i'⟩ := r
  simp only [H8.list, List.cons.injEq] at h
  obtain ⟨rfl, rfl, rfl, rfl, rfl, rfl, rfl, rfl, _⟩ := h
  rfl
/-- The tag of a message whose numbers are reckoned. -/
theorem sha_of (bs : List Int) (k : Nat) (hk : (bs ++ padZ bs.length).length / 64 = k) (r : H8) (h : fbeh h0.list (bs ++ padZ bs.length) k = r.list) : shaZ bs = tagZ r := by
  unfold shaZ behind
  rw [hk]
  rw [fbeh_eq] at h
  rw [h8_ext h]
end Go.Proofs.YtjfeepmjebdahaaDoor.Sha
/- What bytes that are frames, one behind the other, tell. -/
namespace Go.Proofs.YtjfeepmjebdahaaDoor
open Go.ChangeShapes Go.WideShapes Go.ChangeAt Go.RowKit
set_option linter.unusedVariables false
open Plain Sha
theorem frame_app (zs q : List Int) : frameZ zs ++ q = putZ (zs.length : Nat) 4 ++ (zs ++ (sealZ (aheadZ zs) ++ q)) := by
  unfold frameZ
  rw [show aheadZ zs = putZ (zs.length : Nat) 4 ++ zs from rfl]
  simp only [List.append_assoc]
theorem frame_app2 (zs q : List Int) : frameZ zs ++ q = aheadZ zs ++ (sealZ (aheadZ zs) ++ q) := by unfold frameZ; rw [List.append_assoc]
theorem take_at {α : Type} (a b : List α) {n : Nat} (h : a.length = n) : (a ++ b).take n = a := by subst h; exact List.take_left
theorem drop_at {α : Type} (a b : List α) {n : Nat} (h : a.length = n) : (a ++ b).drop n = b := by subst h; exact List.drop_left
theorem lenZ_frame {zs : List Int} (h : zs.length ≤ 65536) (q : List Int) : lenZ (frameZ zs ++ q) = zs.length := by
  unfold lenZ
  rw [frame_app, take_at _ _ (putZ_len _ _), numZ_putZ 4 _ (by omega) (by omega)]
  rfl
theorem first_frame {zs : List Int} (h : zs.length ≤ 65536) (q : List Int) : firstZ (frameZ zs ++ q) = some zs.length := by
  have hl := lenZ_frame h q
  have h2 : IsFrame (frameZ zs ++ q) := by
    refine ⟨by rw [List.length_append, frameZ_len]; omega, by rw [hl]; exact h, by rw [hl, List.length_append, frameZ_len]; omega, ?_⟩
    rw [hl, frame_app2, drop_at _ _ (aheadZ_len zs), take_at _ _ (aheadZ_len zs), take_at _ _ (sealZ_len _)]
    exact eqB_self _
  rw [firstZ_yes h2, hl]
theorem pay_frame (zs q : List Int) : ((frameZ zs ++ q).drop 4).take zs.length = zs := by
  rw [frame_app, drop_at _ _ (putZ_len _ _), take_at _ _ rfl]
theorem torn {zs : List Int} (h : zs.length ≤ 65536) (q : List Int) (j : Nat) (hj : j < zs.length + 12) : firstZ ((frameZ zs ++ q).take j) = none := by
  refine firstZ_no (fun hf => ?_)
  have hlen : ((frameZ zs ++ q).take j).length = j := by rw [List.length_take, List.length_append, frameZ_len]; omega
  have h4 := hf.1
  rw [hlen] at h4
  have hl : lenZ ((frameZ zs ++ q).take j) = zs.length := by
    rw [← lenZ_frame h q]
    unfold lenZ
    rw [List.take_take, Nat.min_eq_left h4]
  have := hf.2.2.1
  rw [hl, hlen] at this
  omega
theorem first_short {bs : List Int} (h : bs.length < 4) : firstZ bs = none := firstZ_no (fun hf => by have := hf.1; omega)
def joinZ (l : List (List Int)) : List Int := l.flatMap frameZ
theorem joinZ_cons (z : List Int) (l : List (List Int)) : joinZ (z :: l) = frameZ z ++ joinZ l := by simp [joinZ]
theorem joinZ_app (a b : List (List Int)) : joinZ (a ++ b) = joinZ a ++ joinZ b := by simp [joinZ]
theorem joinZ_len : ∀ l : List (List Int), l.length ≤ (joinZ l).length
  | [] => Nat.zero_le _
  | z :: l => by
    have := joinZ_len l
    rw [joinZ_cons, List.length_append, frameZ_len, List.length_cons]
    omega
theorem frames_join (q : List Int) (hq : firstZ q = none) : ∀ (l : List (List Int)) (pre : List Int) (fuel : Nat), (∀ z ∈ l, z.length ≤ 65536) → l.length ≤ fuel →
    (framesF (pre ++ (joinZ l ++ q)) fuel pre.length).map (payZ (pre ++ (joinZ l ++ q))) = l ∧ useZ (framesF (pre ++ (joinZ l ++ q)) fuel pre.length) = (joinZ l).length
  | [], pre, fuel, _, _ => by
    have : firstZ ((pre ++ (joinZ [] ++ q)).drop pre.length) = none := by rw [drop_at _ _ rfl]; exact hq
    rw [framesF_no this]
    exact ⟨rfl, rfl⟩
  | z :: l, pre, fuel, hl, hf => by
    obtain ⟨fuel, rfl⟩ : ∃ k, fuel = k + 1 := ⟨fuel - 1, by rw [List.length_cons] at hf; omega⟩
    have hz := hl z (List.mem_cons_self ..)
    have hd : (pre ++ (joinZ (z :: l) ++ q)).drop pre.length = frameZ z ++ (joinZ l ++ q) := by rw [drop_at _ _ rfl, joinZ_cons, List.append_assoc]
    have h1 : firstZ ((pre ++ (joinZ (z :: l) ++ q)).drop pre.length) = some z.length := by rw [hd]; exact first_frame hz _
    have he : pre ++ (joinZ (z :: l) ++ q) = (pre ++ frameZ z) ++ (joinZ l ++ q) := by rw [joinZ_cons]; simp only [List.append_assoc]
    have ih := frames_join q hq l (pre ++ frameZ z) fuel (fun y hy => hl y (List.mem_cons_of_mem _ hy)) (by rw [List.length_cons] at hf; omega)
    rw [← he] at ih
    have hpl : (pre ++ frameZ z).length = pre.length + (z.length + 12) := by rw [List.length_append, frameZ_len]
    rw [hpl] at ih
    rw [framesF_yes h1, List.map_cons]
    refine ⟨?_, ?_⟩
    · rw [ih.1]
      congr 1
      show (((pre ++ (joinZ (z :: l) ++ q)).drop pre.length).drop 4).take z.length = z
      rw [hd]
      exact pay_frame z _
    · have : ∀ (x : Nat × Nat) (t : List (Nat × Nat)), useZ (x :: t) = x.2 + 12 + useZ t := fun x t => by simp [useZ]
      rw [this, ih.2, joinZ_cons, List.length_append, frameZ_len]
theorem frames_all (l : List (List Int)) (q : List Int) (hq : firstZ q = none) (hl : ∀ z ∈ l, z.length ≤ 65536) :
    (framesZ (joinZ l ++ q)).map (payZ (joinZ l ++ q)) = l ∧ useZ (framesZ (joinZ l ++ q)) = (joinZ l).length :=
  frames_join q hq l [] _ hl (by have := joinZ_len l; rw [List.length_append]; omega)
/-- Cut off anywhere, what is whole is left. -/
theorem join_cut (l : List (List Int)) (hl : ∀ z ∈ l, z.length ≤ 65536) (k c : Nat) (hk : k ≤ l.length) (h1 : (joinZ (l.take k)).length ≤ c) (h2 : k < l.length → c < (joinZ (l.take (k + 1))).length) :
    ∃ q, (joinZ l).take c = joinZ (l.take k) ++ q ∧ firstZ q = none := by
  refine ⟨(joinZ (l.drop k)).take (c - (joinZ (l.take k)).length), ?_, ?_⟩
  · conv => lhs; rw [← List.take_append_drop k l, joinZ_app]
    rw [List.take_append, List.take_of_length_le h1]
  · by_cases hlt : k < l.length
    · have hd : l.drop k = l[k] :: l.drop (k + 1) := List.drop_eq_getElem_cons hlt
      rw [hd, joinZ_cons]
      refine torn (hl _ (List.getElem_mem ..)) _ _ ?_
      have h3 := h2 hlt
      rw [List.take_succ_eq_append_getElem hlt, joinZ_app, List.length_append, joinZ_cons, List.length_append, frameZ_len] at h3
      simp [joinZ] at h3 ⊢
      omega
    · have : l.drop k = [] := List.drop_eq_nil_of_le (by omega)
      rw [this]
      exact first_short (by simp [joinZ])
namespace Sha
set_option maxRecDepth 100000
def m_0000 : List Int := [0, 0, 0, 0]
def v_0000 : H8 := ⟨3745472920, 78196699, 1079449901, 3292387144, 3933702876, 1388071308, 3892651200, 347607321⟩
theorem sha_0000 : shaZ m_0000 = tagZ v_0000 := sha_of m_0000 1 (by decide +kernel) v_0000 (by decide +kernel)
end Sha
theorem noughts_none : firstZ (List.replicate 13 0) = none := by
  refine firstZ_no (fun hf => ?_)
  have h := hf.2.2.2
  have hl : lenZ (List.replicate 13 0) = 0 := by decide
  rw [hl] at h
  unfold sealZ at h
  rw [show (List.replicate 13 (0 : Int)).take (4 + 0) = Sha.m_0000 from rfl, Sha.sha_0000] at h
  revert h
  decide +kernel
end Go.Proofs.YtjfeepmjebdahaaDoor
/- The chapter's examples, as the laws of frame ask them, hold. -/
namespace Go.Proofs.YtjfeepmjebdahaaDoor
open Go.ChangeShapes Go.WideShapes Go.ChangeAt Go.RowKit
set_option linter.unusedVariables false
open Plain Sha
theorem next_yes {w : World} {B : Nat} {A : Option Addr} {n : Nat} (c : Nat) {bs ps : List Int} {m : Nat} {k : Int} (hz : Bs w B A n bs) (hB : B ≤ w.heap.size) (hn : n ≤ 100000000) (hc : n ≤ c) (hF : LaidF w) (hK : LaidK w) (hm : firstZ bs = some m) (hp : (bs.drop 4).take m = ps) (hk : (m : Int) + 12 = k) :
    Calls Tryd.prog 53 #[.slice A n c] w fun e w' => ∃ A' c', e = .returned (.tuple #[.slice A' m c', .int .i64 k, .int .i64 0]) ∧ w'.ownsRow w.heap.size 5 1 (.slice A' m c') m (vals ps) ∧ Below w.heap.size w w' ∧ m ≤ c' ∧ c' ≤ maxLen := by
  refine (next_any c hz hB hn hc hF hK).mono ?_
  rintro e w' ⟨hb, h⟩
  rw [hm] at h
  obtain ⟨A', c', rfl, h1, h2, h3⟩ := h
  exact ⟨A', c', by rw [hk], by rw [← hp]; exact h1, hb, h2, h3⟩
theorem next_no {w : World} {B : Nat} {A : Option Addr} {n : Nat} (c : Nat) {bs : List Int} (hz : Bs w B A n bs) (hB : B ≤ w.heap.size) (hn : n ≤ 100000000) (hc : n ≤ c) (hF : LaidF w) (hK : LaidK w) (hm : firstZ bs = none) :
    Calls Tryd.prog 53 #[.slice A n c] w fun e w' => e = .returned (.tuple #[.slice none 0 0, .int .i64 0, .int .i64 50]) ∧ Below w.heap.size w w' := by
  refine (next_any c hz hB hn hc hF hK).mono ?_
  rintro e w' ⟨hb, h⟩
  rw [hm] at h
  exact ⟨h, hb⟩
end Go.Proofs.YtjfeepmjebdahaaDoor
/- Whether payloads are many; their frames, one behind the other, and where each ends. -/
namespace Go.Proofs.YtjfeepmjebdahaaDoor
open Go.ChangeShapes Go.WideShapes Go.ChangeAt Go.RowKit
set_option linter.unusedVariables false
open Plain Sha
/-- What long returns: where it says no, the lengths, each counted as 20 more, are at most 2000. -/
def LongF (Ns : Nat → Nat) (m : Nat) (w : World) (e : Ending) (w' : World) : Prop := ∃ b : Bool, e = .returned (.bool b) ∧ w = w' ∧ (b = false → sumTo Ns m + 20 * m ≤ 2000)
/-- How long the first k frames are. -/
def EN (Ns : Nat → Nat) : Nat → Nat := sumTo (fun j => Ns j + 12)
def FZ (Zs : Nat → List Int) : Nat → List Int := catTo (fun j => frameZ (Zs j))
theorem EN_succ (Ns : Nat → Nat) (k : Nat) : EN Ns (k + 1) = EN Ns k + (Ns k + 12) := rfl
theorem FZ_succ (Zs : Nat → List Int) (k : Nat) : FZ Zs (k + 1) = FZ Zs k ++ frameZ (Zs k) := rfl
theorem EN_eq (Ns : Nat → Nat) : ∀ k, EN Ns k = sumTo Ns k + 12 * k
  | 0 => rfl
  | k + 1 => by rw [EN_succ, EN_eq Ns k]; show _ = sumTo Ns k + Ns k + 12 * (k + 1); omega
theorem EN_le (Ns : Nat → Nat) (k m : Nat) (h : k ≤ m) : EN Ns k ≤ EN Ns m := sumTo_le _ k m h
theorem FZ_len {Ns : Nat → Nat} {Zs : Nat → List Int} (k : Nat) (h : ∀ j, j < k → (Zs j).length = Ns j) : (FZ Zs k).length = EN Ns k :=
  catTo_len _ _ k (fun j hj => by rw [frameZ_len, h j hj])
theorem joinZ_range (Zs : Nat → List Int) : ∀ k, joinZ ((List.range k).map Zs) = FZ Zs k
  | 0 => rfl
  | k + 1 => by rw [List.range_succ, List.map_append, joinZ_app, joinZ_range Zs k, FZ_succ]; simp [joinZ]
theorem take_range (Zs : Nat → List Int) (k m : Nat) (h : k ≤ m) : ((List.range m).map Zs).take k = (List.range k).map Zs := by
  rw [← List.map_take, List.take_range, Nat.min_eq_left h]
def endsV (Ns : Nat → Nat) (k : Nat) : List Value := (List.range k).map fun j => .int .i64 ((EN Ns (j + 1) : Nat) : Int)
theorem endsV_succ (Ns : Nat → Nat) (k : Nat) : endsV Ns (k + 1) = endsV Ns k ++ [.int .i64 ((EN Ns (k + 1) : Nat) : Int)] := by simp [endsV, List.range_succ]
theorem kinds_ne {W : World} {b1 b2 n1 n2 s1 s2 : Nat} {t1 t2 : TypeId} {v1 v2 : Value} {xs1 xs2 : List Value} (h1 : W.ownsRow b1 t1 s1 v1 n1 xs1) (h2 : W.ownsRow b2 t2 s2 v2 n2 xs2) (hne : t1 ≠ t2) : v1.ownBlock = none ∨ v1.ownBlock ≠ v2.ownBlock := by
  cases ho : v1.ownBlock with
  | none => exact .inl rfl
  | some g =>
    refine .inr (fun e => ?_)
    obtain ⟨c1, f1, e1⟩ := own_kind h1 g ho
    obtain ⟨c2, f2, e2⟩ := own_kind h2 g e.symm
    rw [e1] at e2
    injection e2 with e2
    injection e2 with _ e2
    exact hne e2
theorem int_row' : (Tryd.prog.info? 3).map (fun i => (i.zero, i.size, i.bytes)) = some (some (.int .i64 0), 1, 8) := by kernel_rfl
end Go.Proofs.YtjfeepmjebdahaaDoor
