/- A frame's seal; a frame put together. -/
import Derived.Test.YtcihbkdpkhhhcaaDoorShaSumB
import Derived.Test.YtcihbkdpkhhhcaaDoorTagEq
import Derived.Test.YtcihbkdpkhhhcaaDoorCuts
import Derived.Test.YtcihbkdpkhhhcaaDoorOwn
import Derived.Deep.Cut
import Derived.Deep.CutRange
namespace Go.Proofs.YtcihbkdpkhhhcaaDoor
open Go.ChangeShapes Go.WideShapes Go.ChangeAt Go.RowKit
set_option linter.unusedVariables false
open Plain Sha
theorem shaZ_bytesF (bs : List Int) : IsBytes (shaZ bs) := by unfold shaZ; exact tagZ_bytes _
def sealZ (zs : List Int) : List Int := (shaZ zs).take 8
def aheadZ (zs : List Int) : List Int := putZ (zs.length : Nat) 4 ++ zs
def frameZ (zs : List Int) : List Int := aheadZ zs ++ sealZ (aheadZ zs)
theorem IsBytes.take {zs : List Int} (h : IsBytes zs) (k : Nat) : IsBytes (zs.take k) := by
  rw [isBytes_iff] at *
  exact fun z hz => h z (List.mem_of_mem_take hz)
theorem IsBytes.drop {zs : List Int} (h : IsBytes zs) (k : Nat) : IsBytes (zs.drop k) := by
  rw [isBytes_iff] at *
  exact fun z hz => h z (List.mem_of_mem_drop hz)
theorem sealZ_len (zs : List Int) : (sealZ zs).length = 8 := by unfold sealZ; rw [List.length_take, shaZ_len]; rfl
theorem sealZ_bytes (zs : List Int) : IsBytes (sealZ zs) := (shaZ_bytesF zs).take 8
theorem aheadZ_len (zs : List Int) : (aheadZ zs).length = 4 + zs.length := by unfold aheadZ; rw [List.length_append, putZ_len]
theorem aheadZ_bytes {zs : List Int} (h : IsBytes zs) : IsBytes (aheadZ zs) := (putZ_bytes _ _).app h
theorem frameZ_len (zs : List Int) : (frameZ zs).length = zs.length + 12 := by unfold frameZ; rw [List.length_append, aheadZ_len, sealZ_len]; omega
theorem frameZ_bytes {zs : List Int} (h : IsBytes zs) : IsBytes (frameZ zs) := (aheadZ_bytes h).app (sealZ_bytes _)
theorem bs_of_range {w : World} {g n : Nat} {zs : List Int} (h : w.rangeAt g 0 (vals zs)) (hl : zs.length = n) (hb : IsBytes zs) : Bs w (g + 1) (some ⟨g, 0, none⟩) n zs := by
  subst hl
  exact ⟨rfl, hb, fun _ => ⟨g, 0, rfl, by omega, fun j hj => h j _ (vals_at zs j hj)⟩⟩
set_option maxHeartbeats 1000000 in
theorem sealOf_any {w : World} {B : Nat} {A : Option Addr} {n : Nat} (c : Nat) {zs : List Int} (hz : Bs w B A n zs) (hB : B ≤ w.heap.size) (hn : n ≤ 1000000000) (hF : LaidF w) (hK : LaidK w) :
    Calls Tryd.prog 28 #[.slice A n c] w fun e w' => ∃ g, e = .returned (.slice (some ⟨g, 0, none⟩) 8 32) ∧ Bs w' (g + 1) (some ⟨g, 0, none⟩) 8 (sealZ zs) ∧ Below w.heap.size w w' ∧ g < w'.heap.size := by
  obtain ⟨T, hT⟩ : ∃ T, shaZ zs = T := ⟨_, rfl⟩
  have LT : Hid (T.length = 32) := Lib.hid (by rw [← hT]; exact shaZ_len _)
  have HTB : Hid (IsBytes T) := Lib.hid (by rw [← hT]; exact shaZ_bytesF _)
  have HS : Hid (T.take 8 = sealZ zs) := Lib.hid (by unfold sealZ; rw [hT])
  have C1 := Lib.hid (sumB_any c hz hB hn hF hK)
  have HT := Lib.hid hT
  clear hT hz hF hK
  go_enter Tryd.func28, Tryd.ntmps28
  go_wp2_with fail
  refine C1.out.mono ?_
  rw [HT.out]
  rintro e w1 ⟨rfl, b1⟩
  have G := LT
  go_upto_region 2 with (have g := G; clear g; refine wpList_store_as (op := ⟨none, .store 50 (.tmp 3) (.tmp 5), _, _, _, _⟩) rfl 50 (.tmp 3) (.tmp 5) rfl w1.heap.size 0 (vals T).toArray rfl rfl (tag_there w1 T LT.out) (tag_size T LT.out) (all_oneCell_toArray (vals_one T)) ?_; intro w2 hw2; clear G)
  obtain ⟨r2, b2, s2⟩ := stored_tag LT.out hw2
  have q2 := Lib.hid (b1.trans (b2.mono b1.size))
  have z2 := bs_of_range r2 LT.out HTB.out
  have Z3 := Lib.hid (z2.cut (k := 0) (m := 8) (by omega) (some ⟨w1.heap.size, 0, none⟩) (fun b off e _ => by injection e with e; injection e with e1 e2; subst e1 e2; rfl))
  clear hw2 r2 z2 b2 b1
  go_wp2
  go_ret
  refine ⟨_, rfl, ?_, q2.out, s2⟩
  have := Z3.out
  rw [List.drop_zero, HS.out] at this
  exact this
set_option maxHeartbeats 2000000 in
theorem fseal_any {w : World} {B : Nat} {A : Option Addr} {n : Nat} (c : Nat) {zs : List Int} (hz : Bs w B A n zs) (hB : B ≤ w.heap.size) (hn : n ≤ 65536) (hF : LaidF w) (hK : LaidK w) :
    Calls Tryd.prog 11 #[.slice A n c] w fun e w' => ∃ A' c', e = .returned (.tuple #[.slice A' (n + 12) c', .int .i64 0]) ∧ w'.ownsRow w.heap.size 5 1 (.slice A' (n + 12) c') (n + 12) (vals (frameZ zs)) ∧ Below w.heap.size w w' ∧ n + 12 ≤ c' ∧ c' ≤ maxLen := by
  have g1 : ¬ 65536 < (n : Int) := by omega
  have gw : IntKind.u32.wrap (n : Int) = (n : Int) := by rw [IntKind.wrap_u32]; omega
  have C1 := Lib.hid (put32_any (n : Int) (by omega) (by omega) w)
  have HL := hz.len
  have E1 : Hid (putZ (n : Int) 4 ++ zs = aheadZ zs) := Lib.hid (by unfold aheadZ; rw [HL])
  have L1 : Hid ((aheadZ zs).length = 4 + n) := Lib.hid (by rw [aheadZ_len, HL])
  have B1 : Hid (IsBytes (aheadZ zs)) := Lib.hid (aheadZ_bytes hz.isBytes)
  have L2 : Hid ((aheadZ zs ++ sealZ (aheadZ zs)).length = n + 12) := Lib.hid (by rw [List.length_append, L1.out, sealZ_len]; omega)
  have HFl := Lib.hid hF.lt
  have HKl := Lib.hid hK.lt
  have HZ := Lib.hid hz
  have HF := Lib.hid hF
  have HK := Lib.hid hK
  clear hz hF hK HL
  go_enter Tryd.func11, Tryd.ntmps11
  go_wp2_with fail
  refine C1.out.mono ?_
  intro e w1 hm1
  obtain ⟨P1, p1, rfl, ho1, b1, _, _⟩ := hm1.n (putZ_len _ _)
  have z1 := Made.bs ho1 (putZ_bytes _ _)
  have q1 := Lib.hid b1
  have C2 := Lib.hid (cat2_any (w := w1) p1 c 22 z1 (HZ.out.belowM b1 hB) (Nat.le_refl _) (Nat.le_trans hB b1.size) (by omega) 2 w1.heap.size rfl)
  rw [E1.out] at C2
  clear hm1 ho1 b1 z1 C1
  go_wp2_with fail
  refine C2.out.mono ?_
  intro e w2 hm2
  obtain ⟨P2, p2, rfl, ho2, b2, hp2, _⟩ := hm2.n L1.out
  have q2 := Lib.hid ((q1.out.alloc q1.out.size _).trans (b2.mono (by have := q1.out.size; simp; omega)))
  have z2 := Lib.hid (Made.bs ho2 B1.out)
  clear hm2 ho2 b2 C2 q1
  go_wp2_with fail
  refine (sealOf_any p2 z2.out (Nat.le_refl _) (by omega) (HF.out.below q2.out HFl.out) (HK.out.below q2.out HKl.out)).mono ?_
  rintro e w3 ⟨g, rfl, z3, b3, s3⟩
  have q3 := Lib.hid (q2.out.trans (b3.mono q2.out.size))
  have C4 := Lib.hid (cat2_any (w := w3) p2 32 22 (z2.out.below b3) z3 b3.size (by omega) (by omega) 2 w3.heap.size rfl)
  clear z3 b3 z2 q2
  go_wp2_with fail
  refine C4.out.mono ?_
  intro e w4 hm4
  obtain ⟨P4, p4, rfl, ho4, b4, h4, h4'⟩ := hm4.n L2.out
  have q4 := Lib.hid ((q3.out.alloc q3.out.size _).trans (b4.mono (by have := q3.out.size; simp; omega)))
  have O4 := Lib.hid (own_base ho4 (show w.heap.size ≤ _ by have := q3.out.size; simp; omega))
  clear hm4 ho4 b4 C4
  go_wp2
  go_ret2
  exact ⟨_, _, rfl, O4.out, q4.out, h4, h4'⟩
theorem fseal_long {w : World} {A : Option Addr} {n : Nat} (c : Nat) (hn : 65536 < n) :
    Calls Tryd.prog 11 #[.slice A n c] w fun e w' => e = .returned (.tuple #[.slice none 0 0, .int .i64 3]) ∧ Below w.heap.size w w' := by
  have g1 : 65536 < (n : Int) := by omega
  go_enter Tryd.func11, Tryd.ntmps11
  go_wp2
  go_ret2
  exact ⟨rfl, Below.refl _ _⟩
end Go.Proofs.YtcihbkdpkhhhcaaDoor
