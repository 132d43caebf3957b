/- Any key and bytes have the HMAC that the chapter says; both stay. -/
import Derived.Test.YtmglhfhcljdfcaaDoorR5
import Derived.Test.YtmglhfhcljdfcaaDoorHSum
import Derived.Test.YtmglhfhcljdfcaaDoorTagEq
namespace Go.Proofs.YtmglhfhcljdfcaaDoor
open Go.ChangeShapes Go.WideShapes Go.ChangeAt Go.RowKit
set_option linter.unusedVariables false
open Plain Sha
set_option maxRecDepth 100000 in
set_option maxHeartbeats 4000000 in
theorem hmacSum_in {na nb : Nat} {A0 A1 : Option Addr} (c0 c1 : Nat) {xs bs : List Int} (w : World) (zA : Bs w w.heap.size A0 na xs) (zB : Bs w w.heap.size A1 nb bs) (ha : na ≤ 3000) (hb : nb ≤ 3000) (hF : LaidF w) (hK : LaidK w) :
    Calls Tryd.prog 7 #[.slice A0 na c0, .slice A1 nb c1] w fun e w' => e = .returned (.bool true) ∧ Below w.heap.size w w' := by
  obtain ⟨T, hT⟩ : ∃ T, hmacZ xs bs = T := ⟨_, rfl⟩
  have lT : Hid (T.length = 32) := Lib.hid (by rw [← hT]; exact hmacZ_len _ _)
  have hE : ∀ w, (binOp .eql 25 (.agg (vals T).toArray) (.agg (vals T).toArray)).run Tryd.prog w = .ok (.bool true) w := fun w => by rw [run_tagEq T T lT.out lT.out w, show eqB T T = true by simp [eqB]]
  have hI : ∀ w, (Op.equalIn 10000 25 (.agg (vals T).toArray) (.agg (vals T).toArray)).run Tryd.prog w = .ok true w := fun w => by rw [run_tagIn T T lT.out lT.out w, show eqB T T = true by simp [eqB]]
  have g1 : ¬ 3000 < (na : Int) := by omega
  have g2 : ¬ 3000 < (nb : Int) := by omega
  have eX : Hid (eqB xs xs = true) := Lib.hid (by simp [eqB])
  have eY : Hid (eqB bs bs = true) := Lib.hid (by simp [eqB])
  have ZA := Lib.hid zA
  have ZB := Lib.hid zB
  have LA := Lib.hid zA.len
  have LB := Lib.hid zB.len
  have HT := Lib.hid hT
  have HF := Lib.hid hF
  have HK := Lib.hid hK
  have HFl := Lib.hid hF.lt
  have HKl := Lib.hid hK.lt
  have CP := Lib.hid (refcopy_any c0 zA (Nat.le_refl _) (by omega))
  clear hT zA zB hF hK
  go_enter Tryd.func7, Tryd.ntmps7
  go_wp2_with fail
  refine CP.out.mono ?_
  intro e w1 hm1
  obtain ⟨D1, d1, rfl, ho1, b1, _, _⟩ := hm1.n LA.out
  have z1 := Lib.hid (Made.bs ho1 ZA.out.isBytes)
  have q1 := Lib.hid b1
  clear hm1 ho1 b1 CP
  go_wp2_with fail
  refine (refcopy_any c1 (ZB.out.belowM q1.out (Nat.le_refl _)) q1.out.size (by omega)).mono ?_
  intro e w2 hm2
  obtain ⟨D2, d2, rfl, ho2, b2, _, _⟩ := hm2.n LB.out
  have z2 := Lib.hid (Made.bs ho2 ZB.out.isBytes)
  have y2 := Lib.hid (z1.out.belowM b2 (Nat.le_refl _))
  have q2 := Lib.hid (q1.out.trans (b2.mono q1.out.size))
  have s2 := b2.size
  clear hm2 ho2 b2 z1 q1
  go_wp2_with fail
  refine (hsum_any d1 d2 y2.out z2.out s2 (Nat.le_refl _) (by omega) (by omega) (HF.out.below q2.out HFl.out) (HK.out.below q2.out HKl.out)).mono ?_
  rw [HT.out]
  rintro e w3 ⟨rfl, b3⟩
  have q3 := Lib.hid (q2.out.trans (b3.mono q2.out.size))
  have z3 := Lib.hid (z2.out.belowM b3 (Nat.le_refl _))
  have y3 := Lib.hid (y2.out.belowM b3 s2)
  have s3 := b3.size
  clear b3 z2 y2 q2
  go_wp2_with fail
  refine (refhsum_any c0 c1 (ZA.out.belowM q3.out (Nat.le_refl _)) (ZB.out.belowM q3.out (Nat.le_refl _)) q3.out.size q3.out.size (by omega) (by omega)).mono ?_
  rw [HT.out]
  rintro e w4 ⟨rfl, b4⟩
  have q4 := Lib.hid (q3.out.trans (b4.mono q3.out.size))
  have z4 := Lib.hid (z3.out.belowM b4 s3)
  have y4 := Lib.hid (y3.out.belowM b4 (by omega))
  clear b4 z3 y3 q3
  go_wp2_with fail
  refine (refsame_any d1 c0 y4.out (ZA.out.belowM q4.out (Nat.le_refl _)) (by unfold maxLen; omega) (by unfold maxLen; omega)).mono ?_
  rw [eX.out]
  rintro e w5 ⟨rfl, hq⟩
  have q5 : Hid (Below w.heap.size w w5) := Lib.hid (by obtain ⟨m', rfl⟩ := hq; exact below_drewN q4.out m')
  have z5 : Hid (Bs w5 w2.heap.size D2 nb bs) := Lib.hid (by obtain ⟨m', rfl⟩ := hq; exact z4.out.drewN m')
  clear hq z4 y4 q4
  go_wp2_with fail
  refine (refsame_any d2 c1 z5.out (ZB.out.belowM q5.out (Nat.le_refl _)) (by unfold maxLen; omega) (by unfold maxLen; omega)).mono ?_
  rw [eY.out]
  rintro e w6 ⟨rfl, hq⟩
  have q6 : Hid (Below w.heap.size w w6) := Lib.hid (by obtain ⟨m', rfl⟩ := hq; exact below_drewN q5.out m')
  clear hq
  go_wp2
  go_ret
  exact ⟨rfl, q6.out⟩
theorem hmacSum_any (a0 : Option Addr) (len0 cap0 : Nat) (z0 : List Int) (a1 : Option Addr) (len1 cap1 : Nat) (z1 : List Int) (w : World)
    (w0 : IsRow .u8 w a0 len0 cap0 z0) (w1 : IsRow .u8 w a1 len1 cap1 z1) (hF : LaidF w) (hK : LaidK w) :
    Calls Tryd.prog 7 #[.slice a0 len0 cap0, .slice a1 len1 cap1] w fun e w' => e = .returned (.bool true) ∧ Below w.heap.size w w' := by
  by_cases h : 3000 < (len0 : Int)
  · go_enter Tryd.func7, Tryd.ntmps7
    go_wp2
    go_ret
    exact ⟨rfl, Below.refl _ _⟩
  by_cases h2 : 3000 < (len1 : Int)
  · go_enter Tryd.func7, Tryd.ntmps7
    go_wp2
    go_ret
    exact ⟨rfl, Below.refl _ _⟩
  · exact hmacSum_in cap0 cap1 w w0.bs.1 w1.bs.1 (by omega) (by omega) hF hK
end Go.Proofs.YtmglhfhcljdfcaaDoor
