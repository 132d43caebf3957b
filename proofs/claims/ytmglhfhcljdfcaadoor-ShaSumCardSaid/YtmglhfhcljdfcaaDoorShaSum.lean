/- Any bytes have the tag that the chapter says; they stay. -/
import Derived.Test.YtmglhfhcljdfcaaDoorR3
import Derived.Test.YtmglhfhcljdfcaaDoorShaSumB
import Derived.Test.YtmglhfhcljdfcaaDoorTagEq
namespace Go.Proofs.YtmglhfhcljdfcaaDoor
open Go.ChangeShapes Go.WideShapes Go.ChangeAt Go.RowKit
set_option linter.unusedVariables false
open Plain Sha
set_option maxRecDepth 100000 in
set_option maxHeartbeats 4000000 in
theorem shaSum_in {na : Nat} {A0 : Option Addr} (c0 : Nat) {xs : List Int} (w : World) (zA : Bs w w.heap.size A0 na xs) (ha : na ≤ 5000) (hF : LaidF w) (hK : LaidK w) :
    Calls Tryd.prog 3 #[.slice A0 na c0] w fun e w' => e = .returned (.bool true) ∧ Below w.heap.size w w' := by
  obtain ⟨T, hT⟩ : ∃ T, shaZ xs = T := ⟨_, rfl⟩
  have lT : Hid (T.length = 32) := Lib.hid (by rw [← hT]; exact shaZ_len _)
  have hE : ∀ w, (binOp .eql 25 (.agg (vals T).toArray) (.agg (vals T).toArray)).run Tryd.prog w = .ok (.bool true) w := fun w => by rw [run_tagEq T T lT.out lT.out w, show eqB T T = true by simp [eqB]]
  have hI : ∀ w, (Op.equalIn 10000 25 (.agg (vals T).toArray) (.agg (vals T).toArray)).run Tryd.prog w = .ok true w := fun w => by rw [run_tagIn T T lT.out lT.out w, show eqB T T = true by simp [eqB]]
  have g1 : ¬ 5000 < (na : Int) := by omega
  have eX : Hid (eqB xs xs = true) := Lib.hid (by simp [eqB])
  have ZA := Lib.hid zA
  have LA := Lib.hid zA.len
  have HT := Lib.hid hT
  have HF := Lib.hid hF
  have HK := Lib.hid hK
  have HFl := Lib.hid hF.lt
  have HKl := Lib.hid hK.lt
  have CP := Lib.hid (refcopy_any c0 zA (Nat.le_refl _) (by omega))
  clear hT zA hF hK
  go_enter Tryd.func3, Tryd.ntmps3
  go_wp2_with fail
  refine CP.out.mono ?_
  intro e w1 hm1
  obtain ⟨D1, c1, rfl, ho1, b1, _, _⟩ := hm1.n LA.out
  have z1 := Lib.hid (Made.bs ho1 ZA.out.isBytes)
  have q1 := Lib.hid b1
  clear hm1 ho1 b1 CP
  go_wp2_with fail
  refine (sumB_any c1 z1.out (Nat.le_refl _) (by omega) (HF.out.below q1.out HFl.out) (HK.out.below q1.out HKl.out)).mono ?_
  rw [HT.out]
  rintro e w2 ⟨rfl, b2⟩
  have q2 := Lib.hid (q1.out.trans (b2.mono q1.out.size))
  have z2 := Lib.hid (z1.out.belowM b2 (Nat.le_refl _))
  have s2 := b2.size
  clear b2 z1 q1
  go_wp2_with fail
  refine (refsum_any c0 (ZA.out.belowM q2.out (Nat.le_refl _)) q2.out.size (by omega)).mono ?_
  rw [HT.out]
  rintro e w3 ⟨rfl, b3⟩
  have q3 := Lib.hid (q2.out.trans (b3.mono q2.out.size))
  have z3 := Lib.hid (z2.out.belowM b3 s2)
  clear b3 z2 q2
  go_wp2_with fail
  refine (refsame_any c1 c0 z3.out (ZA.out.belowM q3.out (Nat.le_refl _)) (by unfold maxLen; omega) (by unfold maxLen; omega)).mono ?_
  rw [eX.out]
  rintro e w4 ⟨rfl, hq⟩
  have q4 : Hid (Below w.heap.size w w4) := Lib.hid (by obtain ⟨m', rfl⟩ := hq; exact below_drewN q3.out m')
  clear hq
  go_wp2
  go_ret
  exact ⟨rfl, q4.out⟩
theorem shaSum_any (a0 : Option Addr) (len0 cap0 : Nat) (z0 : List Int) (w : World)
    (w0 : IsRow .u8 w a0 len0 cap0 z0) (hF : LaidF w) (hK : LaidK w) :
    Calls Tryd.prog 3 #[.slice a0 len0 cap0] w fun e w' => e = .returned (.bool true) ∧ Below w.heap.size w w' := by
  by_cases h : 5000 < (len0 : Int)
  · go_enter Tryd.func3, Tryd.ntmps3
    go_wp2
    go_ret
    exact ⟨rfl, Below.refl _ _⟩
  · exact shaSum_in cap0 w w0.bs.1 (by omega) hF hK
end Go.Proofs.YtmglhfhcljdfcaaDoor
