/- Is a message more than is gone through: some Boolean. Printed by gen_msu.py. -/
import Derived.Test.YtfihiandifnkpaaMsY
namespace Go.Proofs.Ytfihiandifnkpaa
open Go.ChangeShapes Go.WideShapes Go.ChangeAt Go.RowKit
set_option linter.unusedVariables false
set_option maxRecDepth 100000
set_option linter.unusedSimpArgs false
open Plain Sha Ms
def SomeB (w : World) (e : Ending) (w' : World) : Prop := ∃ q : Bool, e = .returned (.bool q) ∧ Below w.heap.size w w'
set_option maxHeartbeats 8000000 in
theorem great_anyM {w : World} {B : Nat} {x : MX} (h : MXOk w B x) (hB : B ≤ w.heap.size) : Calls Try.prog 10 #[.agg (mc x).toArray] w (SomeB w) := by
  obtain ⟨W1, hW1⟩ : ∃ W, W = w.alloc (.cells (mc x).toArray 28) := ⟨_, rfl⟩
  have b1 := Lib.hid (show Below w.heap.size w W1 by rw [hW1]; exact below_one _ _)
  obtain ⟨g, hg⟩ : ∃ g, w.heap.size = g := ⟨_, rfl⟩
  have Hg := Lib.hid hg
  have V1 := Lib.hid (show VBox W1 g 12 (mc x) by rw [hW1]; exact vbox_new _ _ _ _ _ hg rfl (by omega))
  have z1 := Lib.hid (show W1.heap.size = g + 1 by rw [hW1]; simp [hg])
  have HW1 := Lib.hid hW1
  obtain ⟨q0, q1, q2, q3, q4, q5, q6, q7, q8, q9, q10, q11⟩ := V1.out.m
  clear hW1 hg
  have hen := en_le h
  have HM := Lib.hid (h.es.below b1.out hB)
  obtain ⟨EA, hEA⟩ : ∃ A, x.EA = A := ⟨_, rfl⟩
  rw [hEA] at q6
  have HM := Lib.hid (show Ents W1 B EA x.en x.es by rw [← hEA]; exact HM.out)
  clear hEA h
  go_enter Try.func10, Try.ntmps10
  go_upto_region 1 with fail
  rw [← HW1.out, Hg.out]
  go_wp2
  go_loopw [3, 4] (fun s3 i wr => ∃ (m : Int) (k : Nat), k ≤ x.en ∧ i = .int .i64 k ∧ s3 = .int .i64 m ∧ wr = W1) (fun _ i _ => x.en - (intOf i).toNat)
  case atStart => exact ⟨_, 0, by omega, rfl, rfl, rfl⟩
  case round =>
    obtain ⟨m, k, hk, rfl, rfl, rfl⟩ := hrel
    by_cases hlt : k < x.en
    · have hki : (k : Int) < (x.en : Int) := by omega
      obtain ⟨bb, off, y, hA, hb, hx, hm, hr⟩ := HM.out.row.at_ ec_len hlt
      obtain ⟨_, _, _, _, c4⟩ := rng_e hr
      subst hA
      clear hr hm hx
      obtain ⟨t, ht⟩ : ∃ t, wrap64 (wrap64 (m + (y.n : Int)) + 50) = t := ⟨_, rfl⟩
      by_cases hg : 25000 < t
      · go_wp2
        go_ret
        exact ⟨true, rfl, b1.out⟩
      · go_wp2
        go_roundw
        case rel => exact ⟨_, k + 1, by omega, by go_num, rfl, by first | rfl | trivial⟩
        case measure => simp [intOf]; omega
    · have hki : ¬ (k : Int) < (x.en : Int) := by omega
      by_cases hg : 25000 < m
      · go_wp2
        go_ret
        exact ⟨true, rfl, b1.out⟩
      · go_wp2
        go_ret
        exact ⟨_, rfl, b1.out⟩
end Go.Proofs.Ytfihiandifnkpaa
