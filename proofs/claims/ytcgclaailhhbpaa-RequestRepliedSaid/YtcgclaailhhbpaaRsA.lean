/- Replies: whether one may be. -/
import Derived.Test.YtcgclaailhhbpaaRqL
namespace Go.Proofs.Ytcgclaailhhbpaa
open Go.ChangeShapes Go.WideShapes Go.ChangeAt Go.RowKit
set_option linter.unusedVariables false
set_option maxRecDepth 100000
set_option linter.unusedSimpArgs false
open Plain Sha Au Rp Rq
/-- A reply may be. -/
def mayR (z : RepZ) : Bool := decide (z.ks.length ≤ 16) && decide (z.val.size ≤ 512) && z.ks.all (fun k => decide (k.size ≤ 512))
def MaySt (x : RX) (W1 : World) (i : Value) (wr : World) : Prop := ∃ k : Nat, k ≤ x.kn ∧ i = .int .i64 k ∧ wr = W1 ∧ Hid ((x.ks.take k).all (fun k => decide (k.size ≤ 512)) = true)
def GrPost (w : World) (e : Ending) (w' : World) : Prop := ∃ q : Bool, e = .returned (.bool q) ∧ Below w.heap.size w w'
def GrSt (x : RX) (W1 : World) (v i : Value) (wr : World) : Prop := ∃ (m : Int) (k : Nat), k ≤ x.kn ∧ v = .int .i64 m ∧ i = .int .i64 k ∧ wr = W1
theorem mayR_yes {z : RepZ} (h : mayR z = true) : z.ks.length ≤ 16 ∧ z.val.size ≤ 512 ∧ ∀ k, k ∈ z.ks → k.size ≤ 512 := by
  unfold mayR at h
  simp only [Bool.and_eq_true, List.all_eq_true] at h
  exact ⟨of_decide_eq_true h.1.1, of_decide_eq_true h.1.2, fun k hk => of_decide_eq_true (h.2 k hk)⟩
set_option maxHeartbeats 2000000 in
theorem mayreply_any {w : World} {B : Nat} {x : RX} (q : Bool) (h : ROk w B x) (hB : B ≤ w.heap.size) (hq : mayR x.z = q) : Calls Try.prog 56 #[.agg (rc x).toArray] w (fun e w' => e = .returned (.bool q) ∧ Below w.heap.size w w') := by
  obtain ⟨W1, hW1⟩ : ∃ W, W = w.alloc (.cells (rc x).toArray 46) := ⟨_, rfl⟩
  have b1 := Lib.hid (show Below w.heap.size w W1 by rw [hW1]; exact below_one _ _)
  obtain ⟨g, hg⟩ : ∃ g, w.heap.size = g := ⟨_, rfl⟩
  have HG := Lib.hid hg
  have V1 := Lib.hid (show VBox W1 g 75 (rc x) by rw [hW1]; exact vbox_new _ _ _ _ _ hg (rc_len x) (by omega))
  obtain ⟨c0, c1, c2, _, _⟩ := rng_r V1.out.range
  simp only [Nat.zero_add] at c0 c1 c2
  have HW1 := Lib.hid hW1
  have KS := Lib.hid (h.ks.below b1.out hB)
  have hkn : x.kn ≤ 9223372036854775807 := by have h1 := h.kc; have h2 := h.km; unfold maxLen at h2; omega
  have HQ : Hid ((decide (x.kn ≤ 16) && decide (x.val.size ≤ 512) && x.ks.all (fun k => decide (k.size ≤ 512))) = q) := Lib.hid (by rw [← hq, ← h.ks.len]; rfl)
  clear hW1 hg hq h
  by_cases h1 : 16 < x.kn
  · have i1 : (16 : Int) < (x.kn : Int) := by omega
    have e : false = q := by rw [← HQ.out, decide_eq_false (by omega)]; simp
    subst e
    clear h1
    go_enter Try.func56, Try.ntmps56
    go_upto_region 1 with fail
    rw [← HW1.out, HG.out]
    go_wp2
    go_ret
    exact ⟨rfl, b1.out⟩
  · have i1 : ¬ (16 : Int) < (x.kn : Int) := by omega
    by_cases h2 : 512 < x.val.size
    · have i2 : (512 : Int) < (x.val.size : Int) := by omega
      have e : false = q := by rw [← HQ.out, decide_eq_false (p := x.val.size ≤ 512) (by omega)]; simp
      subst e
      clear h1 h2
      go_enter Try.func56, Try.ntmps56
      go_upto_region 1 with fail
      rw [← HW1.out, HG.out]
      go_wp2
      go_ret
      exact ⟨rfl, b1.out⟩
    · have i2 : ¬ (512 : Int) < (x.val.size : Int) := by omega
      have HQ2 : Hid (x.ks.all (fun k => decide (k.size ≤ 512)) = q) := Lib.hid (by rw [← HQ.out, decide_eq_true (p := x.kn ≤ 16) (by omega), decide_eq_true (p := x.val.size ≤ 512) (by omega)]; simp)
      have hk16 : x.kn ≤ 16 := by omega
      clear h1 h2
      go_enter Try.func56, Try.ntmps56
      go_upto_region 1 with fail
      rw [← HW1.out, HG.out]
      go_wp2
      go_loopw [18] (fun i wr => MaySt x W1 i wr) (fun i _ => x.kn - (intOf i).toNat)
      case atStart => exact ⟨0, by omega, rfl, rfl, Lib.hid rfl⟩
      case round =>
        obtain ⟨k, hk, rfl, rfl, HA⟩ := hrel
        by_cases hlt : k < x.kn
        · obtain ⟨b, off, z, hA, _, HZ, cz⟩ := KS.out.at_ hlt
          rw [hA] at c2
          have hki : (k : Int) < (x.kn : Int) := by omega
          by_cases hz : 512 < z.size
          · have iz : (512 : Int) < (z.size : Int) := by omega
            have e : false = q := by
              rw [← HQ2.out]
              symm
              rw [Bool.eq_false_iff]
              intro hall
              have := List.all_eq_true.1 hall z (List.mem_of_getElem? HZ.out)
              have := of_decide_eq_true this
              omega
            subst e
            clear hz
            go_wp2
            go_ret
            exact ⟨rfl, b1.out⟩
          · have iz : ¬ (512 : Int) < (z.size : Int) := by omega
            have HA2 : Hid ((x.ks.take (k + 1)).all (fun k => decide (k.size ≤ 512)) = true) := Lib.hid (by
              rw [List.take_add_one, HZ.out, List.all_append, HA.out]
              simp; omega)
            clear hz
            go_wp2
            go_roundw
            case rel => exact ⟨k + 1, by omega, by go_num, rfl, HA2⟩
            case measure => simp [intOf]; omega
        · have hki : ¬ (k : Int) < (x.kn : Int) := by omega
          have e : true = q := by
            rw [← HQ2.out, ← HA.out, List.take_of_length_le (by rw [KS.out.len]; omega)]
          subst e
          go_wp2
          go_ret
          exact ⟨rfl, b1.out⟩
set_option maxHeartbeats 2000000 in
theorem rmayreply_any {w : World} {B : Nat} {x : RX} (q : Bool) (h : ROk w B x) (hB : B ≤ w.heap.size) (hq : mayR x.z = q) : Calls Try.prog 23 #[.agg (rc x).toArray] w (fun e w' => e = .returned (.bool q) ∧ Below w.heap.size w w') := by
  obtain ⟨W1, hW1⟩ : ∃ W, W = w.alloc (.cells (rc x).toArray 46) := ⟨_, rfl⟩
  have b1 := Lib.hid (show Below w.heap.size w W1 by rw [hW1]; exact below_one _ _)
  obtain ⟨g, hg⟩ : ∃ g, w.heap.size = g := ⟨_, rfl⟩
  have HG := Lib.hid hg
  have V1 := Lib.hid (show VBox W1 g 75 (rc x) by rw [hW1]; exact vbox_new _ _ _ _ _ hg (rc_len x) (by omega))
  obtain ⟨c0, c1, c2, _, _⟩ := rng_r V1.out.range
  simp only [Nat.zero_add] at c0 c1 c2
  have HW1 := Lib.hid hW1
  have KS := Lib.hid (h.ks.below b1.out hB)
  have hkn : x.kn ≤ 9223372036854775807 := by have h1 := h.kc; have h2 := h.km; unfold maxLen at h2; omega
  have HQ : Hid ((decide (x.kn ≤ 16) && decide (x.val.size ≤ 512) && x.ks.all (fun k => decide (k.size ≤ 512))) = q) := Lib.hid (by rw [← hq, ← h.ks.len]; rfl)
  clear hW1 hg hq h
  by_cases h1 : 16 < x.kn
  · have i1 : (16 : Int) < (x.kn : Int) := by omega
    have e : false = q := by rw [← HQ.out, decide_eq_false (by omega)]; simp
    subst e
    clear h1
    go_enter Try.func23, Try.ntmps23
    go_upto_region 1 with fail
    rw [← HW1.out, HG.out]
    go_wp2
    go_ret
    exact ⟨rfl, b1.out⟩
  · have i1 : ¬ (16 : Int) < (x.kn : Int) := by omega
    by_cases h2 : 512 < x.val.size
    · have i2 : (512 : Int) < (x.val.size : Int) := by omega
      have e : false = q := by rw [← HQ.out, decide_eq_false (p := x.val.size ≤ 512) (by omega)]; simp
      subst e
      clear h1 h2
      go_enter Try.func23, Try.ntmps23
      go_upto_region 1 with fail
      rw [← HW1.out, HG.out]
      go_wp2
      go_ret
      exact ⟨rfl, b1.out⟩
    · have i2 : ¬ (512 : Int) < (x.val.size : Int) := by omega
      have HQ2 : Hid (x.ks.all (fun k => decide (k.size ≤ 512)) = q) := Lib.hid (by rw [← HQ.out, decide_eq_true (p := x.kn ≤ 16) (by omega), decide_eq_true (p := x.val.size ≤ 512) (by omega)]; simp)
      have hk16 : x.kn ≤ 16 := by omega
      clear h1 h2
      go_enter Try.func23, Try.ntmps23
      go_upto_region 1 with fail
      rw [← HW1.out, HG.out]
      go_wp2
      go_loopw [3] (fun i wr => MaySt x W1 i wr) (fun i _ => x.kn - (intOf i).toNat)
      case atStart => exact ⟨0, by omega, rfl, rfl, Lib.hid rfl⟩
      case round =>
        obtain ⟨k, hk, rfl, rfl, HA⟩ := hrel
        by_cases hlt : k < x.kn
        · obtain ⟨b, off, z, hA, _, HZ, cz⟩ := KS.out.at_ hlt
          rw [hA] at c2
          have hki : (k : Int) < (x.kn : Int) := by omega
          by_cases hz : 512 < z.size
          · have iz : (512 : Int) < (z.size : Int) := by omega
            have e : false = q := by
              rw [← HQ2.out]
              symm
              rw [Bool.eq_false_iff]
              intro hall
              have := List.all_eq_true.1 hall z (List.mem_of_getElem? HZ.out)
              have := of_decide_eq_true this
              omega
            subst e
            clear hz
            go_wp2
            go_ret
            exact ⟨rfl, b1.out⟩
          · have iz : ¬ (512 : Int) < (z.size : Int) := by omega
            have HA2 : Hid ((x.ks.take (k + 1)).all (fun k => decide (k.size ≤ 512)) = true) := Lib.hid (by
              rw [List.take_add_one, HZ.out, List.all_append, HA.out]
              simp; omega)
            clear hz
            go_wp2
            go_roundw
            case rel => exact ⟨k + 1, by omega, by go_num, rfl, HA2⟩
            case measure => simp [intOf]; omega
        · have hki : ¬ (k : Int) < (x.kn : Int) := by omega
          have e : true = q := by
            rw [← HQ2.out, ← HA.out, List.take_of_length_le (by rw [KS.out.len]; omega)]
          subst e
          go_wp2
          go_ret
          exact ⟨rfl, b1.out⟩
set_option maxHeartbeats 2000000 in
/-- Whether a reply is great: something. -/
theorem greatr_any {w : World} {B : Nat} {x : RX} (h : ROk w B x) (hB : B ≤ w.heap.size) : Calls Try.prog 21 #[.agg (rc x).toArray] w (GrPost w) := by
  obtain ⟨W1, hW1⟩ : ∃ W, W = w.alloc (.cells (rc x).toArray 46) := ⟨_, rfl⟩
  have b1 := Lib.hid (show Below w.heap.size w W1 by rw [hW1]; exact below_one _ _)
  obtain ⟨g, hg⟩ : ∃ g, w.heap.size = g := ⟨_, rfl⟩
  have HG := Lib.hid hg
  have V1 := Lib.hid (show VBox W1 g 75 (rc x) by rw [hW1]; exact vbox_new _ _ _ _ _ hg (rc_len x) (by omega))
  obtain ⟨c0, c1, c2, _, _⟩ := rng_r V1.out.range
  simp only [Nat.zero_add] at c0 c1 c2
  have HW1 := Lib.hid hW1
  have KS := Lib.hid (h.ks.below b1.out hB)
  have hkn : x.kn ≤ 9223372036854775807 := by have h1 := h.kc; have h2 := h.km; unfold maxLen at h2; omega
  clear hW1 hg h
  go_enter Try.func21, Try.ntmps21
  go_upto_region 1 with fail
  rw [← HW1.out, HG.out]
  go_wp2
  go_loopw [3, 4] (fun v i wr => GrSt x W1 v i wr) (fun _ i _ => x.kn - (intOf i).toNat)
  case atStart => exact ⟨_, 0, by omega, rfl, rfl, rfl⟩
  case round =>
    obtain ⟨m, k, hk, rfl, rfl, rfl⟩ := hrel
    by_cases hlt : k < x.kn
    · obtain ⟨b, off, z, hA, _, HZ, cz⟩ := KS.out.at_ hlt
      rw [hA] at c2
      have hki : (k : Int) < (x.kn : Int) := by omega
      obtain ⟨m1, hm1⟩ : ∃ m1, IntKind.i64.wrap (m + (z.size : Int)) = m1 := ⟨_, rfl⟩
      obtain ⟨m2, hm2⟩ : ∃ m2, IntKind.i64.wrap (m1 + 10) = m2 := ⟨_, rfl⟩
      by_cases hz : 20000 < m2
      · go_wp2
        go_ret
        exact ⟨true, rfl, b1.out⟩
      · go_wp2
        go_roundw
        case rel => exact ⟨_, k + 1, by omega, rfl, by go_num, rfl⟩
        case measure => simp [intOf]; omega
    · have hki : ¬ (k : Int) < (x.kn : Int) := by omega
      go_wp2
      go_ret
      exact ⟨_, rfl, b1.out⟩
end Go.Proofs.Ytcgclaailhhbpaa
