/- Two replies held against each other: the document's, of layer 15. -/
import Derived.Test.YtcgclaailhhbpaaRqL
import Derived.Test.YtcgclaailhhbpaaB5
namespace Go.Proofs.Ytcgclaailhhbpaa
open Go.ChangeShapes Go.WideShapes Go.ChangeAt Go.RowKit
set_option linter.unusedVariables false
set_option maxRecDepth 100000
set_option linter.unusedSimpArgs false
open Plain Sha Au Rp Rq
set_option maxRecDepth 100000 in
set_option maxHeartbeats 4000000 in
theorem rsrep_any {w : World} {B1 B2 : Nat} {x y : RX} (q : Bool) (h1 : ROk w B1 x) (h2 : ROk w B2 y) (hB1 : B1 ≤ w.heap.size) (hB2 : B2 ≤ w.heap.size) (hq : repB x.z y.z = q) :
    Calls Try.prog 27 #[.agg (rc x).toArray, .agg (rc y).toArray] w (fun e w' => e = .returned (.bool q) ∧ Below w.heap.size w w') := by
  obtain ⟨W1, hW1⟩ : ∃ W, W = (w.alloc (.cells (rc x).toArray 46)).alloc (.cells (rc y).toArray 46) := ⟨_, rfl⟩
  have b1 := Lib.hid (show Below w.heap.size w W1 by rw [hW1]; exact ((Below.refl _ _).alloc (Nat.le_refl _) _).alloc (by simp) _)
  have V1 : Hid (VBox W1 w.heap.size 75 (rc x)) := Lib.hid (by rw [hW1]; exact (vbox_new w (rc x) _ _ 75 rfl (rc_len _) (by omega)).grow (below_one _ _))
  have V2 : Hid (VBox W1 (w.heap.size + 1) 75 (rc y)) := Lib.hid (by rw [hW1]; exact vbox_new _ _ _ _ _ (by simp) (rc_len _) (by omega))
  obtain ⟨c0, c1, c2, c3, c4⟩ := rng_r V1.out.range
  obtain ⟨d0, d1, d2, d3, d4⟩ := rng_r V2.out.range
  simp only [Nat.zero_add] at c0 c1 c2 c3 c4 d0 d1 d2 d3 d4
  have S1 := Lib.hid (h1.below b1.out hB1).ks
  have S2 := Lib.hid (h2.below b1.out hB2).ks
  have C4 := Lib.hid c4
  have D4 := Lib.hid d4
  have HW1 := Lib.hid hW1
  have HQ : Hid ((decide (x.err = y.err) && decide (x.val = y.val) && decide (x.ks = y.ks) && decide (x.n = y.n) && lkB x.g y.g) = q) := Lib.hid hq
  have hkn := h1.kc
  have hkm : x.kc ≤ 9223372036854775807 := by have := h1.km; unfold maxLen at this; exact this
  have hkn2 := h2.kc
  have hkm2 : y.kc ≤ 9223372036854775807 := by have := h2.km; unfold maxLen at this; exact this
  have BW := Lib.hid (below_drewN b1.out)
  clear hW1 h1 h2 hq c4 d4
  have BW0 := BW.out 0
  by_cases e1 : x.err = y.err
  · have r1 : (x.err != y.err) = false := by simpa using e1
    by_cases e2 : x.val = y.val
    · have r2 : (x.val.toList == y.val.toList) = true := by rw [seq_of]; exact decide_eq_true e2
      by_cases e4 : x.n = y.n
      · have r4 : (x.n != y.n) = false := by simpa using e4
        have G1 := V1
        have G2 := V1
        have G3 := V1
        cases hg : lkB x.g y.g with
        | false =>
          have e : q = false := by rw [← HQ.out, hg]; simp
          subst e
          have HNE : ∀ W, (binOp .neq 44 (.agg (lc x.g).toArray) (.agg (lc y.g).toArray)).run Try.prog W = .ok (.bool true) W := fun W => by rw [run_lkNe, hg]; rfl
          have HNE := Lib.hid HNE
          clear e1 e2 e4 hg
          go_enter Try.func27, Try.ntmps27
          go_upto_region 1 with fail
          rw [← HW1.out]
          go_wp2_with (first
                | (have g := G1; clear g; refine wpList_load_guard (op := ⟨some 27, .load 44 (.tmp 26), _, _, _, some (19, false)⟩) (by rfl) 44 (.tmp 26) rfl (w.heap.size) (4) rfl (lc x.g) _ ((fun j v hv => C4.out j v hv)) Try.underlying44 rfl (lk_size x.g) ?_; clear G1)
                | (have g := G2; clear g; refine wpList_load_guard (op := ⟨some 29, .load 44 (.tmp 28), _, _, _, some (19, false)⟩) (by rfl) 44 (.tmp 28) rfl (w.heap.size + 1) (4) rfl (lc y.g) _ ((fun j v hv => D4.out j v hv)) Try.underlying44 rfl (lk_size y.g) ?_; clear G2)
                | (have g := G3; clear g; refine wpList_execG (op := ⟨some 30, .binOp .neq 44 (.tmp 27) (.tmp 29) 44, _, _, _, some (19, false)⟩) (by rfl) (.bool true) (exec_cmp .neq 44 (.tmp 27) (.tmp 29) _ _ rfl rfl rfl Try.eqGuardType44 (HNE.out _)) ?_; clear G3))
          go_ret
          exact ⟨rfl, BW0⟩
        | true =>
          have HNE : ∀ W, (binOp .neq 44 (.agg (lc x.g).toArray) (.agg (lc y.g).toArray)).run Try.prog W = .ok (.bool false) W := fun W => by rw [run_lkNe, hg]; rfl
          have HNE := Lib.hid HNE
          have HK : Hid (decide (x.ks = y.ks) = q) := Lib.hid (by rw [← HQ.out, hg]; simp [e1, e2, e4])
          by_cases e5 : x.kn = y.kn
          · have HE5 := Lib.hid e5
            rw [← e5] at d2
            clear e1 e2 e4 hg e5 hkn2
            go_enter Try.func27, Try.ntmps27
            go_upto_region 1 with fail
            rw [← HW1.out]
            go_wp2_with (first
                  | (have g := G1; clear g; refine wpList_load_guard (op := ⟨some 27, .load 44 (.tmp 26), _, _, _, some (19, false)⟩) (by rfl) 44 (.tmp 26) rfl (w.heap.size) (4) rfl (lc x.g) _ ((fun j v hv => C4.out j v hv)) Try.underlying44 rfl (lk_size x.g) ?_; clear G1)
                  | (have g := G2; clear g; refine wpList_load_guard (op := ⟨some 29, .load 44 (.tmp 28), _, _, _, some (19, false)⟩) (by rfl) 44 (.tmp 28) rfl (w.heap.size + 1) (4) rfl (lc y.g) _ ((fun j v hv => D4.out j v hv)) Try.underlying44 rfl (lk_size y.g) ?_; clear G2)
                  | (have g := G3; clear g; refine wpList_execG (op := ⟨some 30, .binOp .neq 44 (.tmp 27) (.tmp 29) 44, _, _, _, some (19, false)⟩) (by rfl) (.bool false) (exec_cmp .neq 44 (.tmp 27) (.tmp 29) _ _ rfl rfl rfl Try.eqGuardType44 (HNE.out _)) ?_; clear G3))
            go_loopw [5] (fun i wr => ∃ k : Nat, k ≤ x.kn ∧ i = .int .i64 k ∧ Hid (∃ m, wr = W1.drewN m) ∧ Hid (x.ks.take k = y.ks.take k)) (fun i _ => x.kn - (intOf i).toNat)
            case atStart => exact ⟨0, by omega, rfl, Lib.hid ⟨0, rfl⟩, Lib.hid rfl⟩
            case round =>
              obtain ⟨k, hk, rfl, HW, HY⟩ := hrel
              have bb : Hid (∀ m, Below w.heap.size w (wr.drewN m)) := Lib.hid (by obtain ⟨m, hm⟩ := HW.out; intro m'; rw [hm, World.drewN_drewN]; exact BW.out _)
              have cc2 : wr.cell? ⟨w.heap.size, 2, none⟩ = some (.slice x.A x.kn x.kc) := by obtain ⟨m, hm⟩ := HW.out; rw [hm]; exact c2
              have dd2 : wr.cell? ⟨w.heap.size + 1, 2, none⟩ = some (.slice y.A x.kn y.kc) := by obtain ⟨m, hm⟩ := HW.out; rw [hm]; exact d2
              by_cases hlt : k < x.kn
              · have HG1 : Sr wr B1 x.A x.kn x.ks := by obtain ⟨m, hm⟩ := HW.out; rw [hm]; exact S1.out.keep fun _ _ => rfl
                have HG2 : Sr wr B2 y.A y.kn y.ks := by obtain ⟨m, hm⟩ := HW.out; rw [hm]; exact S2.out.keep fun _ _ => rfl
                obtain ⟨b1', o1, z1, hA1, _, HZ1, f1⟩ := HG1.at_ hlt
                obtain ⟨b2', o2, z2, hA2, _, HZ2, f2⟩ := HG2.at_ (k := k) (by have := HE5.out; omega)
                have hkI : (k : Int) < (x.kn : Int) := by omega
                rw [hA1] at cc2
                rw [hA2] at dd2
                clear HG1 HG2 hA1 hA2
                by_cases he : z1 = z2
                · have HT : Hid (x.ks.take (k + 1) = y.ks.take (k + 1)) := Lib.hid (by rw [List.take_add_one, List.take_add_one, HY.out, HZ1.out, HZ2.out, he])
                  have hs : (z1.toList == z2.toList) = true := by rw [seq_of]; exact decide_eq_true he
                  clear he HZ1 HZ2
                  go_wp2
                  go_quiet (fail)
                  go_wp2
                  go_roundw
                  case rel => exact ⟨k + 1, by omega, by go_num, Lib.hid (by obtain ⟨m, hm⟩ := HW.out; exact ⟨_, by rw [hm, World.drewN_drewN]⟩), HT⟩
                  case measure => simp [intOf]; omega
                · have e : q = false := by
                    rw [← HK.out]
                    refine decide_eq_false fun h => he ?_
                    have e1 := HZ1.out
                    rw [h, HZ2.out] at e1
                    exact (Option.some.inj e1).symm
                  have hs : (z1.toList == z2.toList) = false := by rw [seq_of]; exact decide_eq_false he
                  subst e
                  clear he HZ1 HZ2
                  go_wp2
                  go_quiet (fail)
                  go_wp2
                  go_ret
                  exact ⟨rfl, bb.out _⟩
              · have e : q = true := by
                  rw [← HK.out]
                  have := HY.out
                  rw [List.take_of_length_le (by rw [S1.out.len]; omega), List.take_of_length_le (by have := HE5.out; rw [S2.out.len]; omega)] at this
                  exact decide_eq_true this
                subst e
                have hkI : ¬ (k : Int) < (x.kn : Int) := by omega
                go_wp2
                go_ret
                exact ⟨rfl, bb.out 0⟩
          · have hkb : ¬ (x.kn : Int) = (y.kn : Int) := by omega
            have e : q = false := by
              rw [← HK.out]
              refine decide_eq_false fun h => e5 ?_
              rw [← S1.out.len, ← S2.out.len, h]
            subst e
            have hkc : ((x.kn : Int) != (y.kn : Int)) = true := by simp [hkb]
            clear e1 e2 e4 hg
            go_enter Try.func27, Try.ntmps27
            go_upto_region 1 with fail
            rw [← HW1.out]
            go_wp2_with (first
                  | (have g := G1; clear g; refine wpList_load_guard (op := ⟨some 27, .load 44 (.tmp 26), _, _, _, some (19, false)⟩) (by rfl) 44 (.tmp 26) rfl (w.heap.size) (4) rfl (lc x.g) _ ((fun j v hv => C4.out j v hv)) Try.underlying44 rfl (lk_size x.g) ?_; clear G1)
                  | (have g := G2; clear g; refine wpList_load_guard (op := ⟨some 29, .load 44 (.tmp 28), _, _, _, some (19, false)⟩) (by rfl) 44 (.tmp 28) rfl (w.heap.size + 1) (4) rfl (lc y.g) _ ((fun j v hv => D4.out j v hv)) Try.underlying44 rfl (lk_size y.g) ?_; clear G2)
                  | (have g := G3; clear g; refine wpList_execG (op := ⟨some 30, .binOp .neq 44 (.tmp 27) (.tmp 29) 44, _, _, _, some (19, false)⟩) (by rfl) (.bool false) (exec_cmp .neq 44 (.tmp 27) (.tmp 29) _ _ rfl rfl rfl Try.eqGuardType44 (HNE.out _)) ?_; clear G3))
            go_ret
            exact ⟨rfl, BW0⟩
      · have r4 : (x.n != y.n) = true := by simpa using e4
        have e : q = false := by rw [← HQ.out]; simp [e4]
        subst e
        clear e1 e2 e4
        go_enter Try.func27, Try.ntmps27
        go_upto_region 1 with fail
        rw [← HW1.out]
        go_wp2
        go_ret
        exact ⟨rfl, BW0⟩
    · have r2 : (x.val.toList == y.val.toList) = false := by rw [seq_of]; exact decide_eq_false e2
      have e : q = false := by rw [← HQ.out]; simp [e2]
      subst e
      clear e1 e2
      go_enter Try.func27, Try.ntmps27
      go_upto_region 1 with fail
      rw [← HW1.out]
      go_wp2
      go_ret
      exact ⟨rfl, BW0⟩
  · have r1 : (x.err != y.err) = true := by simpa using e1
    have e : q = false := by rw [← HQ.out]; simp [e1]
    subst e
    clear e1
    go_enter Try.func27, Try.ntmps27
    go_upto_region 1 with fail
    rw [← HW1.out]
    go_wp2
    go_ret
    exact ⟨rfl, BW0⟩
end Go.Proofs.Ytcgclaailhhbpaa
