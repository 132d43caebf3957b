/- Whether a request may be: the document's, where Keys is not 0. -/
import Derived.Test.YtcgclaailhhbpaaRqE
namespace Go.Proofs.Ytcgclaailhhbpaa
open Go.ChangeShapes Go.WideShapes Go.ChangeAt Go.RowKit
set_option linter.unusedVariables false
set_option maxRecDepth 100000
set_option linter.unusedSimpArgs false
open Plain Sha Au Rp Rq
set_option maxHeartbeats 8000000 in
theorem rmay_no {w : World} {x : QX} (q : Bool) (hbr0 : (x.ks == 0) = false) (htl : x.tok.length = x.tl) (hrt : 0 ≤ x.rt ∧ x.rt < 256) (hq : mayB x.z = q) : Calls Try.prog 13 #[.agg (qc x).toArray] w (fun e w' => e = .returned (.bool q) ∧ Below w.heap.size w w') := by
  obtain ⟨op, A, tl, tc, tok, key, val, old, n, tn, ks, sp, rt, ex, sr⟩ := x
  simp only at htl hrt
  have hwr : IntKind.i64.wrap rt = rt := by rw [IntKind.wrap_i64]; omega
  clear hrt
  obtain ⟨W1, hW1⟩ : ∃ W, W = w.alloc (.cells (qc ⟨op, A, tl, tc, tok, key, val, old, n, tn, ks, sp, rt, ex, sr⟩).toArray 26) := ⟨_, rfl⟩
  have b1 := Lib.hid (show Below w.heap.size w W1 by rw [hW1]; exact below_one _ _)
  have V1 := Lib.hid (show VBox W1 w.heap.size 12 (qc ⟨op, A, tl, tc, tok, key, val, old, n, tn, ks, sp, rt, ex, sr⟩) by rw [hW1]; exact vbox_new _ _ _ _ _ rfl (qc_len _) (by omega))
  obtain ⟨c0, c1, c2, c3, c4, c5, c6, c7, c8, c9, c10, c11⟩ := rng_q V1.out.range
  simp only [Nat.zero_add] at c0 c1 c2 c3 c4 c5 c6 c7 c8 c9 c10 c11
  have HW1 := Lib.hid hW1
  obtain ⟨g, hg⟩ : ∃ g, w.heap.size = g := ⟨_, rfl⟩
  have HG := Lib.hid hg
  clear hW1 hg
  rw [HG.out] at c0 c1 c2 c3 c4 c5 c6 c7 c8 c9 c10 c11 V1
  have HQ : Hid ((decide (1 ≤ op) && decide (op ≤ 10) && decide (tl ≤ 256) && (keyB op key && valB op val && oldB op old && nB op n && tnB op tn && spB op ks && spB op sp && grB op rt ex sr)) = q) := Lib.hid (by rw [← hq, ← htl]; rfl)
  clear hq htl
  have BW := Lib.hid (below_drewN b1.out)
  have BW0 := BW.out 0
  by_cases o3 : tl ≤ 256
  · have o3i : ¬ (256 : Int) < (tl : Int) := by omega
    have E3 : Hid (decide (tl ≤ 256) = true) := Lib.hid (decide_eq_true o3)
    obtain ⟨bk, hbk⟩ : ∃ b, inB (key.size : Nat) 1 24 = b := ⟨_, rfl⟩
    obtain ⟨be, hbe⟩ : ∃ b, key.toList.isEmpty = b := ⟨_, rfl⟩
    obtain ⟨bv, hbv⟩ : ∃ b, val.toList.isEmpty = b := ⟨_, rfl⟩
    obtain ⟨bo, hbo⟩ : ∃ b, old.toList.isEmpty = b := ⟨_, rfl⟩
    obtain ⟨bn, hbn⟩ : ∃ b, (n == 0) = b := ⟨_, rfl⟩
    obtain ⟨bt, hbt⟩ : ∃ b, (tn == 0) = b := ⟨_, rfl⟩
    have hbr : (ks == 0) = false := hbr0
    obtain ⟨bs, hbs⟩ : ∃ b, (sp == 0) = b := ⟨_, rfl⟩
    obtain ⟨bg, hbg⟩ : ∃ b, grE rt ex sr 0 0 0 = b := ⟨_, rfl⟩
    obtain ⟨bm, hbm⟩ : ∃ b, inB tn 1 8 = b := ⟨_, rfl⟩
    obtain ⟨ba, hba⟩ : ∃ b, inB tn 0 8 = b := ⟨_, rfl⟩
    have HK := Lib.hid hbk
    have HE := Lib.hid (show decide (key = ByteArray.empty) = be by rw [← empty_of]; exact hbe)
    have HV := Lib.hid (show decide (val = ByteArray.empty) = bv by rw [← empty_of]; exact hbv)
    have HO := Lib.hid (show decide (old = ByteArray.empty) = bo by rw [← empty_of]; exact hbo)
    have HN := Lib.hid (show decide (n = 0) = bn from hbn)
    have HT := Lib.hid (show decide (tn = 0) = bt from hbt)
    have HR := Lib.hid (show decide (ks = 0) = false from hbr)
    have HS := Lib.hid (show decide (sp = 0) = bs from hbs)
    have HGR := Lib.hid hbg
    have HM := Lib.hid hbm
    have HA := Lib.hid hba
    have hgr : ∀ W, (binOp .eql 24 (.agg #[.int .u8 rt, .int .i64 ex, .int .i64 sr]) (.agg #[.int .u8 0, .int .i64 0, .int .i64 0])).run Try.prog W = .ok (.bool bg) W := fun W => by rw [run_grEq, HGR.out]
    clear hbk hbg hbm hba o3
    go_enter Try.func13, Try.ntmps13
    go_upto_region 1 with fail
    rw [← HW1.out, HG.out]
    go_upto_region 4 with (go_at_call 32; refine (rqin_any W1 _ 1 24 bk HK.out).mono ?_; rintro e w9 ⟨rfl, rfl⟩)
    go_upto_region 5 with fail
    go_quiet (fail)
    go_upto_region 6 with fail
    go_quiet (fail)
    go_upto_region 9 with fail
    go_quiet ((go_at_call 32; exact quiet_add (fun w => rqin_quiet tn _ 8 _ rfl w)))
    rw [HM.out, HA.out]
    go_upto_region 10 with fail
    rcases (show op = 1 ∨ op = 2 ∨ op = 3 ∨ op = 4 ∨ op = 5 ∨ op = 6 ∨ op = 7 ∨ op = 8 ∨ op = 9 ∨ op = 10 ∨ (op < 1 ∨ 10 < op) by omega) with rfl | rfl | rfl | rfl | rfl | rfl | rfl | rfl | rfl | rfl | hop
    · cases bk with
      | false =>
        have e : false = q := by rw [← HQ.out]; simp [E3.out, mk1, HK.out]
        subst e
        clear E3
        go_wp2
        go_ret
        exact ⟨rfl, BW.out _⟩
      | true =>
        cases bv with
        | false =>
          have e : false = q := by rw [← HQ.out]; simp [E3.out, mk1, HK.out, HV.out]
          subst e
          clear E3
          go_wp2
          go_ret
          exact ⟨rfl, BW.out _⟩
        | true =>
          cases bo with
          | false =>
            have e : false = q := by rw [← HQ.out]; simp [E3.out, mk1, HK.out, HV.out, HO.out]
            subst e
            clear E3
            go_wp2
            go_ret
            exact ⟨rfl, BW.out _⟩
          | true =>
            cases bn with
            | false =>
              have e : false = q := by rw [← HQ.out]; simp [E3.out, mk1, HK.out, HV.out, HO.out, HN.out]
              subst e
              clear E3
              go_wp2
              go_ret
              exact ⟨rfl, BW.out _⟩
            | true =>
              cases bt with
              | false =>
                have e : false = q := by rw [← HQ.out]; simp [E3.out, mk1, HK.out, HV.out, HO.out, HN.out, HT.out]
                subst e
                clear E3
                go_wp2
                go_ret
                exact ⟨rfl, BW.out _⟩
              | true =>
                have e : false = q := by rw [← HQ.out]; simp [E3.out, mk1, HK.out, HV.out, HO.out, HN.out, HT.out, HR.out, HS.out]
                subst e
                clear E3
                go_wp2
                go_ret
                exact ⟨rfl, BW.out _⟩
    · cases bk with
      | false =>
        have e : false = q := by rw [← HQ.out]; simp [E3.out, mk2, HK.out]
        subst e
        clear E3
        go_wp2
        go_ret
        exact ⟨rfl, BW.out _⟩
      | true =>
        by_cases hzval : val.size ≤ 64
        · have hzival : (val.size : Int) ≤ 64 := by omega
          have HVL : Hid (inB (val.size : Nat) 0 64 = true) := Lib.hid (by unfold inB; rw [decide_eq_true (by omega), decide_eq_true (by omega)]; rfl)
          cases bo with
          | false =>
            have e : false = q := by rw [← HQ.out]; simp [E3.out, mk2, HK.out, HVL.out, HO.out]
            subst e
            clear E3
            go_wp2
            go_ret
            exact ⟨rfl, BW.out _⟩
          | true =>
            cases bn with
            | false =>
              have e : false = q := by rw [← HQ.out]; simp [E3.out, mk2, HK.out, HVL.out, HO.out, HN.out]
              subst e
              clear E3
              go_wp2
              go_ret
              exact ⟨rfl, BW.out _⟩
            | true =>
              cases bt with
              | false =>
                have e : false = q := by rw [← HQ.out]; simp [E3.out, mk2, HK.out, HVL.out, HO.out, HN.out, HT.out]
                subst e
                clear E3
                go_wp2
                go_ret
                exact ⟨rfl, BW.out _⟩
              | true =>
                have e : false = q := by rw [← HQ.out]; simp [E3.out, mk2, HK.out, HVL.out, HO.out, HN.out, HT.out, HR.out, HS.out]
                subst e
                clear E3
                go_wp2
                go_ret
                exact ⟨rfl, BW.out _⟩
        · have hzival : ¬ (val.size : Int) ≤ 64 := by omega
          have HVL : Hid (inB (val.size : Nat) 0 64 = false) := Lib.hid (by unfold inB; rw [decide_eq_false (p := ((val.size : Nat) : Int) ≤ 64) (by omega), Bool.and_false])
          have e : false = q := by rw [← HQ.out]; simp [E3.out, mk2, HK.out, HVL.out]
          subst e
          clear E3
          go_wp2
          go_ret
          exact ⟨rfl, BW.out _⟩
    · cases bk with
      | false =>
        have e : false = q := by rw [← HQ.out]; simp [E3.out, mk3, HK.out]
        subst e
        clear E3
        go_wp2
        go_ret
        exact ⟨rfl, BW.out _⟩
      | true =>
        by_cases hzval : val.size ≤ 64
        · have hzival : (val.size : Int) ≤ 64 := by omega
          have HVL : Hid (inB (val.size : Nat) 0 64 = true) := Lib.hid (by unfold inB; rw [decide_eq_true (by omega), decide_eq_true (by omega)]; rfl)
          by_cases hzold : old.size ≤ 64
          · have hziold : (old.size : Int) ≤ 64 := by omega
            have HOL : Hid (inB (old.size : Nat) 0 64 = true) := Lib.hid (by unfold inB; rw [decide_eq_true (by omega), decide_eq_true (by omega)]; rfl)
            cases bn with
            | false =>
              have e : false = q := by rw [← HQ.out]; simp [E3.out, mk3, HK.out, HVL.out, HOL.out, HN.out]
              subst e
              clear E3
              go_wp2
              go_ret
              exact ⟨rfl, BW.out _⟩
            | true =>
              cases bt with
              | false =>
                have e : false = q := by rw [← HQ.out]; simp [E3.out, mk3, HK.out, HVL.out, HOL.out, HN.out, HT.out]
                subst e
                clear E3
                go_wp2
                go_ret
                exact ⟨rfl, BW.out _⟩
              | true =>
                have e : false = q := by rw [← HQ.out]; simp [E3.out, mk3, HK.out, HVL.out, HOL.out, HN.out, HT.out, HR.out, HS.out]
                subst e
                clear E3
                go_wp2
                go_ret
                exact ⟨rfl, BW.out _⟩
          · have hziold : ¬ (old.size : Int) ≤ 64 := by omega
            have HOL : Hid (inB (old.size : Nat) 0 64 = false) := Lib.hid (by unfold inB; rw [decide_eq_false (p := ((old.size : Nat) : Int) ≤ 64) (by omega), Bool.and_false])
            have e : false = q := by rw [← HQ.out]; simp [E3.out, mk3, HK.out, HVL.out, HOL.out]
            subst e
            clear E3
            go_wp2
            go_ret
            exact ⟨rfl, BW.out _⟩
        · have hzival : ¬ (val.size : Int) ≤ 64 := by omega
          have HVL : Hid (inB (val.size : Nat) 0 64 = false) := Lib.hid (by unfold inB; rw [decide_eq_false (p := ((val.size : Nat) : Int) ≤ 64) (by omega), Bool.and_false])
          have e : false = q := by rw [← HQ.out]; simp [E3.out, mk3, HK.out, HVL.out]
          subst e
          clear E3
          go_wp2
          go_ret
          exact ⟨rfl, BW.out _⟩
    · cases bk with
      | false =>
        have e : false = q := by rw [← HQ.out]; simp [E3.out, mk4, HK.out]
        subst e
        clear E3
        go_wp2
        go_ret
        exact ⟨rfl, BW.out _⟩
      | true =>
        cases bv with
        | false =>
          have e : false = q := by rw [← HQ.out]; simp [E3.out, mk4, HK.out, HV.out]
          subst e
          clear E3
          go_wp2
          go_ret
          exact ⟨rfl, BW.out _⟩
        | true =>
          cases bo with
          | false =>
            have e : false = q := by rw [← HQ.out]; simp [E3.out, mk4, HK.out, HV.out, HO.out]
            subst e
            clear E3
            go_wp2
            go_ret
            exact ⟨rfl, BW.out _⟩
          | true =>
            cases bn with
            | false =>
              have e : false = q := by rw [← HQ.out]; simp [E3.out, mk4, HK.out, HV.out, HO.out, HN.out]
              subst e
              clear E3
              go_wp2
              go_ret
              exact ⟨rfl, BW.out _⟩
            | true =>
              cases bt with
              | false =>
                have e : false = q := by rw [← HQ.out]; simp [E3.out, mk4, HK.out, HV.out, HO.out, HN.out, HT.out]
                subst e
                clear E3
                go_wp2
                go_ret
                exact ⟨rfl, BW.out _⟩
              | true =>
                have e : false = q := by rw [← HQ.out]; simp [E3.out, mk4, HK.out, HV.out, HO.out, HN.out, HT.out, HR.out, HS.out]
                subst e
                clear E3
                go_wp2
                go_ret
                exact ⟨rfl, BW.out _⟩
    · by_cases hzkey : key.size ≤ 24
      · have hzikey : (key.size : Int) ≤ 24 := by omega
        have HKL : Hid (inB (key.size : Nat) 0 24 = true) := Lib.hid (by unfold inB; rw [decide_eq_true (by omega), decide_eq_true (by omega)]; rfl)
        cases bv with
        | false =>
          have e : false = q := by rw [← HQ.out]; simp [E3.out, mk5, HKL.out, HV.out]
          subst e
          clear E3
          go_wp2
          go_ret
          exact ⟨rfl, BW.out _⟩
        | true =>
          cases bo with
          | false =>
            have e : false = q := by rw [← HQ.out]; simp [E3.out, mk5, HKL.out, HV.out, HO.out]
            subst e
            clear E3
            go_wp2
            go_ret
            exact ⟨rfl, BW.out _⟩
          | true =>
            obtain ⟨b5, hb5⟩ : ∃ b, inB n 1 16 = b := ⟨_, rfl⟩
            cases b5 with
            | false =>
              have e : false = q := by rw [← HQ.out]; simp [E3.out, mk5, HKL.out, HV.out, HO.out, hb5]
              subst e
              clear E3
              go_wp2_with (go_at_call 32; refine (rqin_any _ _ _ _ _ rfl).mono ?_; rintro e w9 ⟨rfl, rfl⟩)
              go_ret
              exact ⟨rfl, BW.out _⟩
            | true =>
              cases bt with
              | false =>
                have e : false = q := by rw [← HQ.out]; simp [E3.out, mk5, HKL.out, HV.out, HO.out, hb5, HT.out]
                subst e
                clear E3
                go_wp2_with (go_at_call 32; refine (rqin_any _ _ _ _ _ rfl).mono ?_; rintro e w9 ⟨rfl, rfl⟩)
                go_ret
                exact ⟨rfl, BW.out _⟩
              | true =>
                have e : false = q := by rw [← HQ.out]; simp [E3.out, mk5, HKL.out, HV.out, HO.out, hb5, HT.out, HR.out, HS.out]
                subst e
                clear E3
                go_wp2_with (go_at_call 32; refine (rqin_any _ _ _ _ _ rfl).mono ?_; rintro e w9 ⟨rfl, rfl⟩)
                go_ret
                exact ⟨rfl, BW.out _⟩
      · have hzikey : ¬ (key.size : Int) ≤ 24 := by omega
        have HKL : Hid (inB (key.size : Nat) 0 24 = false) := Lib.hid (by unfold inB; rw [decide_eq_false (p := ((key.size : Nat) : Int) ≤ 24) (by omega), Bool.and_false])
        have e : false = q := by rw [← HQ.out]; simp [E3.out, mk5, HKL.out]
        subst e
        clear E3
        go_wp2
        go_ret
        exact ⟨rfl, BW.out _⟩
    · cases be with
      | false =>
        have e : false = q := by rw [← HQ.out]; simp [E3.out, mk6, HE.out]
        subst e
        clear E3
        go_wp2
        go_ret
        exact ⟨rfl, BW.out _⟩
      | true =>
        cases bv with
        | false =>
          have e : false = q := by rw [← HQ.out]; simp [E3.out, mk6, HE.out, HV.out]
          subst e
          clear E3
          go_wp2
          go_ret
          exact ⟨rfl, BW.out _⟩
        | true =>
          cases bo with
          | false =>
            have e : false = q := by rw [← HQ.out]; simp [E3.out, mk6, HE.out, HV.out, HO.out]
            subst e
            clear E3
            go_wp2
            go_ret
            exact ⟨rfl, BW.out _⟩
          | true =>
            cases bn with
            | false =>
              have e : false = q := by rw [← HQ.out]; simp [E3.out, mk6, HE.out, HV.out, HO.out, HN.out]
              subst e
              clear E3
              go_wp2
              go_ret
              exact ⟨rfl, BW.out _⟩
            | true =>
              cases bm with
              | false =>
                have e : false = q := by rw [← HQ.out]; simp [E3.out, mk6, HE.out, HV.out, HO.out, HN.out, HM.out]
                subst e
                clear E3
                go_wp2
                go_ret
                exact ⟨rfl, BW.out _⟩
              | true =>
                obtain ⟨b6, hb6⟩ : ∃ b, inB ks 0 65536 = b := ⟨_, rfl⟩
                cases b6 with
                | false =>
                  have e : false = q := by rw [← HQ.out]; simp [E3.out, mk6, HE.out, HV.out, HO.out, HN.out, HM.out, hb6]
                  subst e
                  clear E3
                  go_wp2_with (go_at_call 32; refine (rqin_any _ _ _ _ _ rfl).mono ?_; rintro e w9 ⟨rfl, rfl⟩)
                  go_ret
                  exact ⟨rfl, BW.out _⟩
                | true =>
                  obtain ⟨b7, hb7⟩ : ∃ b, inB sp 0 65536 = b := ⟨_, rfl⟩
                  cases b7 with
                  | false =>
                    have e : false = q := by rw [← HQ.out]; simp [E3.out, mk6, HE.out, HV.out, HO.out, HN.out, HM.out, hb6, hb7]
                    subst e
                    clear E3
                    go_wp2_with (go_at_call 32; refine (rqin_any _ _ _ _ _ rfl).mono ?_; rintro e w9 ⟨rfl, rfl⟩)
                    go_ret
                    exact ⟨rfl, BW.out _⟩
                  | true =>
                    have e : bg = q := by rw [← HQ.out]; simp [E3.out, mk6, HE.out, HV.out, HO.out, HN.out, HM.out, hb6, hb7, HGR.out]
                    clear E3
                    go_wp2_with (go_at_call 32; refine (rqin_any _ _ _ _ _ rfl).mono ?_; rintro e w9 ⟨rfl, rfl⟩)
                    go_ret
                    first
                      | exact ⟨rfl, BW.out _⟩
                      | exact ⟨congrArg (fun z => Ending.returned (.bool z)) e, BW.out _⟩
    · cases be with
      | false =>
        have e : false = q := by rw [← HQ.out]; simp [E3.out, mk7, HE.out]
        subst e
        clear E3
        go_wp2
        go_ret
        exact ⟨rfl, BW.out _⟩
      | true =>
        cases bv with
        | false =>
          have e : false = q := by rw [← HQ.out]; simp [E3.out, mk7, HE.out, HV.out]
          subst e
          clear E3
          go_wp2
          go_ret
          exact ⟨rfl, BW.out _⟩
        | true =>
          cases bo with
          | false =>
            have e : false = q := by rw [← HQ.out]; simp [E3.out, mk7, HE.out, HV.out, HO.out]
            subst e
            clear E3
            go_wp2
            go_ret
            exact ⟨rfl, BW.out _⟩
          | true =>
            cases bn with
            | false =>
              have e : false = q := by rw [← HQ.out]; simp [E3.out, mk7, HE.out, HV.out, HO.out, HN.out]
              subst e
              clear E3
              go_wp2
              go_ret
              exact ⟨rfl, BW.out _⟩
            | true =>
              cases bm with
              | false =>
                have e : false = q := by rw [← HQ.out]; simp [E3.out, mk7, HE.out, HV.out, HO.out, HN.out, HM.out]
                subst e
                clear E3
                go_wp2
                go_ret
                exact ⟨rfl, BW.out _⟩
              | true =>
                obtain ⟨b6, hb6⟩ : ∃ b, inB ks 0 65536 = b := ⟨_, rfl⟩
                cases b6 with
                | false =>
                  have e : false = q := by rw [← HQ.out]; simp [E3.out, mk7, HE.out, HV.out, HO.out, HN.out, HM.out, hb6]
                  subst e
                  clear E3
                  go_wp2_with (go_at_call 32; refine (rqin_any _ _ _ _ _ rfl).mono ?_; rintro e w9 ⟨rfl, rfl⟩)
                  go_ret
                  exact ⟨rfl, BW.out _⟩
                | true =>
                  obtain ⟨b7, hb7⟩ : ∃ b, inB sp 0 65536 = b := ⟨_, rfl⟩
                  cases b7 with
                  | false =>
                    have e : false = q := by rw [← HQ.out]; simp [E3.out, mk7, HE.out, HV.out, HO.out, HN.out, HM.out, hb6, hb7]
                    subst e
                    clear E3
                    go_wp2_with (go_at_call 32; refine (rqin_any _ _ _ _ _ rfl).mono ?_; rintro e w9 ⟨rfl, rfl⟩)
                    go_ret
                    exact ⟨rfl, BW.out _⟩
                  | true =>
                    have e : bg = q := by rw [← HQ.out]; simp [E3.out, mk7, HE.out, HV.out, HO.out, HN.out, HM.out, hb6, hb7, HGR.out]
                    clear E3
                    go_wp2_with (go_at_call 32; refine (rqin_any _ _ _ _ _ rfl).mono ?_; rintro e w9 ⟨rfl, rfl⟩)
                    go_ret
                    first
                      | exact ⟨rfl, BW.out _⟩
                      | exact ⟨congrArg (fun z => Ending.returned (.bool z)) e, BW.out _⟩
    · cases be with
      | false =>
        have e : false = q := by rw [← HQ.out]; simp [E3.out, mk8, HE.out]
        subst e
        clear E3
        go_wp2
        go_ret
        exact ⟨rfl, BW.out _⟩
      | true =>
        cases bv with
        | false =>
          have e : false = q := by rw [← HQ.out]; simp [E3.out, mk8, HE.out, HV.out]
          subst e
          clear E3
          go_wp2
          go_ret
          exact ⟨rfl, BW.out _⟩
        | true =>
          cases bo with
          | false =>
            have e : false = q := by rw [← HQ.out]; simp [E3.out, mk8, HE.out, HV.out, HO.out]
            subst e
            clear E3
            go_wp2
            go_ret
            exact ⟨rfl, BW.out _⟩
          | true =>
            cases bn with
            | false =>
              have e : false = q := by rw [← HQ.out]; simp [E3.out, mk8, HE.out, HV.out, HO.out, HN.out]
              subst e
              clear E3
              go_wp2
              go_ret
              exact ⟨rfl, BW.out _⟩
            | true =>
              cases ba with
              | false =>
                have e : false = q := by rw [← HQ.out]; simp [E3.out, mk8, HE.out, HV.out, HO.out, HN.out, HA.out]
                subst e
                clear E3
                go_wp2
                go_ret
                exact ⟨rfl, BW.out _⟩
              | true =>
                have e : false = q := by rw [← HQ.out]; simp [E3.out, mk8, HE.out, HV.out, HO.out, HN.out, HA.out, HR.out, HS.out]
                subst e
                clear E3
                go_wp2
                go_ret
                exact ⟨rfl, BW.out _⟩
    · cases be with
      | false =>
        have e : false = q := by rw [← HQ.out]; simp [E3.out, mk9, HE.out]
        subst e
        clear E3
        go_wp2
        go_ret
        exact ⟨rfl, BW.out _⟩
      | true =>
        cases bv with
        | false =>
          have e : false = q := by rw [← HQ.out]; simp [E3.out, mk9, HE.out, HV.out]
          subst e
          clear E3
          go_wp2
          go_ret
          exact ⟨rfl, BW.out _⟩
        | true =>
          cases bo with
          | false =>
            have e : false = q := by rw [← HQ.out]; simp [E3.out, mk9, HE.out, HV.out, HO.out]
            subst e
            clear E3
            go_wp2
            go_ret
            exact ⟨rfl, BW.out _⟩
          | true =>
            obtain ⟨b9, hb9⟩ : ∃ b, inB n 0 65536 = b := ⟨_, rfl⟩
            cases b9 with
            | false =>
              have e : false = q := by rw [← HQ.out]; simp [E3.out, mk9, HE.out, HV.out, HO.out, hb9]
              subst e
              clear E3
              go_wp2_with (go_at_call 32; refine (rqin_any _ _ _ _ _ rfl).mono ?_; rintro e w9 ⟨rfl, rfl⟩)
              go_ret
              exact ⟨rfl, BW.out _⟩
            | true =>
              cases ba with
              | false =>
                have e : false = q := by rw [← HQ.out]; simp [E3.out, mk9, HE.out, HV.out, HO.out, hb9, HA.out]
                subst e
                clear E3
                go_wp2_with (go_at_call 32; refine (rqin_any _ _ _ _ _ rfl).mono ?_; rintro e w9 ⟨rfl, rfl⟩)
                go_ret
                exact ⟨rfl, BW.out _⟩
              | true =>
                have e : false = q := by rw [← HQ.out]; simp [E3.out, mk9, HE.out, HV.out, HO.out, hb9, HA.out, HR.out, HS.out]
                subst e
                clear E3
                go_wp2_with (go_at_call 32; refine (rqin_any _ _ _ _ _ rfl).mono ?_; rintro e w9 ⟨rfl, rfl⟩)
                go_ret
                exact ⟨rfl, BW.out _⟩
    · cases be with
      | false =>
        have e : false = q := by rw [← HQ.out]; simp [E3.out, mk10, HE.out]
        subst e
        clear E3
        go_wp2
        go_ret
        exact ⟨rfl, BW.out _⟩
      | true =>
        cases bv with
        | false =>
          have e : false = q := by rw [← HQ.out]; simp [E3.out, mk10, HE.out, HV.out]
          subst e
          clear E3
          go_wp2
          go_ret
          exact ⟨rfl, BW.out _⟩
        | true =>
          cases bo with
          | false =>
            have e : false = q := by rw [← HQ.out]; simp [E3.out, mk10, HE.out, HV.out, HO.out]
            subst e
            clear E3
            go_wp2
            go_ret
            exact ⟨rfl, BW.out _⟩
          | true =>
            obtain ⟨b9, hb9⟩ : ∃ b, inB n 0 65536 = b := ⟨_, rfl⟩
            cases b9 with
            | false =>
              have e : false = q := by rw [← HQ.out]; simp [E3.out, mk10, HE.out, HV.out, HO.out, hb9]
              subst e
              clear E3
              go_wp2_with (go_at_call 32; refine (rqin_any _ _ _ _ _ rfl).mono ?_; rintro e w9 ⟨rfl, rfl⟩)
              go_ret
              exact ⟨rfl, BW.out _⟩
            | true =>
              cases bt with
              | false =>
                have e : false = q := by rw [← HQ.out]; simp [E3.out, mk10, HE.out, HV.out, HO.out, hb9, HT.out]
                subst e
                clear E3
                go_wp2_with (go_at_call 32; refine (rqin_any _ _ _ _ _ rfl).mono ?_; rintro e w9 ⟨rfl, rfl⟩)
                go_ret
                exact ⟨rfl, BW.out _⟩
              | true =>
                have e : false = q := by rw [← HQ.out]; simp [E3.out, mk10, HE.out, HV.out, HO.out, hb9, HT.out, HR.out, HS.out]
                subst e
                clear E3
                go_wp2_with (go_at_call 32; refine (rqin_any _ _ _ _ _ rfl).mono ?_; rintro e w9 ⟨rfl, rfl⟩)
                go_ret
                exact ⟨rfl, BW.out _⟩
    · have e : false = q := by
        rw [← HQ.out]
        rcases hop with hop | hop
        · rw [decide_eq_false (show ¬ (1 ≤ op) by omega)]; simp
        · rw [decide_eq_false (show ¬ (op ≤ 10) by omega)]; simp
      subst e
      have z1 : ¬ op = 1 := by omega
      have z2 : ¬ op = 2 := by omega
      have z3 : ¬ op = 3 := by omega
      have z4 : ¬ op = 4 := by omega
      have z5 : ¬ op = 5 := by omega
      have z6 : ¬ op = 6 := by omega
      have z7 : ¬ op = 7 := by omega
      have z8 : ¬ op = 8 := by omega
      have z9 : ¬ op = 9 := by omega
      have z10 : ¬ op = 10 := by omega
      clear hop E3
      go_wp2
      go_ret
      exact ⟨rfl, BW.out _⟩

  · have e : false = q := by rw [← HQ.out, decide_eq_false o3]; simp
    subst e
    have o3i : (256 : Int) < (tl : Int) := by omega
    clear HQ o3
    go_enter Try.func13, Try.ntmps13
    go_upto_region 1 with fail
    rw [← HW1.out, HG.out]
    go_wp2
    go_ret
    exact ⟨rfl, BW0⟩
end Go.Proofs.Ytcgclaailhhbpaa
