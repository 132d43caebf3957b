/- The document's own Add and Union. -/
import Derived.Test.YtmeafjehcckibaaRvU
namespace Go.Proofs.Ytmeafjehcckibaa
open Go.ChangeShapes Go.WideShapes Go.ChangeAt Go.RowKit
set_option linter.unusedVariables false
set_option linter.unusedSimpArgs false
open Plain
theorem filter_more {x z : Int} {zs : List Int} {j : Nat} (h : zs[j]? = some z) : (zs.take (j + 1)).filter (fun y => decide (x < y)) = (zs.take j).filter (fun y => decide (x < y)) ++ (if x < z then [z] else []) := by
  rw [List.take_add_one, h]
  simp only [Option.toList_some, List.filter_append]
  congr 1
  by_cases hx : x < z <;> simp [hx]
theorem getD_some {zs : List Int} {k : Nat} (h : k < zs.length) : zs[k]? = some (zs.getD k 0) := by
  rw [List.getD_eq_getElem?_getD, List.getElem?_eq_getElem h]; rfl
theorem below_quiet {w w' : World} (h : ∃ m, w' = w.drewN m) : Below w.heap.size w w' := by
  obtain ⟨m, rfl⟩ := h
  exact below_drewN (Below.refl _ _) m
theorem quiet_two {w w1 w2 : World} (h : ∃ m, w1 = w.drewN m) (h2 : ∃ m, w2 = w1.drewN m) : ∃ m, w2 = w.drewN m := by
  obtain ⟨m, rfl⟩ := h
  obtain ⟨k, rfl⟩ := h2
  exact ⟨m + k, by rw [World.drewN_drewN]⟩
/-- What the first loop has taken. -/
def Add1 (w : World) (n : Nat) (zs : List Int) (x : Int) (v i : Value) (wr : World) : Prop :=
  ∃ k : Nat, k ≤ n ∧ i = .int .i64 k ∧ wr.ownsRow w.heap.size 3 1 v k (ivs (zs.take k)) ∧ Below w.heap.size w wr ∧ Hid (∀ j, j < k → zs.getD j 0 < x)
def Add2 (w : World) (n k : Nat) (zs : List Int) (x : Int) (v i : Value) (wr : World) : Prop :=
  ∃ j q : Nat, ∃ cs : List Int, j ≤ n ∧ q ≤ k + 1 + j ∧ i = .int .i64 j ∧ wr.ownsRow w.heap.size 3 1 v q (ivs cs) ∧ Below w.heap.size w wr ∧ Hid (cs = zs.take k ++ [x] ++ (zs.take j).filter (fun y => decide (x < y)))
set_option maxRecDepth 100000 in
set_option maxHeartbeats 4000000 in
theorem refadd_any {w : World} {B n c : Nat} {A : Option Addr} {zs : List Int} (x : Int) (p : List Int × Int) (h : Ir w B A n zs) (hB : B ≤ w.heap.size) (hn : n ≤ maxLen) (hp : addP zs x = p) :
    Calls Try.prog 10 #[.slice A n c, .int .i64 x] w (GivesI w p) := by
  have L := Lib.hid h.len
  have H1 := Lib.hid h
  have HP := Lib.hid hp
  obtain ⟨qa, hqa⟩ : ∃ q, setB zs = q := ⟨_, rfl⟩
  obtain ⟨qb, hqb⟩ : ∃ q, serB x = q := ⟨_, rfl⟩
  have C1 := Lib.hid (refmay10_any c h hn)
  have C2 := Lib.hid (refserial_any x)
  rw [hqa] at C1
  rw [hqb] at C2
  have HQA := Lib.hid hqa
  have HQB := Lib.hid hqb
  clear h hp hqa hqb hn
  cases qa
  · have HE : Hid (p = ([], 2)) := Lib.hid (by rw [← HP.out]; unfold addP; rw [HQA.out]; rfl)
    go_enter Try.func10, Try.ntmps10
    go_wp2_with (go_at_call 13; refine C1.out.mono ?_; rintro e w1 ⟨rfl, hq1⟩; have Q1 := Lib.hid hq1; clear hq1)
    go_ret2
    exact gives_nil HE.out (below_quiet Q1.out)
  cases qb
  · have HE : Hid (p = ([], 2)) := Lib.hid (by rw [← HP.out]; unfold addP; rw [HQA.out, HQB.out]; rfl)
    go_enter Try.func10, Try.ntmps10
    go_wp2_with (first
      | (go_at_call 13; refine C1.out.mono ?_; rintro e w1 ⟨rfl, hq1⟩; have Q1 := Lib.hid hq1; clear hq1)
      | (go_at_call 22; refine (C2.out w1).mono ?_; rintro e w2 ⟨rfl, hq2⟩; have Q2 := Lib.hid (quiet_two Q1.out hq2); clear hq2))
    go_ret2
    exact gives_nil HE.out (below_quiet Q2.out)
  have l1 : n ≤ 32 := by rw [← L.out]; exact (set_rise HQA.out).1
  obtain ⟨M, hM⟩ : ∃ M, mrg zs [x] = M := ⟨_, rfl⟩
  have HM := Lib.hid hM
  clear hM
  go_enter Try.func10, Try.ntmps10
  go_upto_region 3 with (first
    | (go_at_call 13; refine C1.out.mono ?_; rintro e w1 ⟨rfl, hq1⟩; have Q1 := Lib.hid hq1; clear hq1)
    | (go_at_call 22; refine (C2.out w1).mono ?_; rintro e w2 ⟨rfl, hq2⟩; have Q2 := Lib.hid (quiet_two Q1.out hq2); clear hq2))
  have own0 := World.ownsRow_nil w2 w.heap.size 3 1
  have b2 := below_quiet Q2.out
  go_wp2
  go_loopw [6, 7] (fun v i wr => Add1 w n zs x v i wr) (fun _ i _ => n - (intOf i).toNat)
  case atStart => exact ⟨0, by omega, rfl, by simpa [ivs] using own0, b2, Lib.hid (fun j hj => absurd hj (by omega))⟩
  case round =>
    obtain ⟨k, hk, rfl, hown, hbel, HJ⟩ := hrel
    have HOW := Lib.hid hown
    have hsz := hbel.size
    have HB := Lib.hid hbel
    clear hown hbel own0 b2
    have HZ := Lib.hid (H1.out.below HB.out hB)
    by_cases hlt : k < n
    · have hltI : (k : Int) < (n : Int) := by omega
      obtain ⟨b, off, rfl, hb, hc⟩ := HZ.out.at_ hlt
      by_cases hzx : zs.getD k 0 < x
      · have HJ2 : Hid (∀ j, j < k + 1 → zs.getD j 0 < x) := Lib.hid (fun j hj => by
          by_cases e : j = k
          · subst e; exact hzx
          · exact HJ.out j (by omega))
        have HT : Hid (ivs (zs.take (k + 1)) = ivs (zs.take k) ++ ivs [zs.getD k 0]) := Lib.hid (by rw [take_snoc_getD _ _ (by rw [L.out]; exact hlt), iv_app])
        generalize zs.getD k 0 = z at *
        have hc1 : (wr.alloc (.cells #[.int .i64 z] 3)).heap.size = wr.heap.size + 1 := by simp
        clear hc1
        go_wp2_with (at_builtin; refine wpList_app _ rfl (.tmp 31) (.tmp 36) 22 rfl w.heap.size 3 1 8 Try.underlying22 int_info (by omega) u6 k (ivs (zs.take k)) rfl ((HOW.out).alloc _) (some ⟨wr.heap.size, 0, none⟩) 1 1 (ivs [z]) rfl ((ir_new wr [z] 1 rfl 3 _ rfl).lies.1) (fun h => by cases h) (iv_one _) (by unfold maxLen; omega) (by omega) (by have := hsz; simp; omega) ?_; intro v1 w1 ho1 hg1)
        have OB1 : Below w.heap.size w w1 := (HB.out.alloc hsz _).grown hg1 (by simp; omega) (fun q hq => (HOW.out.lt q hq).1)
        have ST : Add1 w n zs x v1 (.int .i64 ((k : Int) + 1)) w1 := ⟨k + 1, by omega, by go_num, by rw [HT.out]; exact ho1, OB1, HJ2⟩
        clear ho1 hg1 OB1
        go_roundw
        case rel => exact ST
        case measure => simp [intOf]; omega
      · have HEX : Hid (k = n ∨ x ≤ zs.getD k 0) := Lib.hid (.inr (by omega))
        generalize zs.getD k 0 = z at hc hzx
        go_upto_region 9 with (at_builtin; refine wpList_app _ rfl (.tmp 38) (.tmp 40) 22 rfl w.heap.size 3 1 8 Try.underlying22 int_info (by omega) u6 k (ivs (zs.take k)) rfl ((HOW.out).alloc _) (some ⟨wr.heap.size, 0, none⟩) 1 1 (ivs [x]) rfl ((ir_new wr [x] 1 rfl 3 _ rfl).lies.1) (fun h => by cases h) (iv_one _) (by unfold maxLen; omega) (by omega) (by have := hsz; simp; omega) ?_; intro v1 w1 ho1 hg1)
        have OB1 : Below w.heap.size w w1 := (HB.out.alloc hsz _).grown hg1 (by simp; omega) (fun q hq => (HOW.out.lt q hq).1)
        rw [← iv_app] at ho1
        have ST0 : Add2 w n k zs x v1 (.int .i64 0) w1 := ⟨0, k + 1, zs.take k ++ [x], by omega, by omega, rfl, ho1, OB1, Lib.hid (by simp)⟩
        clear ho1 hg1 OB1
        go_wp2
        go_loopw [6, 8] (fun v i wr => Add2 w n k zs x v i wr) (fun _ i _ => n - (intOf i).toNat)
        case atStart => exact ST0
        case round =>
          obtain ⟨j, q, cs, hj, hq, rfl, hown, hbel, HCS⟩ := hrel
          have HO2 := Lib.hid hown
          have HB2 := Lib.hid hbel
          have hsz2 := hbel.size
          have LCS : Hid (cs.length = q) := Lib.hid (by have := hown.1; rw [ivs_len] at this; omega)
          clear hown hbel ST0
          by_cases hlt2 : j < n
          · have hltI2 : (j : Int) < (n : Int) := by omega
            have hjl : j < zs.length := by rw [L.out]; exact hlt2
            have HF := Lib.hid (filter_more (x := x) (getD_some hjl))
            obtain ⟨b2, off2, eA, hb2, hc2⟩ := (H1.out.below HB2.out hB).at_ hlt2
            injection eA with eA; injection eA with e1 e2 e3
            subst e1 e2
            generalize zs.getD j 0 = z2 at *
            by_cases hxz : x < z2
            · have HC2 : Hid (cs ++ [z2] = zs.take k ++ [x] ++ (zs.take (j + 1)).filter (fun y => decide (x < y))) := Lib.hid (by rw [HF.out, if_pos hxz, HCS.out]; simp)
              go_wp2_with (at_builtin; refine wpList_app _ rfl (.tmp 54) (.tmp 59) 22 rfl w.heap.size 3 1 8 Try.underlying22 int_info (by omega) u6 q (ivs cs) rfl ((HO2.out).alloc _) (some ⟨wr.heap.size, 0, none⟩) 1 1 (ivs [z2]) rfl ((ir_new wr [z2] 1 rfl 3 _ rfl).lies.1) (fun h => by cases h) (iv_one _) (by unfold maxLen; omega) (by omega) (by have := hsz2; simp; omega) ?_; intro v3 w3 ho3 hg3)
              have OB3 : Below w.heap.size w w3 := (HB2.out.alloc hsz2 _).grown hg3 (by simp; omega) (fun q hq => (HO2.out.lt q hq).1)
              rw [← iv_app] at ho3
              have ST : Add2 w n k zs x v3 (.int .i64 ((j : Int) + 1)) w3 := ⟨j + 1, q + 1, cs ++ [z2], by omega, by omega, by go_num, ho3, OB3, HC2⟩
              clear ho3 hg3 OB3
              go_roundw
              case rel => exact ST
              case measure => simp [intOf]; omega
            · have HC2 : Hid (cs = zs.take k ++ [x] ++ (zs.take (j + 1)).filter (fun y => decide (x < y))) := Lib.hid (by rw [HF.out, if_neg hxz, HCS.out]; simp)
              have ST : Add2 w n k zs x u6 (.int .i64 ((j : Int) + 1)) wr := ⟨j + 1, q, cs, by omega, by omega, by go_num, HO2.out, HB2.out, HC2⟩
              go_wp2
              go_roundw
              case rel => exact ST
              case measure => simp [intOf]; omega
          · have HMM : Hid (cs = M) := Lib.hid (by
              rw [HCS.out, ← HM.out, List.take_of_length_le (show zs.length ≤ j by rw [L.out]; omega)]
              exact add_cut (set_rise HQA.out).2 HJ.out (by rw [L.out]; omega) (by rw [L.out]; exact HEX.out))
            have HLM : Hid (M.length = q) := Lib.hid (by rw [← HMM.out]; exact LCS.out)
            by_cases h32 : 32 < q
            · have HE : Hid (p = ([], 4)) := Lib.hid (by
                rw [← HP.out]; unfold addP; rw [HQA.out, HQB.out, HM.out, HLM.out]
                simp only [Bool.and_self, if_true]
                rw [if_neg (by omega)])
              obtain ⟨D6, d6, rfl, _, _⟩ := own_shape HO2.out
              have hI : 32 < (q : Int) := by omega
              go_wp2
              go_ret2
              exact gives_nil HE.out HB2.out
            · have HE : Hid (p = (cs, 0)) := Lib.hid (by
                rw [← HP.out, HMM.out]; unfold addP; rw [HQA.out, HQB.out, HM.out, HLM.out]
                simp only [Bool.and_self, if_true]
                rw [if_pos (by omega)])
              obtain ⟨D6, d6, rfl, _, _⟩ := own_shape HO2.out
              have hI : ¬ (32 < (q : Int)) := by omega
              go_wp2
              go_ret2
              exact gives_of HO2.out HB2.out HE.out
    · have HEX : Hid (k = n ∨ x ≤ zs.getD k 0) := Lib.hid (.inl (by omega))
      go_upto_region 9 with (at_builtin; refine wpList_app _ rfl (.tmp 38) (.tmp 40) 22 rfl w.heap.size 3 1 8 Try.underlying22 int_info (by omega) u6 k (ivs (zs.take k)) rfl ((HOW.out).alloc _) (some ⟨wr.heap.size, 0, none⟩) 1 1 (ivs [x]) rfl ((ir_new wr [x] 1 rfl 3 _ rfl).lies.1) (fun h => by cases h) (iv_one _) (by unfold maxLen; omega) (by omega) (by have := hsz; simp; omega) ?_; intro v1 w1 ho1 hg1)
      have OB1 : Below w.heap.size w w1 := (HB.out.alloc hsz _).grown hg1 (by simp; omega) (fun q hq => (HOW.out.lt q hq).1)
      rw [← iv_app] at ho1
      have ST0 : Add2 w n k zs x v1 (.int .i64 0) w1 := ⟨0, k + 1, zs.take k ++ [x], by omega, by omega, rfl, ho1, OB1, Lib.hid (by simp)⟩
      clear ho1 hg1 OB1
      go_wp2
      go_loopw [6, 8] (fun v i wr => Add2 w n k zs x v i wr) (fun _ i _ => n - (intOf i).toNat)
      case atStart => exact ST0
      case round =>
        obtain ⟨j, q, cs, hj, hq, rfl, hown, hbel, HCS⟩ := hrel
        have HO2 := Lib.hid hown
        have HB2 := Lib.hid hbel
        have hsz2 := hbel.size
        have LCS : Hid (cs.length = q) := Lib.hid (by have := hown.1; rw [ivs_len] at this; omega)
        clear hown hbel ST0
        by_cases hlt2 : j < n
        · have hltI2 : (j : Int) < (n : Int) := by omega
          have hjl : j < zs.length := by rw [L.out]; exact hlt2
          have HF := Lib.hid (filter_more (x := x) (getD_some hjl))
          obtain ⟨b2, off2, eA, hb2, hc2⟩ := (H1.out.below HB2.out hB).at_ hlt2
          subst eA
          generalize zs.getD j 0 = z2 at *
          by_cases hxz : x < z2
          · have HC2 : Hid (cs ++ [z2] = zs.take k ++ [x] ++ (zs.take (j + 1)).filter (fun y => decide (x < y))) := Lib.hid (by rw [HF.out, if_pos hxz, HCS.out]; simp)
            go_wp2_with (at_builtin; refine wpList_app _ rfl (.tmp 54) (.tmp 59) 22 rfl w.heap.size 3 1 8 Try.underlying22 int_info (by omega) u6 q (ivs cs) rfl ((HO2.out).alloc _) (some ⟨wr.heap.size, 0, none⟩) 1 1 (ivs [z2]) rfl ((ir_new wr [z2] 1 rfl 3 _ rfl).lies.1) (fun h => by cases h) (iv_one _) (by unfold maxLen; omega) (by omega) (by have := hsz2; simp; omega) ?_; intro v3 w3 ho3 hg3)
            have OB3 : Below w.heap.size w w3 := (HB2.out.alloc hsz2 _).grown hg3 (by simp; omega) (fun q hq => (HO2.out.lt q hq).1)
            rw [← iv_app] at ho3
            have ST : Add2 w n k zs x v3 (.int .i64 ((j : Int) + 1)) w3 := ⟨j + 1, q + 1, cs ++ [z2], by omega, by omega, by go_num, ho3, OB3, HC2⟩
            clear ho3 hg3 OB3
            go_roundw
            case rel => exact ST
            case measure => simp [intOf]; omega
          · have HC2 : Hid (cs = zs.take k ++ [x] ++ (zs.take (j + 1)).filter (fun y => decide (x < y))) := Lib.hid (by rw [HF.out, if_neg hxz, HCS.out]; simp)
            have ST : Add2 w n k zs x u6 (.int .i64 ((j : Int) + 1)) wr := ⟨j + 1, q, cs, by omega, by omega, by go_num, HO2.out, HB2.out, HC2⟩
            go_wp2
            go_roundw
            case rel => exact ST
            case measure => simp [intOf]; omega
        · have HMM : Hid (cs = M) := Lib.hid (by
            rw [HCS.out, ← HM.out, List.take_of_length_le (show zs.length ≤ j by rw [L.out]; omega)]
            exact add_cut (set_rise HQA.out).2 HJ.out (by rw [L.out]; omega) (by rw [L.out]; exact HEX.out))
          have HLM : Hid (M.length = q) := Lib.hid (by rw [← HMM.out]; exact LCS.out)
          by_cases h32 : 32 < q
          · have HE : Hid (p = ([], 4)) := Lib.hid (by
              rw [← HP.out]; unfold addP; rw [HQA.out, HQB.out, HM.out, HLM.out]
              simp only [Bool.and_self, if_true]
              rw [if_neg (by omega)])
            obtain ⟨D6, d6, rfl, _, _⟩ := own_shape HO2.out
            have hI : 32 < (q : Int) := by omega
            go_wp2
            go_ret2
            exact gives_nil HE.out HB2.out
          · have HE : Hid (p = (cs, 0)) := Lib.hid (by
              rw [← HP.out, HMM.out]; unfold addP; rw [HQA.out, HQB.out, HM.out, HLM.out]
              simp only [Bool.and_self, if_true]
              rw [if_pos (by omega)])
            obtain ⟨D6, d6, rfl, _, _⟩ := own_shape HO2.out
            have hI : ¬ (32 < (q : Int)) := by omega
            go_wp2
            go_ret2
            exact gives_of HO2.out HB2.out HE.out
end Go.Proofs.Ytmeafjehcckibaa
