/- The walk of WordsLists: lists put together, their exclusive or, whether they are the same, are the document's. -/
import Derived.Test.YtjkindponhjadaaWordsXor
namespace Go.Proofs.Ytjkindponhjadaa
open Go.ChangeShapes Go.WideShapes Go.ChangeAt Go.RowKit
set_option linter.unusedVariables false
open Plain
set_option maxRecDepth 100000 in
set_option maxHeartbeats 2000000 in
theorem wordsLists_walk (a0 : Option Addr) (len0 cap0 : Nat) (z0 : List Int) (a1 : Option Addr) (len1 cap1 : Nat) (z1 : List Int) (w : World) (w0 : IsRow .u8 w a0 len0 cap0 z0) (w1 : IsRow .u8 w a1 len1 cap1 z1) :
    Calls Try.prog 6 #[.slice a0 len0 cap0, .slice a1 len1 cap1] w fun e w' => e = .returned (.bool true) ∧ Below w.heap.size w w' := by
  obtain ⟨hb0, hm0, hc0⟩ := w0.bs
  obtain ⟨hb1, hm1, hc1⟩ := w1.bs
  generalize z0.take len0 = zs0 at *
  generalize z1.take len1 = zs1 at *
  have hm0' : len0 ≤ 9223372036854775807 := by unfold maxLen at hm0; omega
  have hm1' : len1 ≤ 9223372036854775807 := by unfold maxLen at hm1; omega
  have HM0 := Lib.hid hm0
  have HM1 := Lib.hid hm1
  clear hm0 hm1 w0 w1
  by_cases hlen : 5000 < len0
  · have : (5000 : Int) < len0 := by omega
    go_enter Try.func6, Try.ntmps6
    go_wp2
    go_ret
    exact ⟨rfl, Below.refl _ _⟩
  by_cases hlen1 : 5000 < len1
  · have h3 : (5000 : Int) < len1 := by omega
    go_enter Try.func6, Try.ntmps6
    go_wp2
    go_ret
    exact ⟨rfl, Below.refl _ _⟩
  have HZ := Lib.hid hb0.isBytes
  have HY := Lib.hid hb1.isBytes
  have L0 := Lib.hid hb0.len
  have L1 := Lib.hid hb1.len
  obtain ⟨N, hN⟩ : ∃ N, N = min len0 len1 := ⟨_, rfl⟩
  have NC : Hid ((zs0 ++ zs1).length = len0 + len1) := Lib.hid (by simp [L0.out, L1.out])
  have NX : Hid ((xorZ zs0 zs1).length = N) := Lib.hid (by rw [xorZ_len, L0.out, L1.out, hN])
  have hN1 : N ≤ 5000 := by omega
  have HMN : Hid (N ≤ maxLen) := Lib.hid (by unfold maxLen; omega)
  have HMC : Hid (len0 + len1 ≤ maxLen) := Lib.hid (by unfold maxLen; omega)
  clear hN
  go_enter Try.func6, Try.ntmps6
  go_wp2_with fail
  refine (refcopy_any cap0 hb0 (Nat.le_refl _) (by omega)).mono ?_
  intro e w1 hm
  obtain ⟨X, cx, rfl, hox, hba, _, hcx⟩ := hm.n L0.out
  have RB1 := hb1.below hba
  have hs1 := hba.size
  go_wp2_with fail
  refine (refcopy_any cap1 RB1 hs1 (by omega)).mono ?_
  intro e w2 hm2
  obtain ⟨Y, cy, rfl, hoy, hbb, _, hcy⟩ := hm2.n L1.out
  have hs2 := hbb.size
  have hbw2 : Below w.heap.size w w2 := hba.trans (hbb.mono hs1)
  have RA := Lib.hid ((hb0.below hbw2).more hbw2.size)
  have RB := Lib.hid ((hb1.below hbw2).more hbw2.size)
  have RX : Hid (Bs w2 w2.heap.size X len0 zs0) := Lib.hid (((bs_of_own hox HZ.out).below hbb).more hs2)
  have RY : Hid (Bs w2 w2.heap.size Y len1 zs1) := Lib.hid (bs_of_own hoy HY.out)
  have BW := Lib.hid hbw2
  clear hm hm2 hox hoy hba hbb hbw2 RB1 hb0 hb1 hs1 hs2
  go_wp2
  go_loopw [7] (fun t wr => ∃ k : Nat, k ≤ 2 ∧ t = .int .i64 k ∧ Below w2.heap.size w2 wr) (fun t _ => 2 - (intOf t).toNat)
  case atStart => exact ⟨0, by omega, rfl, Below.refl _ _⟩
  case round =>
    obtain ⟨k, hk, rfl, hbel⟩ := hrel
    have hsr := hbel.size
    by_cases hlt : k < 2
    · go_wp2_with fail
      refine (cat2_any cx cy 25 (RX.out.below hbel) (RY.out.below hbel) hsr hsr (by omega) 2 wr.heap.size rfl).mono ?_
      intro e w3 hm
      obtain ⟨C, cc, rfl, hoc, hb3, _, hcc⟩ := hm.n NC.out
      have hbel3 : Below w2.heap.size w2 w3 := (hbel.alloc hsr _).trans (hb3.mono (by simp; omega))
      have hs3 := hbel3.size
      have hs34 := hb3.size
      go_wp2_with fail
      refine (xor_any cx cy (RX.out.below hbel3) (RY.out.below hbel3) hs3 hs3 (by omega) (by omega)).mono ?_
      intro e w4 hm4
      obtain ⟨D, cd, rfl, hod, hb4, _, hcd⟩ := hm4.n NX.out
      have hbel4 : Below w2.heap.size w2 w4 := hbel3.trans (hb4.mono hs3)
      have hs4 := hbel4.size
      have hoc4 := own_below hoc hb4 (Nat.le_refl _)
      have RC : Hid (Bs w4 w4.heap.size C (len0 + len1) (zs0 ++ zs1)) := Lib.hid (bs_of_own hoc4 (HZ.out.app HY.out))
      have RD : Hid (Bs w4 w4.heap.size D N (xorZ zs0 zs1)) := Lib.hid (bs_of_own hod (xorZ_bytes HZ.out HY.out))
      have O1 := Lib.hid (Own.of hoc4 (HZ.out.app HY.out))
      have O2 := Lib.hid (Own.of hod (xorZ_bytes HZ.out HY.out))
      have hCl : Hid (∀ a, C = some a → a.block < w3.heap.size) := Lib.hid (fun a ha => ((Own.of hoc (HZ.out.app HY.out)).lt a ha).2)
      have hBase : Hid (w2.heap.size ≤ (wr.alloc (Obj.cells #[Value.slice X len0 cx, Value.slice Y len1 cy] 25)).heap.size) := Lib.hid (by simp; omega)
      clear hm hm4 hoc hod hb3 hb4 hoc4 hbel hbel3 hs34
      have b4 : Below w4.heap.size w4 w4 := Below.refl _ _
      go_wp2_with fail
      refine (refcat_any cap0 cap1 (RA.out.below hbel4) (RB.out.below hbel4) hs4 hs4 (by omega)).mono ?_
      intro e w5 hm
      obtain ⟨P, cp, rfl, hop, hb5, _, _⟩ := hm.n NC.out
      go_wp2_with fail
      refine (refsame_any cc cp (RC.out.below hb5) (bs_of_own hop (HZ.out.app HY.out)) HMC.out HMC.out).mono ?_
      rw [eqB_self]
      rintro e w6 ⟨rfl, hq⟩
      have b6 : Below w4.heap.size w4 w6 := by obtain ⟨m, rfl⟩ := hq; exact below_drewN hb5 m
      have c6 : Below w2.heap.size w2 w6 := hbel4.trans (b6.mono hs4)
      have hs6 := c6.size
      have hs46 := b6.size
      clear hm hop hb5 hq
      go_wp2_with fail
      refine (refxor_any cap0 cap1 (RA.out.below c6) (RB.out.below c6) hs6 hs6 (by omega) (by omega)).mono ?_
      intro e w7 hm
      obtain ⟨P2, cp2, rfl, hop, hb7, _, _⟩ := hm.n NX.out
      have b7 : Below w4.heap.size w4 w7 := b6.trans (hb7.mono hs46)
      go_wp2_with fail
      refine (refsame_any cd cp2 (RD.out.below b7) (bs_of_own hop (xorZ_bytes HZ.out HY.out)) HMN.out HMN.out).mono ?_
      rw [eqB_self]
      rintro e w8 ⟨rfl, hq⟩
      have b8 : Below w4.heap.size w4 w8 := by obtain ⟨m, rfl⟩ := hq; exact below_drewN b7 m
      have c8 : Below w2.heap.size w2 w8 := hbel4.trans (b8.mono hs4)
      clear hm hop hb7 hq b6 c6 b7 hs6 hs46
      go_wp2_with fail
      refine (same_any cx cy (RX.out.below c8) (RY.out.below c8) HM0.out HM1.out).mono ?_
      rintro e w9 ⟨rfl, hq⟩
      have b9 : Below w4.heap.size w4 w9 := by obtain ⟨m, rfl⟩ := hq; exact below_drewN b8 m
      have c9 : Below w2.heap.size w2 w9 := hbel4.trans (b9.mono hs4)
      clear hq b8 c8
      go_wp2_with fail
      refine (refsame_any cap0 cap1 (RA.out.below c9) (RB.out.below c9) HM0.out HM1.out).mono ?_
      rintro e w10 ⟨rfl, hq⟩
      have b10 : Below w4.heap.size w4 w10 := by obtain ⟨m, rfl⟩ := hq; exact below_drewN b9 m
      have c10 : Below w2.heap.size w2 w10 := hbel4.trans (b10.mono hs4)
      clear hq b9 c9
      go_wp2_with fail
      refine (same_any cx cap0 (RX.out.below c10) (RA.out.below c10) HM0.out HM0.out).mono ?_
      rw [eqB_self]
      rintro e w11 ⟨rfl, hq⟩
      have b11 : Below w4.heap.size w4 w11 := by obtain ⟨m, rfl⟩ := hq; exact below_drewN b10 m
      have c11 : Below w2.heap.size w2 w11 := hbel4.trans (b11.mono hs4)
      have hs11 := c11.size
      have hs411 := b11.size
      clear hq b10 c10
      go_wp2_with fail
      refine (cat1_any cx 25 (RX.out.below c11) hs11 (by omega) 1 w11.heap.size rfl).mono ?_
      intro e w12 hm
      obtain ⟨P3, cp3, rfl, hop, hb12, _, _⟩ := hm.n L0.out
      have b12 : Below w4.heap.size w4 w12 := (b11.alloc hs411 _).trans (hb12.mono (by simp; omega))
      have c12 : Below w2.heap.size w2 w12 := hbel4.trans (b12.mono hs4)
      have hs412 := b12.size
      clear b11 c11 hs11 hs411 hb12 hm
      go_wp2_with fail
      refine (refsame_any cp3 cap0 (bs_of_own hop HZ.out) (RA.out.below c12) HM0.out HM0.out).mono ?_
      rw [eqB_self]
      rintro e w13 ⟨rfl, hq⟩
      have b13 : Below w4.heap.size w4 w13 := by obtain ⟨m, rfl⟩ := hq; exact below_drewN b12 m
      clear hq b12 c12 hop hs412
      go_wp2_with fail
      refine (cat0_any _ 0).mono ?_
      intro e w14 hm
      obtain ⟨P4, cp4, rfl, _, hb14, _, _⟩ := hm.n (n := 0) rfl
      have b14 : Below w4.heap.size w4 w14 := b13.trans (hb14.mono b13.size)
      have c14 : Below w2.heap.size w2 w14 := hbel4.trans (b14.mono hs4)
      have OC := O1.out.below b14 (Nat.le_refl _)
      have OD := O2.out.below b14 (Nat.le_refl _)
      clear hm hb14 b13 b4 b14 RC RD O1 O2 hbel4
      go_wp2
      go_loopw [10] (fun i wx => ∃ j : Nat, j ≤ len0 + len1 ∧ i = .int .i64 j ∧ Own wx (wr.alloc (Obj.cells #[Value.slice X len0 cx, Value.slice Y len1 cy] 25)).heap.size C (len0 + len1) cc ∧ Own wx w3.heap.size D N cd ∧ Below w2.heap.size w2 wx) (fun i _ => len0 + len1 - (intOf i).toNat)
      case atStart => exact ⟨0, by omega, rfl, OC, OD, c14⟩
      case round =>
        clear OC OD c14
        obtain ⟨j, hj, rfl, OC, OD, hbx⟩ := hrel
        by_cases hltj : j < len0 + len1
        · obtain ⟨g, u, rfl, hg1, hg2, hu0, hu1, hc, hf, HS⟩ := OC.at_ hltj
          have hg3 : g < w3.heap.size := hCl.out ⟨g, 0, none⟩ rfl
          have hg4 := Lib.hid (Nat.le_trans hBase.out hg1)
          clear hg1
          have hltj' : (j : Int) < (len0 : Int) + (len1 : Int) := by omega
          go_wp2
          go_roundw
          case rel => exact ⟨j + 1, by omega, by go_num, HS.out _ (by omega) (by omega), OD.far (by simpa using hg3) _, hbx.setCell hg4.out _⟩
          case measure => simp [intOf]; omega
        · have hltj' : ¬ (j : Int) < (len0 : Int) + (len1 : Int) := by omega
          go_wp2
          go_loopw [11] (fun i wx => ∃ j : Nat, j ≤ N ∧ i = .int .i64 j ∧ Own wx w3.heap.size D N cd ∧ Below w2.heap.size w2 wx) (fun i _ => N - (intOf i).toNat)
          case atStart => exact ⟨0, by omega, rfl, OD, hbx⟩
          case round =>
            clear OC OD hbx
            obtain ⟨l, hl, rfl, OD, hbx⟩ := hrel
            by_cases hltl : l < N
            · obtain ⟨g, u, rfl, hg1, hg2, hu0, hu1, hc, hf, HS⟩ := OD.at_ hltl
              have hg4 := Lib.hid (Nat.le_trans hs3 hg1)
              go_wp2
              go_roundw
              case rel => exact ⟨l + 1, by omega, by go_num, HS.out _ (by omega) (by omega), hbx.setCell hg4.out _⟩
              case measure => simp [intOf]; omega
            · go_wp2
              go_roundw
              case rel => exact ⟨k + 1, by omega, by go_num, hbx⟩
              case measure => simp [intOf]; omega
    · go_wp2_with fail
      refine (refsame_any cx cap0 (RX.out.below hbel) (RA.out.below hbel) HM0.out HM0.out).mono ?_
      rw [eqB_self]
      rintro e w3 ⟨rfl, hq⟩
      have b3 : Below w2.heap.size w2 w3 := by obtain ⟨m, rfl⟩ := hq; exact below_drewN hbel m
      clear hq hbel
      go_wp2_with fail
      refine (refsame_any cy cap1 (RY.out.below b3) (RB.out.below b3) HM1.out HM1.out).mono ?_
      rw [eqB_self]
      rintro e w4 ⟨rfl, hq⟩
      have b4 : Below w2.heap.size w2 w4 := by obtain ⟨m, rfl⟩ := hq; exact below_drewN b3 m
      clear hq b3
      go_wp2
      go_ret
      exact ⟨rfl, BW.out.trans (b4.mono BW.out.size)⟩
end Go.Proofs.Ytjkindponhjadaa
