/- Of any key, label, and numbers that is derived which the chapter says; what is told is the caller's own. -/
import Derived.Test.YtmglhfhcljdfcaaDoorR6
import Derived.Test.YtmglhfhcljdfcaaDoorHDer
namespace Go.Proofs.YtmglhfhcljdfcaaDoor
open Go.ChangeShapes Go.WideShapes Go.ChangeAt Go.RowKit
set_option linter.unusedVariables false
open Plain Sha
theorem IsRow.ns {w : World} {A : Option Addr} {len cap : Nat} {zs : List Int} (h : IsRow .i64 w A len cap zs) : Ns w w.heap.size A len (zs.take len) := by
  rcases h with ⟨rfl, rfl, rfl, rfl⟩ | ⟨x, rfl, hl, hm, hz, hc, hw⟩
  · exact ⟨rfl, fun j hj => absurd hj (by omega), fun hj => absurd hj (by omega)⟩
  · refine ⟨by simp; omega, ?_, ?_⟩
    · intro j hj
      have e : (zs.take len).getD j 0 = zs[j]'(by omega) := by
        simp [List.getD_eq_getElem?_getD, hj, List.getElem?_eq_getElem (show j < zs.length by omega)]
      rw [e]
      exact wf_i64 (hw zs[j] (List.getElem_mem ..))
    · intro hn
      obtain ⟨b, off, rfl, hc'⟩ := ints_at hc (by omega)
      refine ⟨b, off, rfl, World.block_lt_of_cell? _ _ (hc' 0 (by omega)), fun j hj => ?_⟩
      rw [hc' j (by omega)]
      simp [List.getD_eq_getElem?_getD, hj]
set_option maxRecDepth 100000 in
set_option maxHeartbeats 4000000 in
theorem hmacDerive_in {na nl : Nat} {A0 A2 : Option Addr} (c0 c2 : Nat) {ks xs : List Int} (s : ByteArray) (w : World) (zA : Bs w w.heap.size A0 na ks) (zL : Ns w w.heap.size A2 nl xs) (ha : na ≤ 500) (hs : s.size ≤ 500) (hnl : nl ≤ 20) (hF : LaidF w) (hK : LaidK w) :
    Calls Tryd.prog 8 #[.slice A0 na c0, .string s, .slice A2 nl c2] w fun e w' => e = .returned (.bool true) ∧ Below w.heap.size w w' := by
  obtain ⟨T, hT⟩ : ∃ T, deriveZ ks s xs = T := ⟨_, rfl⟩
  have lT : Hid (T.length = 32) := Lib.hid (by rw [← hT]; exact deriveZ_len _ _ _)
  have bT : Hid (IsBytes T) := Lib.hid (by rw [← hT]; exact deriveZ_bytes _ _ _)
  have eT : Hid (eqB T T = true) := Lib.hid (by simp [eqB])
  have g1 : ¬ 500 < (na : Int) := by omega
  have g2 : ¬ 500 < (s.size : Int) := by omega
  have g3 : ¬ 20 < (nl : Int) := by omega
  have ZA := Lib.hid zA
  have ZL := Lib.hid zL
  have HT := Lib.hid hT
  have HF := Lib.hid hF
  have HK := Lib.hid hK
  have HFl := Lib.hid hF.lt
  have HKl := Lib.hid hK.lt
  clear hT zA zL hF hK
  go_enter Tryd.func8, Tryd.ntmps8
  go_wp2_with fail
  refine (refderive_any c0 c2 s ZA.out ZL.out (Nat.le_refl _) (Nat.le_refl _) (by omega) (by omega) (by omega)).mono ?_
  rw [HT.out]
  intro e w1 hm1
  obtain ⟨D1, d1, rfl, ho1, b1, _, _⟩ := hm1.n lT.out
  have Z1 := Lib.hid (Made.bs ho1 bT.out)
  have q1 := Lib.hid b1
  clear hm1 ho1 b1
  go_wp2
  go_loopw [8] (fun i wr => ∃ k : Nat, k ≤ 2 ∧ i = .int .i64 k ∧ Hid (Bs wr w1.heap.size D1 32 T) ∧ Hid (Below w.heap.size w wr) ∧ w1.heap.size ≤ wr.heap.size) (fun i _ => 2 - (intOf i).toNat)
  case atStart => exact ⟨0, by omega, rfl, Z1, q1, Nat.le_refl _⟩
  case round =>
    obtain ⟨k, hk, rfl, HZ, HB, hsz⟩ := hrel
    have sr := HB.out.size
    by_cases hlt : k < 2
    · have hkI : (k : Int) < 2 := by omega
      go_wp2_with fail
      refine (hderive_any c0 c2 s (ZA.out.belowM HB.out (Nat.le_refl _)) (ZL.out.below HB.out (Nat.le_refl _)) sr sr (by omega) (by omega) (by omega) (HF.out.below HB.out HFl.out) (HK.out.below HB.out HKl.out)).mono ?_
      rw [HT.out]
      rintro e w2 ⟨g, rfl, r2, hg1, hg2, b2⟩
      have q2 := Lib.hid (HB.out.trans (b2.mono sr))
      have z2 := Lib.hid (HZ.out.belowM b2 hsz)
      have R2 := Lib.hid r2
      have V2 := Lib.hid (r2.bs bT.out hg2 (n := 32) lT.out.symm)
      have s2 := b2.size
      clear b2 r2 HB HZ
      go_wp2_with fail
      refine (refsame_any 32 d1 V2.out z2.out (by unfold maxLen; omega) (by unfold maxLen; omega)).mono ?_
      rw [eT.out]
      rintro e w3 ⟨rfl, hq⟩
      have q3 : Hid (Below w.heap.size w w3) := Lib.hid (by obtain ⟨m', rfl⟩ := hq; exact below_drewN q2.out m')
      have z3 : Hid (Bs w3 w1.heap.size D1 32 T) := Lib.hid (by obtain ⟨m', rfl⟩ := hq; exact z2.out.drewN m')
      have R3 : Hid (Row8 w3 g 0 T) := Lib.hid (by obtain ⟨m', rfl⟩ := hq; exact R2.out.same rfl)
      have s3 : w1.heap.size ≤ w3.heap.size := by
        have h2 : w2.heap.size ≤ w3.heap.size := by obtain ⟨m', rfl⟩ := hq; exact Nat.le_refl _
        omega
      clear hq z2 R2 V2 q2
      go_wp2
      go_loopw [10] (fun i wv => ∃ j : Nat, j ≤ 32 ∧ i = .int .i64 j ∧ ∃ ds : List Int, Hid (ds.length = 32) ∧ Hid (Row8 wv g 0 ds) ∧ Hid (w3.grownBy wv (some g))) (fun i _ => 32 - (intOf i).toNat)
      case atStart => exact ⟨0, by omega, rfl, T, lT, R3, Lib.hid (World.grownBy.refl _ _)⟩
      case round =>
        obtain ⟨j, hj, rfl, ds, HL, HR, HG⟩ := hrel
        by_cases hlt2 : j < 32
        · have hjI : (j : Int) < 32 := by omega
          obtain ⟨u, hu⟩ : ∃ u, ds.getD j 0 = u := ⟨_, rfl⟩
          obtain ⟨c1', c2'⟩ := row8_cellR HR.out (k := j) (by rw [HL.out]; omega) hu
          have HR' := fun x => Lib.hid (row8_setR HR.out j x (by rw [HL.out]; omega))
          have HG' := fun x : Int => Lib.hid (grown_set HG.out j (.int .u8 x))
          have HL' := fun x => Lib.hid (show (ds.set j x).length = 32 by rw [List.length_set]; exact HL.out)
          have HRH := Lib.hid HR'
          have HGH := Lib.hid HG'
          have HLH := Lib.hid HL'
          clear hu HR' HG' HL' HR HG HL
          go_wp2
          go_roundw
          case rel => exact ⟨j + 1, by omega, by go_num, _, HLH.out _, HRH.out _, HGH.out _⟩
          case measure => simp [intOf]; omega
        · have hge : ¬ (j : Int) < 32 := by omega
          have zf := Lib.hid (z3.out.keepB (w' := wr) (fun b off e hb => HG.out.block b (by omega) (by simp; omega)))
          have qf := Lib.hid (q3.out.grown HG.out q3.out.size (fun m hm => by injection hm with hm; omega))
          have sf : w1.heap.size ≤ wr.heap.size := Nat.le_trans s3 HG.out.size
          clear HR HG HL
          go_wp2
          go_roundw
          case rel => exact ⟨k + 1, by omega, by go_num, zf, qf, sf⟩
          case measure => simp [intOf]; omega
    · have hge : ¬ (k : Int) < 2 := by omega
      go_wp2
      go_ret
      exact ⟨rfl, HB.out⟩
set_option maxRecDepth 100000 in
set_option maxHeartbeats 2000000 in
theorem hmacDerive_out (A0 A2 : Option Addr) (na nl c0 c2 : Nat) (s : ByteArray) (w : World) (h : 500 < (na : Int) ∨ (¬ 500 < (na : Int) ∧ 500 < (s.size : Int)) ∨ (¬ 500 < (na : Int) ∧ ¬ 500 < (s.size : Int) ∧ 20 < (nl : Int))) :
    Calls Tryd.prog 8 #[.slice A0 na c0, .string s, .slice A2 nl c2] w fun e w' => e = .returned (.bool true) ∧ Below w.heap.size w w' := by
  rcases h with h | ⟨h1, h2⟩ | ⟨h1, h2, h3⟩
  all_goals
    go_enter Tryd.func8, Tryd.ntmps8
    go_wp2
    go_ret
    exact ⟨rfl, Below.refl _ _⟩
theorem hmacDerive_any (a0 : Option Addr) (len0 cap0 : Nat) (z0 : List Int) (s : ByteArray) (a2 : Option Addr) (len2 cap2 : Nat) (z2 : List Int) (w : World)
    (w0 : IsRow .u8 w a0 len0 cap0 z0) (ws : s.size ≤ maxLen) (w2 : IsRow .i64 w a2 len2 cap2 z2) (hF : LaidF w) (hK : LaidK w) :
    Calls Tryd.prog 8 #[.slice a0 len0 cap0, .string s, .slice a2 len2 cap2] w fun e w' => e = .returned (.bool true) ∧ Below w.heap.size w w' := by
  by_cases h : 500 < (len0 : Int) ∨ (¬ 500 < (len0 : Int) ∧ 500 < (s.size : Int)) ∨ (¬ 500 < (len0 : Int) ∧ ¬ 500 < (s.size : Int) ∧ 20 < (len2 : Int))
  · exact hmacDerive_out a0 a2 len0 len2 cap0 cap2 s w h
  · exact hmacDerive_in cap0 cap2 s w w0.bs.1 w2.ns (by omega) (by omega) (by omega) hF hK
end Go.Proofs.YtmglhfhcljdfcaaDoor
