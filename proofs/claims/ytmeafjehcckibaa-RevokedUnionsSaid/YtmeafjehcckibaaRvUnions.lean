/- The law RevokedUnions. -/
import Derived.Test.YtmeafjehcckibaaRvH
namespace Go.Proofs.Ytmeafjehcckibaa
open Go.ChangeShapes Go.WideShapes Go.ChangeAt Go.RowKit
set_option linter.unusedVariables false
set_option linter.unusedSimpArgs false
open Plain
set_option maxRecDepth 100000 in
set_option maxHeartbeats 4000000 in
theorem rvun_any (A1 : Option Addr) (n1 c1 : Nat) (zs1 : List Int) (A2 : Option Addr) (n2 c2 : Nat) (zs2 : List Int) (w : World) (h1 : IsRow .i64 w A1 n1 c1 zs1) (h2 : IsRow .i64 w A2 n2 c2 zs2) :
    Calls Try.prog 5 #[.slice A1 n1 c1, .slice A2 n2 c2] w (fun e w' => e = .returned (.bool true) ∧ Below w.heap.size w w') := by
  have R1 := Lib.hid h1.rw
  have R2 := Lib.hid h2.rw
  generalize zs1.take n1 = za at R1
  generalize zs2.take n2 = zb at R2
  clear h1 h2
  by_cases h60 : 60 < n1
  · have hI : 60 < (n1 : Int) := by omega
    go_enter Try.func5, Try.ntmps5
    go_wp2
    go_ret
    exact ⟨rfl, Below.refl _ _⟩
  have hI : ¬ (60 < (n1 : Int)) := by omega
  by_cases m60 : 60 < n2
  · have mI : 60 < (n2 : Int) := by omega
    go_enter Try.func5, Try.ntmps5
    go_wp2
    go_ret
    exact ⟨rfl, Below.refl _ _⟩
  have mI : ¬ (60 < (n2 : Int)) := by omega
  have OW0 := Lib.hid (own_noneI w w.heap.size (Nat.le_refl _))
  have BA : Hid (Below w.heap.size w (w.alloc (.cells #[] 3))) := Lib.hid ((Below.refl _ _).alloc (Nat.le_refl _) _)
  have HL1 := Lib.hid (R1.out.ir.below BA.out (Nat.le_refl _)).lies
  obtain ⟨p, hp⟩ : ∃ p, unP za zb = p := ⟨_, rfl⟩
  obtain ⟨m, hm⟩ : ∃ m, p.1.length = m := ⟨_, rfl⟩
  have hm32 : m ≤ 32 := by rw [← hm, ← hp]; exact unP_len _ _
  have HP := Lib.hid hp
  have HM := Lib.hid hm
  clear hp hm
  obtain ⟨k, hk⟩ : ∃ k, p.2 = k := ⟨_, rfl⟩
  have HK := Lib.hid hk
  have ekk : (k == k) = true := by simp
  clear hk
  go_enter Try.func5, Try.ntmps5
  go_upto_region 4 with (first
    | (at_builtin; refine wpList_app _ rfl (.tmp 21) (.tmp 22) 22 rfl w.heap.size 3 1 8 Try.underlying22 int_info (by omega) _ 0 (ivs []) rfl OW0.out A1 n1 c1 (ivs za) rfl HL1.out.1 HL1.out.2 (iv_one _) (by unfold maxLen; omega) (by omega) BA.out.size ?_; intro v1 w1 ho1 hg1; have B1 := Lib.hid (BA.out.grown hg1 BA.out.size (fun q hq => (OW0.out.lt q hq).1)); rw [Nat.zero_add] at ho1; have O1 := Lib.hid ho1; have OW1 := Lib.hid (own_noneI w1 w1.heap.size (Nat.le_refl _)); have BA1 : Hid (Below w1.heap.size w1 (w1.alloc (.cells #[] 3))) := Lib.hid ((Below.refl _ _).alloc (Nat.le_refl _) _); have HL2 := Lib.hid ((R2.out.below B1.out).ir.below BA1.out (Nat.le_refl _)).lies; clear ho1 hg1)
    | (at_builtin; refine wpList_app _ rfl (.tmp 24) (.tmp 25) 22 rfl w1.heap.size 3 1 8 Try.underlying22 int_info (by omega) _ 0 (ivs []) rfl OW1.out A2 n2 c2 (ivs zb) rfl HL2.out.1 HL2.out.2 (iv_one _) (by unfold maxLen; omega) (by omega) BA1.out.size ?_; intro v2 w2 ho2 hg2; have B12 := Lib.hid (BA1.out.grown hg2 BA1.out.size (fun q hq => (OW1.out.lt q hq).1)); rw [Nat.zero_add] at ho2; have O2 := Lib.hid ho2; clear ho2 hg2))
  have o1 : w1.ownsRow w.heap.size 3 1 v1 n1 (ivs za) := O1.out
  have o2 : w2.ownsRow w1.heap.size 3 1 v2 n2 (ivs zb) := O2.out
  obtain ⟨D1, d1, rfl, e1, e2⟩ := own_shape o1
  obtain ⟨D2, d2, rfl, e3, e4⟩ := own_shape o2
  have X1 := Lib.hid ((rw_own o1 e1 e2).below B12.out)
  have X2 := Lib.hid (rw_own o2 e3 e4)
  have B2 := Lib.hid (B1.out.trans (B12.out.mono B1.out.size))
  have Y1 := Lib.hid (R1.out.below B2.out)
  have Y2 := Lib.hid (R2.out.below B2.out)
  clear o1 o2 e1 e2 e3 e4 O1 O2 B12 OW1 BA1 HL2 B1 OW0 BA HL1
  go_upto_region 5 with (go_at_call 19; refine (union_any p X1.out X2.out HP.out).mono ?_; intro e w3 hg3; obtain ⟨D3, d3, rfl, ho3, hb3, _, _⟩ := hg3.n rfl HK.out HM.out; have O3 := Lib.hid ho3; have B3 := Lib.hid hb3; clear hg3 ho3 hb3)
  have hs23 := B3.out.size
  have I1 := Lib.hid ((Y1.out.below B3.out).ir)
  have I2 := Lib.hid ((Y2.out.below B3.out).ir)
  go_upto_region 6 with (go_at_call 20; refine (refunion_any (c1 := c1) (c2 := c2) p I1.out I2.out (Nat.le_refl _) (Nat.le_refl _) (by unfold maxLen; omega) (by unfold maxLen; omega) HP.out).mono ?_; intro e w4 hg4; obtain ⟨D4, d4, rfl, ho4, hb4, _, _⟩ := hg4.n rfl HK.out HM.out; have O4 := Lib.hid ho4; have B4 := Lib.hid hb4; clear hg4 ho4 hb4)
  have GOT := Lib.hid ((ir_of_own O3.out).below B4.out (Nat.le_refl _))
  have WANT := Lib.hid (ir_of_own O4.out)
  go_upto_region 7 with (go_at_call 11; refine (refsame10_any d3 d4 true GOT.out WANT.out (by unfold maxLen; omega) (eqB_self10 _)).mono ?_; rintro e w5 ⟨rfl, hq5⟩; have Q5 := Lib.hid hq5; clear hq5)
  have b45 := below_quiet Q5.out
  have b25 : Below w2.heap.size w2 w5 := B3.out.trans ((B4.out.trans (b45.mono B4.out.size)).mono hs23)
  have o5 : OwnI w5 w2.heap.size D3 m d3 := ⟨_, own_below (own_below O3.out B4.out (Nat.le_refl _)) b45 (Nat.le_refl _)⟩
  have X15 := Lib.hid X1.out.ir
  have X25 := Lib.hid X2.out.ir
  have B05 := Lib.hid B2.out
  have ho5 := Lib.hid o5
  have hb25 := Lib.hid b25
  clear b45 b25 o5 GOT WANT Q5 O3 O4 B3 B4 I1 I2 hs23 X1 X2
  go_wp2
  go_loopw [12] (fun i wr => ∃ k : Nat, k ≤ m ∧ i = .int .i64 k ∧ Hid (OwnI wr w2.heap.size D3 m d3) ∧ Hid (Below w2.heap.size w2 wr)) (fun i _ => m - (intOf i).toNat)
  case atStart => exact ⟨0, by omega, rfl, ho5, hb25⟩
  case round =>
    obtain ⟨j, hj, rfl, HO, HB⟩ := hrel
    by_cases hlt : j < m
    · have hltI : (j : Int) < (m : Int) := by omega
      obtain ⟨g, u, rfl, hg1, hg2, hc, hf, HS⟩ := HO.out.at_ hlt
      have HB2 := Lib.hid (HB.out.setCell (p := ⟨g, j, none⟩) hg1 (.int .i64 (-5)))
      have HS2 := Lib.hid (HS.out (-5))
      clear HS
      go_wp2
      go_roundw
      case rel => exact ⟨j + 1, by omega, by go_num, HS2, HB2⟩
      case measure => simp [intOf]; omega
    · have J1 := Lib.hid (X15.out.below HB.out (Nat.le_refl _))
      have J2 := Lib.hid (X25.out.below HB.out (Nat.le_refl _))
      have K1 := Lib.hid ((Y1.out.below HB.out).ir)
      have K2 := Lib.hid ((Y2.out.below HB.out).ir)
      have HBW := Lib.hid (B05.out.trans (HB.out.mono B05.out.size))
      have C1 := Lib.hid (fun (V : World) (hV : ∃ m, V = wr.drewN m) => refsame10_any (w := V) d1 c1 true (J1.out.keepQ hV) (K1.out.keepQ hV) (by unfold maxLen; omega) (eqB_self10 za))
      have C2 := Lib.hid (fun (V : World) (hV : ∃ m, V = wr.drewN m) => refsame10_any (w := V) d2 c2 true (J2.out.keepQ hV) (K2.out.keepQ hV) (by unfold maxLen; omega) (eqB_self10 zb))
      go_wp2_with (first
        | (go_at_call_of 11 (Value.slice D1 n1 d1); refine (C1.out wr ⟨0, rfl⟩).mono ?_; rintro e w6 ⟨rfl, hq6⟩; have Q6 := Lib.hid hq6; clear hq6)
        | (go_at_call_of 11 (Value.slice D2 n2 d2); refine (C2.out w6 Q6.out).mono ?_; rintro e w7 ⟨rfl, hq7⟩; have Q7 := Lib.hid (quiet_two Q6.out hq7); clear hq7)
        | (go_at_call 14; refine (rawake_any w7).mono ?_; rintro e w8 ⟨rfl, hb8⟩; have B8 := Lib.hid hb8; clear hb8))
      go_ret
      have b7 := HBW.out.trans ((below_quiet Q7.out).mono HBW.out.size)
      exact ⟨rfl, b7.trans (B8.out.mono b7.size)⟩
end Go.Proofs.Ytmeafjehcckibaa
