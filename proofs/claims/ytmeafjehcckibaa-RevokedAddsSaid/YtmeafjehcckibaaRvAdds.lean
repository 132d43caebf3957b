/- The law RevokedAdds. -/
import Derived.Test.YtmeafjehcckibaaRvH
namespace Go.Proofs.Ytmeafjehcckibaa
open Go.ChangeShapes Go.WideShapes Go.ChangeAt Go.RowKit
set_option linter.unusedVariables false
set_option linter.unusedSimpArgs false
open Plain
set_option maxRecDepth 100000 in
set_option maxHeartbeats 4000000 in
theorem rvadds_any (A1 : Option Addr) (n c1 : Nat) (zs : List Int) (x : Int) (w : World) (h1 : IsRow .i64 w A1 n c1 zs) (hx : -9223372036854775808 ≤ x ∧ x ≤ 9223372036854775807) :
    Calls Try.prog 3 #[.slice A1 n c1, .int .i64 x] w (fun e w' => e = .returned (.bool true) ∧ Below w.heap.size w w') := by
  have R1 := Lib.hid h1.rw
  generalize zs.take n = za at R1
  clear h1 hx
  by_cases h60 : 60 < n
  · have hI : 60 < (n : Int) := by omega
    go_enter Try.func3, Try.ntmps3
    go_wp2
    go_ret
    exact ⟨rfl, Below.refl _ _⟩
  have hI : ¬ (60 < (n : Int)) := by omega
  have LZ : Hid (za.length = n) := Lib.hid R1.out.ir.len
  have OW0 := Lib.hid (own_noneI w w.heap.size (Nat.le_refl _))
  have BA : Hid (Below w.heap.size w (w.alloc (.cells #[] 3))) := Lib.hid ((Below.refl _ _).alloc (Nat.le_refl _) _)
  have HL1 := Lib.hid (R1.out.ir.below BA.out (Nat.le_refl _)).lies
  obtain ⟨p, hp⟩ : ∃ p, addP za x = p := ⟨_, rfl⟩
  obtain ⟨m, hm⟩ : ∃ m, p.1.length = m := ⟨_, rfl⟩
  have hm32 : m ≤ 32 := by rw [← hm, ← hp]; exact addP_short _ _
  have HP := Lib.hid hp
  have HM := Lib.hid hm
  clear hp hm
  obtain ⟨k, hk⟩ : ∃ k, p.2 = k := ⟨_, rfl⟩
  have HK := Lib.hid hk
  have ekk : (k != k) = false := by simp
  obtain ⟨qm, hqm⟩ : ∃ q, setB za = q := ⟨_, rfl⟩
  have HQM := Lib.hid hqm
  have eqm : (qm != qm) = false := by simp
  clear hk hqm
  go_enter Try.func3, Try.ntmps3
  go_upto_region 4 with (first
    | (at_builtin; refine wpList_app _ rfl (.tmp 14) (.tmp 15) 22 rfl w.heap.size 3 1 8 Try.underlying22 int_info (by omega) _ 0 (ivs []) rfl OW0.out A1 n c1 (ivs za) rfl HL1.out.1 HL1.out.2 (iv_one _) (by unfold maxLen; omega) (by omega) BA.out.size ?_; intro v1 w1 ho1 hg1; have B1 := Lib.hid (BA.out.grown hg1 BA.out.size (fun q hq => (OW0.out.lt q hq).1)); rw [Nat.zero_add] at ho1; have O1 := Lib.hid ho1; clear ho1 hg1)
    | (at_builtin; refine wpList_app _ rfl (.tmp 16) (.tmp 17) 22 rfl w.heap.size 3 1 8 Try.underlying22 int_info (by omega) v1 n (ivs za) rfl (O1.out.alloc _) (some ⟨w1.heap.size, 0, none⟩) 2 2 (ivs [99, 98]) rfl ((ir_new w1 [99, 98] 2 rfl 3 _ rfl).lies.1) (fun h => by cases h) (iv_one _) (by unfold maxLen; omega) (by omega) (by have := B1.out.size; simp; omega) ?_; intro v2 w2 ho2 hg2; have B2 := Lib.hid ((B1.out.alloc B1.out.size _).grown hg2 (by have := B1.out.size; simp; omega) (fun q hq => (O1.out.lt q hq).1)); have O2 := Lib.hid ho2; clear ho2 hg2))
  have o2 := O2.out
  have eO : ivs [] ++ ivs za ++ ivs [99, 98] = ivs (za ++ [99, 98]) := by simp [ivs]
  have eO' : ivs za ++ ivs [99, 98] = ivs (za ++ [99, 98]) := by simp [ivs]
  first | rw [eO] at o2 | rw [eO'] at o2
  obtain ⟨D1, d1, rfl, e1, e2⟩ := own_shape o2
  have X0 := Lib.hid (ir_of_own o2)
  have X1 : Hid (Rw w2 D1 n d1 za) := Lib.hid ⟨X0.out.front LZ.out, by omega, e2⟩
  have Y1 := Lib.hid (R1.out.below B2.out)
  have hcap : n + 2 ≤ d1 := e1
  have hn2 : (n : Int) ≤ (d1 : Int) := by omega
  clear o2 eO eO' e1 e2 O1 O2 B1 OW0 BA HL1
  go_upto_region 5 with (go_at_call 9; refine (add_any10 x p X1.out HP.out).mono ?_; intro e w3 hg3; obtain ⟨D3, d3, rfl, ho3, hb3, _, _⟩ := hg3.n rfl HK.out HM.out; have O3 := Lib.hid ho3; have B3 := Lib.hid hb3; clear hg3 ho3 hb3)
  have hs23 := B3.out.size
  have I1 := Lib.hid ((Y1.out.below B3.out).ir)
  go_upto_region 6 with (go_at_call 10; refine (refadd_any (c := c1) x p I1.out (Nat.le_refl _) (by unfold maxLen; omega) HP.out).mono ?_; intro e w4 hg4; obtain ⟨D4, d4, rfl, ho4, hb4, _, _⟩ := hg4.n rfl HK.out HM.out; have O4 := Lib.hid ho4; have B4 := Lib.hid hb4; clear hg4 ho4 hb4)
  have GOT := Lib.hid ((ir_of_own O3.out).below B4.out (Nat.le_refl _))
  have WANT := Lib.hid (ir_of_own O4.out)
  have B24 := Lib.hid (B3.out.trans (B4.out.mono hs23))
  have X14 := Lib.hid (X1.out.ir.below B24.out (Nat.le_refl _))
  have Y14 := Lib.hid ((Y1.out.below B24.out).ir)
  have CM1 := Lib.hid (fun (V : World) (hV : ∃ m, V = w4.drewN m) => may_any (w := V) d1 (X14.out.keepQ hV))
  have CM2 := Lib.hid (fun (V : World) (hV : ∃ m, V = w4.drewN m) => refmay10_any (w := V) c1 (Y14.out.keepQ hV) (by unfold maxLen; omega))
  rw [HQM.out] at CM1 CM2
  go_upto_region 8 with (first
    | (go_at_call 11; refine (refsame10_any d3 d4 true GOT.out WANT.out (by unfold maxLen; omega) (eqB_self10 _)).mono ?_; rintro e w5 ⟨rfl, hq5⟩; have Q5 := Lib.hid hq5; clear hq5)
    | (go_at_call 12; refine (CM1.out _ Q5.out).mono ?_; rintro e w6 ⟨rfl, rfl⟩)
    | (go_at_call 13; refine (CM2.out _ Q5.out).mono ?_; rintro e w7 ⟨rfl, hq7⟩; have Q7 := Lib.hid (quiet_two Q5.out hq7); clear hq7))
  have b47 := below_quiet Q7.out
  have b27 : Below w2.heap.size w2 w7 := B24.out.trans (b47.mono B24.out.size)
  have o7 : OwnI w7 w2.heap.size D3 m d3 := ⟨_, own_below (own_below O3.out B4.out (Nat.le_refl _)) b47 (Nat.le_refl _)⟩
  have B02 := Lib.hid B2.out
  have X02 := X0
  have X12 := Lib.hid X1.out.ir
  have ho7 := Lib.hid o7
  have hb27 := Lib.hid b27
  clear b47 b27 o7 GOT WANT Q5 Q7 O3 O4 B3 B4 I1 hs23 X1 X0 X14 Y14 CM1 CM2 B24 eqm ekk
  go_wp2
  go_loopw [10] (fun i wr => ∃ k : Nat, k ≤ m ∧ i = .int .i64 k ∧ Hid (OwnI wr w2.heap.size D3 m d3) ∧ Hid (Below w2.heap.size w2 wr)) (fun i _ => m - (intOf i).toNat)
  case atStart => exact ⟨0, by omega, rfl, ho7, hb27⟩
  case round =>
    obtain ⟨j, hj, rfl, HO, HB⟩ := hrel
    by_cases hlt : j < m
    · have hltI : (j : Int) < (m : Int) := by omega
      obtain ⟨g, u, rfl, hg1, hg2, hc, hf, HS⟩ := HO.out.at_ hlt
      have HB2 := Lib.hid (HB.out.setCell (p := ⟨g, j, none⟩) hg1 (.int .i64 (-5)))
      have HS2 := Lib.hid (HS.out (-5))
      clear HS
      go_wp2
      go_roundw
      case rel => exact ⟨j + 1, by omega, by go_num, HS2, HB2⟩
      case measure => simp [intOf]; omega
    · have J1 := Lib.hid (X12.out.below HB.out (Nat.le_refl _))
      have J0 := Lib.hid (X02.out.below HB.out (Nat.le_refl _))
      have K1 := Lib.hid ((Y1.out.below HB.out).ir)
      have HBW := Lib.hid (B02.out.trans (HB.out.mono B02.out.size))
      have C1 := Lib.hid (refsame10_any (w := wr) d1 c1 true J1.out K1.out (by unfold maxLen; omega) (eqB_self10 za))
      have kn1 : (n : Int) < ((n + 2 : Nat) : Int) := by omega
      have kn2 : (n : Int) + 1 < ((n + 2 : Nat) : Int) := by omega
      obtain ⟨b, off, eD, hb, g1⟩ := J0.out.back (k := 0) (y := 99) LZ.out (by omega) rfl
      obtain ⟨b', off', eD', _, g2⟩ := J0.out.back (k := 1) (y := 98) LZ.out (by omega) rfl
      subst eD
      injection eD' with eD'; injection eD' with q1 q2 q3
      subst q1 q2
      rw [Nat.add_zero] at g1
      have HG := Lib.hid (And.intro g1 g2)
      clear g1 g2
      go_wp2_with fail
      refine C1.out.mono ?_
      rintro e w8 ⟨rfl, hq8⟩
      have Q8 := Lib.hid hq8
      have g1 : w8.cell? ⟨b, off + n, none⟩ = some (.int .i64 99) := by
        obtain ⟨q, rfl⟩ := hq8
        exact HG.out.1
      have g2 : w8.cell? ⟨b, off + (n + 1), none⟩ = some (.int .i64 98) := by
        obtain ⟨q, rfl⟩ := hq8
        exact HG.out.2
      clear hq8
      go_wp2_with fail
      refine (rawake_any w8).mono ?_
      rintro e w9 ⟨rfl, hb9⟩
      have B9 := Lib.hid hb9
      clear hb9
      go_wp2
      go_ret
      have b8 := HBW.out.trans ((below_quiet Q8.out).mono HBW.out.size)
      exact ⟨rfl, b8.trans (B9.out.mono b8.size)⟩
end Go.Proofs.Ytmeafjehcckibaa
