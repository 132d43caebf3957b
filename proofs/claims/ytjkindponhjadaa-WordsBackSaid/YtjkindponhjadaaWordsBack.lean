/- The walk of WordsBack: what is put is loaded again, wherever it stands. -/
import Derived.Test.YtjkindponhjadaaWordsXor
namespace Go.Proofs.Ytjkindponhjadaa
open Go.ChangeShapes Go.WideShapes Go.ChangeAt Go.RowKit
set_option linter.unusedVariables false
open Plain
theorem putZ_succ (x : Int) (s : Nat) (h0 : 0 ≤ x) : putZ x (s + 1) = putZ (x / 256) s ++ [x % 256] := by
  refine list_ext_getD (by simp [putZ_len]) (fun j hj => ?_)
  rw [putZ_len] at hj
  rw [putZ_at x (s + 1) j hj]
  by_cases hjs : j < s
  · have e : (putZ (x / 256) s ++ [x % 256]).getD j 0 = (putZ (x / 256) s).getD j 0 := by
      simp only [List.getD_eq_getElem?_getD]
      rw [List.getElem?_append_left (by rw [putZ_len]; exact hjs)]
    rw [e, putZ_at _ s j hjs, show s + 1 - 1 - j = (s - 1 - j) + 1 from by omega, Int.pow_succ, Int.mul_comm (256 ^ (s - 1 - j)), Int.ediv_ediv_of_nonneg (by omega)]
  · obtain rfl : j = s := by omega
    have e : (putZ (x / 256) j ++ [x % 256]).getD j 0 = x % 256 := by
      simp only [List.getD_eq_getElem?_getD]
      rw [List.getElem?_append_right (by rw [putZ_len]; omega), putZ_len]
      simp
    rw [e, show j + 1 - 1 - j = 0 from by omega]
    simp
theorem numZ_putZ (s : Nat) : ∀ x : Int, 0 ≤ x → x < 256 ^ s → numZ (putZ x s) = x := by
  induction s with
  | zero => intro x h0 h1; have : x = 0 := by simp at h1; omega
            subst this; rfl
  | succ s ih =>
    intro x h0 h1
    rw [Int.pow_succ] at h1
    rw [putZ_succ x s h0, numZ_snoc, ih (x / 256) (by omega) (by omega)]
    omega
theorem three_first (zs p q : List Int) : ((zs ++ p ++ q).drop zs.length).take p.length = p := by
  rw [List.append_assoc, List.drop_left, List.take_left]
theorem three_rest (zs p q : List Int) : ((zs ++ p ++ q).drop (zs.length + p.length)).take q.length = q := by
  rw [← List.length_append, List.drop_left, List.take_of_length_le (Nat.le_refl _)]
set_option maxHeartbeats 1000000 in
theorem wordsBack_walk (a0 : Int) (a1 : Int) (a2 : Option Addr) (len2 cap2 : Nat) (z2 : List Int) (w : World) (w0 : (Lit.int .u32 a0).wf = true) (w1 : (Lit.int .u64 a1).wf = true) (w2 : IsRow .u8 w a2 len2 cap2 z2) :
    Calls Try.prog 7 #[.int .u32 a0, .int .u64 a1, .slice a2 len2 cap2] w fun e w' => e = .returned (.bool true) ∧ Below w.heap.size w w' := by
  obtain ⟨h0, h1⟩ := wf_u32' w0
  obtain ⟨h2, h3⟩ := wf_u64 w1
  obtain ⟨hb0, hm0, hc0⟩ := w2.bs
  generalize z2.take len2 = zs at *
  have hm0' : len2 ≤ 9223372036854775807 := by unfold maxLen at hm0; omega
  have HM0 := Lib.hid hm0
  clear hm0 w0 w1 w2
  by_cases hlen : 5000 < len2
  · have : (5000 : Int) < len2 := by omega
    go_enter Try.func7, Try.ntmps7
    go_wp2_with (go_at_call 28; refine (awake_any w).mono ?_; rintro e w1 ⟨rfl, hb⟩)
    go_ret
    exact ⟨rfl, hb⟩
  have hz := hb0.isBytes
  have hL := hb0.len
  have hB : IsBytes (zs ++ putZ a0 4 ++ putZ a1 8) := (hz.app (putZ_bytes _ _)).app (putZ_bytes _ _)
  have hn : (zs ++ putZ a0 4 ++ putZ a1 8).length = len2 + 12 := by simp [putZ_len, hL]
  have p1 : ((zs ++ putZ a0 4 ++ putZ a1 8).drop len2).take 4 = putZ a0 4 := by have := three_first zs (putZ a0 4) (putZ a1 8); rwa [putZ_len, hL] at this
  have p2 : ((zs ++ putZ a0 4 ++ putZ a1 8).drop (len2 + 4)).take 8 = putZ a1 8 := by have := three_rest zs (putZ a0 4) (putZ a1 8); rwa [putZ_len, putZ_len, hL] at this
  have e1 : loadZ (zs ++ putZ a0 4 ++ putZ a1 8) (len2 : Int) 4 = a0 := by rw [loadZ_yes _ _ _ (by omega), p1, numZ_putZ 4 a0 h0 (by omega)]
  have e2 : loadZ (zs ++ putZ a0 4 ++ putZ a1 8) ((len2 : Int) + 4) 8 = a1 := by
    have := loadZ_yes (zs ++ putZ a0 4 ++ putZ a1 8) (len2 + 4) 8 (by omega)
    rw [show ((len2 + 4 : Nat) : Int) = (len2 : Int) + 4 from by omega] at this
    rw [this, p2, numZ_putZ 8 a1 h2 (by omega)]
  have e3 : loadOk (len2 + 12) (len2 : Int) 4 = true := by unfold loadOk; simp
  have e4 : loadOk (len2 + 12) ((len2 : Int) + 4) 8 = true := by unfold loadOk; simp; omega
  have e5 : loadOk (len2 + 12) ((len2 : Int) + 5) 8 = false := by unfold loadOk; simp; omega
  generalize hb : zs ++ putZ a0 4 ++ putZ a1 8 = bs at *
  have HB := Lib.hid hb
  have HBs := Lib.hid hB
  have HN := Lib.hid hn
  have HP1 := Lib.hid p1
  have HP2 := Lib.hid p2
  have HL := Lib.hid hL
  clear hb hB hn p1 p2 hL hz
  go_enter Try.func7, Try.ntmps7
  go_wp2_with (first
    | (go_at_call 28; refine (awake_any w).mono ?_; rintro e w1 ⟨rfl, hb⟩)
    | (go_at_call 20; refine (put32_any _ h0 h1 _).mono ?_; intro e w2 hm; obtain ⟨A, c, rfl, ho1, hb1, _, hc1⟩ := hm.n (n := 4) (putZ_len ..))
    | (go_at_call 21; refine (put64_any _ h2 h3 _).mono ?_; intro e w3 hm; obtain ⟨D, d, rfl, ho2, hb2, _, hd1⟩ := hm.n (n := 8) (putZ_len ..)))
  have hs1 := hb.size
  have hs2 := hb1.size
  have hs3 := hb2.size
  have hbw3 : Below w.heap.size w w3 := (hb.trans (hb1.mono hs1)).trans (hb2.mono (by omega))
  have R0 := hb0.below hbw3
  have R1 : Bs w3 w2.heap.size A 4 (putZ a0 4) := (bs_of_own ho1 (putZ_bytes _ _)).below hb2
  have R2 : Bs w3 w3.heap.size D 8 (putZ a1 8) := bs_of_own ho2 (putZ_bytes _ _)
  have hs4 := hbw3.size
  clear hm ho1 ho2 hb hb1 hb2 hb0
  refine (cat3_any cap2 c d 25 R0 R1 R2 (by omega) (by omega) (Nat.le_refl _) (by omega) 3 w3.heap.size rfl).mono ?_
  rw [HB.out]
  intro e w4 hm
  obtain ⟨X, cx, rfl, hox, hb4, hcx, hcx2⟩ := hm.n HN.out
  have hbw4 : Below w.heap.size w w4 := (hbw3.alloc hs4 _).trans (hb4.mono (by simp; omega))
  have RX : Bs w4 w4.heap.size X (len2 + 12) bs := bs_of_own hox HBs.out
  have hs5 := hbw4.size
  have hcx3 : cx ≤ 9223372036854775807 := by unfold maxLen at hcx2; omega
  have HCX := Lib.hid hcx2
  clear hm hb4 hox hbw3 R0 R1 R2 hcx2
  have hM : Hid (len2 + 12 ≤ maxLen) := Lib.hid (by unfold maxLen; omega)
  go_wp2_with fail
  refine (load32_any cx RX hM.out (len2 : Int) (by omega)).mono ?_
  rintro e w5 ⟨rfl, m5, rfl⟩
  go_wp2_with fail
  refine (load64_any cx (RX.drewN _) hM.out _ (by omega)).mono ?_
  rintro e w5 ⟨rfl, m6, rfl⟩
  go_wp2_with fail
  refine (load64_any cx (RX.drewN _) hM.out _ (by omega)).mono ?_
  rintro e w5 ⟨rfl, m7, rfl⟩
  obtain ⟨xb, xo, rfl, hxb, _⟩ := RX.row (by omega)
  have i1 : (0 : Int) ≤ (len2 : Int) := by omega
  have i2 : (len2 : Int) + 4 ≤ (cx : Int) := by omega
  have i3 : (len2 : Int) + 12 ≤ (cx : Int) := by omega
  have i4 : ¬ cx = len2 := by omega
  have i5 : ¬ cx = len2 + 4 := by omega
  have hMx : Hid (4 ≤ maxLen ∧ 8 ≤ maxLen) := Lib.hid (by unfold maxLen; omega)
  have E1 : Hid (eqB (putZ a0 4) ((bs.drop len2).take 4) = true) := Lib.hid (by rw [HP1.out, eqB_self])
  have E2 : Hid (eqB (putZ a1 8) ((bs.drop (len2 + 4)).take 8) = true) := Lib.hid (by rw [HP2.out, eqB_self])
  go_wp2_with fail
  have hbz : Below w.heap.size w (w4.drewN (m5 + m6 + m7)) := below_drewN hbw4 _
  have hsz : w4.heap.size ≤ (w4.drewN (m5 + m6 + m7)).heap.size := Nat.le_refl _
  have RC1 : Bs (w4.drewN (m5 + m6 + m7)) w4.heap.size (some ⟨xb, xo + len2, none⟩) 4 ((bs.drop len2).take 4) := (RX.drewN _).cut (by omega) _ (fun b off e _ => by injection e with e; injection e with e1 e2; subst e1 e2; rfl)
  have RC2 : Bs (w4.drewN (m5 + m6 + m7)) w4.heap.size (some ⟨xb, xo + (len2 + 4), none⟩) 8 ((bs.drop (len2 + 4)).take 8) := (RX.drewN _).cut (by omega) _ (fun b off e _ => by injection e with e; injection e with e1 e2; subst e1 e2; rfl)
  have HRC1 := Lib.hid RC1
  have HRC2 := Lib.hid RC2
  have BZ := Lib.hid hbz
  have SZ := Lib.hid hsz
  clear RC1 RC2 RX hbw4 hbz hsz hxb hs5 hs4 hs3 hs2 hs1 HB HBs HN HP1 HP2 HL HM0 HCX hM
  generalize w4.drewN (m5 + m6 + m7) = wz at *
  have s1 : IntKind.i64.wrap ((len2 : Int) + 4) = (len2 : Int) + 4 := IntWalk.i64_in _ (by omega)
  have s2 : (0 : Int) ≤ (len2 : Int) + 4 := by omega
  have s4 : (len2 : Int) ≤ (len2 : Int) + 4 := by omega
  have s5 : (len2 : Int) + 4 ≤ (len2 : Int) + 12 := by omega
  have s3 : ((len2 : Int) + 4).toNat = len2 + 4 := by omega
  go_region_held3 (fun _ => True) (exact trivial) ((first
    | (go_at_call 20; refine (put32_any a0 h0 h1 _).mono ?_; intro e w8 hm; obtain ⟨P, pc, rfl, hop, hbp, _, _⟩ := hm.n (n := 4) (putZ_len ..); have RQ1 := (HRC1.out.drew).belowM hbp SZ.out; have RQ2 := (HRC2.out.drew).belowM hbp SZ.out; have RP : Bs w8 w8.heap.size P 4 (putZ a0 4) := bs_of_own hop (putZ_bytes _ _); have B8 := Lib.hid ((BZ.out.drew).trans (hbp.mono BZ.out.size)); have S8 := Lib.hid (Nat.le_trans SZ.out hbp.size))
    | (go_at_call 21; refine (put64_any a1 h2 h3 _).mono ?_; intro e w10 hm; obtain ⟨P2, pc2, rfl, hop2, hbq, _, _⟩ := hm.n (n := 8) (putZ_len ..); have RQ3 := (RQ2.drewN m9).belowM hbq S8.out; have RP2 : Bs w10 w10.heap.size P2 8 (putZ a1 8) := bs_of_own hop2 (putZ_bytes _ _); have B10 := Lib.hid ((below_drewN B8.out m9).trans (hbq.mono B8.out.size)))
    | (go_at_call_of 27 (Value.slice P 4 pc); refine (same_any pc (cx - len2) RP RQ1 hMx.out.1 hMx.out.1).mono ?_; rw [E1.out]; rintro e w9 ⟨rfl, m9, rfl⟩)
    | (go_at_call 27; refine (same_any pc2 (cx - (len2 + 4)) RP2 RQ3 hMx.out.2 hMx.out.2).mono ?_; rw [E2.out]; rintro e w11 ⟨rfl, m11, rfl⟩)))
  go_wp2
  go_ret
  exact ⟨rfl, below_drewN B10.out _⟩
end Go.Proofs.Ytjkindponhjadaa
