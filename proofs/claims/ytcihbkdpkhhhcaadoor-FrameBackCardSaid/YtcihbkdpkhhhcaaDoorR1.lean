/- The document's own answer for sha: turns, constants, a message with its end. -/
import Derived.Test.YtcihbkdpkhhhcaaDoorBlock
import Derived.Test.YtcihbkdpkhhhcaaDoorWords
import Derived.Test.YtcihbkdpkhhhcaaDoorOwn
import Derived.Test.YtcihbkdpkhhhcaaDoorEnd
namespace Go.Proofs.YtcihbkdpkhhhcaaDoor
open Go.ChangeShapes Go.WideShapes Go.ChangeAt Go.RowKit
set_option linter.unusedVariables false
open Plain Sha
theorem chx_bits (e f g : Nat) (he : e < 4294967296) (hf : f < 4294967296) (hg : g < 4294967296) :
    bits .xor .u32 (bits .and .u32 (e : Int) (f : Int)) (bits .and .u32 (bits .xor .u32 IntKind.u32.max (e : Int)) (g : Int)) = ((ch e f g : Nat) : Int) := by
  have e1 : bits .xor .u32 IntKind.u32.max (e : Int) = ((4294967295 - e : Nat) : Int) := by
    have := u32_xor_nat 4294967295 e (by omega) he
    rw [xor_ones e he] at this
    exact this
  rw [e1, u32_and_nat _ _ he hf, u32_and_nat _ _ (by omega) hg, u32_xor_nat _ _ (and_lt hf) (and_lt hg)]
  congr 1
  unfold ch
  rw [← xor_ones e he]
  apply Nat.eq_of_testBit_eq
  intro i
  simp only [Nat.testBit_xor, Nat.testBit_and, Nat.testBit_or]
  have h1 : Nat.testBit 4294967295 i = decide (i < 32) := by rw [show (4294967295 : Nat) = 2 ^ 32 - 1 from rfl, Nat.testBit_two_pow_sub_one]
  rw [h1]
  by_cases hi : i < 32
  · simp only [hi, decide_true]
    cases e.testBit i <;> cases f.testBit i <;> cases g.testBit i <;> rfl
  · have : e.testBit i = false := Nat.testBit_lt_two_pow (Nat.lt_of_lt_of_le he (Nat.pow_le_pow_right (by omega : 2 > 0) (by omega : 32 ≤ i)))
    simp [hi, this]
theorem mjx_bits (a b c : Nat) (ha : a < 4294967296) (hb : b < 4294967296) (hc : c < 4294967296) :
    bits .xor .u32 (bits .xor .u32 (bits .and .u32 (a : Int) (b : Int)) (bits .and .u32 (a : Int) (c : Int))) (bits .and .u32 (b : Int) (c : Int)) = ((mj a b c : Nat) : Int) := by
  rw [u32_and_nat _ _ ha hb, u32_and_nat _ _ ha hc, u32_and_nat _ _ hb hc, u32_xor_nat _ _ (and_lt hb) (and_lt hc), u32_xor_nat _ _ (xor_lt (and_lt hb) (and_lt hc)) (and_lt hc)]
  congr 1
  unfold mj
  apply Nat.eq_of_testBit_eq
  intro i
  simp only [Nat.testBit_xor, Nat.testBit_and, Nat.testBit_or]
  cases a.testBit i <;> cases b.testBit i <;> cases c.testBit i <;> rfl
theorem orN (x k : Nat) (hx : x < 4294967296) (hk : k ≤ 31) (p q : Int) (hp : p = 2 ^ k) (hq : q = 2 ^ (32 - k)) : bits .or .u32 ((x : Int) / p) ((x : Int) * q % 4294967296) = ((rotN x k : Nat) : Int) := by
  subst hp hq
  exact or_split x k hx hk
theorem turnsE_any (x : Nat) (hx : x < 4294967296) (w : World) :
    Calls Tryd.prog 35 #[.int .u32 (x : Int), .int .i64 6, .int .i64 11, .int .i64 25] w (Quiet (.int .u32 ((bs1 x : Nat) : Int)) w) := by
  have h0 : (0 : Int) ≤ (x : Int) := by omega
  have h1 : (x : Int) < 4294967296 := by omega
  go_enter Tryd.func35, Tryd.ntmps35
  go_wp2
  go_quiet (fail)
  go_wp2
  go_ret
  exact ⟨ret_int (by rw [orN x 6 hx (by omega) 64 67108864 rfl rfl, orN x 11 hx (by omega) 2048 2097152 rfl rfl, orN x 25 hx (by omega) 33554432 128 rfl rfl, bs1_bits x hx]), _, rfl⟩
theorem turnsA_any (x : Nat) (hx : x < 4294967296) (w : World) :
    Calls Tryd.prog 35 #[.int .u32 (x : Int), .int .i64 2, .int .i64 13, .int .i64 22] w (Quiet (.int .u32 ((bs0 x : Nat) : Int)) w) := by
  have h0 : (0 : Int) ≤ (x : Int) := by omega
  have h1 : (x : Int) < 4294967296 := by omega
  go_enter Tryd.func35, Tryd.ntmps35
  go_wp2
  go_quiet (fail)
  go_wp2
  go_ret
  exact ⟨ret_int (by rw [orN x 2 hx (by omega) 4 1073741824 rfl rfl, orN x 13 hx (by omega) 8192 524288 rfl rfl, orN x 22 hx (by omega) 4194304 1024 rfl rfl, bs0_bits x hx]), _, rfl⟩
theorem constants_any (w : World) :
    Calls Tryd.prog 32 #[] w fun e w' => e = .returned (.slice (some ⟨w.heap.size, 0, none⟩) 64 64) ∧ Row32 w' w.heap.size kTab ∧ Below w.heap.size w w' ∧ w.heap.size < w'.heap.size := by
  have HR := Lib.hid (Row32.new w kTab 53)
  have HB := Lib.hid ((Below.refl w.heap.size w).alloc (Nat.le_refl _) (.cells (u32s kTab).toArray 53))
  have HS := Lib.hid (show w.heap.size < (w.alloc (.cells (u32s kTab).toArray 53)).heap.size by simp)
  go_enter Tryd.func32, Tryd.ntmps32
  go_wp2
  go_ret
  exact ⟨rfl, HR.out, HB.out, HS.out⟩
theorem tmod_nat' (N : Nat) : ((N : Int)).tmod 64 = ((N % 64 : Nat) : Int) := by
  rw [Int.tmod_eq_emod_of_nonneg (by omega)]; omega
/-- A slice's length. -/
def lenOf : Value → Nat
  | .slice _ n _ => n
  | _ => 0
theorem whole_any {w : World} {B : Nat} {A : Option Addr} {n : Nat} (c : Nat) {zs : List Int} (h : Bs w B A n zs) (hB : B ≤ w.heap.size) (hn : n ≤ 1000000) :
    Calls Tryd.prog 33 #[.slice A n c] w (Made w (zs ++ padZ n)) := by
  have CP := Lib.hid (refcopy_any c h hB (by omega))
  have LZ := Lib.hid h.len
  have BZ := Lib.hid h.isBytes
  obtain ⟨P, hP⟩ : ∃ P, (119 - n % 64) % 64 = P := ⟨_, rfl⟩
  have HP := Lib.hid hP
  obtain ⟨i0, hi0, hz0, hz1, hz2⟩ := info_parts u8_row
  have I0 := Lib.hid hi0
  have I1 := Lib.hid hz0
  have I2 := Lib.hid hz1
  have I3 := Lib.hid hz2
  have hP2 : P < 64 := by omega
  clear h hi0 hz0 hz1 hz2 hP
  go_enter Tryd.func33, Tryd.ntmps33
  go_wp2_with fail
  refine CP.out.mono ?_
  intro e w1 hm1
  obtain ⟨D1, c1, rfl, ho1, b1, _, _⟩ := hm1.n LZ.out
  clear hm1 CP
  have s1 := b1.size
  go_wp2_with (at_builtin; refine wpList_append_own _ rfl (.tmp 6) (.tmp 7) 22 rfl w.heap.size 5 i0 _ 1 1 Tryd.underlying22 I0.out I1.out I2.out I3.out rfl (by decide) (.slice D1 n c1) n (vals zs) rfl (ho1.alloc _) ⟨w1.heap.size, 0, none⟩ 1 1 [.int .u8 128] rfl rfl (World.news_of_block (cs := #[.int .u8 128]) (t := 5) (fr := (0, 0)) (heap_alloc_new w1 _)) (by simp [Value.oneCell']) (by unfold maxLen; omega) (by omega) (by simp; omega) ?_; intro v2 w2 ho2 hg2 _)
  have b2 : Below w.heap.size w w2 := (b1.alloc s1 _).grown hg2 (by simp; omega) (fun q hq => (ho1.lt q hq).1)
  clear hg2 ho1 b1
  go_loopw [3] (fun v wr => ∃ k N : Nat, k ≤ P ∧ Hid (n + 1 + k = N) ∧ ∃ D c, v = .slice D N c ∧ wr.ownsRow w.heap.size 5 1 (.slice D N c) N (vals (zs ++ 128 :: List.replicate k 0)) ∧ Below w.heap.size w wr) (fun v _ => n + 1 + P - lenOf v)
  case atStart =>
    obtain ⟨D2, c2, rfl, _, _⟩ := own_shape ho2
    exact ⟨0, n + 1, by omega, Lib.hid rfl, D2, c2, rfl, by rw [vals_app]; exact ho2, b2⟩
  case round =>
    obtain ⟨k, N, hk, HN, D, cc, rfl, hown, hbel⟩ := hrel
    obtain ⟨r, hr⟩ : ∃ r, N % 64 = r := ⟨_, rfl⟩
    have ht : ((N : Int)).tmod 64 = ((r : Nat) : Int) := by rw [← hr]; exact tmod_nat' N
    have ht2 : ((N : Int)) % 64 = ((r : Nat) : Int) := by omega
    have hN := HN.out
    have hNb : N ≤ 1000100 := by omega
    have sr := hbel.size
    by_cases hlt : k < P
    · have hr1 : r ≠ 56 := by have := HP.out; omega
      have hrb : ((r : Int) == 56) = false := by simpa using (show (r : Int) ≠ 56 by omega)
      have hrb' : ((r : Int) != 56) = true := by simpa using (show (r : Int) ≠ 56 by omega)
      have hr2 : ¬ (r : Int) = 56 := by omega
      have HN1 : Hid (n + 1 + (k + 1) = N + 1) := Lib.hid (by omega)
      have HE : Hid (vals (zs ++ 128 :: List.replicate (k + 1) 0) = vals (zs ++ 128 :: List.replicate k 0) ++ [.int .u8 0]) := Lib.hid (by
        rw [List.replicate_succ', show zs ++ 128 :: (List.replicate k 0 ++ [0]) = (zs ++ 128 :: List.replicate k 0) ++ [0] by simp, vals_app]; rfl)
      clear hr hN
      go_wp2_with (at_builtin; refine wpList_append_own _ rfl (.tmp 13) (.tmp 14) 22 rfl w.heap.size 5 i0 _ 1 1 Tryd.underlying22 I0.out I1.out I2.out I3.out rfl (by decide) (.slice D N cc) N (vals (zs ++ 128 :: List.replicate k 0)) rfl (hown.alloc _) ⟨wr.heap.size, 0, none⟩ 1 1 [.int .u8 0] rfl rfl (World.news_of_block (cs := #[.int .u8 0]) (t := 5) (fr := (0, 0)) (heap_alloc_new wr _)) (by simp [Value.oneCell']) (by unfold maxLen; omega) (by omega) (by simp; omega) ?_; intro v3 w3 ho3 hg3 _)
      have b3 : Below w.heap.size w w3 := (hbel.alloc sr _).grown hg3 (by simp; omega) (fun q hq => (hown.lt q hq).1)
      obtain ⟨D3, c3, rfl, _, _⟩ := own_shape ho3
      have ho4 : w3.ownsRow w.heap.size 5 1 (.slice D3 (N + 1) c3) (N + 1) (vals (zs ++ 128 :: List.replicate (k + 1) 0)) := by rw [HE.out]; exact ho3
      clear hg3 ho3 hown
      go_roundw
      case rel => exact ⟨k + 1, N + 1, by omega, HN1, D3, c3, rfl, ho4, b3⟩
      case measure => (have := HN.out; simp [lenOf]; omega)
    · have hkP : k = P := by omega
      have hr1 : r = 56 := by have := HP.out; omega
      have hr2 : (r : Int) = 56 := by omega
      have hPZ : Hid ((zs ++ 128 :: List.replicate k 0) ++ putZ ((8 * n : Nat) : Int) 8 = zs ++ padZ n) := Lib.hid (by
        unfold padZ; rw [HP.out, hkP]; simp)
      have BR : Hid (IsBytes (zs ++ 128 :: List.replicate k 0)) := Lib.hid (BZ.out.app (by
        rw [isBytes_iff]
        intro z hz
        simp only [List.mem_cons, List.mem_replicate] at hz
        omega))
      have hPL : Hid ((zs ++ 128 :: List.replicate k 0).length = N) := Lib.hid (by simp [LZ.out]; omega)
      have zr := Lib.hid (bs_of_own hown BR.out)
      have OW := Lib.hid hown
      rw [hr2] at ht ht2
      have BB := Lib.hid hbel
      have hmul : (8 * (n : Int)) % 18446744073709551616 = ((8 * n : Nat) : Int) := by omega
      clear hr hN hown hkP hr1 hr2 hbel
      go_wp2_with fail
      refine (refput_any ((8 * n : Nat) : Int) 8 (by omega) (by omega) (by omega) _).mono ?_
      intro e w4 hm4
      obtain ⟨D4, c4, rfl, ho4, b4, _, _⟩ := hm4.n (putZ_len ..)
      have z4 := Lib.hid (Made.bs ho4 (putZ_bytes _ _))
      have b5 := Lib.hid (BB.out.trans (b4.mono BB.out.size))
      have z5 := Lib.hid (zr.out.belowM b4 (Nat.le_refl _))
      have s4 := b4.size
      have L5 : Hid (((zs ++ 128 :: List.replicate k 0) ++ putZ ((8 * n : Nat) : Int) 8).length = N + 8) := Lib.hid (by rw [List.length_append, hPL.out, putZ_len])
      clear hm4 ho4 b4
      go_wp2_with fail
      refine (refcat_any cc c4 z5.out z4.out s4 (Nat.le_refl _) (by omega)).mono ?_
      intro e w6 hm6
      obtain ⟨D6, c6, rfl, ho6, b6, h61, h62⟩ := hm6.n L5.out
      have hb6 := b5.out.trans (b6.mono b5.out.size)
      have hm7 : Made w (zs ++ padZ n) (.returned (.slice D6 (N + 8) c6)) w6 := made_of (n := N + 8) (by rw [← hPZ.out, L5.out]) (by rw [← hPZ.out]; exact own_base ho6 b5.out.size) hb6
      have HM7 := Lib.hid hm7
      clear ho6 b6 hm7 hm6
      go_wp2
      go_ret
      exact HM7.out
end Go.Proofs.YtcihbkdpkhhhcaaDoor
