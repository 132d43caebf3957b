/- Texts of the proof, one behind the other: R1 R2 R3 RBytes FRef FRefAll FLists. -/
import Derived.Test.YtjfeepmjebdahaaDoorB2
import Derived.Test.YtjfeepmjebdahaaDoorB1
import Derived.Test.YtjfeepmjebdahaaDoorB3
import Derived.Deep.Cut
import Derived.Test.YtjfeepmjebdahaaDoorB4
/- The document's own answer for sha: turns, constants, a message with its end. -/
namespace Go.Proofs.YtjfeepmjebdahaaDoor
open Go.ChangeShapes Go.WideShapes Go.ChangeAt Go.RowKit
set_option linter.unusedVariables false
open Plain Sha
theorem chx_bits (e f g : Nat) (he : e < 4294967296) (hf : f < 4294967296) (hg : g < 4294967296) :
    bits .xor .u32 (bits .and .u32 (e : Int) (f : Int)) (bits .and .u32 (bits .xor .u32 IntKind.u32.max (e : Int)) (g : Int)) = ((ch e f g : Nat) : Int) := by
  have e1 : bits .xor .u32 IntKind.u32.max (e : Int) = ((4294967295 - e : Nat) : Int) := by
    have := u32_xor_nat 4294967295 e (by omega) he
    rw [xor_ones e he] at this
    exact this
  rw [e1, u32_and_nat _ _ he hf, u32_and_nat _ _ (by omega) hg, u32_xor_nat _ _ (and_lt hf) (and_lt hg)]
  congr 1
  unfold ch
  rw [← xor_ones e he]
  apply Nat.eq_of_testBit_eq
  intro i
  simp only [Nat.testBit_xor, Nat.testBit_and, Nat.testBit_or]
  have h1 : Nat.testBit 4294967295 i = decide (i < 32) := by rw [show (4294967295 : Nat) = 2 ^ 32 - 1 from rfl, Nat.testBit_two_pow_sub_one]
  rw [h1]
  by_cases hi : i < 32
  · simp only [hi, decide_true]
    cases e.testBit i <;> cases f.testBit i <;> cases g.testBit i <;> rfl
  · have : e.testBit i = false := Nat.testBit_lt_two_pow (Nat.lt_of_lt_of_le he (Nat.pow_le_pow_right (by omega : 2 > 0) (by omega : 32 ≤ i)))
    simp [hi, this]
theorem mjx_bits (a b c : Nat) (ha : a < 4294967296) (hb : b < 4294967296) (hc : c < 4294967296) :
    bits .xor .u32 (bits .xor .u32 (bits .and .u32 (a : Int) (b : Int)) (bits .and .u32 (a : Int) (c : Int))) (bits .and .u32 (b : Int) (c : Int)) = ((mj a b c : Nat) : Int) := by
  rw [u32_and_nat _ _ ha hb, u32_and_nat _ _ ha hc, u32_and_nat _ _ hb hc, u32_xor_nat _ _ (and_lt hb) (and_lt hc), u32_xor_nat _ _ (xor_lt (and_lt hb) (and_lt hc)) (and_lt hc)]
  congr 1
  unfold mj
  apply Nat.eq_of_testBit_eq
  intro i
  simp only [Nat.testBit_xor, Nat.testBit_and, Nat.testBit_or]
  cases a.testBit i <;> cases b.testBit i <;> cases c.testBit i <;> rfl
theorem orN (x k : Nat) (hx : x < 4294967296) (hk : k ≤ 31) (p q : Int) (hp : p = 2 ^ k) (hq : q = 2 ^ (32 - k)) : bits .or .u32 ((x : Int) / p) ((x : Int) * q % 4294967296) = ((rotN x k : Nat) : Int) := by
  subst hp hq
  exact or_split x k hx hk
theorem turnsE_any (x : Nat) (hx : x < 4294967296) (w : World) :
    Calls Tryd.prog 79 #[.int .u32 (x : Int), .int .i64 6, .int .i64 11, .int .i64 25] w (Quiet (.int .u32 ((bs1 x : Nat) : Int)) w) := by
  have h0 : (0 : Int) ≤ (x : Int) := by omega
  have h1 : (x : Int) < 4294967296 := by omega
  go_enter Tryd.func79, Tryd.ntmps79
  go_wp2
  go_quiet (fail)
  go_wp2
  go_ret
  exact ⟨ret_int (by rw [orN x 6 hx (by omega) 64 67108864 rfl rfl, orN x 11 hx (by omega) 2048 2097152 rfl rfl, orN x 25 hx (by omega) 33554432 128 rfl rfl, bs1_bits x hx]), _, rfl⟩
theorem turnsA_any (x : Nat) (hx : x < 4294967296) (w : World) :
    Calls Tryd.prog 79 #[.int .u32 (x : Int), .int .i64 2, .int .i64 13, .int .i64 22] w (Quiet (.int .u32 ((bs0 x : Nat) : Int)) w) := by
  have h0 : (0 : Int) ≤ (x : Int) := by omega
  have h1 : (x : Int) < 4294967296 := by omega
  go_enter Tryd.func79, Tryd.ntmps79
  go_wp2
  go_quiet (fail)
  go_wp2
  go_ret
  exact ⟨ret_int (by rw [orN x 2 hx (by omega) 4 1073741824 rfl rfl, orN x 13 hx (by omega) 8192 524288 rfl rfl, orN x 22 hx (by omega) 4194304 1024 rfl rfl, bs0_bits x hx]), _, rfl⟩
theorem constants_any (w : World) :
    Calls Tryd.prog 76 #[] w fun e w' => e = .returned (.slice (some ⟨w.heap.size, 0, none⟩) 64 64) ∧ Row32 w' w.heap.size kTab ∧ Below w.heap.size w w' ∧ w.heap.size < w'.heap.size := by
  have HR := Lib.hid (Row32.new w kTab 88)
  have HB := Lib.hid ((Below.refl w.heap.size w).alloc (Nat.le_refl _) (.cells (u32s kTab).toArray 88))
  have HS := Lib.hid (show w.heap.size < (w.alloc (.cells (u32s kTab).toArray 88)).heap.size by simp)
  go_enter Tryd.func76, Tryd.ntmps76
  go_wp2
  go_ret
  exact ⟨rfl, HR.out, HB.out, HS.out⟩
theorem tmod_nat' (N : Nat) : ((N : Int)).tmod 64 = ((N % 64 : Nat) : Int) := by
  rw [Int.tmod_eq_emod_of_nonneg (by omega)]; omega
/-- A slice's length. -/
def lenOf : Value → Nat
  | .slice _ n _ => n
  | _ => 0
theorem whole_any {w : World} {B : Nat} {A : Option Addr} {n : Nat} (c : Nat) {zs : List Int} (h : Bs w B A n zs) (hB : B ≤ w.heap.size) (hn : n ≤ 1000000) :
    Calls Tryd.prog 77 #[.slice A n c] w (Made w (zs ++ padZ n)) := by
  have CP := Lib.hid (refcopy_any c h hB (by omega))
  have LZ := Lib.hid h.len
  have BZ := Lib.hid h.isBytes
  obtain ⟨P, hP⟩ : ∃ P, (119 - n % 64) % 64 = P := ⟨_, rfl⟩
  have HP := Lib.hid hP
  obtain ⟨i0, hi0, hz0, hz1, hz2⟩ := info_parts u8_row
  have I0 := Lib.hid hi0
  have I1 := Lib.hid hz0
  have I2 := Lib.hid hz1
  have I3 := Lib.hid hz2
  have hP2 : P < 64 := by omega
  clear h hi0 hz0 hz1 hz2 hP
  go_enter Tryd.func77, Tryd.ntmps77
  go_wp2_with fail
  refine CP.out.mono ?_
  intro e w1 hm1
  obtain ⟨D1, c1, rfl, ho1, b1, _, _⟩ := hm1.n LZ.out
  clear hm1 CP
  have s1 := b1.size
  go_wp2_with (at_builtin; refine wpList_append_own _ rfl (.tmp 6) (.tmp 7) 27 rfl w.heap.size 5 i0 _ 1 1 Tryd.underlying27 I0.out I1.out I2.out I3.out rfl (by decide) (.slice D1 n c1) n (vals zs) rfl (ho1.alloc _) ⟨w1.heap.size, 0, none⟩ 1 1 [.int .u8 128] rfl rfl (World.news_of_block (cs := #[.int .u8 128]) (t := 5) (fr := (0, 0)) (heap_alloc_new w1 _)) (by simp [Value.oneCell']) (by unfold maxLen; omega) (by omega) (by simp; omega) ?_; intro v2 w2 ho2 hg2 _)
  have b2 : Below w.heap.size w w2 := (b1.alloc s1 _).grown hg2 (by simp; omega) (fun q hq => (ho1.lt q hq).1)
  clear hg2 ho1 b1
  go_loopw [3] (fun v wr => ∃ k N : Nat, k ≤ P ∧ Hid (n + 1 + k = N) ∧ ∃ D c, v = .slice D N c ∧ wr.ownsRow w.heap.size 5 1 (.slice D N c) N (vals (zs ++ 128 :: List.replicate k 0)) ∧ Below w.heap.size w wr) (fun v _ => n + 1 + P - lenOf v)
  case atStart =>
    obtain ⟨D2, c2, rfl, _, _⟩ := own_shape ho2
    exact ⟨0, n + 1, by omega, Lib.hid rfl, D2, c2, rfl, by rw [vals_app]; exact ho2, b2⟩
  case round =>
    obtain ⟨k, N, hk, HN, D, cc, rfl, hown, hbel⟩ := hrel
    obtain ⟨r, hr⟩ : ∃ r, N % 64 = r := ⟨_, rfl⟩
    have ht : ((N : Int)).tmod 64 = ((r : Nat) : Int) := by rw [← hr]; exact tmod_nat' N
    have ht2 : ((N : Int)) % 64 = ((r : Nat) : Int) := by omega
    have hN := HN.out
    have hNb : N ≤ 1000100 := by omega
    have sr := hbel.size
    by_cases hlt : k < P
    · have hr1 : r ≠ 56 := by have := HP.out; omega
      have hrb : ((r : Int) == 56) = false := by simpa using (show (r : Int) ≠ 56 by omega)
      have hrb' : ((r : Int) != 56) = true := by simpa using (show (r : Int) ≠ 56 by omega)
      have hr2 : ¬ (r : Int) = 56 := by omega
      have HN1 : Hid (n + 1 + (k + 1) = N + 1) := Lib.hid (by omega)
      have HE : Hid (vals (zs ++ 128 :: List.replicate (k + 1) 0) = vals (zs ++ 128 :: List.replicate k 0) ++ [.int .u8 0]) := Lib.hid (by
        rw [List.replicate_succ', show zs ++ 128 :: (List.replicate k 0 ++ [0]) = (zs ++ 128 :: List.replicate k 0) ++ [0] by simp, vals_app]; rfl)
      clear hr hN
      go_wp2_with (at_builtin; refine wpList_append_own _ rfl (.tmp 13) (.tmp 14) 27 rfl w.heap.size 5 i0 _ 1 1 Tryd.underlying27 I0.out I1.out I2.out I3.out rfl (by decide) (.slice D N cc) N (vals (zs ++ 128 :: List.replicate k 0)) rfl (hown.alloc _) ⟨wr.heap.size, 0, none⟩ 1 1 [.int .u8 0] rfl rfl (World.news_of_block (cs := #[.int .u8 0]) (t := 5) (fr := (0, 0)) (heap_alloc_new wr _)) (by simp [Value.oneCell']) (by unfold maxLen; omega) (by omega) (by simp; omega) ?_; intro v3 w3 ho3 hg3 _)
      have b3 : Below w.heap.size w w3 := (hbel.alloc sr _).grown hg3 (by simp; omega) (fun q hq => (hown.lt q hq).1)
      obtain ⟨D3, c3, rfl, _, _⟩ := own_shape ho3
      have ho4 : w3.ownsRow w.heap.size 5 1 (.slice D3 (N + 1) c3) (N + 1) (vals (zs ++ 128 :: List.replicate (k + 1) 0)) := by rw [HE.out]; exact ho3
      clear hg3 ho3 hown
      go_roundw
      case rel => exact ⟨k + 1, N + 1, by omega, HN1, D3, c3, rfl, ho4, b3⟩
      case measure => (have := HN.out; simp [lenOf]; omega)
    · have hkP : k = P := by omega
      have hr1 : r = 56 := by have := HP.out; omega
      have hr2 : (r : Int) = 56 := by omega
      have hPZ : Hid ((zs ++ 128 :: List.replicate k 0) ++ putZ ((8 * n : Nat) : Int) 8 = zs ++ padZ n) := Lib.hid (by
        unfold padZ; rw [HP.out, hkP]; simp)
      have BR : Hid (IsBytes (zs ++ 128 :: List.replicate k 0)) := Lib.hid (BZ.out.app (by
        rw [isBytes_iff]
        intro z hz
        simp only [List.mem_cons, List.mem_replicate] at hz
        omega))
      have hPL : Hid ((zs ++ 128 :: List.replicate k 0).length = N) := Lib.hid (by simp [LZ.out]; omega)
      have zr := Lib.hid (bs_of_own hown BR.out)
      have OW := Lib.hid hown
      rw [hr2] at ht ht2
      have BB := Lib.hid hbel
      have hmul : (8 * (n : Int)) % 18446744073709551616 = ((8 * n : Nat) : Int) := by omega
      clear hr hN hown hkP hr1 hr2 hbel
      go_wp2_with fail
      refine (refput_any ((8 * n : Nat) : Int) 8 (by omega) (by omega) (by omega) _).mono ?_
      intro e w4 hm4
      obtain ⟨D4, c4, rfl, ho4, b4, _, _⟩ := hm4.n (putZ_len ..)
      have z4 := Lib.hid (Made.bs ho4 (putZ_bytes _ _))
      have b5 := Lib.hid (BB.out.trans (b4.mono BB.out.size))
      have z5 := Lib.hid (zr.out.belowM b4 (Nat.le_refl _))
      have s4 := b4.size
      have L5 : Hid (((zs ++ 128 :: List.replicate k 0) ++ putZ ((8 * n : Nat) : Int) 8).length = N + 8) := Lib.hid (by rw [List.length_append, hPL.out, putZ_len])
      clear hm4 ho4 b4
      go_wp2_with fail
      refine (refcat_any cc c4 z5.out z4.out s4 (Nat.le_refl _) (by omega)).mono ?_
      intro e w6 hm6
      obtain ⟨D6, c6, rfl, ho6, b6, h61, h62⟩ := hm6.n L5.out
      have hb6 := b5.out.trans (b6.mono b5.out.size)
      have hm7 : Made w (zs ++ padZ n) (.returned (.slice D6 (N + 8) c6)) w6 := made_of (n := N + 8) (by rw [← hPZ.out, L5.out]) (by rw [← hPZ.out]; exact own_base ho6 b5.out.size) hb6
      have HM7 := Lib.hid hm7
      clear ho6 b6 hm7 hm6
      go_wp2
      go_ret
      exact HM7.out
end Go.Proofs.YtjfeepmjebdahaaDoor
/- The document's own answer for sha: a block's schedule. -/
namespace Go.Proofs.YtjfeepmjebdahaaDoor
open Go.ChangeShapes Go.WideShapes Go.ChangeAt Go.RowKit
set_option linter.unusedVariables false
open Plain Sha
theorem u32_row' : (Tryd.prog.info? 88).map (fun i => (i.zero, i.size, i.bytes)) = some (some (.int .u32 0), 1, 4) := by kernel_rfl
/-- What a call hands back that makes a row of numbers. -/
def Made32 (w : World) (l : List Nat) (e : Ending) (w' : World) : Prop :=
  ∃ g c, e = .returned (.slice (some ⟨g, 0, none⟩) l.length c) ∧ (∀ j, j < l.length → w'.cell? ⟨g, j, none⟩ = some (.int .u32 ((l.getD j 0 : Nat) : Int))) ∧ w.heap.size ≤ g ∧ g < w'.heap.size ∧ Below w.heap.size w w'
theorem own32_cells {w : World} {base n : Nat} {v : Value} {l : List Nat} (h : w.ownsRow base 88 1 v n (u32s l)) (hn : 0 < n) :
    ∃ g cap, v = .slice (some ⟨g, 0, none⟩) n cap ∧ base ≤ g ∧ g < w.heap.size ∧ ∀ j, j < l.length → w.cell? ⟨g, j, none⟩ = some (.int .u32 ((l.getD j 0 : Nat) : Int)) := by
  obtain ⟨g, cap, hv, hb, hlt⟩ := h.form hn
  refine ⟨g, cap, hv, hb, hlt, fun j hj => ?_⟩
  have := h.cells (g := g) (by rw [hv]; rfl) j _ (u32s_at l j hj)
  rw [Go.WideShapes.add_plain] at this
  simpa using this
theorem takeN_snoc (l : List Nat) (k : Nat) (h : k < l.length) : l.take (k + 1) = l.take k ++ [l.getD k 0] := by
  rw [List.take_succ_eq_append_getElem h]
  simp [List.getD_eq_getElem?_getD, List.getElem?_eq_getElem h]
theorem u32s_app (a b : List Nat) : u32s (a ++ b) = u32s a ++ u32s b := by simp [u32s]
theorem ors1 (x : Nat) (h : x < 4294967296) : bits .xor .u32 (bits .xor .u32 (bits .or .u32 ((x : Int) / 131072) ((x : Int) * 32768 % 4294967296)) (bits .or .u32 ((x : Int) / 524288) ((x : Int) * 8192 % 4294967296))) ((x : Int) / 1024) = ((sg1 x : Nat) : Int) := by
  rw [orN x 17 h (by omega) 131072 32768 rfl rfl, orN x 19 h (by omega) 524288 8192 rfl rfl, sg1_bits x h]
theorem ors0 (x : Nat) (h : x < 4294967296) : bits .xor .u32 (bits .xor .u32 (bits .or .u32 ((x : Int) / 128) ((x : Int) * 33554432 % 4294967296)) (bits .or .u32 ((x : Int) / 262144) ((x : Int) * 16384 % 4294967296))) ((x : Int) / 8) = ((sg0 x : Nat) : Int) := by
  rw [orN x 7 h (by omega) 128 33554432 rfl rfl, orN x 18 h (by omega) 262144 16384 rfl rfl, sg0_bits x h]
theorem schedTo_snoc (ws : List Nat) (hl : ws.length = 16) (k : Nat) : schedTo ws (k + 1) = schedTo ws k ++ [wAt ws (16 + k)] := by
  apply list_ext_N
  · rw [List.length_append, schedTo_len ws hl, schedTo_len ws hl]; rfl
  · intro j hj
    rw [schedTo_len ws hl] at hj
    rw [sched_at ws hl (k + 1) j hj]
    by_cases h : j < 16 + k
    · rw [getD_app_lt (by rw [schedTo_len ws hl]; exact h), sched_at ws hl k j h]
    · rw [getD_app_at (by rw [schedTo_len ws hl]; omega), show j = 16 + k by omega]
set_option maxRecDepth 100000 in
set_option maxHeartbeats 4000000 in
theorem schedule_any {w : World} {B : Nat} {A : Option Addr} (c : Nat) {zs : List Int} (h : Bs w B A 64 zs) (hB : B ≤ w.heap.size) :
    Calls Tryd.prog 78 #[.slice A 64 c] w (Made32 w (schedTo (wordsAt zs 0) 48)) := by
  obtain ⟨ws, hws⟩ : ∃ ws, wordsAt zs 0 = ws := ⟨_, rfl⟩
  have hwl : Hid (ws.length = 16) := Lib.hid (by rw [← hws]; exact wordsAt_len _ _)
  have hww : Hid (AllW ws) := Lib.hid (by rw [← hws]; exact wordsAt_lt zs h.isBytes 0)
  have HLD : Hid (∀ t : Nat, t < 16 → loadZ zs (4 * (t : Int)) 4 = ((ws.getD t 0 : Nat) : Int)) := Lib.hid (fun t ht => by
    have := load_at zs h.isBytes 0 t (by rw [h.len]; omega) ht
    rw [← hws, ← this]
    congr 1; omega)
  obtain ⟨i0, hi0, hz0, hz1, hz2⟩ := info_parts u32_row'
  have I0 := Lib.hid hi0
  have I1 := Lib.hid hz0
  have I2 := Lib.hid hz1
  have I3 := Lib.hid hz2
  have HZ := Lib.hid h
  have HWS := Lib.hid hws
  clear hi0 hz0 hz1 hz2 hws h
  rw [HWS.out]
  go_enter Tryd.func78, Tryd.ntmps78
  go_wp2
  go_loopw [3, 4] (fun v i wr => ∃ k : Nat, k ≤ 16 ∧ i = .int .i64 k ∧ wr.ownsRow w.heap.size 88 1 v k (u32s (ws.take k)) ∧ Below w.heap.size w wr) (fun _ i _ => 16 - (intOf i).toNat)
  case atStart => exact ⟨0, by omega, rfl, World.ownsRow_nil _ _ _ _, Below.refl _ _⟩
  case round =>
    obtain ⟨k, hk, rfl, hown, hbel⟩ := hrel
    have sr := hbel.size
    by_cases hlt : k < 16
    · obtain ⟨x, hx⟩ : ∃ x, ws.getD k 0 = x := ⟨_, rfl⟩
      have hxl : x < 4294967296 := by rw [← hx]; exact hww.out k
      have HT : Hid (u32s (ws.take (k + 1)) = u32s (ws.take k) ++ [.int .u32 (x : Int)]) := Lib.hid (by rw [takeN_snoc ws k (by rw [hwl.out]; exact hlt), u32s_app, hx]; rfl)
      have HLk : Hid (loadZ zs (4 * (k : Int)) 4 = (x : Int)) := Lib.hid (by rw [HLD.out k hlt, hx])
      have OW := Lib.hid hown
      have BB := Lib.hid hbel
      have HXL := Lib.hid hxl
      clear hx hown hbel hxl
      go_wp2_with fail
      have hxl := HXL.out
      have hx0 : (0 : Int) ≤ (x : Int) := by omega
      have hx1 : (x : Int) < 4294967296 := by omega
      refine (refloadI_any c (HZ.out.belowM BB.out hB) (by simp [maxLen]) (4 * (k : Int)) (by omega) 4 (by omega) (by omega)).mono ?_
      rw [show (4 : Int).toNat = 4 from rfl, HLk.out]
      rintro e w1 ⟨rfl, hq⟩
      have OW1 : Hid (w1.ownsRow w.heap.size 88 1 u3 k (u32s (ws.take k))) := Lib.hid (by obtain ⟨m', rfl⟩ := hq; exact OW.out)
      have B1 : Hid (Below w.heap.size w w1) := Lib.hid (by obtain ⟨m', rfl⟩ := hq; exact below_drewN BB.out m')
      have s1 := B1.out.size
      clear hq OW BB
      go_wp2_with (at_builtin; refine wpList_append_own _ rfl (.tmp 23) (.tmp 26) 105 rfl w.heap.size 88 i0 _ 1 4 Tryd.underlying105 I0.out I1.out I2.out I3.out rfl (by decide) u3 k (u32s (ws.take k)) rfl (OW1.out.alloc _) ⟨w1.heap.size, 0, none⟩ 1 1 [.int .u32 (x : Int)] rfl rfl (World.news_of_block (cs := #[.int .u32 (x : Int)]) (t := 88) (fr := (0, 0)) (heap_alloc_new w1 _)) (by simp [Value.oneCell']) (by unfold maxLen; omega) (by omega) (by simp; omega) ?_; intro v2 w2 ho2 hg2 _)
      have b2 : Below w.heap.size w w2 := (B1.out.alloc s1 _).grown hg2 (by simp; omega) (fun q hq => (OW1.out.lt q hq).1)
      have ho2' : w2.ownsRow w.heap.size 88 1 v2 (k + 1) (u32s (ws.take (k + 1))) := by rw [HT.out]; exact ho2
      clear ho2 hg2
      go_roundw
      case rel => exact ⟨k + 1, by omega, by go_num, ho2', b2⟩
      case measure => simp [intOf]; omega
    · have hk16 : k = 16 := by omega
      have OW0 : wr.ownsRow w.heap.size 88 1 u3 16 (u32s (schedTo ws 0)) := by
        rw [hk16, List.take_of_length_le (by rw [hwl.out]; exact Nat.le_refl _)] at hown
        exact hown
      have hge : ¬ (k : Int) < 16 := by omega
      have OWH := Lib.hid OW0
      have BBH := Lib.hid hbel
      clear hk16 hown OW0 hbel
      go_wp2
      go_loopw [3, 7] (fun v i wr => ∃ t k : Nat, Hid (t = 16 + k) ∧ 16 ≤ t ∧ t ≤ 64 ∧ i = .int .i64 t ∧ Hid (wr.ownsRow w.heap.size 88 1 v t (u32s (schedTo ws k))) ∧ Hid (Below w.heap.size w wr)) (fun _ i _ => 64 - (intOf i).toNat)
      case atStart => exact ⟨16, 0, Lib.hid rfl, by omega, by omega, rfl, OWH, BBH⟩
      case round =>
        obtain ⟨t, k, HT, ht16, ht64, rfl, HOW, HBB⟩ := hrel
        have sr2 := HBB.out.size
        obtain ⟨g, cap, hv, hg, hglt, hcells⟩ := own32_cells HOW.out (by omega)
        subst hv
        have HC := Lib.hid hcells
        have LS : Hid ((schedTo ws k).length = t) := Lib.hid (by rw [schedTo_len ws hwl.out k, HT.out])
        clear hcells
        by_cases hlt2 : t < 64
        · have hk := HT.out
          have E15 : Hid ((schedTo ws k).getD (k + 1) 0 = wAt ws (k + 1)) := Lib.hid (sched_at ws hwl.out k (k + 1) (by omega))
          have E2 : Hid ((schedTo ws k).getD (k + 14) 0 = wAt ws (k + 14)) := Lib.hid (sched_at ws hwl.out k (k + 14) (by omega))
          have E7 : Hid ((schedTo ws k).getD (k + 9) 0 = wAt ws (k + 9)) := Lib.hid (sched_at ws hwl.out k (k + 9) (by omega))
          have E16 : Hid ((schedTo ws k).getD k 0 = wAt ws k) := Lib.hid (sched_at ws hwl.out k k (by omega))
          have c15 := HC.out (k + 1) (by rw [LS.out]; omega)
          have c2 := HC.out (k + 14) (by rw [LS.out]; omega)
          have c7 := HC.out (k + 9) (by rw [LS.out]; omega)
          have c16 := HC.out k (by rw [LS.out]; omega)
          rw [E15.out] at c15
          rw [E2.out] at c2
          rw [E7.out] at c7
          rw [E16.out] at c16
          have b15 := wAt_lt ws hwl.out hww.out (k + 1)
          have b2 := wAt_lt ws hwl.out hww.out (k + 14)
          have b7 := wAt_lt ws hwl.out hww.out (k + 9)
          have b16 := wAt_lt ws hwl.out hww.out k
          have HN0 : Hid (wAt ws t = wNext (wAt ws (k + 14)) (wAt ws (k + 9)) (wAt ws (k + 1)) (wAt ws k)) := Lib.hid (by rw [HT.out]; exact wAt_hi ws hwl.out k)
          generalize wAt ws (k + 1) = x15 at *
          generalize wAt ws (k + 14) = x2 at *
          generalize wAt ws (k + 9) = x7 at *
          generalize wAt ws k = x16 at *
          have hltI : (t : Int) < 64 := by omega
          have i1 : (0 : Int) ≤ (t : Int) - 15 := by omega
          have i2 : (t : Int) - 15 < (t : Int) := by omega
          have i3 : (0 : Int) ≤ (t : Int) - 2 := by omega
          have i4 : (t : Int) - 2 < (t : Int) := by omega
          have i5 : (0 : Int) ≤ (t : Int) - 7 := by omega
          have i6 : (t : Int) - 7 < (t : Int) := by omega
          have i7 : (0 : Int) ≤ (t : Int) - 16 := by omega
          have i8 : (t : Int) - 16 < (t : Int) := by omega
          have n1 : ((t : Int) - 15).toNat = k + 1 := by omega
          have n2 : ((t : Int) - 2).toNat = k + 14 := by omega
          have n3 : ((t : Int) - 7).toNat = k + 9 := by omega
          have n4 : ((t : Int) - 16).toNat = k := by omega
          have s0 := ors0 x15 b15
          have s1 := ors1 x2 b2
          obtain ⟨x, hx⟩ : ∃ x, wNext x2 x7 x15 x16 = x := ⟨_, rfl⟩
          have HXlt : Hid (x < 4294967296) := Lib.hid (by rw [← hx]; exact wNext_lt _ _ _ _)
          have HVal : Hid ((IntKind.u32.wrap (IntKind.u32.wrap (IntKind.u32.wrap (((sg1 x2 : Nat) : Int) + (x7 : Int)) + ((sg0 x15 : Nat) : Int)) + (x16 : Int))) = (x : Int)) := Lib.hid (by rw [← hx]; unfold wNext; rw [IntKind.wrap_u32, IntKind.wrap_u32, IntKind.wrap_u32]; omega)
          have HS : Hid (u32s (schedTo ws (k + 1)) = u32s (schedTo ws k) ++ [.int .u32 (x : Int)]) := Lib.hid (by rw [schedTo_snoc ws hwl.out k, ← HT.out, HN0.out, hx, u32s_app]; rfl)
          clear hk hx b7 b16 E15 E2 E7 E16
          go_wp2
          go_quiet (fail)
          obtain ⟨W1, hW1⟩ : ∃ W1, wr.drewN nq = W1 := ⟨_, rfl⟩
          have d7 : W1.cell? ⟨g, k + 9, none⟩ = some (.int .u32 (x7 : Int)) := by rw [← hW1]; exact c7
          have d16 : W1.cell? ⟨g, k, none⟩ = some (.int .u32 (x16 : Int)) := by rw [← hW1]; exact c16
          have OW1 : Hid (W1.ownsRow w.heap.size 88 1 (.slice (some ⟨g, 0, none⟩) t cap) t (u32s (schedTo ws k))) := Lib.hid (by rw [← hW1]; exact HOW.out)
          have B1 : Hid (Below w.heap.size w W1) := Lib.hid (by rw [← hW1]; exact below_drewN HBB.out nq)
          have s1' := B1.out.size
          have hg1 : g < W1.heap.size := by rw [← hW1]; exact hglt
          rw [hW1]
          have v7 : IntKind.i64.wrap ((t : Int) - 7) = (t : Int) - 7 := by rw [IntKind.wrap_i64]; omega
          have v16 : IntKind.i64.wrap ((t : Int) - 16) = (t : Int) - 16 := by rw [IntKind.wrap_i64]; omega
          have j7 : (7 : Int) ≤ (t : Int) := by omega
          have j16 : (16 : Int) ≤ (t : Int) := by omega
          clear hW1 c15 c2 c7 c16 HOW HBB HC
          go_wp2
          go_region_law ((refine step_append_lies _ (by rfl) _ _ _ (by rfl) w.heap.size 88 i0 _ 1 4 Tryd.underlying105 I0.out I1.out I2.out I3.out rfl (by omega) (.slice (some ⟨g, 0, none⟩) t cap) t _ (by rfl) ((OW1.out.alloc _).drew) ⟨W1.heap.size, 0, none⟩ 1 1 [.int .u32 (IntKind.u32.wrap (IntKind.u32.wrap (IntKind.u32.wrap (((sg1 x2 : Nat) : Int) + (x7 : Int)) + ((sg0 x15 : Nat) : Int)) + (x16 : Int)))] (by rfl) (by rfl) (World.news_of_block (cs := #[.int .u32 (IntKind.u32.wrap (IntKind.u32.wrap (IntKind.u32.wrap (((sg1 x2 : Nat) : Int) + (x7 : Int)) + ((sg0 x15 : Nat) : Int)) + (x16 : Int)))]) (t := 88) (fr := (0, 0)) (heap_alloc_new W1 _)) (by simp [Value.oneCell']) (by omega) (by unfold maxLen; omega) (by omega) (by simp; omega) (W1.heap.size + 1) (by simp) ?_; intro gg cap2 w2 hown2 hgrow hat hlt1))
          all_goals
            have b2 := Lib.hid (((B1.out.alloc s1' _).drew).grown hgrow (by simp; omega) (fun q hq => (OW1.out.lt q hq).1))
            have HOW2 : Hid (w2.ownsRow w.heap.size 88 1 (.slice (some ⟨gg, 0, none⟩) (t + 1) cap2) (t + 1) (u32s (schedTo ws (k + 1)))) := Lib.hid (by rw [HS.out, ← HVal.out]; exact hown2)
            clear hown2 hgrow hat s0 s1 d7 d16 v7 v16
            go_wp2
            go_roundw
            case rel => exact ⟨t + 1, k + 1, Lib.hid (by rw [HT.out]; omega), by omega, by omega, by go_num, HOW2, b2⟩
            case measure => simp [intOf]; omega
        · have ht : t = 64 := by omega
          have hM : Made32 w (schedTo ws 48) (.returned (.slice (some ⟨g, 0, none⟩) 64 cap)) wr := by
            have hk48 : k = 48 := by have := HT.out; omega
            subst hk48
            have e : (schedTo ws 48).length = 64 := schedTo_len ws hwl.out 48
            rw [← e]
            exact ⟨g, cap, rfl, HC.out, hg, hglt, HBB.out⟩
          have HM := Lib.hid hM
          clear hM HOW HC LS HT
          subst ht
          go_wp2
          go_ret
          exact HM.out
end Go.Proofs.YtjfeepmjebdahaaDoor
/- The document's own answer for sha: the tag of bytes. -/
namespace Go.Proofs.YtjfeepmjebdahaaDoor
open Go.ChangeShapes Go.WideShapes Go.ChangeAt Go.RowKit
set_option linter.unusedVariables false
open Plain Sha
theorem grown_set {W V : World} {nb : Nat} (h : W.grownBy V (some nb)) (k : Nat) (v : Value) : W.grownBy (V.setCell ⟨nb, k, none⟩ v) (some nb) := grown_setCells [v] k V h
theorem grown_drewN {W V : World} {nb : Nat} (h : W.grownBy V (some nb)) (m : Nat) : W.grownBy (V.drewN m) (some nb) := ⟨h.os, h.tape, h.output, h.size, h.block⟩
theorem grown_drew {W V : World} {nb : Nat} (h : W.grownBy V (some nb)) : W.grownBy V.drew (some nb) := ⟨h.os, h.tape, h.output, h.size, h.block⟩
theorem grown_below {W V U : World} {nb : Nat} (h : W.grownBy V (some nb)) (hb : Below V.heap.size V U) : W.grownBy U (some nb) :=
  ⟨hb.os.trans h.os, hb.tape.trans h.tape, hb.output.trans h.output, Nat.le_trans h.size hb.size, fun i hi hne => (hb.block i (Nat.lt_of_lt_of_le hi h.size)).trans (h.block i hi hne)⟩
theorem Bs.keepB {w w' : World} {B n : Nat} {A : Option Addr} {zs : List Int} (h : Bs w B A n zs) (hk : ∀ b off, A = some ⟨b, off, none⟩ → b < B → w'.heap[b]? = w.heap[b]?) : Bs w' B A n zs :=
  ⟨h.len, h.rng, fun hn => by
    obtain ⟨b, off, e, hb, hc⟩ := h.row hn
    exact ⟨b, off, e, hb, fun j hj => (World.cell?_of_block (a := ⟨b, off + j, none⟩) (hk b off e hb)).trans (hc j hj)⟩⟩
theorem row32_keep {w w' : World} {b : Nat} {l : List Nat} (h : Row32 w b l) (e : w'.heap[b]? = w.heap[b]?) : Row32 w' b l :=
  ⟨fun j hj => (World.cell?_of_block (a := ⟨b, j, none⟩) e).trans (h.cells j hj), fun j hj => (World.frozen?_of_block (a := ⟨b, j, none⟩) e).trans (h.free j hj)⟩
theorem row8_setR {w : World} {b : Nat} {l : List Int} (h : Row8 w b 0 l) (k : Nat) (x : Int) (hk : k < l.length) : Row8 (w.setCell ⟨b, k, none⟩ (.int .u8 x)) b 0 (l.set k x) := by
  have := h.splice k [x] (by simp; omega)
  have e : splice l k [x] = l.set k x := list_ext_getD (by rw [splice_len (by simp; omega), List.length_set]) (fun j hj => by
    rw [splice_at _ _ _ _ (by simp; omega), getD_set _ _ _ _ hk]
    by_cases e : k = j
    · subst e; rw [if_pos (by simp), if_pos rfl, Nat.sub_self]; rfl
    · rw [if_neg (by simp; omega), if_neg e])
  rw [e, Nat.zero_add] at this
  exact this
theorem row8_cellR {w : World} {b : Nat} {l : List Int} (h : Row8 w b 0 l) {k : Nat} (hk : k < l.length) {x : Int} (hx : l.getD k 0 = x) : w.cell? ⟨b, k, none⟩ = some (.int .u8 x) ∧ w.frozen? ⟨b, k, none⟩ = false := by
  have h1 := h.range k _ (vals_at l k hk)
  have h2 := h.there k hk
  rw [Nat.zero_add] at h1 h2
  rw [hx] at h1
  exact ⟨h1, h2.2⟩
theorem wordsAt_piece (ms : List Int) (q : Nat) : wordsAt ((ms.drop (64 * q)).take 64) 0 = wordsAt ms q := by
  unfold wordsAt
  apply List.map_congr_left
  intro t ht
  have ht : t < 16 := by simpa using ht
  congr 2
  rw [Nat.mul_zero, Nat.zero_add, List.drop_take, List.take_take, List.drop_drop]
  congr 1
  omega
theorem blk_list (v : H8) (sa sb sc sd se sf sg sh : Nat) : ((((((((v.list.set 0 ((v.a + sa) % 4294967296)).set 1 ((v.b + sb) % 4294967296)).set 2 ((v.c + sc) % 4294967296)).set 3 ((v.d + sd) % 4294967296)).set 4 ((v.e + se) % 4294967296)).set 5 ((v.f + sf) % 4294967296)).set 6 ((v.g + sg) % 4294967296)).set 7 ((v.h + sh) % 4294967296)) = (addV v ⟨sa, sb, sc, sd, se, sf, sg, sh⟩).list := by
  simp [H8.list, addV]
/-- What the state is ahead of block q. -/
def Ahead (W3 wr : World) (nb : Nat) (v : H8) : Prop := W3.grownBy wr (some nb) ∧ Row32 wr nb v.list
set_option maxRecDepth 100000 in
set_option maxHeartbeats 16000000 in
theorem refsum_any {w : World} {B : Nat} {A : Option Addr} {n : Nat} (c : Nat) {zs : List Int} (hz : Bs w B A n zs) (hB : B ≤ w.heap.size) (hn : n ≤ 100000) :
    Calls Tryd.prog 70 #[.slice A n c] w fun e w' => e = .returned (.agg (vals (shaZ zs)).toArray) ∧ Below w.heap.size w w' := by
  obtain ⟨ms, hms⟩ : ∃ ms, zs ++ padZ n = ms := ⟨_, rfl⟩
  obtain ⟨L, hL⟩ : ∃ L, ms.length = L := ⟨_, rfl⟩
  have hL64 : L % 64 = 0 := by rw [← hL, ← hms, List.length_append, hz.len, padZ_len]; omega
  have hLb : L ≤ 200000 := by rw [← hL, ← hms, List.length_append, hz.len, padZ_len]; omega
  obtain ⟨Q, hQ⟩ : ∃ Q, L / 64 = Q := ⟨_, rfl⟩
  have hLQ : L = 64 * Q := by omega
  have HTZ : Hid (tagZ (behindTo h0 ms Q) = shaZ zs) := Lib.hid (by
    unfold shaZ Sha.behind
    rw [hz.len, hms, hL, hQ])
  have bm : Hid (IsBytes ms) := Lib.hid (by rw [← hms]; exact hz.isBytes.app (padZ_bytes n))
  have HMS := Lib.hid hms
  have HL := Lib.hid hL
  have HQ := Lib.hid hLQ
  have HZ := Lib.hid hz
  obtain ⟨W0, hW0⟩ : ∃ W0, W0 = w.alloc (.cells (vals (List.replicate 32 0)).toArray 100) := ⟨_, rfl⟩
  have b0 : Below w.heap.size w W0 := by rw [hW0]; exact (Below.refl _ _).alloc (Nat.le_refl _) _
  have s0 : W0.heap.size = w.heap.size + 1 := by rw [hW0]; simp
  have g0 : W0.there w.heap.size 0 32 := by rw [hW0]; simpa using (Row8.new w (List.replicate 32 0) 100).there
  obtain ⟨W1, hW1⟩ : ∃ W1, W1 = W0.alloc (.cells (u32s h0.list).toArray 88) := ⟨_, rfl⟩
  have r1 : Row32 W1 (w.heap.size + 1) h0.list := by rw [hW1, ← s0]; exact Row32.new W0 h0.list 88
  have b1 : Below w.heap.size w W1 := by rw [hW1]; exact b0.alloc (by omega) _
  have s1 : W1.heap.size = w.heap.size + 1 + 1 := by rw [hW1]; simp [s0]
  have g1 : W1.there w.heap.size 0 32 := by rw [hW1]; exact there_same g0 (Below.heap_alloc _ _ _ (by omega))
  have HW0 := Lib.hid hW0
  have HW1 := Lib.hid hW1
  have S1 := Lib.hid s1
  have S0 := Lib.hid s0
  have G1 := Lib.hid g1
  have R1 := Lib.hid r1
  have B1 := Lib.hid b1
  clear hms hL hQ hLQ hz hW0 hW1 b0 s0 g0 r1 b1 s1 g1
  go_enter Tryd.func70, Tryd.ntmps70
  go_wp2_with fail
  refine (show Calls Tryd.prog 76 #[] ((w.alloc (.cells (vals (List.replicate 32 0)).toArray 100)).alloc (.cells (u32s h0.list).toArray 88)) _ from ?_)
  rw [← HW0.out, ← HW1.out]
  refine (constants_any W1).mono ?_
  rintro e w2 ⟨rfl, k2, b2, s2⟩
  obtain ⟨kb, hkb⟩ : ∃ g, W1.heap.size = g := ⟨_, rfl⟩
  have hkbE : kb = w.heap.size + 1 + 1 := by rw [← hkb, S1.out]
  rw [hkb] at k2 b2 s2
  simp only [hkb]
  have q2 := Lib.hid (B1.out.trans (b2.mono (by omega)))
  have G2 := Lib.hid (there_same G1.out (b2.block _ (by omega)))
  have R2 := Lib.hid (row32_keep R1.out (b2.block (w.heap.size + 1) (by omega)))
  have K2 := Lib.hid k2
  have HKB := Lib.hid hkbE
  have kb1 : w.heap.size + 2 ≤ kb := by omega
  have kb2 : kb ≤ w.heap.size + 2 := by omega
  clear b2 k2 hkb hkbE R1 G1 B1
  go_wp2_with fail
  refine (whole_any c (HZ.out.belowM q2.out hB) (Nat.le_trans hB q2.out.size) (by omega)).mono ?_
  intro e w3 hm3
  rw [HMS.out] at hm3
  obtain ⟨D, d3, rfl, ho3, b3, hLc, hcm⟩ := hm3.n HL.out
  have HD := Lib.hid (fun (b off : Nat) (e : D = some ⟨b, off, none⟩) => (ho3.lt b (by rw [e]; rfl)).1)
  have Z3 := Lib.hid (bs_of_own ho3 bm.out)
  have q3 := Lib.hid (q2.out.trans (b3.mono q2.out.size))
  have G3 := Lib.hid (there_same G2.out (b3.block _ (by omega)))
  have s3 := b3.size
  obtain ⟨nb, hnb⟩ : ∃ g, w.heap.size + 1 = g := ⟨_, rfl⟩
  have M3 : Hid (Ahead w3 w3 nb (behindTo h0 ms 0)) := Lib.hid ⟨World.grownBy.refl _ _, by rw [← hnb]; exact row32_keep R2.out (b3.block _ (by omega))⟩
  have K3 := Lib.hid (row32_keep K2.out (b3.block kb (by omega)))
  have n1 : w.heap.size < nb := by omega
  have n2 : nb < kb := by omega
  have n3 : kb < w2.heap.size := s2
  rw [hnb]
  clear hm3 ho3 b3 hnb R2 K2 G2 q2 kb1 kb2
  go_wp2
  go_loopw [6] (fun i wr => ∃ a q : Nat, Hid (a = 64 * q) ∧ q ≤ Q ∧ i = .int .i64 a ∧ Hid (Ahead w3 wr nb (behindTo h0 ms q))) (fun i _ => L - (intOf i).toNat)
  case atStart => exact ⟨0, 0, Lib.hid rfl, by omega, rfl, M3⟩
  case round =>
    obtain ⟨a, q, HAQ, hq, rfl, HM⟩ := hrel
    have haq := HAQ.out
    have hgr := HM.out.1
    have hsz := hgr.size
    obtain ⟨v, hv⟩ : ∃ v, behindTo h0 ms q = v := ⟨_, rfl⟩
    have HV := Lib.hid hv
    have HVok : Hid v.ok := Lib.hid (by rw [← hv]; exact behindTo_ok h0_ok ms q)
    rw [hv] at HM
    have HGR := Lib.hid hgr
    clear hv hgr
    have ZR := Lib.hid (Z3.out.keepB (w' := wr) (fun b off e hb => HGR.out.block b hb (by have := HD.out b off e; simp; omega)))
    by_cases hlt : q < Q
    · have hL' := HQ.out
      have haI : (a : Int) < (L : Int) := by omega
      have gw : IntKind.i64.wrap ((a : Int) + 64) = (a : Int) + 64 := by rw [IntKind.wrap_i64]; omega
      obtain ⟨A2, hs, ct⟩ := cut_lh D L d3 a (a + 64) (a : Int) ((a : Int) + 64) rfl (by omega) (by omega) (by omega)
      have hs' : ∀ W, (Instr.slice 27 (.slice D L d3) (some (.int .i64 (a : Int))) (some (.int .i64 ((a : Int) + 64))) none).run Tryd.prog W = .ok (.slice A2 64 (d3 - a)) W := by simpa using hs
      have Z4 : Hid (Bs wr w3.heap.size A2 64 ((ms.drop (64 * q)).take 64)) := Lib.hid (by
        have := ZR.out.cut (k := a) (m := 64) (by omega) A2 (by simpa [CutAt] using ct)
        rwa [haq] at this)
      have i0 : (0 : Int) ≤ (a : Int) := by omega
      have i1 : (a : Int) + 64 ≤ (d3 : Int) := by omega
      clear hs ct haq hL'
      go_wp2_with fail
      refine (schedule_any (d3 - a) Z4.out (by omega)).mono ?_
      rw [wordsAt_piece]
      obtain ⟨ws, hws⟩ : ∃ ws, wordsAt ms q = ws := ⟨_, rfl⟩
      have hwl : Hid (ws.length = 16) := Lib.hid (by rw [← hws]; exact wordsAt_len _ _)
      have hww : Hid (AllW ws) := Lib.hid (by rw [← hws]; exact wordsAt_lt ms bm.out q)
      have HNX : Hid (behindTo h0 ms (q + 1) = blk v ws) := Lib.hid (by rw [← HV.out, ← hws]; rfl)
      rw [hws]
      clear hws
      rintro e w4 ⟨sb, sc4, rfl, hcs, hsb1, hsb2, b4⟩
      have e64 : (schedTo ws 48).length = 64 := schedTo_len ws hwl.out 48
      rw [e64]
      have CS := Lib.hid hcs
      have LS := Lib.hid e64
      have GR4 := Lib.hid (grown_below HGR.out b4)
      have RN4 := Lib.hid (row32_keep HM.out.2 (b4.block nb (by omega)))
      have K4 := Lib.hid (row32_keep K3.out (GR4.out.block kb (by omega) (by simp; omega)))
      have s4 := b4.size
      clear b4 hcs e64 hs' Z4 ZR HM HGR HV
      have hnb4 : nb < w4.heap.size := by omega
      go_upto_region 8 with fail
      have c0 := RN4.out.cells 0 (by simp [H8.list])
      have c1 := RN4.out.cells 1 (by simp [H8.list])
      have c2 := RN4.out.cells 2 (by simp [H8.list])
      have c3 := RN4.out.cells 3 (by simp [H8.list])
      have c4 := RN4.out.cells 4 (by simp [H8.list])
      have c5 := RN4.out.cells 5 (by simp [H8.list])
      have c6 := RN4.out.cells 6 (by simp [H8.list])
      have c7 := RN4.out.cells 7 (by simp [H8.list])
      simp only [H8.list, List.getD_cons_zero, List.getD_cons_succ] at c0 c1 c2 c3 c4 c5 c6 c7
      go_quiet (fail)
      clear c0 c1 c2 c3 c4 c5 c6 c7
      go_wp2
      go_loopw [8, 9, 10, 11, 12, 13, 14, 15, 16] (fun a b c d e f g h i wr => ∃ t m : Nat, t ≤ 64 ∧ i = .int .i64 t ∧ Hid (wr = w4.drewN m) ∧ ∃ sa sb sc sd se sf sg sh : Nat, Hid ((⟨sa, sb, sc, sd, se, sf, sg, sh⟩ : H8) = rnds ws v t) ∧ a = .int .u32 (sa : Int) ∧ b = .int .u32 (sb : Int) ∧ c = .int .u32 (sc : Int) ∧ d = .int .u32 (sd : Int) ∧ e = .int .u32 (se : Int) ∧ f = .int .u32 (sf : Int) ∧ g = .int .u32 (sg : Int) ∧ h = .int .u32 (sh : Int)) (fun _ _ _ _ _ _ _ _ i _ => 64 - (intOf i).toNat)
      case atStart => exact ⟨0, _, by omega, rfl, Lib.hid rfl, v.a, v.b, v.c, v.d, v.e, v.f, v.g, v.h, Lib.hid rfl, rfl, rfl, rfl, rfl, rfl, rfl, rfl, rfl⟩
      case round =>
        obtain ⟨t, m, ht, rfl, HWR, xa, xb, xc, xd, xe, xf, xg, xh, HS, rfl, rfl, rfl, rfl, rfl, rfl, rfl, rfl⟩ := hrel
        have ok := rnds_ok ws HVok.out t
        rw [← HS.out] at ok
        obtain ⟨oa, ob, oc, od, oe, of_, og, oh⟩ := ok
        simp only at oa ob oc od oe of_ og oh
        by_cases hlt : t < 64
        · as_aux_lemma =>
            have ck := K4.out.cells t (show t < kTab.length by simpa [kTab] using hlt)
            have ca := CS.out t (by rw [LS.out]; exact hlt)
            rw [sched_at ws hwl.out 48 t (by omega)] at ca
            obtain ⟨wt, hwt⟩ : ∃ x, wAt ws t = x := ⟨_, rfl⟩
            have bw := wAt_lt ws hwl.out hww.out t
            rw [hwt] at ca bw
            have HWT := Lib.hid hwt
            have bk := kTab_lt t
            obtain ⟨kt, hkt⟩ : ∃ k, kTab.getD t 0 = k := ⟨_, rfl⟩
            rw [hkt] at ck bk
            have HKT := Lib.hid hkt
            have ck' : wr.cell? ⟨kb, t, none⟩ = some (.int .u32 (kt : Int)) := by rw [HWR.out]; exact ck
            have ca' : wr.cell? ⟨sb, t, none⟩ = some (.int .u32 (wt : Int)) := by rw [HWR.out]; exact ca
            clear ck ca
            have hltI : (t : Int) < 64 := by omega
            have s2 := mjx_bits xa xb xc oa ob oc
            have s3 := chx_bits xe xf xg oe of_ og
            clear hkt hwt
            go_upto_region 14 with fail
            rw [show (if IntKind.u32.signed = true then (-1 : Int) else IntKind.u32.max) = IntKind.u32.max from rfl, s3]
            clear s2 s3
            go_quiet ((go_at_call 79; exact quiet_at (turnsE_any xe oe)))
            go_wp2_with fail
            obtain ⟨T1, hT1⟩ : ∃ T, (xh + bs1 xe + ch xe xf xg + kt + wt) % 4294967296 = T := ⟨_, rfl⟩
            have hT1lt : T1 < 4294967296 := by rw [← hT1]; exact mod_lt _
            have HN : Hid ((⟨(T1 + bs0 xa + mj xa xb xc) % 4294967296, xa, xb, xc, (xd + T1) % 4294967296, xe, xf, xg⟩ : H8) = rnds ws v (t + 1)) := Lib.hid (by
              show _ = rnd (rnds ws v t) (kTab.getD t 0) (wAt ws t)
              rw [← HS.out, HWT.out, HKT.out, ← hT1]; rfl)
            rw [show (((xh : Int) + ((bs1 xe : Nat) : Int) + ((ch xe xf xg : Nat) : Int) + (kt : Int)) % 4294967296 + (wt : Int)) % 4294967296 = (T1 : Int) by omega]
            clear hT1 ck' ca'
            refine (turnsA_any xa oa _).mono ?_
            rintro e w6 ⟨rfl, m2, rfl⟩
            go_wp2
            go_roundw
            case rel => exact ⟨t + 1, m + (nq + m2), by omega, by go_num, Lib.hid (by rw [HWR.out, World.drewN_drewN]), _, _, _, _, _, _, _, _, HN, congrArg (Value.int .u32) (by omega), rfl, rfl, rfl, congrArg (Value.int .u32) (by omega), rfl, rfl, rfl⟩
            case measure => simp [intOf]; omega
        · as_aux_lemma =>
            have ht64 : t = 64 := by omega
            have HBK : Hid (blk v ws = addV v ⟨xa, xb, xc, xd, xe, xf, xg, xh⟩) := Lib.hid (by unfold blk; rw [HS.out, ht64])
            have ov := HVok.out
            obtain ⟨va, vb, vc, vd, ve, vf, vg, vh⟩ := ov
            have c0 := RN4.out.cells 0 (by simp [H8.list])
            have c1 := RN4.out.cells 1 (by simp [H8.list])
            have c2 := RN4.out.cells 2 (by simp [H8.list])
            have c3 := RN4.out.cells 3 (by simp [H8.list])
            have f0 := RN4.out.free 0 (by simp [H8.list])
            have f1 := RN4.out.free 1 (by simp [H8.list])
            have f2 := RN4.out.free 2 (by simp [H8.list])
            have f3 := RN4.out.free 3 (by simp [H8.list])
            simp only [H8.list, List.getD_cons_zero, List.getD_cons_succ] at c0 c1 c2 c3
            have e0 : wr.cell? ⟨nb, 0, none⟩ = some (.int .u32 ((v.a : Nat) : Int)) := by rw [HWR.out]; exact c0
            have e1 : wr.cell? ⟨nb, 1, none⟩ = some (.int .u32 ((v.b : Nat) : Int)) := by rw [HWR.out]; exact c1
            have e2 : wr.cell? ⟨nb, 2, none⟩ = some (.int .u32 ((v.c : Nat) : Int)) := by rw [HWR.out]; exact c2
            have e3 : wr.cell? ⟨nb, 3, none⟩ = some (.int .u32 ((v.d : Nat) : Int)) := by rw [HWR.out]; exact c3
            have h0' : wr.frozen? ⟨nb, 0, none⟩ = false := by rw [HWR.out]; exact f0
            have h1' : wr.frozen? ⟨nb, 1, none⟩ = false := by rw [HWR.out]; exact f1
            have h2' : wr.frozen? ⟨nb, 2, none⟩ = false := by rw [HWR.out]; exact f2
            have h3' : wr.frozen? ⟨nb, 3, none⟩ = false := by rw [HWR.out]; exact f3
            have htI : ¬ (t : Int) < 64 := by omega
            clear ht64 HS c0 c1 c2 c3 f0 f1 f2 f3
            have RW : Hid (Row32 wr nb [v.a, v.b, v.c, v.d, v.e, v.f, v.g, v.h]) := Lib.hid (by rw [HWR.out]; exact RN4.out.drewN m)
            have GW : Hid (w3.grownBy wr (some nb)) := Lib.hid (by rw [HWR.out]; exact grown_drewN GR4.out m)
            have hnbW : nb < wr.heap.size := by rw [HWR.out]; exact hnb4
            clear HWR RN4 GR4
            go_wp2
            go_region
            obtain ⟨y0, hy0⟩ : ∃ y, (v.a + xa) % 4294967296 = y := ⟨_, rfl⟩
            obtain ⟨y1, hy1⟩ : ∃ y, (v.b + xb) % 4294967296 = y := ⟨_, rfl⟩
            obtain ⟨y2, hy2⟩ : ∃ y, (v.c + xc) % 4294967296 = y := ⟨_, rfl⟩
            obtain ⟨y3, hy3⟩ : ∃ y, (v.d + xd) % 4294967296 = y := ⟨_, rfl⟩
            rw [show ((v.a : Int) + (xa : Int)) % 4294967296 = (y0 : Int) by omega, show ((v.b : Int) + (xb : Int)) % 4294967296 = (y1 : Int) by omega, show ((v.c : Int) + (xc : Int)) % 4294967296 = (y2 : Int) by omega, show ((v.d : Int) + (xd : Int)) % 4294967296 = (y3 : Int) by omega]
            have R7 := ((((RW.out.set 0 y0 (by simp)).set 1 y1 (by simp)).set 2 y2 (by simp)).set 3 y3 (by simp)).drew
            have G7 := grown_drew (grown_set (grown_set (grown_set (grown_set GW.out 0 (.int .u32 (y0 : Int))) 1 (.int .u32 (y1 : Int))) 2 (.int .u32 (y2 : Int))) 3 (.int .u32 (y3 : Int)))
            simp only [List.set_cons_zero, List.set_cons_succ] at R7
            obtain ⟨W7, hW7⟩ : ∃ W7, ((((wr.setCell ⟨nb, 0, none⟩ (.int .u32 (y0 : Int))).setCell ⟨nb, 1, none⟩ (.int .u32 (y1 : Int))).setCell ⟨nb, 2, none⟩ (.int .u32 (y2 : Int))).setCell ⟨nb, 3, none⟩ (.int .u32 (y3 : Int))).drew = W7 := ⟨_, rfl⟩
            rw [hW7] at R7 G7 ⊢
            have HY0 := Lib.hid hy0
            have HY1 := Lib.hid hy1
            have HY2 := Lib.hid hy2
            have HY3 := Lib.hid hy3
            have HR7 := Lib.hid R7
            have HG7 := Lib.hid G7
            have e4 := R7.cells 4 (by simp)
            have e5 := R7.cells 5 (by simp)
            have e6 := R7.cells 6 (by simp)
            have e7 := R7.cells 7 (by simp)
            have f4 := R7.free 4 (by simp)
            have f5 := R7.free 5 (by simp)
            have f6 := R7.free 6 (by simp)
            have f7 := R7.free 7 (by simp)
            simp only [List.getD_cons_zero, List.getD_cons_succ] at e4 e5 e6 e7
            clear hW7 R7 G7 hy0 hy1 hy2 hy3 RW GW e0 e1 e2 e3 h0' h1' h2' h3'
            as_aux_lemma =>
              go_wp2
              go_region
              obtain ⟨y4, hy4⟩ : ∃ y, (v.e + xe) % 4294967296 = y := ⟨_, rfl⟩
              obtain ⟨y5, hy5⟩ : ∃ y, (v.f + xf) % 4294967296 = y := ⟨_, rfl⟩
              obtain ⟨y6, hy6⟩ : ∃ y, (v.g + xg) % 4294967296 = y := ⟨_, rfl⟩
              obtain ⟨y7, hy7⟩ : ∃ y, (v.h + xh) % 4294967296 = y := ⟨_, rfl⟩
              rw [show ((v.e : Int) + (xe : Int)) % 4294967296 = (y4 : Int) by omega, show ((v.f : Int) + (xf : Int)) % 4294967296 = (y5 : Int) by omega, show ((v.g : Int) + (xg : Int)) % 4294967296 = (y6 : Int) by omega, show ((v.h : Int) + (xh : Int)) % 4294967296 = (y7 : Int) by omega]
              have R8 := ((((HR7.out.set 4 y4 (by simp)).set 5 y5 (by simp)).set 6 y6 (by simp)).set 7 y7 (by simp)).drew
              have G8 := grown_drew (grown_set (grown_set (grown_set (grown_set HG7.out 4 (.int .u32 (y4 : Int))) 5 (.int .u32 (y5 : Int))) 6 (.int .u32 (y6 : Int))) 7 (.int .u32 (y7 : Int)))
              simp only [List.set_cons_zero, List.set_cons_succ] at R8
              obtain ⟨W8, hW8⟩ : ∃ W8, ((((W7.setCell ⟨nb, 4, none⟩ (.int .u32 (y4 : Int))).setCell ⟨nb, 5, none⟩ (.int .u32 (y5 : Int))).setCell ⟨nb, 6, none⟩ (.int .u32 (y6 : Int))).setCell ⟨nb, 7, none⟩ (.int .u32 (y7 : Int))).drew = W8 := ⟨_, rfl⟩
              rw [hW8] at R8 G8 ⊢
              have HAH : Hid (Ahead w3 W8 nb (behindTo h0 ms (q + 1))) := Lib.hid ⟨G8, by
                rw [HNX.out, HBK.out, ← blk_list]
                simp only [H8.list, List.set_cons_zero, List.set_cons_succ]
                rw [HY0.out, HY1.out, HY2.out, HY3.out, hy4, hy5, hy6, hy7]
                exact R8⟩
              have gw2 : IntKind.i64.wrap ((a : Int) + 64) = (a : Int) + 64 := gw
              have haq2 := HAQ.out
              have hL2 := HQ.out
              clear hW8 R8 G8 hy4 hy5 hy6 hy7 e4 e5 e6 e7 f4 f5 f6 f7 HR7 HG7
              go_wp2
              go_roundw
              case rel => exact ⟨a + 64, q + 1, Lib.hid (by omega), by omega, by go_num, HAH⟩
              case measure => simp [intOf]; omega
    · as_aux_lemma =>
        have hqQ : q = Q := by omega
        have haL : a = L := by have := HQ.out; omega
        have hge : ¬ (a : Int) < (L : Int) := by omega
        have HFIN : Hid (tagZ v = shaZ zs) := Lib.hid (by rw [← HV.out, hqQ]; exact HTZ.out)
        have RV : Hid (Row32 wr nb v.list) := Lib.hid HM.out.2
        have GRr : Hid (wr.there w.heap.size 0 32) := Lib.hid (there_same G3.out (HGR.out.block _ (by omega) (by simp; omega)))
        have QR : Hid (Below w.heap.size w wr) := Lib.hid (q3.out.grown HGR.out q3.out.size (fun k hk => by injection hk with hk; omega))
        have hnbr : nb < wr.heap.size := by omega
        clear hqQ haL HV HM HGR HAQ haq ZR Z3 M3 HD
        have o0 : Row8 (wr.alloc (.cells (vals (List.replicate 32 0)).toArray 100)) wr.heap.size 0 (List.replicate 32 0) := Row8.new wr _ _
        obtain ⟨Wo, hWo⟩ : ∃ Wo, Wo = wr.alloc (.cells (vals (List.replicate 32 0)).toArray 100) := ⟨_, rfl⟩
        obtain ⟨ob, hob⟩ : ∃ g, wr.heap.size = g := ⟨_, rfl⟩
        rw [← hWo, hob] at o0
        have RVo : Hid (Row32 Wo nb v.list) := Lib.hid (by rw [hWo]; exact row32_keep RV.out (Below.heap_alloc _ _ _ hnbr))
        have GRo : Hid (Wo.there w.heap.size 0 32) := Lib.hid (by rw [hWo]; exact there_same GRr.out (Below.heap_alloc _ _ _ (by omega)))
        have QRo : Hid (Below w.heap.size w Wo) := Lib.hid (by rw [hWo]; exact QR.out.alloc QR.out.size _)
        have soo : ob < Wo.heap.size := by rw [hWo, ← hob]; simp
        have hobr : nb < ob := by omega
        have O0 := Lib.hid o0
        have HWO := Lib.hid hWo
        have HOB := Lib.hid hob
        have HOK := HVok.out
        clear o0 hWo hob RV GRr QR
        go_upto_region 20 with fail
        refine (show Code.wp Tryd.prog _ _ _ (wr.alloc (.cells (vals (List.replicate 32 0)).toArray 100)) from ?_)
        rw [← HWO.out, HOB.out]
        go_wp2
        go_loopw [22] (fun i wv => ∃ k : Nat, k ≤ 8 ∧ i = .int .i64 k ∧ ∃ cs : List Int, Hid (cs.length = 32) ∧ Hid (cs.take (4 * k) = tagTo v k) ∧ Hid (Row8 wv ob 0 cs) ∧ Hid (Wo.grownBy wv (some ob))) (fun i _ => 8 - (intOf i).toNat)
        case atStart => exact ⟨0, by omega, rfl, List.replicate 32 0, Lib.hid (List.length_replicate ..), Lib.hid rfl, O0, Lib.hid (World.grownBy.refl _ _)⟩
        case round =>
          obtain ⟨k, hk, rfl, cs, HC, HTK, HR8, HGO⟩ := hrel
          have sgo := HGO.out.size
          by_cases hlt8 : k < 8
          · as_aux_lemma =>
              have hkI : (k : Int) < 8 := by omega
              have RVk := row32_keep RVo.out (HGO.out.block nb (by omega) (by simp; omega))
              have ck := RVk.cells k (show k < v.list.length by simpa [H8.list] using hlt8)
              obtain ⟨x, hx⟩ : ∃ x, v.list.getD k 0 = x := ⟨_, rfl⟩
              have hxl : x < 4294967296 := by rw [← hx]; exact list_lt v HOK k hlt8
              rw [hx] at ck
              have HX := Lib.hid hx
              have HXL := Lib.hid hxl
              have hx0 : (0 : Int) ≤ (x : Int) := by omega
              have hx1 : (x : Int) < 4294967296 := by omega
              clear hx RVk
              go_wp2_with fail
              refine (refputI_any (x : Int) 4 (by omega) (by omega) (by omega) (by omega) _).mono ?_
              intro e w5 hm5
              rw [show (4 : Int).toNat = 4 from rfl] at hm5
              obtain ⟨D5, d5, rfl, ho5, b5, _, _⟩ := hm5.n (putZ_len ..)
              have z5 := Lib.hid (Made.bs ho5 (putZ_bytes (x : Int) 4))
              have HD5 := Lib.hid (fun (b off : Nat) (e : D5 = some ⟨b, off, none⟩) => (ho5.lt b (by rw [e]; rfl)).1)
              have R85 := Lib.hid (HR8.out.same (b5.block ob (by omega)))
              have GO5 := Lib.hid (grown_below HGO.out b5)
              have s5 := b5.size
              clear hm5 ho5 b5 ck HR8 HGO
              go_wp2
              go_loopw [24] (fun i wv => ∃ m : Nat, m ≤ 4 ∧ i = .int .i64 m ∧ ∃ ds : List Int, Hid (ds.length = 32) ∧ Hid (ds.take (4 * k) = cs.take (4 * k)) ∧ Hid (∀ j, j < m → ds.getD (4 * k + j) 0 = (putZ (x : Int) 4).getD j 0) ∧ Hid (Row8 wv ob 0 ds) ∧ Hid (w5.grownBy wv (some ob))) (fun i _ => 4 - (intOf i).toNat)
              case atStart => exact ⟨0, by omega, rfl, cs, HC, Lib.hid rfl, Lib.hid (fun j hj => absurd hj (by omega)), R85, Lib.hid (World.grownBy.refl _ _)⟩
              case round =>
                obtain ⟨m, hm, rfl, ds, HDS, HDT, HDJ, HR, HG⟩ := hrel
                have sg5 := HG.out.size
                by_cases hlt4 : m < 4
                · have zr := z5.out.keepB (w' := wr) (fun b off e hb => HG.out.block b hb (by have := HD5.out b off e; simp; omega))
                  obtain ⟨b1, o1, u1, rfl, hb1, HU1, hu1, hu1', hc1⟩ := zr.at_ (k := m) hlt4
                  have hmI : (m : Int) < 4 := by omega
                  have hcell := row8_cellR HR.out (k := 4 * k + m) (by rw [HDS.out]; omega) rfl
                  obtain ⟨c1', c2'⟩ := hcell
                  have gw : IntKind.i64.wrap (4 * (k : Int) + (m : Int)) = 4 * (k : Int) + (m : Int) := by rw [IntKind.wrap_i64]; omega
                  have i1 : (0 : Int) ≤ 4 * (k : Int) + (m : Int) := by omega
                  have i2 : 4 * (k : Int) + (m : Int) < 32 := by omega
                  have i3 : (4 * (k : Int) + (m : Int)).toNat = 4 * k + m := by omega
                  have HR' := Lib.hid (row8_setR HR.out (4 * k + m) u1 (by rw [HDS.out]; omega))
                  have HG' := Lib.hid (grown_set HG.out (4 * k + m) (.int .u8 u1))
                  have HDS' : Hid ((ds.set (4 * k + m) u1).length = 32) := Lib.hid (by rw [List.length_set]; exact HDS.out)
                  have HDT' : Hid ((ds.set (4 * k + m) u1).take (4 * k) = cs.take (4 * k)) := Lib.hid (by rw [List.take_set_of_le (by omega)]; exact HDT.out)
                  have HDJ' : Hid (∀ j, j < m + 1 → (ds.set (4 * k + m) u1).getD (4 * k + j) 0 = (putZ (x : Int) 4).getD j 0) := Lib.hid (fun j hj => by
                    rw [getD_set _ _ _ _ (by rw [HDS.out]; omega)]
                    split
                    · next h => rw [show j = m by omega, HU1.out]
                    · exact HDJ.out j (by omega))
                  clear zr HR HG HDS HDT HDJ
                  go_wp2
                  go_roundw
                  case rel => exact ⟨m + 1, by omega, by go_num, _, HDS', HDT', HDJ', HR', HG'⟩
                  case measure => simp [intOf]; omega
                · have hm4 : m = 4 := by omega
                  have HT' : Hid (ds.take (4 * (k + 1)) = tagTo v (k + 1)) := Lib.hid (by
                    have e1 : ds.take (4 * (k + 1)) = ds.take (4 * k) ++ (ds.drop (4 * k)).take 4 := by rw [show 4 * (k + 1) = 4 * k + 4 by omega, List.take_add]
                    have e2 : (ds.drop (4 * k)).take 4 = putZ (x : Int) 4 := list_ext_getD (by rw [List.length_take, List.length_drop, HDS.out, putZ_len]; omega) (fun j hj => by
                      rw [List.length_take, List.length_drop, HDS.out] at hj
                      rw [List.getD_eq_getElem?_getD, List.getElem?_take_of_lt (by omega), List.getElem?_drop, ← List.getD_eq_getElem?_getD]
                      exact HDJ.out j (by omega))
                    rw [e1, e2, HDT.out, HTK.out, ← HX.out]; rfl)
                  have HGO' := Lib.hid (show Wo.grownBy wr (some ob) from ⟨HG.out.os.trans GO5.out.os, HG.out.tape.trans GO5.out.tape, HG.out.output.trans GO5.out.output, Nat.le_trans GO5.out.size HG.out.size, fun i hi hne => (HG.out.block i (Nat.lt_of_lt_of_le hi GO5.out.size) hne).trans (GO5.out.block i hi hne)⟩)
                  have hge4 : ¬ (m : Int) < 4 := by omega
                  clear hm4 HDT HDJ HG z5 HD5 R85 GO5
                  go_wp2
                  go_roundw
                  case rel => exact ⟨k + 1, by omega, by go_num, ds, HDS, HT', HR, HGO'⟩
                  case measure => simp [intOf]; omega
          · as_aux_lemma =>
              have hk8 : k = 8 := by omega
              have HE : Hid (cs = shaZ zs) := Lib.hid (by
                rw [← HFIN.out, ← tagTo_8]
                have := HTK.out
                rwa [hk8, List.take_of_length_le (by rw [HC.out]; omega)] at this)
              have hge8 : ¬ (k : Int) < 8 := by omega
              have T2 : Hid (wr.there w.heap.size 0 (vals cs).toArray.size) := Lib.hid (by
                rw [show (vals cs).toArray.size = 32 by rw [List.size_toArray, vals_len, HC.out]]
                exact there_same GRo.out (HGO.out.block _ (by omega) (by simp; omega)))
              have QF : Hid (Below w.heap.size w wr) := Lib.hid (QRo.out.grown HGO.out QRo.out.size (fun j hj => by injection hj with hj; omega))
              have RG := Lib.hid HR8.out.range
              have G := HC
              clear hk8 HTK HR8 HGO
              go_upto_region 28 with fail
              refine wp_region_lit ?_
              refine wpList_load_mid (op := ⟨some 199, .load 100 (.tmp 21), _, _, _, _⟩) rfl 100 (.tmp 21) rfl ob 0 ?_ (vals cs) _ RG.out Tryd.underlying100 rfl (tag_size cs HC.out) ?_
              · rfl
              refine wpList_store_as (op := ⟨none, .store 100 (.tmp 2) (.tmp 199), _, _, _, _⟩) rfl 100 (.tmp 2) (.tmp 199) rfl w.heap.size 0 (vals cs).toArray ?_ ?_ T2.out (tag_size cs HC.out) (all_oneCell_toArray (vals_one cs)) ?_
              · rfl
              · rfl
              intro w9 hw9
              have R9 : w9.rangeAt w.heap.size 0 (vals cs) := by rw [hw9.out]; exact World.rangeAt_setCells_same _ _ _ _ T2.out
              have b9 : Below w.heap.size w w9 := by rw [hw9.out]; exact below_setCells (Nat.le_refl _) _ _ _ QF.out
              have R9' := Lib.hid R9
              have b9' := Lib.hid b9
              clear hw9 R9 b9
              go_wp2
              refine bodyPost_ret (v := .agg (vals cs).toArray) (results_mid (p := 2) (ty := 100) rfl _ _ w.heap.size 0 (vals cs) _ ?_ R9'.out Tryd.underlying100 rfl (tag_size cs HC.out)) rfl ⟨by rw [HE.out], b9'.out⟩
              rfl
end Go.Proofs.YtjfeepmjebdahaaDoor
/- The document's own way from a tag to bytes. -/
namespace Go.Proofs.YtjfeepmjebdahaaDoor
open Go.ChangeShapes Go.WideShapes Go.ChangeAt Go.RowKit
set_option linter.unusedVariables false
open Plain Sha
set_option maxRecDepth 100000 in
set_option maxHeartbeats 2000000 in
theorem refbytes_any (T : List Int) (hl : T.length = 32) (hb : IsBytes T) (w : World) :
    Calls Tryd.prog 69 #[.agg (vals T).toArray] w (Made w T) := by
  obtain ⟨i0, hi0, hz0, hz1, hz2⟩ := info_parts u8_row
  have I0 := Lib.hid hi0
  have I1 := Lib.hid hz0
  have I2 := Lib.hid hz1
  have I3 := Lib.hid hz2
  have HL := Lib.hid hl
  have HB := Lib.hid hb
  obtain ⟨W0, hW0⟩ : ∃ W0, W0 = w.alloc (.cells (vals T).toArray 100) := ⟨_, rfl⟩
  have r0 : Row8 W0 w.heap.size 0 T := by rw [hW0]; exact Row8.new w T _
  have b0 : Below w.heap.size w W0 := by rw [hW0]; exact (Below.refl _ _).alloc (Nat.le_refl _) _
  have s0 : w.heap.size < W0.heap.size := by rw [hW0]; simp
  have HW0 := Lib.hid hW0
  have R0 := Lib.hid r0
  have B0 := Lib.hid b0
  clear hi0 hz0 hz1 hz2 hl hb hW0 r0 b0
  go_enter Tryd.func69, Tryd.ntmps69
  go_wp2
  rw [← HW0.out]
  go_loopw [3, 4] (fun v i wr => ∃ k : Nat, k ≤ 32 ∧ i = .int .i64 k ∧ Hid (wr.ownsRow (w.heap.size + 1) 5 1 v k (vals (T.take k))) ∧ Hid (Below W0.heap.size W0 wr)) (fun _ i _ => 32 - (intOf i).toNat)
  case atStart => exact ⟨0, by omega, rfl, Lib.hid (World.ownsRow_nil _ _ _ _), Lib.hid (Below.refl _ _)⟩
  case round =>
    obtain ⟨k, hk, rfl, HO, HB2⟩ := hrel
    have sr := HB2.out.size
    by_cases hlt : k < 32
    · have hkI : (k : Int) < 32 := by omega
      have RW := R0.out.same (HB2.out.block w.heap.size s0)
      have hc := RW.range k _ (vals_at T k (by rw [HL.out]; exact hlt))
      rw [Nat.zero_add] at hc
      obtain ⟨u, hu⟩ : ∃ u, T.getD k 0 = u := ⟨_, rfl⟩
      rw [hu] at hc
      have HT : Hid (vals (T.take (k + 1)) = vals (T.take k) ++ [.int .u8 u]) := Lib.hid (by rw [take_snoc_getD _ _ (by rw [HL.out]; exact hlt), vals_app, hu]; rfl)
      clear hu RW
      go_wp2_with (at_builtin; refine wpList_append_own _ rfl (.tmp 9) (.tmp 13) 27 rfl (w.heap.size + 1) 5 i0 _ 1 1 Tryd.underlying27 I0.out I1.out I2.out I3.out rfl (by decide) u3 k (vals (T.take k)) rfl (HO.out.alloc _) ⟨wr.heap.size, 0, none⟩ 1 1 [.int .u8 u] rfl rfl (World.news_of_block (cs := #[.int .u8 u]) (t := 5) (fr := (0, 0)) (heap_alloc_new wr _)) (by simp [Value.oneCell']) (by unfold maxLen; omega) (by omega) (by simp; omega) ?_; intro v2 w2 ho2 hg2 _)
      have b2 : Below W0.heap.size W0 w2 := (HB2.out.alloc sr _).grown hg2 (by simp; omega) (fun q hq => by
        have h1 := (HO.out.lt q hq).1
        have h2 : W0.heap.size ≤ w.heap.size + 1 := by rw [HW0.out]; simp
        omega)
      have ho2' : w2.ownsRow (w.heap.size + 1) 5 1 v2 (k + 1) (vals (T.take (k + 1))) := by rw [HT.out]; exact ho2
      clear ho2 hg2
      go_roundw
      case rel => exact ⟨k + 1, by omega, by go_num, Lib.hid ho2', Lib.hid b2⟩
      case measure => simp [intOf]; omega
    · have hk32 : k = 32 := by omega
      have HM : Hid (Made w T (.returned u3) wr) := Lib.hid (made_of (n := k) (by rw [HL.out, hk32]) (by
        have := HO.out
        rw [hk32, List.take_of_length_le (by rw [HL.out]; exact Nat.le_refl _)] at this
        rw [hk32]
        exact own_base this (by omega)) (B0.out.trans (HB2.out.mono B0.out.size)))
      have hge : ¬ (k : Int) < 32 := by omega
      clear hk32 HO HB2
      go_wp2
      go_ret
      exact HM.out
end Go.Proofs.YtjfeepmjebdahaaDoor
/- The document's own answers for frame: Seal, Next. -/
namespace Go.Proofs.YtjfeepmjebdahaaDoor
open Go.ChangeShapes Go.WideShapes Go.ChangeAt Go.RowKit
set_option linter.unusedVariables false
open Plain Sha
set_option maxRecDepth 100000 in
set_option maxHeartbeats 2000000 in
theorem refseal_any {w : World} {B : Nat} {A : Option Addr} {n : Nat} (c : Nat) {zs : List Int} (hz : Bs w B A n zs) (hB : B ≤ w.heap.size) (hn : n ≤ 65536) :
    Calls Tryd.prog 57 #[.slice A n c] w (Made w (frameZ zs)) := by
  have gw : IntKind.u64.wrap (n : Int) = (n : Int) := by rw [IntKind.wrap_u64]; omega
  have C1 := Lib.hid (refput_any (n : Int) 4 (by omega) (by omega) (by omega) w)
  have HL := hz.len
  have E1 : Hid (putZ (n : Int) 4 ++ zs = aheadZ zs) := Lib.hid (by unfold aheadZ; rw [HL])
  have L1 : Hid ((aheadZ zs).length = 4 + n) := Lib.hid (by rw [aheadZ_len, HL])
  have B1 : Hid (IsBytes (aheadZ zs)) := Lib.hid (aheadZ_bytes hz.isBytes)
  obtain ⟨T, hT⟩ : ∃ T, shaZ (aheadZ zs) = T := ⟨_, rfl⟩
  have LT : Hid (T.length = 32) := Lib.hid (by rw [← hT]; exact shaZ_len _)
  have BT : Hid (IsBytes T) := Lib.hid (by rw [← hT]; exact shaZ_bytesF _)
  have ES : Hid (aheadZ zs ++ T.take 8 = frameZ zs) := Lib.hid (by unfold frameZ sealZ; rw [hT])
  have LS : Hid ((frameZ zs).length = n + 12) := Lib.hid (by rw [frameZ_len, HL])
  have HT := Lib.hid hT
  have HZ := Lib.hid hz
  clear hz HL hT
  go_enter Tryd.func57, Tryd.ntmps57
  go_wp2_with fail
  refine C1.out.mono ?_
  intro e w1 hm1
  obtain ⟨P1, p1, rfl, ho1, b1, _, _⟩ := hm1.n (putZ_len _ _)
  have z1 := Made.bs ho1 (putZ_bytes _ _)
  have q1 := Lib.hid b1
  have C2 := Lib.hid (refcat_any (w := w1) p1 c z1 (HZ.out.belowM b1 hB) (Nat.le_refl _) (Nat.le_trans hB b1.size) (by omega))
  rw [E1.out] at C2
  clear hm1 ho1 b1 z1 C1
  go_wp2_with fail
  refine C2.out.mono ?_
  intro e w2 hm2
  obtain ⟨P2, p2, rfl, ho2, b2, hp2, _⟩ := hm2.n L1.out
  have q2 := Lib.hid (q1.out.trans (b2.mono q1.out.size))
  have z2 := Lib.hid (Made.bs ho2 B1.out)
  clear hm2 ho2 b2 C2 q1
  go_wp2_with fail
  refine (refsum_any p2 z2.out (Nat.le_refl _) (by omega)).mono ?_
  rw [HT.out]
  rintro e w3 ⟨rfl, b3⟩
  have q3 := Lib.hid (q2.out.trans (b3.mono q2.out.size))
  have z3 := Lib.hid (z2.out.belowM b3 (Nat.le_refl _))
  have s3 := b3.size
  clear b3 z2 q2
  go_wp2_with fail
  refine (refbytes_any T LT.out BT.out w3).mono ?_
  intro e w4 hm4
  obtain ⟨P4, p4, rfl, ho4, b4, hp4, hp4'⟩ := hm4.n LT.out
  have q4 := Lib.hid (q3.out.trans (b4.mono q3.out.size))
  have z4 := Lib.hid (z3.out.belowM b4 s3)
  have s4 := b4.size
  have y4 := Made.bs ho4 BT.out
  have y8 : Bs w4 w4.heap.size P4 8 (T.take 8) := by
    have := y4.cut (k := 0) (m := 8) (by omega) P4 (fun b off e _ => by rw [e]; rfl)
    rwa [List.drop_zero] at this
  have i8 := cut_h P4 32 p4 8 8 rfl (by omega)
  have C5 := Lib.hid (refcat_any (w := w4) p2 p4 z4.out y8 (by omega) (Nat.le_refl _) (by omega))
  rw [ES.out] at C5
  clear hm4 ho4 b4 y4 y8 z3 q3
  go_wp2_with fail
  refine C5.out.mono ?_
  intro e w5 hm5
  obtain ⟨P5, p5, rfl, ho5, b5, h5, h5'⟩ := hm5.n LS.out
  have q5 := Lib.hid (q4.out.trans (b5.mono q4.out.size))
  have O5 := Lib.hid (own_base ho5 q4.out.size)
  clear hm5 ho5 b5 C5 i8
  go_wp2
  go_ret
  exact made_of LS.out O5.out q5.out
theorem putZ_numZ : ∀ (n : Nat) (p : List Int), p.length = n → IsBytes p → putZ (numZ p) n = p
  | 0, p, hl, _ => by
    have : p = [] := List.eq_nil_of_length_eq_zero hl
    subst this; rfl
  | n + 1, p, hl, hb => by
    obtain ⟨q, z, rfl⟩ : ∃ q z, p = q ++ [z] := by
      rcases List.eq_nil_or_concat p with rfl | ⟨q, z, rfl⟩
      · simp at hl
      · exact ⟨q, z, by simp⟩
    have hq : q.length = n := by simpa using hl
    have hbq : IsBytes q := by rw [isBytes_iff] at *; exact fun y hy => hb y (List.mem_append_left _ hy)
    have hz := (isBytes_iff.1 hb) z (by simp)
    have hnn := (numZ_range q (isBytes_iff.1 hbq)).1
    rw [numZ_snoc, putZ_succ _ _ (by omega), show (numZ q * 256 + z) / 256 = numZ q by omega, show (numZ q * 256 + z) % 256 = z by omega, putZ_numZ n q hq hbq]
theorem ref_same {bs : List Int} (hb : IsBytes bs) (h4 : 4 ≤ bs.length) (hl : lenZ bs + 12 ≤ bs.length) :
    eqB (frameZ ((bs.drop 4).take (lenZ bs))) (bs.take (lenZ bs + 12)) = eqB ((bs.drop (4 + lenZ bs)).take 8) (sealZ (bs.take (4 + lenZ bs))) := by
  obtain ⟨m, hm⟩ : ∃ m, lenZ bs = m := ⟨_, rfl⟩
  rw [hm] at hl ⊢
  have lp : ((bs.drop 4).take m).length = m := by rw [List.length_take, List.length_drop]; omega
  have hnn := (numZ_range (bs.take 4) (isBytes_iff.1 (hb.take 4))).1
  have e1 : aheadZ ((bs.drop 4).take m) = bs.take (4 + m) := by
    unfold aheadZ
    rw [lp, List.take_add]
    congr 1
    have : ((m : Nat) : Int) = numZ (bs.take 4) := by rw [← hm]; unfold lenZ; omega
    rw [this, putZ_numZ 4 _ (by rw [List.length_take]; omega) (hb.take 4)]
  have e2 : bs.take (m + 12) = bs.take (4 + m) ++ (bs.drop (4 + m)).take 8 := by rw [show m + 12 = 4 + m + 8 by omega, List.take_add]
  unfold frameZ
  rw [e1, e2]
  unfold eqB
  congr 1
  apply propext
  constructor
  · intro h; exact (List.append_cancel_left h).symm
  · intro h; rw [h]
theorem cut_lhU (A : Option Addr) (n c lo hi : Nat) (l h : Int) (hl : l = lo) (hh : h = hi) (h1 : lo ≤ hi) (h2 : hi ≤ c) :
    ∃ A', (∀ W, (Instr.slice 27 (.slice A n c) (some (.int .i64 l)) (some (.int .u64 h)) none).run Tryd.prog W = .ok (.slice A' (hi - lo) (c - lo)) W) ∧ CutAt A A' lo (hi - lo) := by
  subst hl hh
  refine ⟨_, fun W => ?_, cutAt_if A c lo (hi - lo) (by omega)⟩
  have he : Tryd.prog.elem 27 = 5 := by simp [Program.elem, Tryd.underlying27]
  rw [run_slice_lh W 27 A n c (by rw [he]; exact Tryd.underlying27) .i64 .u64 _ _ (by omega) (by omega) (by omega), he, sizeOf_u8']
  simp [Result.andThen, sliced]
set_option maxRecDepth 100000 in
set_option maxHeartbeats 2000000 in
theorem refnext_any {w : World} {B : Nat} {A : Option Addr} {n : Nat} (c : Nat) {bs : List Int} (hz : Bs w B A n bs) (hB : B ≤ w.heap.size) (hn : n ≤ 1000000) (hc : n ≤ c) :
    Calls Tryd.prog 54 #[.slice A n c] w (NextSays w bs) := by
  have HL := Lib.hid hz.len
  have C1 : Hid (Calls Tryd.prog 67 #[.slice A n c, .int .i64 0, .int .i64 4] w (Quiet (.tuple #[.int .u64 (loadZ bs 0 4), .bool (loadOk n 0 4)]) w)) := Lib.hid (refload_any c hz (by unfold maxLen; omega) 0 (by omega) 4 (by omega))
  have HNone : Hid (firstZ bs = none → ∀ w', Below w.heap.size w w' → NextSays w bs (.returned (.tuple #[.slice none 0 0, .int .i64 0, .int .i64 50])) w') := Lib.hid (fun h w' hb => ⟨hb, by rw [h]⟩)
  by_cases h4 : n < 4
  · have e1 : loadOk n 0 4 = false := loadOk_no _ _ _ (.inr (by omega))
    have HR : Hid (firstZ bs = none) := Lib.hid (first_short (by rw [HL.out]; omega))
    rw [e1] at C1
    generalize loadZ bs 0 4 = u at C1
    clear hz e1
    go_enter Tryd.func54, Tryd.ntmps54
    go_wp2_with fail
    refine C1.out.mono ?_
    rintro e w1 ⟨rfl, m, rfl⟩
    go_wp2
    go_ret3
    exact HNone.out HR.out _ (below_drewN (Below.refl _ _) _)
  have e1 : loadOk n 0 4 = true := loadOk_yes _ 0 _ (by omega)
  have hr := numZ_piece_range bs 0 4 4 (by omega) hz.rng'
  rw [List.drop_zero] at hr
  obtain ⟨N, hN⟩ := Int.eq_ofNat_of_zero_le hr.1
  have hN4 : N < 4294967296 := by have := hr.2; rw [hN] at this; omega
  have e2 : loadZ bs 0 4 = (N : Int) := by
    have := loadZ_yes bs 0 4 (by rw [hz.len]; omega)
    rw [show ((0 : Nat) : Int) = 0 from rfl, List.drop_zero] at this
    rw [this, hN]
  have HN : Hid (lenZ bs = N) := Lib.hid (by unfold lenZ; rw [hN]; rfl)
  rw [e1, e2] at C1
  clear e1 e2 hr hN
  by_cases hbig : 65536 < N
  · have HR : Hid (firstZ bs = none) := Lib.hid (firstZ_no (fun h => by have := h.2.1; rw [HN.out] at this; omega))
    have hbigI : 65536 < (N : Int) := by omega
    clear hz
    go_enter Tryd.func54, Tryd.ntmps54
    go_wp2_with fail
    refine C1.out.mono ?_
    rintro e w1 ⟨rfl, m, rfl⟩
    go_wp2
    go_ret3
    exact HNone.out HR.out _ (below_drewN (Below.refl _ _) _)
  have hbigI : ¬ 65536 < (N : Int) := by omega
  have g0 : IntKind.i64.wrap (N : Int) = (N : Int) := by rw [IntKind.wrap_i64]; omega
  have g1 : IntKind.i64.wrap ((N : Int) + 12) = (N : Int) + 12 := by rw [IntKind.wrap_i64]; omega
  by_cases hsh : n < N + 12
  · have HR : Hid (firstZ bs = none) := Lib.hid (firstZ_no (fun h => by have := h.2.2.1; rw [HN.out, HL.out] at this; omega))
    have hshI : (n : Int) < (N : Int) + 12 := by omega
    clear hz
    go_enter Tryd.func54, Tryd.ntmps54
    go_wp2_with fail
    refine C1.out.mono ?_
    rintro e w1 ⟨rfl, m, rfl⟩
    go_wp2
    go_ret3
    exact HNone.out HR.out _ (below_drewN (Below.refl _ _) _)
  have hshI : ¬ (n : Int) < (N : Int) + 12 := by omega
  have g2 : IntKind.u64.wrap (4 + (N : Int)) = 4 + (N : Int) := by rw [IntKind.wrap_u64]; omega
  have g3 : IntKind.u64.wrap ((N : Int) + 12) = (N : Int) + 12 := by rw [IntKind.wrap_u64]; omega
  obtain ⟨A1, hs1, hcut1⟩ := cut_lhU A n c 4 (4 + N) 4 (4 + (N : Int)) rfl (by omega) (by omega) (by omega)
  rw [Nat.add_sub_cancel_left] at hs1 hcut1
  have z1 : Hid (Bs w B A1 N ((bs.drop 4).take N)) := Lib.hid (hz.cut (by omega) A1 hcut1)
  have z2 : Hid (Bs w B A (N + 12) (bs.take (N + 12))) := Lib.hid (by
    have := hz.cut (k := 0) (m := N + 12) (by omega) A (fun b off e _ => by rw [e]; rfl)
    rwa [List.drop_zero] at this)
  obtain ⟨P, hP⟩ : ∃ P, (bs.drop 4).take N = P := ⟨_, rfl⟩
  have LP : Hid (P.length = N) := Lib.hid (by rw [← hP, List.length_take, List.length_drop, HL.out]; omega)
  have BP : Hid (IsBytes P) := Lib.hid (by rw [← hP]; exact (hz.isBytes.drop 4).take N)
  have LF : Hid ((frameZ P).length = N + 12) := Lib.hid (by rw [frameZ_len, LP.out])
  have BF : Hid (IsBytes (frameZ P)) := Lib.hid (frameZ_bytes BP.out)
  obtain ⟨q, hq⟩ : ∃ q, eqB (frameZ P) (bs.take (N + 12)) = q := ⟨_, rfl⟩
  have hq2 : eqB ((bs.drop (4 + N)).take 8) (sealZ (bs.take (4 + N))) = q := by
    have := ref_same hz.isBytes (by rw [HL.out]; omega) (by rw [HN.out, HL.out]; omega)
    rw [HN.out, hP, hq] at this
    exact this.symm
  have HY : Hid (q = true → firstZ bs = some N) := Lib.hid (fun h => by
    rw [firstZ_yes ⟨by rw [HL.out]; omega, by rw [HN.out]; omega, by rw [HN.out, HL.out]; omega, by rw [HN.out, hq2]; exact h⟩, HN.out])
  have HNo : Hid (q = false → firstZ bs = none) := Lib.hid (fun h => firstZ_no (fun hf => by have := hf.2.2.2; rw [HN.out, hq2, h] at this; cases this))
  rw [hP] at z1
  have HP := Lib.hid hP
  have HQ := Lib.hid hq
  have hM : Hid (N + 12 ≤ maxLen) := Lib.hid (by unfold maxLen; omega)
  have i1 : (0 : Int) ≤ (N : Int) + 12 := by omega
  have i2 : (N : Int) + 12 ≤ (c : Int) := by omega
  have i3 : ((N : Int) + 12).toNat = N + 12 := by omega
  clear hz hcut1 hP hq hq2 hsh
  go_enter Tryd.func54, Tryd.ntmps54
  go_wp2_with fail
  refine C1.out.mono ?_
  rintro e w1 ⟨rfl, m, rfl⟩
  have C2 := Lib.hid (refcopy_any (c - 4) (z1.out.drewN m) hB (by omega))
  go_wp2_with fail
  refine C2.out.mono ?_
  intro e w2 hm2
  obtain ⟨D, d, rfl, o2, b2, h2, h2'⟩ := hm2.n LP.out
  have q2 : Hid (Below w.heap.size w w2) := Lib.hid ((below_drewN (Below.refl w.heap.size w) m).trans b2)
  have O2 : Hid (w2.ownsRow w.heap.size 5 1 (.slice D N d) N (vals P)) := Lib.hid o2
  have y2 : Hid (Bs w2 w2.heap.size D N P) := Lib.hid (bs_of_own o2 BP.out)
  have x2 : Hid (Bs w2 B A (N + 12) (bs.take (N + 12))) := Lib.hid (z2.out.belowM q2.out hB)
  have C3 : Hid (Calls Tryd.prog 57 #[.slice D N d] w2.drew (Made w2.drew (frameZ P))) := Lib.hid (refseal_any d y2.out.drew (Nat.le_refl _) (by omega))
  clear hm2 o2 b2 C2 z1 z2 C1
  go_wp2
  go_region_held3 (fun _ => True) (exact trivial) ((first
    | (go_at_call 57; refine C3.out.mono ?_; intro e w3 hm3; obtain ⟨E, ec, rfl, o3, b3, _, _⟩ := hm3.n LF.out; have z3 : Bs w3 w3.heap.size E (N + 12) (frameZ P) := bs_of_own o3 BF.out; have x3 : Bs w3 B A (N + 12) (bs.take (N + 12)) := x2.out.drew.belowM b3 (Nat.le_trans hB q2.out.size); have q3 : Below w.heap.size w w3 := q2.out.drew.trans (b3.mono q2.out.size); have O3 : w3.ownsRow w.heap.size 5 1 (.slice D N d) N (vals P) := own_below O2.out.drew b3 (Nat.le_refl _))
    | (go_at_call 16; refine (refsame_any ec c z3 x3 hM.out hM.out).mono ?_; rw [HQ.out]; rintro e w6 ⟨rfl, m6, rfl⟩)))
  have BW := Lib.hid (below_drewN q3 m6)
  have OW : Hid ((w3.drewN m6).ownsRow w.heap.size 5 1 (.slice D N d) N (vals P)) := Lib.hid O3
  clear z3 x3 q3 O3 C3 o3 b3 hm3
  cases q with
  | true =>
    go_wp2
    go_ret3
    refine ⟨BW.out, ?_⟩
    have hh : firstZ bs = some N := by first | exact HY.out rfl | exact HY.out trivial
    rw [hh]
    exact ⟨D, d, rfl, by rw [HP.out]; exact OW.out, h2, h2'⟩
  | false =>
    go_wp2
    go_ret3
    have hh : firstZ bs = none := by first | exact HNo.out rfl | exact HNo.out trivial
    exact HNone.out hh _ BW.out
end Go.Proofs.YtjfeepmjebdahaaDoor
/- The document's own answers for frame: All; two lists of lists of bytes that are the same. -/
namespace Go.Proofs.YtjfeepmjebdahaaDoor
open Go.ChangeShapes Go.WideShapes Go.ChangeAt Go.RowKit
set_option linter.unusedVariables false
open Plain Sha
/-- A piece more. -/
theorem pieces_more {base : Nat} {W1 w3 : World} {v v3 : Value} {ps : List Piece} {D : Option Addr} {d m : Nat} {Z : List Int}
    (hown : W1.ownsRow base 27 1 v ps.length (ps.map pv)) (hps : ∀ p ∈ ps, PieceOk W1 base p) (LX : Z.length = m) (BX : IsBytes Z) (ho : W1.ownsRow base 5 1 (.slice D m d) m (vals Z)) (h4 : m ≤ d) (h5 : d ≤ maxLen)
    (ho3 : w3.ownsRow base 27 1 v3 (ps.length + 1) (ps.map pv ++ [.slice D m d])) (hg3 : (W1.alloc (.cells #[.slice D m d] 27)).grownBy w3 v.ownBlock) :
    w3.ownsRow base 27 1 v3 (ps ++ [(⟨D, m, d, Z⟩ : Piece)]).length ((ps ++ [(⟨D, m, d, Z⟩ : Piece)]).map pv) ∧ ∀ p ∈ ps ++ [(⟨D, m, d, Z⟩ : Piece)], PieceOk w3 base p := by
  have HO2 := hown.alloc (.cells #[.slice D m d] 27)
  refine ⟨by rw [List.length_append, List.map_append]; exact ho3, fun p hp => ?_⟩
  rcases List.mem_append.1 hp with hp | hp
  · have h := hps p hp
    have h2 := h.own.alloc (.cells #[.slice D m d] 27)
    exact ⟨h.len, h.bytes, h2.kept hg3 (kinds_apart h2 HO2), h.cap, h.max⟩
  · obtain rfl := List.mem_singleton.1 hp
    have h2 := ho.alloc (.cells #[.slice D m d] 27)
    exact ⟨LX, BX, h2.kept hg3 (kinds_apart h2 HO2), h4, h5⟩
set_option maxRecDepth 100000 in
set_option maxHeartbeats 4000000 in
theorem refall_any {w : World} {B : Nat} {A : Option Addr} {n : Nat} (c : Nat) {bs : List Int} (hz : Bs w B A n bs) (hB : B ≤ w.heap.size) (hn : n ≤ 1000000) (hc : n ≤ c) :
    Calls Tryd.prog 32 #[.slice A n c] w (AllSays w bs) := by
  have HL := Lib.hid hz.len
  obtain ⟨i0, hi0, hz0, hz1, hz2⟩ := info_parts slice_row
  have I0 := Lib.hid hi0
  have I1 := Lib.hid hz0
  have I2 := Lib.hid hz1
  have I3 := Lib.hid hz2
  have HZ := Lib.hid hz
  clear hi0 hz0 hz1 hz2 hz
  go_enter Tryd.func32, Tryd.ntmps32
  go_wp2
  go_loopw [4, 5] (fun v i wr => ∃ (off fuel : Nat) (dn : List (Nat × Nat)) (ps : List Piece), off ≤ n ∧ i = .int .i64 (off : Int) ∧ Hid (wr.ownsRow w.heap.size 27 1 v ps.length (ps.map pv)) ∧ Hid (∀ p ∈ ps, PieceOk wr w.heap.size p) ∧
      Hid (ps.map (·.zs) = dn.map (payZ bs)) ∧ Hid (dn ++ framesF bs fuel off = framesZ bs) ∧ Hid (useZ dn = off) ∧ n - off < fuel ∧ ps.length ≤ off ∧ Hid (Below w.heap.size w wr)) (fun _ i _ => n - (intOf i).toNat)
  case atStart => exact ⟨0, n + 1, [], [], by omega, rfl, Lib.hid (World.ownsRow_nil _ _ _ _), Lib.hid (fun p hp => by cases hp), Lib.hid rfl, Lib.hid (by show framesF bs (n + 1) 0 = framesF bs (bs.length + 1) 0; rw [HL.out]), Lib.hid rfl, by omega, by simp, Lib.hid (Below.refl _ _)⟩
  case round =>
    obtain ⟨off, fuel, dn, ps, hoff, rfl, HO, HPS, HZS, HDN, HUS, hfu, hpl, HB1⟩ := hrel
    obtain ⟨R, hs, hcut⟩ := cut_l A n c off (off : Int) rfl hoff hc
    have zr : Bs wr B R (n - off) (bs.drop off) := by
      have := (HZ.out.belowM HB1.out hB).cut (k := off) (m := n - off) (by omega) R hcut
      rwa [List.take_of_length_le (by rw [List.length_drop, HL.out]; exact Nat.le_refl _)] at this
    have sr := HB1.out.size
    have C1 := Lib.hid (refnext_any (c - off) zr (Nat.le_trans hB sr) (by omega) (by omega))
    have hlr := zr.len
    obtain ⟨fz, hfz⟩ : ∃ fz, firstZ (bs.drop off) = fz := ⟨_, rfl⟩
    cases fz with
    | none =>
      have HF : Hid (dn = framesZ bs) := Lib.hid (by have := HDN.out; rwa [framesF_no hfz, List.append_nil] at this)
      have HN : Hid (∀ e w', NextSays wr (bs.drop off) e w' → e = .returned (.tuple #[.slice none 0 0, .int .i64 0, .int .i64 50]) ∧ Below wr.heap.size wr w') := Lib.hid (fun e w' h => by obtain ⟨h1, h2⟩ := h; rw [hfz] at h2; exact ⟨h2, h1⟩)
      clear hfz hcut zr hlr HDN
      go_wp2_with fail
      refine C1.out.mono ?_
      intro e w2 h2
      obtain ⟨rfl, b2⟩ := HN.out e w2 h2
      have q2 := Lib.hid (HB1.out.trans (b2.mono sr))
      have HO2 := Lib.hid (own_below HO.out b2 (Nat.le_refl _))
      have HP2 := Lib.hid (fun p hp => (HPS.out p hp).below b2 (Nat.le_refl _))
      clear h2 b2 C1 hs
      go_wp2
      go_ret2
      refine ⟨q2.out, u4, ps, ?_, HO2.out, HP2.out, by rw [HZS.out, HF.out]⟩
      rw [← HF.out, HUS.out]
      rfl
    | some m =>
      obtain ⟨hfr, hm⟩ := firstZ_some hfz
      have hm12 : m + 12 ≤ n - off := by have := hfr.2.2.1; rw [← hm, hlr] at this; exact this
      obtain ⟨fu', rfl⟩ : ∃ k, fuel = k + 1 := ⟨fuel - 1, by omega⟩
      have HDN' : Hid ((dn ++ [(off, m)]) ++ framesF bs fu' (off + (m + 12)) = framesZ bs) := Lib.hid (by
        have := HDN.out; rw [framesF_yes hfz] at this; simpa using this)
      have HU' : Hid (useZ (dn ++ [(off, m)]) = off + (m + 12)) := Lib.hid (by rw [useZ_snoc, HUS.out])
      have LX : Hid ((payZ bs (off, m)).length = m) := Lib.hid (by unfold payZ; rw [List.length_take, List.length_drop, List.length_drop]; dsimp only; rw [HL.out]; omega)
      have BX : Hid (IsBytes (payZ bs (off, m))) := Lib.hid (by unfold payZ; exact (((HZ.out.isBytes).drop _).drop _).take _)
      have HZ' : Hid (∀ p : Piece, p.zs = payZ bs (off, m) → (ps ++ [p]).map (·.zs) = (dn ++ [(off, m)]).map (payZ bs)) := Lib.hid (fun p hp => by rw [List.map_append, List.map_append, HZS.out]; simp [hp])
      have HN : Hid (∀ e w', NextSays wr (bs.drop off) e w' → ∃ D d, e = .returned (.tuple #[.slice D m d, .int .i64 ((m : Int) + 12), .int .i64 0]) ∧ w'.ownsRow wr.heap.size 5 1 (.slice D m d) m (vals (payZ bs (off, m))) ∧ m ≤ d ∧ d ≤ maxLen ∧ Below wr.heap.size wr w') := Lib.hid (fun e w' h => by
        obtain ⟨h1, h2⟩ := h
        rw [hfz] at h2
        obtain ⟨D, d, h3, h4, h5, h6⟩ := h2
        exact ⟨D, d, h3, h4, h5, h6, h1⟩)
      have gw : IntKind.i64.wrap ((off : Int) + ((m : Int) + 12)) = (off : Int) + ((m : Int) + 12) := by rw [IntKind.wrap_i64]; omega
      clear hfz hfr hm hcut zr hlr HDN HUS HZS
      go_wp2_with fail
      refine C1.out.mono ?_
      intro e w2 h2
      obtain ⟨D, d, rfl, o2, h4, h5, b2⟩ := HN.out e w2 h2
      have q2 := Lib.hid (HB1.out.trans (b2.mono sr))
      have s2 := b2.size
      have HO2 := Lib.hid (own_below HO.out b2 (Nat.le_refl _))
      have HP2 := Lib.hid (fun p hp => (HPS.out p hp).below b2 (Nat.le_refl _))
      have HD2 := Lib.hid (own_base o2 sr)
      have H5 := Lib.hid h5
      clear h2 b2 o2 C1 hs HN HO HPS h5
      go_wp2_with (at_builtin; refine wpList_append_own _ rfl (.tmp 21) (.tmp 23) 33 rfl w.heap.size 27 i0 _ 1 24 Tryd.underlying33 I0.out I1.out I2.out I3.out rfl (by decide) u4 ps.length (ps.map pv) rfl (HO2.out.alloc _) ⟨w2.heap.size, 0, none⟩ 1 1 [.slice D m d] rfl rfl (World.news_of_block (cs := #[.slice D m d]) (t := 27) (fr := (0, 0)) (heap_alloc_new w2 _)) (by simp [Value.oneCell']) (by unfold maxLen; omega) (by omega) (by simp; omega) ?_; intro v3 w3 ho3 hg3 _)
      have hpm := pieces_more HO2.out HP2.out LX.out BX.out HD2.out h4 H5.out ho3 hg3
      have q3 := Lib.hid ((q2.out.alloc q2.out.size _).grown hg3 (by simp; omega) (fun k e => (HO2.out.lt k e).1))
      have HA := Lib.hid hpm.1
      have HB := Lib.hid hpm.2
      clear hpm ho3 hg3
      go_roundw
      case rel => exact ⟨off + (m + 12), fu', dn ++ [(off, m)], ps ++ [⟨D, m, d, payZ bs (off, m)⟩], by omega, by go_num, HA, HB, Lib.hid (HZ'.out _ rfl), HDN', HU', by omega, by rw [List.length_append]; simp; omega, q3⟩
      case measure => simp [intOf]; omega
end Go.Proofs.YtjfeepmjebdahaaDoor
/- Two lists of lists of bytes that are the same. -/
namespace Go.Proofs.YtjfeepmjebdahaaDoor
open Go.ChangeShapes Go.WideShapes Go.ChangeAt Go.RowKit
set_option linter.unusedVariables false
open Plain Sha
/-- The slice (A, n, c) tells of the pieces ps. -/
structure PieceRow (w : World) (A : Option Addr) (n : Nat) (ps : List Piece) : Prop where
  len : ps.length = n
  cell : ∀ k p, ps[k]? = some p → ∃ b off, A = some ⟨b, off, none⟩ ∧ w.cell? ⟨b, off + k, none⟩ = some (pv p) ∧ Bs w w.heap.size p.A p.n p.zs ∧ p.n ≤ maxLen
theorem pieceRow_of {w : World} {base base2 : Nat} {A : Option Addr} {n c : Nat} {ps : List Piece} (h : w.ownsRow base 27 1 (.slice A n c) n (ps.map pv)) (hp : ∀ p ∈ ps, PieceOk w base2 p) : PieceRow w A n ps := by
  have hl : ps.length = n := by have := h.1; rw [List.length_map] at this; omega
  refine ⟨hl, fun k p hk => ?_⟩
  have hlt : k < ps.length := (List.getElem?_eq_some_iff.1 hk).1
  obtain ⟨g, cap, hv, _, _⟩ := h.form (by omega)
  injection hv with e1 e2 e3
  subst e1; subst e3
  have hc := h.cellAt k (by omega)
  rw [List.getElem?_map, hk] at hc
  have hpk := hp p (List.mem_of_getElem? hk)
  exact ⟨g, 0, rfl, by rw [Nat.zero_add]; exact hc, bs_of_own hpk.own hpk.bytes, Nat.le_trans hpk.cap hpk.max⟩
set_option maxRecDepth 100000 in
set_option maxHeartbeats 2000000 in
theorem reflists_any {w : World} {A1 A2 : Option Addr} {n1 n2 : Nat} (c1 c2 : Nat) {ps1 ps2 : List Piece} (h1 : PieceRow w A1 n1 ps1) (h2 : PieceRow w A2 n2 ps2) (hn : n1 ≤ 1000000000) (he : ps1.map (·.zs) = ps2.map (·.zs)) :
    Calls Tryd.prog 12 #[.slice A1 n1 c1, .slice A2 n2 c2] w (Quiet (.bool true) w) := by
  have hn2 : n1 = n2 := by rw [← h1.len, ← h2.len]; have := congrArg List.length he; simpa using this
  subst hn2
  have H1 := Lib.hid h1
  have H2 := Lib.hid h2
  have HE := Lib.hid he
  clear h1 h2 he
  go_enter Tryd.func12, Tryd.ntmps12
  go_wp2
  go_loopw [5] (fun i wr => ∃ k m : Nat, k ≤ n1 ∧ i = .int .i64 (k : Int) ∧ wr = w.drewN m) (fun i _ => n1 - (intOf i).toNat)
  case atStart => exact ⟨0, 0, by omega, rfl, rfl⟩
  case round =>
    obtain ⟨k, m, hk, rfl, rfl⟩ := hrel
    by_cases hlt : k < n1
    · obtain ⟨p, hp⟩ : ∃ p, ps1[k]? = some p := ⟨_, List.getElem?_eq_getElem (by rw [H1.out.len]; exact hlt)⟩
      obtain ⟨q, hq⟩ : ∃ q, ps2[k]? = some q := ⟨_, List.getElem?_eq_getElem (by rw [H2.out.len]; exact hlt)⟩
      obtain ⟨b1, o1, rfl, e1, z1, m1⟩ := H1.out.cell k p hp
      obtain ⟨b2, o2, rfl, e2, z2, m2⟩ := H2.out.cell k q hq
      have hz : p.zs = q.zs := by
        have := congrArg (·[k]?) HE.out
        simpa [List.getElem?_map, hp, hq] using this
      obtain ⟨pA, pn, pc, pz⟩ := p
      obtain ⟨qA, qn, qc, qz⟩ := q
      have hz : pz = qz := hz
      subst hz
      have e1 : w.cell? ⟨b1, o1 + k, none⟩ = some (.slice pA pn pc) := e1
      have e2 : w.cell? ⟨b2, o2 + k, none⟩ = some (.slice qA qn qc) := e2
      have S1 : Hid (∀ W, W = w → Calls Tryd.prog 16 #[.slice pA pn pc, .slice qA qn qc] W (Quiet (.bool true) W)) := Lib.hid (fun W hW => by
        subst hW
        have := refsame_any pc qc z1 z2 m1 m2
        rwa [eqB_self] at this)
      have hkI : (k : Int) < (n1 : Int) := by omega
      have S2 : Hid (∀ x, Calls Tryd.prog 16 #[.slice pA pn pc, .slice qA qn qc] (w.drewN x) (Quiet (.bool true) (w.drewN x))) := Lib.hid (fun x => by
        have := refsame_any pc qc (z1.drewN x) (z2.drewN x) m1 m2
        rwa [eqB_self] at this)
      clear z1 z2 m1 m2 hp hq S1
      go_wp2
      go_region_with ((go_at_call 16; refine (S2.out _).mono ?_; rintro e w9 ⟨rfl, m9, rfl⟩))
      all_goals
        go_wp2
        go_roundw
        case rel => exact ⟨k + 1, _, by omega, by go_num, rfl⟩
        case measure => simp [intOf]; omega
    · obtain rfl : k = n1 := by omega
      go_wp2
      go_ret
      exact ⟨rfl, _, rfl⟩
end Go.Proofs.YtjfeepmjebdahaaDoor
