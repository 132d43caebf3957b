/- Texts of the proof, one behind the other: R1 R2 R3 RBytes Tied. -/
import Derived.Test.YtlknjaoamkcmjaaDoorB2
import Derived.Test.YtlknjaoamkcmjaaDoorB1
import Derived.Test.YtlknjaoamkcmjaaDoorB3
import Derived.Deep.Cut
import Derived.Test.YtlknjaoamkcmjaaDoorTie
import Derived.LaidMore
import Derived.OpenShut
import Derived.ProofKit
import Derived.Stop.Joined
/- The document's own answer for sha: turns, constants, a message with its end. -/
namespace Go.Proofs.YtlknjaoamkcmjaaDoor
open Go.ChangeShapes Go.WideShapes Go.ChangeAt Go.RowKit
set_option linter.unusedVariables false
open Plain Sha
theorem chx_bits (e f g : Nat) (he : e < 4294967296) (hf : f < 4294967296) (hg : g < 4294967296) :
    bits .xor .u32 (bits .and .u32 (e : Int) (f : Int)) (bits .and .u32 (bits .xor .u32 IntKind.u32.max (e : Int)) (g : Int)) = ((ch e f g : Nat) : Int) := by
  have e1 : bits .xor .u32 IntKind.u32.max (e : Int) = ((4294967295 - e : Nat) : Int) := by
    have := u32_xor_nat 4294967295 e (by omega) he
    rw [xor_ones e he] at this
    exact this
  rw [e1, u32_and_nat _ _ he hf, u32_and_nat _ _ (by omega) hg, u32_xor_nat _ _ (and_lt hf) (and_lt hg)]
  congr 1
  unfold ch
  rw [← xor_ones e he]
  apply Nat.eq_of_testBit_eq
  intro i
  simp only [Nat.testBit_xor, Nat.testBit_and, Nat.testBit_or]
  have h1 : Nat.testBit 4294967295 i = decide (i < 32) := by rw [show (4294967295 : Nat) = 2 ^ 32 - 1 from rfl, Nat.testBit_two_pow_sub_one]
  rw [h1]
  by_cases hi : i < 32
  · simp only [hi, decide_true]
    cases e.testBit i <;> cases f.testBit i <;> cases g.testBit i <;> rfl
  · have : e.testBit i = false := Nat.testBit_lt_two_pow (Nat.lt_of_lt_of_le he (Nat.pow_le_pow_right (by omega : 2 > 0) (by omega : 32 ≤ i)))
    simp [hi, this]
theorem mjx_bits (a b c : Nat) (ha : a < 4294967296) (hb : b < 4294967296) (hc : c < 4294967296) :
    bits .xor .u32 (bits .xor .u32 (bits .and .u32 (a : Int) (b : Int)) (bits .and .u32 (a : Int) (c : Int))) (bits .and .u32 (b : Int) (c : Int)) = ((mj a b c : Nat) : Int) := by
  rw [u32_and_nat _ _ ha hb, u32_and_nat _ _ ha hc, u32_and_nat _ _ hb hc, u32_xor_nat _ _ (and_lt hb) (and_lt hc), u32_xor_nat _ _ (xor_lt (and_lt hb) (and_lt hc)) (and_lt hc)]
  congr 1
  unfold mj
  apply Nat.eq_of_testBit_eq
  intro i
  simp only [Nat.testBit_xor, Nat.testBit_and, Nat.testBit_or]
  cases a.testBit i <;> cases b.testBit i <;> cases c.testBit i <;> rfl
theorem orN (x k : Nat) (hx : x < 4294967296) (hk : k ≤ 31) (p q : Int) (hp : p = 2 ^ k) (hq : q = 2 ^ (32 - k)) : bits .or .u32 ((x : Int) / p) ((x : Int) * q % 4294967296) = ((rotN x k : Nat) : Int) := by
  subst hp hq
  exact or_split x k hx hk
set_option maxRecDepth 100000 in
theorem turnsE_any (x : Nat) (hx : x < 4294967296) (w : World) :
    Calls Tryd.prog 77 #[.int .u32 (x : Int), .int .i64 6, .int .i64 11, .int .i64 25] w (Quiet (.int .u32 ((bs1 x : Nat) : Int)) w) := by
  have h0 : (0 : Int) ≤ (x : Int) := by omega
  have h1 : (x : Int) < 4294967296 := by omega
  go_enter Tryd.func77, Tryd.ntmps77
  go_wp2
  go_quiet (fail)
  go_wp2
  go_ret
  exact ⟨ret_int (by rw [orN x 6 hx (by omega) 64 67108864 rfl rfl, orN x 11 hx (by omega) 2048 2097152 rfl rfl, orN x 25 hx (by omega) 33554432 128 rfl rfl, bs1_bits x hx]), _, rfl⟩
set_option maxRecDepth 100000 in
theorem turnsA_any (x : Nat) (hx : x < 4294967296) (w : World) :
    Calls Tryd.prog 77 #[.int .u32 (x : Int), .int .i64 2, .int .i64 13, .int .i64 22] w (Quiet (.int .u32 ((bs0 x : Nat) : Int)) w) := by
  have h0 : (0 : Int) ≤ (x : Int) := by omega
  have h1 : (x : Int) < 4294967296 := by omega
  go_enter Tryd.func77, Tryd.ntmps77
  go_wp2
  go_quiet (fail)
  go_wp2
  go_ret
  exact ⟨ret_int (by rw [orN x 2 hx (by omega) 4 1073741824 rfl rfl, orN x 13 hx (by omega) 8192 524288 rfl rfl, orN x 22 hx (by omega) 4194304 1024 rfl rfl, bs0_bits x hx]), _, rfl⟩
set_option maxRecDepth 100000 in
theorem constants_any (w : World) :
    Calls Tryd.prog 74 #[] w fun e w' => e = .returned (.slice (some ⟨w.heap.size, 0, none⟩) 64 64) ∧ Row32 w' w.heap.size kTab ∧ Below w.heap.size w w' ∧ w.heap.size < w'.heap.size := by
  have HR := Lib.hid (Row32.new w kTab 106)
  have HB := Lib.hid ((Below.refl w.heap.size w).alloc (Nat.le_refl _) (.cells (u32s kTab).toArray 106))
  have HS := Lib.hid (show w.heap.size < (w.alloc (.cells (u32s kTab).toArray 106)).heap.size by simp)
  go_enter Tryd.func74, Tryd.ntmps74
  go_wp2
  go_ret
  exact ⟨rfl, HR.out, HB.out, HS.out⟩
theorem tmod_nat' (N : Nat) : ((N : Int)).tmod 64 = ((N % 64 : Nat) : Int) := by
  rw [Int.tmod_eq_emod_of_nonneg (by omega)]; omega
/-- A slice's length. -/
def lenOf : Value → Nat
  | .slice _ n _ => n
  | _ => 0
set_option maxRecDepth 100000 in
theorem whole_any {w : World} {B : Nat} {A : Option Addr} {n : Nat} (c : Nat) {zs : List Int} (h : Bs w B A n zs) (hB : B ≤ w.heap.size) (hn : n ≤ 1000000) :
    Calls Tryd.prog 75 #[.slice A n c] w (Made w (zs ++ padZ n)) := by
  have CP := Lib.hid (refcopy_any c h hB (by omega))
  have LZ := Lib.hid h.len
  have BZ := Lib.hid h.isBytes
  obtain ⟨P, hP⟩ : ∃ P, (119 - n % 64) % 64 = P := ⟨_, rfl⟩
  have HP := Lib.hid hP
  obtain ⟨i0, hi0, hz0, hz1, hz2⟩ := info_parts u8_row
  have I0 := Lib.hid hi0
  have I1 := Lib.hid hz0
  have I2 := Lib.hid hz1
  have I3 := Lib.hid hz2
  have hP2 : P < 64 := by omega
  clear h hi0 hz0 hz1 hz2 hP
  go_enter Tryd.func75, Tryd.ntmps75
  go_wp2_with fail
  refine CP.out.mono ?_
  intro e w1 hm1
  obtain ⟨D1, c1, rfl, ho1, b1, _, _⟩ := hm1.n LZ.out
  clear hm1 CP
  have s1 := b1.size
  go_wp2_with (at_builtin; refine wpList_append_own _ rfl (.tmp 6) (.tmp 7) 22 rfl w.heap.size 5 i0 _ 1 1 Tryd.underlying22 I0.out I1.out I2.out I3.out rfl (by decide) (.slice D1 n c1) n (vals zs) rfl (ho1.alloc _) ⟨w1.heap.size, 0, none⟩ 1 1 [.int .u8 128] rfl rfl (World.news_of_block (cs := #[.int .u8 128]) (t := 5) (fr := (0, 0)) (heap_alloc_new w1 _)) (by simp [Value.oneCell']) (by unfold maxLen; omega) (by omega) (by simp; omega) ?_; intro v2 w2 ho2 hg2 _)
  have b2 : Below w.heap.size w w2 := (b1.alloc s1 _).grown hg2 (by simp; omega) (fun q hq => (ho1.lt q hq).1)
  clear hg2 ho1 b1
  go_loopw [3] (fun v wr => ∃ k N : Nat, k ≤ P ∧ Hid (n + 1 + k = N) ∧ ∃ D c, v = .slice D N c ∧ wr.ownsRow w.heap.size 5 1 (.slice D N c) N (vals (zs ++ 128 :: List.replicate k 0)) ∧ Below w.heap.size w wr) (fun v _ => n + 1 + P - lenOf v)
  case atStart =>
    obtain ⟨D2, c2, rfl, _, _⟩ := own_shape ho2
    exact ⟨0, n + 1, by omega, Lib.hid rfl, D2, c2, rfl, by rw [vals_app]; exact ho2, b2⟩
  case round =>
    obtain ⟨k, N, hk, HN, D, cc, rfl, hown, hbel⟩ := hrel
    obtain ⟨r, hr⟩ : ∃ r, N % 64 = r := ⟨_, rfl⟩
    have ht : ((N : Int)).tmod 64 = ((r : Nat) : Int) := by rw [← hr]; exact tmod_nat' N
    have ht2 : ((N : Int)) % 64 = ((r : Nat) : Int) := by omega
    have hN := HN.out
    have hNb : N ≤ 1000100 := by omega
    have sr := hbel.size
    by_cases hlt : k < P
    · have hr1 : r ≠ 56 := by have := HP.out; omega
      have hrb : ((r : Int) == 56) = false := by simpa using (show (r : Int) ≠ 56 by omega)
      have hrb' : ((r : Int) != 56) = true := by simpa using (show (r : Int) ≠ 56 by omega)
      have hr2 : ¬ (r : Int) = 56 := by omega
      have HN1 : Hid (n + 1 + (k + 1) = N + 1) := Lib.hid (by omega)
      have HE : Hid (vals (zs ++ 128 :: List.replicate (k + 1) 0) = vals (zs ++ 128 :: List.replicate k 0) ++ [.int .u8 0]) := Lib.hid (by
        rw [List.replicate_succ', show zs ++ 128 :: (List.replicate k 0 ++ [0]) = (zs ++ 128 :: List.replicate k 0) ++ [0] by simp, vals_app]; rfl)
      clear hr hN
      go_wp2_with (at_builtin; refine wpList_append_own _ rfl (.tmp 13) (.tmp 14) 22 rfl w.heap.size 5 i0 _ 1 1 Tryd.underlying22 I0.out I1.out I2.out I3.out rfl (by decide) (.slice D N cc) N (vals (zs ++ 128 :: List.replicate k 0)) rfl (hown.alloc _) ⟨wr.heap.size, 0, none⟩ 1 1 [.int .u8 0] rfl rfl (World.news_of_block (cs := #[.int .u8 0]) (t := 5) (fr := (0, 0)) (heap_alloc_new wr _)) (by simp [Value.oneCell']) (by unfold maxLen; omega) (by omega) (by simp; omega) ?_; intro v3 w3 ho3 hg3 _)
      have b3 : Below w.heap.size w w3 := (hbel.alloc sr _).grown hg3 (by simp; omega) (fun q hq => (hown.lt q hq).1)
      obtain ⟨D3, c3, rfl, _, _⟩ := own_shape ho3
      have ho4 : w3.ownsRow w.heap.size 5 1 (.slice D3 (N + 1) c3) (N + 1) (vals (zs ++ 128 :: List.replicate (k + 1) 0)) := by rw [HE.out]; exact ho3
      clear hg3 ho3 hown
      go_roundw
      case rel => exact ⟨k + 1, N + 1, by omega, HN1, D3, c3, rfl, ho4, b3⟩
      case measure => (have := HN.out; simp [lenOf]; omega)
    · have hkP : k = P := by omega
      have hr1 : r = 56 := by have := HP.out; omega
      have hr2 : (r : Int) = 56 := by omega
      have hPZ : Hid ((zs ++ 128 :: List.replicate k 0) ++ putZ ((8 * n : Nat) : Int) 8 = zs ++ padZ n) := Lib.hid (by
        unfold padZ; rw [HP.out, hkP]; simp)
      have BR : Hid (IsBytes (zs ++ 128 :: List.replicate k 0)) := Lib.hid (BZ.out.app (by
        rw [isBytes_iff]
        intro z hz
        simp only [List.mem_cons, List.mem_replicate] at hz
        omega))
      have hPL : Hid ((zs ++ 128 :: List.replicate k 0).length = N) := Lib.hid (by simp [LZ.out]; omega)
      have zr := Lib.hid (bs_of_own hown BR.out)
      have OW := Lib.hid hown
      rw [hr2] at ht ht2
      have BB := Lib.hid hbel
      have hmul : (8 * (n : Int)) % 18446744073709551616 = ((8 * n : Nat) : Int) := by omega
      clear hr hN hown hkP hr1 hr2 hbel
      go_wp2_with fail
      refine (refput_any ((8 * n : Nat) : Int) 8 (by omega) (by omega) (by omega) _).mono ?_
      intro e w4 hm4
      obtain ⟨D4, c4, rfl, ho4, b4, _, _⟩ := hm4.n (putZ_len ..)
      have z4 := Lib.hid (Made.bs ho4 (putZ_bytes _ _))
      have b5 := Lib.hid (BB.out.trans (b4.mono BB.out.size))
      have z5 := Lib.hid (zr.out.belowM b4 (Nat.le_refl _))
      have s4 := b4.size
      have L5 : Hid (((zs ++ 128 :: List.replicate k 0) ++ putZ ((8 * n : Nat) : Int) 8).length = N + 8) := Lib.hid (by rw [List.length_append, hPL.out, putZ_len])
      clear hm4 ho4 b4
      go_wp2_with fail
      refine (refcat_any cc c4 z5.out z4.out s4 (Nat.le_refl _) (by omega)).mono ?_
      intro e w6 hm6
      obtain ⟨D6, c6, rfl, ho6, b6, h61, h62⟩ := hm6.n L5.out
      have hb6 := b5.out.trans (b6.mono b5.out.size)
      have hm7 : Made w (zs ++ padZ n) (.returned (.slice D6 (N + 8) c6)) w6 := made_of (n := N + 8) (by rw [← hPZ.out, L5.out]) (by rw [← hPZ.out]; exact own_base ho6 b5.out.size) hb6
      have HM7 := Lib.hid hm7
      clear ho6 b6 hm7 hm6
      go_wp2
      go_ret
      exact HM7.out
end Go.Proofs.YtlknjaoamkcmjaaDoor
/- The document's own answer for sha: a block's schedule. -/
namespace Go.Proofs.YtlknjaoamkcmjaaDoor
open Go.ChangeShapes Go.WideShapes Go.ChangeAt Go.RowKit
set_option linter.unusedVariables false
open Plain Sha
theorem u32_row' : (Tryd.prog.info? 106).map (fun i => (i.zero, i.size, i.bytes)) = some (some (.int .u32 0), 1, 4) := by kernel_rfl
/-- What a call hands back that makes a row of numbers. -/
def Made32 (w : World) (l : List Nat) (e : Ending) (w' : World) : Prop :=
  ∃ g c, e = .returned (.slice (some ⟨g, 0, none⟩) l.length c) ∧ (∀ j, j < l.length → w'.cell? ⟨g, j, none⟩ = some (.int .u32 ((l.getD j 0 : Nat) : Int))) ∧ w.heap.size ≤ g ∧ g < w'.heap.size ∧ Below w.heap.size w w'
theorem own32_cells {w : World} {base n : Nat} {v : Value} {l : List Nat} (h : w.ownsRow base 106 1 v n (u32s l)) (hn : 0 < n) :
    ∃ g cap, v = .slice (some ⟨g, 0, none⟩) n cap ∧ base ≤ g ∧ g < w.heap.size ∧ ∀ j, j < l.length → w.cell? ⟨g, j, none⟩ = some (.int .u32 ((l.getD j 0 : Nat) : Int)) := by
  obtain ⟨g, cap, hv, hb, hlt⟩ := h.form hn
  refine ⟨g, cap, hv, hb, hlt, fun j hj => ?_⟩
  have := h.cells (g := g) (by rw [hv]; rfl) j _ (u32s_at l j hj)
  rw [Go.WideShapes.add_plain] at this
  simpa using this
theorem takeN_snoc (l : List Nat) (k : Nat) (h : k < l.length) : l.take (k + 1) = l.take k ++ [l.getD k 0] := by
  rw [List.take_succ_eq_append_getElem h]
  simp [List.getD_eq_getElem?_getD, List.getElem?_eq_getElem h]
theorem u32s_app (a b : List Nat) : u32s (a ++ b) = u32s a ++ u32s b := by simp [u32s]
theorem ors1 (x : Nat) (h : x < 4294967296) : bits .xor .u32 (bits .xor .u32 (bits .or .u32 ((x : Int) / 131072) ((x : Int) * 32768 % 4294967296)) (bits .or .u32 ((x : Int) / 524288) ((x : Int) * 8192 % 4294967296))) ((x : Int) / 1024) = ((sg1 x : Nat) : Int) := by
  rw [orN x 17 h (by omega) 131072 32768 rfl rfl, orN x 19 h (by omega) 524288 8192 rfl rfl, sg1_bits x h]
theorem ors0 (x : Nat) (h : x < 4294967296) : bits .xor .u32 (bits .xor .u32 (bits .or .u32 ((x : Int) / 128) ((x : Int) * 33554432 % 4294967296)) (bits .or .u32 ((x : Int) / 262144) ((x : Int) * 16384 % 4294967296))) ((x : Int) / 8) = ((sg0 x : Nat) : Int) := by
  rw [orN x 7 h (by omega) 128 33554432 rfl rfl, orN x 18 h (by omega) 262144 16384 rfl rfl, sg0_bits x h]
theorem schedTo_snoc (ws : List Nat) (hl : ws.length = 16) (k : Nat) : schedTo ws (k + 1) = schedTo ws k ++ [wAt ws (16 + k)] := by
  apply list_ext_N
  · rw [List.length_append, schedTo_len ws hl, schedTo_len ws hl]; rfl
  · intro j hj
    rw [schedTo_len ws hl] at hj
    rw [sched_at ws hl (k + 1) j hj]
    by_cases h : j < 16 + k
    · rw [getD_app_lt (by rw [schedTo_len ws hl]; exact h), sched_at ws hl k j h]
    · rw [getD_app_at (by rw [schedTo_len ws hl]; omega), show j = 16 + k by omega]
set_option maxRecDepth 100000 in
set_option maxHeartbeats 4000000 in
theorem schedule_any {w : World} {B : Nat} {A : Option Addr} (c : Nat) {zs : List Int} (h : Bs w B A 64 zs) (hB : B ≤ w.heap.size) :
    Calls Tryd.prog 76 #[.slice A 64 c] w (Made32 w (schedTo (wordsAt zs 0) 48)) := by
  obtain ⟨ws, hws⟩ : ∃ ws, wordsAt zs 0 = ws := ⟨_, rfl⟩
  have hwl : Hid (ws.length = 16) := Lib.hid (by rw [← hws]; exact wordsAt_len _ _)
  have hww : Hid (AllW ws) := Lib.hid (by rw [← hws]; exact wordsAt_lt zs h.isBytes 0)
  have HLD : Hid (∀ t : Nat, t < 16 → loadZ zs (4 * (t : Int)) 4 = ((ws.getD t 0 : Nat) : Int)) := Lib.hid (fun t ht => by
    have := load_at zs h.isBytes 0 t (by rw [h.len]; omega) ht
    rw [← hws, ← this]
    congr 1; omega)
  obtain ⟨i0, hi0, hz0, hz1, hz2⟩ := info_parts u32_row'
  have I0 := Lib.hid hi0
  have I1 := Lib.hid hz0
  have I2 := Lib.hid hz1
  have I3 := Lib.hid hz2
  have HZ := Lib.hid h
  have HWS := Lib.hid hws
  clear hi0 hz0 hz1 hz2 hws h
  rw [HWS.out]
  go_enter Tryd.func76, Tryd.ntmps76
  go_wp2
  go_loopw [3, 4] (fun v i wr => ∃ k : Nat, k ≤ 16 ∧ i = .int .i64 k ∧ wr.ownsRow w.heap.size 106 1 v k (u32s (ws.take k)) ∧ Below w.heap.size w wr) (fun _ i _ => 16 - (intOf i).toNat)
  case atStart => exact ⟨0, by omega, rfl, World.ownsRow_nil _ _ _ _, Below.refl _ _⟩
  case round =>
    obtain ⟨k, hk, rfl, hown, hbel⟩ := hrel
    have sr := hbel.size
    by_cases hlt : k < 16
    · obtain ⟨x, hx⟩ : ∃ x, ws.getD k 0 = x := ⟨_, rfl⟩
      have hxl : x < 4294967296 := by rw [← hx]; exact hww.out k
      have HT : Hid (u32s (ws.take (k + 1)) = u32s (ws.take k) ++ [.int .u32 (x : Int)]) := Lib.hid (by rw [takeN_snoc ws k (by rw [hwl.out]; exact hlt), u32s_app, hx]; rfl)
      have HLk : Hid (loadZ zs (4 * (k : Int)) 4 = (x : Int)) := Lib.hid (by rw [HLD.out k hlt, hx])
      have OW := Lib.hid hown
      have BB := Lib.hid hbel
      have HXL := Lib.hid hxl
      clear hx hown hbel hxl
      go_wp2_with fail
      have hxl := HXL.out
      have hx0 : (0 : Int) ≤ (x : Int) := by omega
      have hx1 : (x : Int) < 4294967296 := by omega
      refine (refloadI_any c (HZ.out.belowM BB.out hB) (by simp [maxLen]) (4 * (k : Int)) (by omega) 4 (by omega) (by omega)).mono ?_
      rw [show (4 : Int).toNat = 4 from rfl, HLk.out]
      rintro e w1 ⟨rfl, hq⟩
      have OW1 : Hid (w1.ownsRow w.heap.size 106 1 u3 k (u32s (ws.take k))) := Lib.hid (by obtain ⟨m', rfl⟩ := hq; exact OW.out)
      have B1 : Hid (Below w.heap.size w w1) := Lib.hid (by obtain ⟨m', rfl⟩ := hq; exact below_drewN BB.out m')
      have s1 := B1.out.size
      clear hq OW BB
      go_wp2_with (at_builtin; refine wpList_append_own _ rfl (.tmp 23) (.tmp 26) 107 rfl w.heap.size 106 i0 _ 1 4 Tryd.underlying107 I0.out I1.out I2.out I3.out rfl (by decide) u3 k (u32s (ws.take k)) rfl (OW1.out.alloc _) ⟨w1.heap.size, 0, none⟩ 1 1 [.int .u32 (x : Int)] rfl rfl (World.news_of_block (cs := #[.int .u32 (x : Int)]) (t := 106) (fr := (0, 0)) (heap_alloc_new w1 _)) (by simp [Value.oneCell']) (by unfold maxLen; omega) (by omega) (by simp; omega) ?_; intro v2 w2 ho2 hg2 _)
      have b2 : Below w.heap.size w w2 := (B1.out.alloc s1 _).grown hg2 (by simp; omega) (fun q hq => (OW1.out.lt q hq).1)
      have ho2' : w2.ownsRow w.heap.size 106 1 v2 (k + 1) (u32s (ws.take (k + 1))) := by rw [HT.out]; exact ho2
      clear ho2 hg2
      go_roundw
      case rel => exact ⟨k + 1, by omega, by go_num, ho2', b2⟩
      case measure => simp [intOf]; omega
    · have hk16 : k = 16 := by omega
      have OW0 : wr.ownsRow w.heap.size 106 1 u3 16 (u32s (schedTo ws 0)) := by
        rw [hk16, List.take_of_length_le (by rw [hwl.out]; exact Nat.le_refl _)] at hown
        exact hown
      have hge : ¬ (k : Int) < 16 := by omega
      have OWH := Lib.hid OW0
      have BBH := Lib.hid hbel
      clear hk16 hown OW0 hbel
      go_wp2
      go_loopw [3, 7] (fun v i wr => ∃ t k : Nat, Hid (t = 16 + k) ∧ 16 ≤ t ∧ t ≤ 64 ∧ i = .int .i64 t ∧ Hid (wr.ownsRow w.heap.size 106 1 v t (u32s (schedTo ws k))) ∧ Hid (Below w.heap.size w wr)) (fun _ i _ => 64 - (intOf i).toNat)
      case atStart => exact ⟨16, 0, Lib.hid rfl, by omega, by omega, rfl, OWH, BBH⟩
      case round =>
        obtain ⟨t, k, HT, ht16, ht64, rfl, HOW, HBB⟩ := hrel
        have sr2 := HBB.out.size
        obtain ⟨g, cap, hv, hg, hglt, hcells⟩ := own32_cells HOW.out (by omega)
        subst hv
        have HC := Lib.hid hcells
        have LS : Hid ((schedTo ws k).length = t) := Lib.hid (by rw [schedTo_len ws hwl.out k, HT.out])
        clear hcells
        by_cases hlt2 : t < 64
        · have hk := HT.out
          have E15 : Hid ((schedTo ws k).getD (k + 1) 0 = wAt ws (k + 1)) := Lib.hid (sched_at ws hwl.out k (k + 1) (by omega))
          have E2 : Hid ((schedTo ws k).getD (k + 14) 0 = wAt ws (k + 14)) := Lib.hid (sched_at ws hwl.out k (k + 14) (by omega))
          have E7 : Hid ((schedTo ws k).getD (k + 9) 0 = wAt ws (k + 9)) := Lib.hid (sched_at ws hwl.out k (k + 9) (by omega))
          have E16 : Hid ((schedTo ws k).getD k 0 = wAt ws k) := Lib.hid (sched_at ws hwl.out k k (by omega))
          have c15 := HC.out (k + 1) (by rw [LS.out]; omega)
          have c2 := HC.out (k + 14) (by rw [LS.out]; omega)
          have c7 := HC.out (k + 9) (by rw [LS.out]; omega)
          have c16 := HC.out k (by rw [LS.out]; omega)
          rw [E15.out] at c15
          rw [E2.out] at c2
          rw [E7.out] at c7
          rw [E16.out] at c16
          have b15 := wAt_lt ws hwl.out hww.out (k + 1)
          have b2 := wAt_lt ws hwl.out hww.out (k + 14)
          have b7 := wAt_lt ws hwl.out hww.out (k + 9)
          have b16 := wAt_lt ws hwl.out hww.out k
          have HN0 : Hid (wAt ws t = wNext (wAt ws (k + 14)) (wAt ws (k + 9)) (wAt ws (k + 1)) (wAt ws k)) := Lib.hid (by rw [HT.out]; exact wAt_hi ws hwl.out k)
          generalize wAt ws (k + 1) = x15 at *
          generalize wAt ws (k + 14) = x2 at *
          generalize wAt ws (k + 9) = x7 at *
          generalize wAt ws k = x16 at *
          have hltI : (t : Int) < 64 := by omega
          have i1 : (0 : Int) ≤ (t : Int) - 15 := by omega
          have i2 : (t : Int) - 15 < (t : Int) := by omega
          have i3 : (0 : Int) ≤ (t : Int) - 2 := by omega
          have i4 : (t : Int) - 2 < (t : Int) := by omega
          have i5 : (0 : Int) ≤ (t : Int) - 7 := by omega
          have i6 : (t : Int) - 7 < (t : Int) := by omega
          have i7 : (0 : Int) ≤ (t : Int) - 16 := by omega
          have i8 : (t : Int) - 16 < (t : Int) := by omega
          have n1 : ((t : Int) - 15).toNat = k + 1 := by omega
          have n2 : ((t : Int) - 2).toNat = k + 14 := by omega
          have n3 : ((t : Int) - 7).toNat = k + 9 := by omega
          have n4 : ((t : Int) - 16).toNat = k := by omega
          have s0 := ors0 x15 b15
          have s1 := ors1 x2 b2
          obtain ⟨x, hx⟩ : ∃ x, wNext x2 x7 x15 x16 = x := ⟨_, rfl⟩
          have HXlt : Hid (x < 4294967296) := Lib.hid (by rw [← hx]; exact wNext_lt _ _ _ _)
          have HVal : Hid ((IntKind.u32.wrap (IntKind.u32.wrap (IntKind.u32.wrap (((sg1 x2 : Nat) : Int) + (x7 : Int)) + ((sg0 x15 : Nat) : Int)) + (x16 : Int))) = (x : Int)) := Lib.hid (by rw [← hx]; unfold wNext; rw [IntKind.wrap_u32, IntKind.wrap_u32, IntKind.wrap_u32]; omega)
          have HS : Hid (u32s (schedTo ws (k + 1)) = u32s (schedTo ws k) ++ [.int .u32 (x : Int)]) := Lib.hid (by rw [schedTo_snoc ws hwl.out k, ← HT.out, HN0.out, hx, u32s_app]; rfl)
          clear hk hx b7 b16 E15 E2 E7 E16
          go_wp2
          go_quiet (fail)
          obtain ⟨W1, hW1⟩ : ∃ W1, wr.drewN nq = W1 := ⟨_, rfl⟩
          have d7 : W1.cell? ⟨g, k + 9, none⟩ = some (.int .u32 (x7 : Int)) := by rw [← hW1]; exact c7
          have d16 : W1.cell? ⟨g, k, none⟩ = some (.int .u32 (x16 : Int)) := by rw [← hW1]; exact c16
          have OW1 : Hid (W1.ownsRow w.heap.size 106 1 (.slice (some ⟨g, 0, none⟩) t cap) t (u32s (schedTo ws k))) := Lib.hid (by rw [← hW1]; exact HOW.out)
          have B1 : Hid (Below w.heap.size w W1) := Lib.hid (by rw [← hW1]; exact below_drewN HBB.out nq)
          have s1' := B1.out.size
          have hg1 : g < W1.heap.size := by rw [← hW1]; exact hglt
          rw [hW1]
          have v7 : IntKind.i64.wrap ((t : Int) - 7) = (t : Int) - 7 := by rw [IntKind.wrap_i64]; omega
          have v16 : IntKind.i64.wrap ((t : Int) - 16) = (t : Int) - 16 := by rw [IntKind.wrap_i64]; omega
          have j7 : (7 : Int) ≤ (t : Int) := by omega
          have j16 : (16 : Int) ≤ (t : Int) := by omega
          clear hW1 c15 c2 c7 c16 HOW HBB HC
          go_wp2
          go_region_law ((refine step_append_lies _ (by rfl) _ _ _ (by rfl) w.heap.size 106 i0 _ 1 4 Tryd.underlying107 I0.out I1.out I2.out I3.out rfl (by omega) (.slice (some ⟨g, 0, none⟩) t cap) t _ (by rfl) ((OW1.out.alloc _).drew) ⟨W1.heap.size, 0, none⟩ 1 1 [.int .u32 (IntKind.u32.wrap (IntKind.u32.wrap (IntKind.u32.wrap (((sg1 x2 : Nat) : Int) + (x7 : Int)) + ((sg0 x15 : Nat) : Int)) + (x16 : Int)))] (by rfl) (by rfl) (World.news_of_block (cs := #[.int .u32 (IntKind.u32.wrap (IntKind.u32.wrap (IntKind.u32.wrap (((sg1 x2 : Nat) : Int) + (x7 : Int)) + ((sg0 x15 : Nat) : Int)) + (x16 : Int)))]) (t := 106) (fr := (0, 0)) (heap_alloc_new W1 _)) (by simp [Value.oneCell']) (by omega) (by unfold maxLen; omega) (by omega) (by simp; omega) (W1.heap.size + 1) (by simp) ?_; intro gg cap2 w2 hown2 hgrow hat hlt1))
          all_goals
            have b2 := Lib.hid (((B1.out.alloc s1' _).drew).grown hgrow (by simp; omega) (fun q hq => (OW1.out.lt q hq).1))
            have HOW2 : Hid (w2.ownsRow w.heap.size 106 1 (.slice (some ⟨gg, 0, none⟩) (t + 1) cap2) (t + 1) (u32s (schedTo ws (k + 1)))) := Lib.hid (by rw [HS.out, ← HVal.out]; exact hown2)
            clear hown2 hgrow hat s0 s1 d7 d16 v7 v16
            go_wp2
            go_roundw
            case rel => exact ⟨t + 1, k + 1, Lib.hid (by rw [HT.out]; omega), by omega, by omega, by go_num, HOW2, b2⟩
            case measure => simp [intOf]; omega
        · have ht : t = 64 := by omega
          have hM : Made32 w (schedTo ws 48) (.returned (.slice (some ⟨g, 0, none⟩) 64 cap)) wr := by
            have hk48 : k = 48 := by have := HT.out; omega
            subst hk48
            have e : (schedTo ws 48).length = 64 := schedTo_len ws hwl.out 48
            rw [← e]
            exact ⟨g, cap, rfl, HC.out, hg, hglt, HBB.out⟩
          have HM := Lib.hid hM
          clear hM HOW HC LS HT
          subst ht
          go_wp2
          go_ret
          exact HM.out
end Go.Proofs.YtlknjaoamkcmjaaDoor
/- The document's own answer for sha: the tag of bytes. -/
namespace Go.Proofs.YtlknjaoamkcmjaaDoor
open Go.ChangeShapes Go.WideShapes Go.ChangeAt Go.RowKit
set_option linter.unusedVariables false
open Plain Sha
theorem grown_set {W V : World} {nb : Nat} (h : W.grownBy V (some nb)) (k : Nat) (v : Value) : W.grownBy (V.setCell ⟨nb, k, none⟩ v) (some nb) := grown_setCells [v] k V h
theorem grown_drewN {W V : World} {nb : Nat} (h : W.grownBy V (some nb)) (m : Nat) : W.grownBy (V.drewN m) (some nb) := ⟨h.os, h.tape, h.output, h.size, h.block⟩
theorem grown_drew {W V : World} {nb : Nat} (h : W.grownBy V (some nb)) : W.grownBy V.drew (some nb) := ⟨h.os, h.tape, h.output, h.size, h.block⟩
theorem grown_below {W V U : World} {nb : Nat} (h : W.grownBy V (some nb)) (hb : Below V.heap.size V U) : W.grownBy U (some nb) :=
  ⟨hb.os.trans h.os, hb.tape.trans h.tape, hb.output.trans h.output, Nat.le_trans h.size hb.size, fun i hi hne => (hb.block i (Nat.lt_of_lt_of_le hi h.size)).trans (h.block i hi hne)⟩
theorem Bs.keepB {w w' : World} {B n : Nat} {A : Option Addr} {zs : List Int} (h : Bs w B A n zs) (hk : ∀ b off, A = some ⟨b, off, none⟩ → b < B → w'.heap[b]? = w.heap[b]?) : Bs w' B A n zs :=
  ⟨h.len, h.rng, fun hn => by
    obtain ⟨b, off, e, hb, hc⟩ := h.row hn
    exact ⟨b, off, e, hb, fun j hj => (World.cell?_of_block (a := ⟨b, off + j, none⟩) (hk b off e hb)).trans (hc j hj)⟩⟩
theorem row32_keep {w w' : World} {b : Nat} {l : List Nat} (h : Row32 w b l) (e : w'.heap[b]? = w.heap[b]?) : Row32 w' b l :=
  ⟨fun j hj => (World.cell?_of_block (a := ⟨b, j, none⟩) e).trans (h.cells j hj), fun j hj => (World.frozen?_of_block (a := ⟨b, j, none⟩) e).trans (h.free j hj)⟩
theorem row8_setR {w : World} {b : Nat} {l : List Int} (h : Row8 w b 0 l) (k : Nat) (x : Int) (hk : k < l.length) : Row8 (w.setCell ⟨b, k, none⟩ (.int .u8 x)) b 0 (l.set k x) := by
  have := h.splice k [x] (by simp; omega)
  have e : splice l k [x] = l.set k x := list_ext_getD (by rw [splice_len (by simp; omega), List.length_set]) (fun j hj => by
    rw [splice_at _ _ _ _ (by simp; omega), getD_set _ _ _ _ hk]
    by_cases e : k = j
    · subst e; rw [if_pos (by simp), if_pos rfl, Nat.sub_self]; rfl
    · rw [if_neg (by simp; omega), if_neg e])
  rw [e, Nat.zero_add] at this
  exact this
theorem row8_cellR {w : World} {b : Nat} {l : List Int} (h : Row8 w b 0 l) {k : Nat} (hk : k < l.length) {x : Int} (hx : l.getD k 0 = x) : w.cell? ⟨b, k, none⟩ = some (.int .u8 x) ∧ w.frozen? ⟨b, k, none⟩ = false := by
  have h1 := h.range k _ (vals_at l k hk)
  have h2 := h.there k hk
  rw [Nat.zero_add] at h1 h2
  rw [hx] at h1
  exact ⟨h1, h2.2⟩
theorem wordsAt_piece (ms : List Int) (q : Nat) : wordsAt ((ms.drop (64 * q)).take 64) 0 = wordsAt ms q := by
  unfold wordsAt
  apply List.map_congr_left
  intro t ht
  have ht : t < 16 := by simpa using ht
  congr 2
  rw [Nat.mul_zero, Nat.zero_add, List.drop_take, List.take_take, List.drop_drop]
  congr 1
  omega
theorem blk_list (v : H8) (sa sb sc sd se sf sg sh : Nat) : ((((((((v.list.set 0 ((v.a + sa) % 4294967296)).set 1 ((v.b + sb) % 4294967296)).set 2 ((v.c + sc) % 4294967296)).set 3 ((v.d + sd) % 4294967296)).set 4 ((v.e + se) % 4294967296)).set 5 ((v.f + sf) % 4294967296)).set 6 ((v.g + sg) % 4294967296)).set 7 ((v.h + sh) % 4294967296)) = (addV v ⟨sa, sb, sc, sd, se, sf, sg, sh⟩).list := by
  simp [H8.list, addV]
/-- What the state is ahead of block q. -/
def Ahead (W3 wr : World) (nb : Nat) (v : H8) : Prop := W3.grownBy wr (some nb) ∧ Row32 wr nb v.list
set_option maxRecDepth 100000 in
set_option maxHeartbeats 16000000 in
theorem refsum_any {w : World} {B : Nat} {A : Option Addr} {n : Nat} (c : Nat) {zs : List Int} (hz : Bs w B A n zs) (hB : B ≤ w.heap.size) (hn : n ≤ 100000) :
    Calls Tryd.prog 51 #[.slice A n c] w fun e w' => e = .returned (.agg (vals (shaZ zs)).toArray) ∧ Below w.heap.size w w' := by
  obtain ⟨ms, hms⟩ : ∃ ms, zs ++ padZ n = ms := ⟨_, rfl⟩
  obtain ⟨L, hL⟩ : ∃ L, ms.length = L := ⟨_, rfl⟩
  have hL64 : L % 64 = 0 := by rw [← hL, ← hms, List.length_append, hz.len, padZ_len]; omega
  have hLb : L ≤ 200000 := by rw [← hL, ← hms, List.length_append, hz.len, padZ_len]; omega
  obtain ⟨Q, hQ⟩ : ∃ Q, L / 64 = Q := ⟨_, rfl⟩
  have hLQ : L = 64 * Q := by omega
  have HTZ : Hid (tagZ (behindTo h0 ms Q) = shaZ zs) := Lib.hid (by
    unfold shaZ Sha.behind
    rw [hz.len, hms, hL, hQ])
  have bm : Hid (IsBytes ms) := Lib.hid (by rw [← hms]; exact hz.isBytes.app (padZ_bytes n))
  have HMS := Lib.hid hms
  have HL := Lib.hid hL
  have HQ := Lib.hid hLQ
  have HZ := Lib.hid hz
  obtain ⟨W0, hW0⟩ : ∃ W0, W0 = w.alloc (.cells (vals (List.replicate 32 0)).toArray 24) := ⟨_, rfl⟩
  have b0 : Below w.heap.size w W0 := by rw [hW0]; exact (Below.refl _ _).alloc (Nat.le_refl _) _
  have s0 : W0.heap.size = w.heap.size + 1 := by rw [hW0]; simp
  have g0 : W0.there w.heap.size 0 32 := by rw [hW0]; simpa using (Row8.new w (List.replicate 32 0) 24).there
  obtain ⟨W1, hW1⟩ : ∃ W1, W1 = W0.alloc (.cells (u32s h0.list).toArray 106) := ⟨_, rfl⟩
  have r1 : Row32 W1 (w.heap.size + 1) h0.list := by rw [hW1, ← s0]; exact Row32.new W0 h0.list 106
  have b1 : Below w.heap.size w W1 := by rw [hW1]; exact b0.alloc (by omega) _
  have s1 : W1.heap.size = w.heap.size + 1 + 1 := by rw [hW1]; simp [s0]
  have g1 : W1.there w.heap.size 0 32 := by rw [hW1]; exact there_same g0 (Below.heap_alloc _ _ _ (by omega))
  have HW0 := Lib.hid hW0
  have HW1 := Lib.hid hW1
  have S1 := Lib.hid s1
  have S0 := Lib.hid s0
  have G1 := Lib.hid g1
  have R1 := Lib.hid r1
  have B1 := Lib.hid b1
  clear hms hL hQ hLQ hz hW0 hW1 b0 s0 g0 r1 b1 s1 g1
  go_enter Tryd.func51, Tryd.ntmps51
  go_wp2_with fail
  refine (show Calls Tryd.prog 74 #[] ((w.alloc (.cells (vals (List.replicate 32 0)).toArray 24)).alloc (.cells (u32s h0.list).toArray 106)) _ from ?_)
  rw [← HW0.out, ← HW1.out]
  refine (constants_any W1).mono ?_
  rintro e w2 ⟨rfl, k2, b2, s2⟩
  obtain ⟨kb, hkb⟩ : ∃ g, W1.heap.size = g := ⟨_, rfl⟩
  have hkbE : kb = w.heap.size + 1 + 1 := by rw [← hkb, S1.out]
  rw [hkb] at k2 b2 s2
  simp only [hkb]
  have q2 := Lib.hid (B1.out.trans (b2.mono (by omega)))
  have G2 := Lib.hid (there_same G1.out (b2.block _ (by omega)))
  have R2 := Lib.hid (row32_keep R1.out (b2.block (w.heap.size + 1) (by omega)))
  have K2 := Lib.hid k2
  have HKB := Lib.hid hkbE
  have kb1 : w.heap.size + 2 ≤ kb := by omega
  have kb2 : kb ≤ w.heap.size + 2 := by omega
  clear b2 k2 hkb hkbE R1 G1 B1
  go_wp2_with fail
  refine (whole_any c (HZ.out.belowM q2.out hB) (Nat.le_trans hB q2.out.size) (by omega)).mono ?_
  intro e w3 hm3
  rw [HMS.out] at hm3
  obtain ⟨D, d3, rfl, ho3, b3, hLc, hcm⟩ := hm3.n HL.out
  have HD := Lib.hid (fun (b off : Nat) (e : D = some ⟨b, off, none⟩) => (ho3.lt b (by rw [e]; rfl)).1)
  have Z3 := Lib.hid (bs_of_own ho3 bm.out)
  have q3 := Lib.hid (q2.out.trans (b3.mono q2.out.size))
  have G3 := Lib.hid (there_same G2.out (b3.block _ (by omega)))
  have s3 := b3.size
  obtain ⟨nb, hnb⟩ : ∃ g, w.heap.size + 1 = g := ⟨_, rfl⟩
  have M3 : Hid (Ahead w3 w3 nb (behindTo h0 ms 0)) := Lib.hid ⟨World.grownBy.refl _ _, by rw [← hnb]; exact row32_keep R2.out (b3.block _ (by omega))⟩
  have K3 := Lib.hid (row32_keep K2.out (b3.block kb (by omega)))
  have n1 : w.heap.size < nb := by omega
  have n2 : nb < kb := by omega
  have n3 : kb < w2.heap.size := s2
  rw [hnb]
  clear hm3 ho3 b3 hnb R2 K2 G2 q2 kb1 kb2
  go_wp2
  go_loopw [6] (fun i wr => ∃ a q : Nat, Hid (a = 64 * q) ∧ q ≤ Q ∧ i = .int .i64 a ∧ Hid (Ahead w3 wr nb (behindTo h0 ms q))) (fun i _ => L - (intOf i).toNat)
  case atStart => exact ⟨0, 0, Lib.hid rfl, by omega, rfl, M3⟩
  case round =>
    obtain ⟨a, q, HAQ, hq, rfl, HM⟩ := hrel
    have haq := HAQ.out
    have hgr := HM.out.1
    have hsz := hgr.size
    obtain ⟨v, hv⟩ : ∃ v, behindTo h0 ms q = v := ⟨_, rfl⟩
    have HV := Lib.hid hv
    have HVok : Hid v.ok := Lib.hid (by rw [← hv]; exact behindTo_ok h0_ok ms q)
    rw [hv] at HM
    have HGR := Lib.hid hgr
    clear hv hgr
    have ZR := Lib.hid (Z3.out.keepB (w' := wr) (fun b off e hb => HGR.out.block b hb (by have := HD.out b off e; simp; omega)))
    by_cases hlt : q < Q
    · have hL' := HQ.out
      have haI : (a : Int) < (L : Int) := by omega
      have gw : IntKind.i64.wrap ((a : Int) + 64) = (a : Int) + 64 := by rw [IntKind.wrap_i64]; omega
      obtain ⟨A2, hs, ct⟩ := cut_lh D L d3 a (a + 64) (a : Int) ((a : Int) + 64) rfl (by omega) (by omega) (by omega)
      have hs' : ∀ W, (Instr.slice 22 (.slice D L d3) (some (.int .i64 (a : Int))) (some (.int .i64 ((a : Int) + 64))) none).run Tryd.prog W = .ok (.slice A2 64 (d3 - a)) W := by simpa using hs
      have Z4 : Hid (Bs wr w3.heap.size A2 64 ((ms.drop (64 * q)).take 64)) := Lib.hid (by
        have := ZR.out.cut (k := a) (m := 64) (by omega) A2 (by simpa [CutAt] using ct)
        rwa [haq] at this)
      have i0 : (0 : Int) ≤ (a : Int) := by omega
      have i1 : (a : Int) + 64 ≤ (d3 : Int) := by omega
      clear hs ct haq hL'
      go_wp2_with fail
      refine (schedule_any (d3 - a) Z4.out (by omega)).mono ?_
      rw [wordsAt_piece]
      obtain ⟨ws, hws⟩ : ∃ ws, wordsAt ms q = ws := ⟨_, rfl⟩
      have hwl : Hid (ws.length = 16) := Lib.hid (by rw [← hws]; exact wordsAt_len _ _)
      have hww : Hid (AllW ws) := Lib.hid (by rw [← hws]; exact wordsAt_lt ms bm.out q)
      have HNX : Hid (behindTo h0 ms (q + 1) = blk v ws) := Lib.hid (by rw [← HV.out, ← hws]; rfl)
      rw [hws]
      clear hws
      rintro e w4 ⟨sb, sc4, rfl, hcs, hsb1, hsb2, b4⟩
      have e64 : (schedTo ws 48).length = 64 := schedTo_len ws hwl.out 48
      rw [e64]
      have CS := Lib.hid hcs
      have LS := Lib.hid e64
      have GR4 := Lib.hid (grown_below HGR.out b4)
      have RN4 := Lib.hid (row32_keep HM.out.2 (b4.block nb (by omega)))
      have K4 := Lib.hid (row32_keep K3.out (GR4.out.block kb (by omega) (by simp; omega)))
      have s4 := b4.size
      clear b4 hcs e64 hs' Z4 ZR HM HGR HV
      have hnb4 : nb < w4.heap.size := by omega
      go_upto_region 8 with fail
      have c0 := RN4.out.cells 0 (by simp [H8.list])
      have c1 := RN4.out.cells 1 (by simp [H8.list])
      have c2 := RN4.out.cells 2 (by simp [H8.list])
      have c3 := RN4.out.cells 3 (by simp [H8.list])
      have c4 := RN4.out.cells 4 (by simp [H8.list])
      have c5 := RN4.out.cells 5 (by simp [H8.list])
      have c6 := RN4.out.cells 6 (by simp [H8.list])
      have c7 := RN4.out.cells 7 (by simp [H8.list])
      simp only [H8.list, List.getD_cons_zero, List.getD_cons_succ] at c0 c1 c2 c3 c4 c5 c6 c7
      go_quiet (fail)
      clear c0 c1 c2 c3 c4 c5 c6 c7
      go_wp2
      go_loopw [8, 9, 10, 11, 12, 13, 14, 15, 16] (fun a b c d e f g h i wr => ∃ t m : Nat, t ≤ 64 ∧ i = .int .i64 t ∧ Hid (wr = w4.drewN m) ∧ ∃ sa sb sc sd se sf sg sh : Nat, Hid ((⟨sa, sb, sc, sd, se, sf, sg, sh⟩ : H8) = rnds ws v t) ∧ a = .int .u32 (sa : Int) ∧ b = .int .u32 (sb : Int) ∧ c = .int .u32 (sc : Int) ∧ d = .int .u32 (sd : Int) ∧ e = .int .u32 (se : Int) ∧ f = .int .u32 (sf : Int) ∧ g = .int .u32 (sg : Int) ∧ h = .int .u32 (sh : Int)) (fun _ _ _ _ _ _ _ _ i _ => 64 - (intOf i).toNat)
      case atStart => exact ⟨0, _, by omega, rfl, Lib.hid rfl, v.a, v.b, v.c, v.d, v.e, v.f, v.g, v.h, Lib.hid rfl, rfl, rfl, rfl, rfl, rfl, rfl, rfl, rfl⟩
      case round =>
        obtain ⟨t, m, ht, rfl, HWR, xa, xb, xc, xd, xe, xf, xg, xh, HS, rfl, rfl, rfl, rfl, rfl, rfl, rfl, rfl⟩ := hrel
        have ok := rnds_ok ws HVok.out t
        rw [← HS.out] at ok
        obtain ⟨oa, ob, oc, od, oe, of_, og, oh⟩ := ok
        simp only at oa ob oc od oe of_ og oh
        by_cases hlt : t < 64
        · as_aux_lemma =>
            have ck := K4.out.cells t (show t < kTab.length by simpa [kTab] using hlt)
            have ca := CS.out t (by rw [LS.out]; exact hlt)
            rw [sched_at ws hwl.out 48 t (by omega)] at ca
            obtain ⟨wt, hwt⟩ : ∃ x, wAt ws t = x := ⟨_, rfl⟩
            have bw := wAt_lt ws hwl.out hww.out t
            rw [hwt] at ca bw
            have HWT := Lib.hid hwt
            have bk := kTab_lt t
            obtain ⟨kt, hkt⟩ : ∃ k, kTab.getD t 0 = k := ⟨_, rfl⟩
            rw [hkt] at ck bk
            have HKT := Lib.hid hkt
            have ck' : wr.cell? ⟨kb, t, none⟩ = some (.int .u32 (kt : Int)) := by rw [HWR.out]; exact ck
            have ca' : wr.cell? ⟨sb, t, none⟩ = some (.int .u32 (wt : Int)) := by rw [HWR.out]; exact ca
            clear ck ca
            have hltI : (t : Int) < 64 := by omega
            have s2 := mjx_bits xa xb xc oa ob oc
            have s3 := chx_bits xe xf xg oe of_ og
            clear hkt hwt
            go_upto_region 14 with fail
            rw [show (if IntKind.u32.signed = true then (-1 : Int) else IntKind.u32.max) = IntKind.u32.max from rfl, s3]
            clear s2 s3
            go_quiet ((go_at_call 77; exact quiet_at (turnsE_any xe oe)))
            go_wp2_with fail
            obtain ⟨T1, hT1⟩ : ∃ T, (xh + bs1 xe + ch xe xf xg + kt + wt) % 4294967296 = T := ⟨_, rfl⟩
            have hT1lt : T1 < 4294967296 := by rw [← hT1]; exact mod_lt _
            have HN : Hid ((⟨(T1 + bs0 xa + mj xa xb xc) % 4294967296, xa, xb, xc, (xd + T1) % 4294967296, xe, xf, xg⟩ : H8) = rnds ws v (t + 1)) := Lib.hid (by
              show _ = rnd (rnds ws v t) (kTab.getD t 0) (wAt ws t)
              rw [← HS.out, HWT.out, HKT.out, ← hT1]; rfl)
            rw [show (((xh : Int) + ((bs1 xe : Nat) : Int) + ((ch xe xf xg : Nat) : Int) + (kt : Int)) % 4294967296 + (wt : Int)) % 4294967296 = (T1 : Int) by omega]
            clear hT1 ck' ca'
            refine (turnsA_any xa oa _).mono ?_
            rintro e w6 ⟨rfl, m2, rfl⟩
            go_wp2
            go_roundw
            case rel => exact ⟨t + 1, m + (nq + m2), by omega, by go_num, Lib.hid (by rw [HWR.out, World.drewN_drewN]), _, _, _, _, _, _, _, _, HN, congrArg (Value.int .u32) (by omega), rfl, rfl, rfl, congrArg (Value.int .u32) (by omega), rfl, rfl, rfl⟩
            case measure => simp [intOf]; omega
        · as_aux_lemma =>
            have ht64 : t = 64 := by omega
            have HBK : Hid (blk v ws = addV v ⟨xa, xb, xc, xd, xe, xf, xg, xh⟩) := Lib.hid (by unfold blk; rw [HS.out, ht64])
            have ov := HVok.out
            obtain ⟨va, vb, vc, vd, ve, vf, vg, vh⟩ := ov
            have c0 := RN4.out.cells 0 (by simp [H8.list])
            have c1 := RN4.out.cells 1 (by simp [H8.list])
            have c2 := RN4.out.cells 2 (by simp [H8.list])
            have c3 := RN4.out.cells 3 (by simp [H8.list])
            have f0 := RN4.out.free 0 (by simp [H8.list])
            have f1 := RN4.out.free 1 (by simp [H8.list])
            have f2 := RN4.out.free 2 (by simp [H8.list])
            have f3 := RN4.out.free 3 (by simp [H8.list])
            simp only [H8.list, List.getD_cons_zero, List.getD_cons_succ] at c0 c1 c2 c3
            have e0 : wr.cell? ⟨nb, 0, none⟩ = some (.int .u32 ((v.a : Nat) : Int)) := by rw [HWR.out]; exact c0
            have e1 : wr.cell? ⟨nb, 1, none⟩ = some (.int .u32 ((v.b : Nat) : Int)) := by rw [HWR.out]; exact c1
            have e2 : wr.cell? ⟨nb, 2, none⟩ = some (.int .u32 ((v.c : Nat) : Int)) := by rw [HWR.out]; exact c2
            have e3 : wr.cell? ⟨nb, 3, none⟩ = some (.int .u32 ((v.d : Nat) : Int)) := by rw [HWR.out]; exact c3
            have h0' : wr.frozen? ⟨nb, 0, none⟩ = false := by rw [HWR.out]; exact f0
            have h1' : wr.frozen? ⟨nb, 1, none⟩ = false := by rw [HWR.out]; exact f1
            have h2' : wr.frozen? ⟨nb, 2, none⟩ = false := by rw [HWR.out]; exact f2
            have h3' : wr.frozen? ⟨nb, 3, none⟩ = false := by rw [HWR.out]; exact f3
            have htI : ¬ (t : Int) < 64 := by omega
            clear ht64 HS c0 c1 c2 c3 f0 f1 f2 f3
            have RW : Hid (Row32 wr nb [v.a, v.b, v.c, v.d, v.e, v.f, v.g, v.h]) := Lib.hid (by rw [HWR.out]; exact RN4.out.drewN m)
            have GW : Hid (w3.grownBy wr (some nb)) := Lib.hid (by rw [HWR.out]; exact grown_drewN GR4.out m)
            have hnbW : nb < wr.heap.size := by rw [HWR.out]; exact hnb4
            clear HWR RN4 GR4
            go_wp2
            go_region
            obtain ⟨y0, hy0⟩ : ∃ y, (v.a + xa) % 4294967296 = y := ⟨_, rfl⟩
            obtain ⟨y1, hy1⟩ : ∃ y, (v.b + xb) % 4294967296 = y := ⟨_, rfl⟩
            obtain ⟨y2, hy2⟩ : ∃ y, (v.c + xc) % 4294967296 = y := ⟨_, rfl⟩
            obtain ⟨y3, hy3⟩ : ∃ y, (v.d + xd) % 4294967296 = y := ⟨_, rfl⟩
            rw [show ((v.a : Int) + (xa : Int)) % 4294967296 = (y0 : Int) by omega, show ((v.b : Int) + (xb : Int)) % 4294967296 = (y1 : Int) by omega, show ((v.c : Int) + (xc : Int)) % 4294967296 = (y2 : Int) by omega, show ((v.d : Int) + (xd : Int)) % 4294967296 = (y3 : Int) by omega]
            have R7 := ((((RW.out.set 0 y0 (by simp)).set 1 y1 (by simp)).set 2 y2 (by simp)).set 3 y3 (by simp)).drew
            have G7 := grown_drew (grown_set (grown_set (grown_set (grown_set GW.out 0 (.int .u32 (y0 : Int))) 1 (.int .u32 (y1 : Int))) 2 (.int .u32 (y2 : Int))) 3 (.int .u32 (y3 : Int)))
            simp only [List.set_cons_zero, List.set_cons_succ] at R7
            obtain ⟨W7, hW7⟩ : ∃ W7, ((((wr.setCell ⟨nb, 0, none⟩ (.int .u32 (y0 : Int))).setCell ⟨nb, 1, none⟩ (.int .u32 (y1 : Int))).setCell ⟨nb, 2, none⟩ (.int .u32 (y2 : Int))).setCell ⟨nb, 3, none⟩ (.int .u32 (y3 : Int))).drew = W7 := ⟨_, rfl⟩
            rw [hW7] at R7 G7 ⊢
            have HY0 := Lib.hid hy0
            have HY1 := Lib.hid hy1
            have HY2 := Lib.hid hy2
            have HY3 := Lib.hid hy3
            have HR7 := Lib.hid R7
            have HG7 := Lib.hid G7
            have e4 := R7.cells 4 (by simp)
            have e5 := R7.cells 5 (by simp)
            have e6 := R7.cells 6 (by simp)
            have e7 := R7.cells 7 (by simp)
            have f4 := R7.free 4 (by simp)
            have f5 := R7.free 5 (by simp)
            have f6 := R7.free 6 (by simp)
            have f7 := R7.free 7 (by simp)
            simp only [List.getD_cons_zero, List.getD_cons_succ] at e4 e5 e6 e7
            clear hW7 R7 G7 hy0 hy1 hy2 hy3 RW GW e0 e1 e2 e3 h0' h1' h2' h3'
            as_aux_lemma =>
              go_wp2
              go_region
              obtain ⟨y4, hy4⟩ : ∃ y, (v.e + xe) % 4294967296 = y := ⟨_, rfl⟩
              obtain ⟨y5, hy5⟩ : ∃ y, (v.f + xf) % 4294967296 = y := ⟨_, rfl⟩
              obtain ⟨y6, hy6⟩ : ∃ y, (v.g + xg) % 4294967296 = y := ⟨_, rfl⟩
              obtain ⟨y7, hy7⟩ : ∃ y, (v.h + xh) % 4294967296 = y := ⟨_, rfl⟩
              rw [show ((v.e : Int) + (xe : Int)) % 4294967296 = (y4 : Int) by omega, show ((v.f : Int) + (xf : Int)) % 4294967296 = (y5 : Int) by omega, show ((v.g : Int) + (xg : Int)) % 4294967296 = (y6 : Int) by omega, show ((v.h : Int) + (xh : Int)) % 4294967296 = (y7 : Int) by omega]
              have R8 := ((((HR7.out.set 4 y4 (by simp)).set 5 y5 (by simp)).set 6 y6 (by simp)).set 7 y7 (by simp)).drew
              have G8 := grown_drew (grown_set (grown_set (grown_set (grown_set HG7.out 4 (.int .u32 (y4 : Int))) 5 (.int .u32 (y5 : Int))) 6 (.int .u32 (y6 : Int))) 7 (.int .u32 (y7 : Int)))
              simp only [List.set_cons_zero, List.set_cons_succ] at R8
              obtain ⟨W8, hW8⟩ : ∃ W8, ((((W7.setCell ⟨nb, 4, none⟩ (.int .u32 (y4 : Int))).setCell ⟨nb, 5, none⟩ (.int .u32 (y5 : Int))).setCell ⟨nb, 6, none⟩ (.int .u32 (y6 : Int))).setCell ⟨nb, 7, none⟩ (.int .u32 (y7 : Int))).drew = W8 := ⟨_, rfl⟩
              rw [hW8] at R8 G8 ⊢
              have HAH : Hid (Ahead w3 W8 nb (behindTo h0 ms (q + 1))) := Lib.hid ⟨G8, by
                rw [HNX.out, HBK.out, ← blk_list]
                simp only [H8.list, List.set_cons_zero, List.set_cons_succ]
                rw [HY0.out, HY1.out, HY2.out, HY3.out, hy4, hy5, hy6, hy7]
                exact R8⟩
              have gw2 : IntKind.i64.wrap ((a : Int) + 64) = (a : Int) + 64 := gw
              have haq2 := HAQ.out
              have hL2 := HQ.out
              clear hW8 R8 G8 hy4 hy5 hy6 hy7 e4 e5 e6 e7 f4 f5 f6 f7 HR7 HG7
              go_wp2
              go_roundw
              case rel => exact ⟨a + 64, q + 1, Lib.hid (by omega), by omega, by go_num, HAH⟩
              case measure => simp [intOf]; omega
    · as_aux_lemma =>
        have hqQ : q = Q := by omega
        have haL : a = L := by have := HQ.out; omega
        have hge : ¬ (a : Int) < (L : Int) := by omega
        have HFIN : Hid (tagZ v = shaZ zs) := Lib.hid (by rw [← HV.out, hqQ]; exact HTZ.out)
        have RV : Hid (Row32 wr nb v.list) := Lib.hid HM.out.2
        have GRr : Hid (wr.there w.heap.size 0 32) := Lib.hid (there_same G3.out (HGR.out.block _ (by omega) (by simp; omega)))
        have QR : Hid (Below w.heap.size w wr) := Lib.hid (q3.out.grown HGR.out q3.out.size (fun k hk => by injection hk with hk; omega))
        have hnbr : nb < wr.heap.size := by omega
        clear hqQ haL HV HM HGR HAQ haq ZR Z3 M3 HD
        have o0 : Row8 (wr.alloc (.cells (vals (List.replicate 32 0)).toArray 24)) wr.heap.size 0 (List.replicate 32 0) := Row8.new wr _ _
        obtain ⟨Wo, hWo⟩ : ∃ Wo, Wo = wr.alloc (.cells (vals (List.replicate 32 0)).toArray 24) := ⟨_, rfl⟩
        obtain ⟨ob, hob⟩ : ∃ g, wr.heap.size = g := ⟨_, rfl⟩
        rw [← hWo, hob] at o0
        have RVo : Hid (Row32 Wo nb v.list) := Lib.hid (by rw [hWo]; exact row32_keep RV.out (Below.heap_alloc _ _ _ hnbr))
        have GRo : Hid (Wo.there w.heap.size 0 32) := Lib.hid (by rw [hWo]; exact there_same GRr.out (Below.heap_alloc _ _ _ (by omega)))
        have QRo : Hid (Below w.heap.size w Wo) := Lib.hid (by rw [hWo]; exact QR.out.alloc QR.out.size _)
        have soo : ob < Wo.heap.size := by rw [hWo, ← hob]; simp
        have hobr : nb < ob := by omega
        have O0 := Lib.hid o0
        have HWO := Lib.hid hWo
        have HOB := Lib.hid hob
        have HOK := HVok.out
        clear o0 hWo hob RV GRr QR
        go_upto_region 20 with fail
        refine (show Code.wp Tryd.prog _ _ _ (wr.alloc (.cells (vals (List.replicate 32 0)).toArray 24)) from ?_)
        rw [← HWO.out, HOB.out]
        go_wp2
        go_loopw [22] (fun i wv => ∃ k : Nat, k ≤ 8 ∧ i = .int .i64 k ∧ ∃ cs : List Int, Hid (cs.length = 32) ∧ Hid (cs.take (4 * k) = tagTo v k) ∧ Hid (Row8 wv ob 0 cs) ∧ Hid (Wo.grownBy wv (some ob))) (fun i _ => 8 - (intOf i).toNat)
        case atStart => exact ⟨0, by omega, rfl, List.replicate 32 0, Lib.hid (List.length_replicate ..), Lib.hid rfl, O0, Lib.hid (World.grownBy.refl _ _)⟩
        case round =>
          obtain ⟨k, hk, rfl, cs, HC, HTK, HR8, HGO⟩ := hrel
          have sgo := HGO.out.size
          by_cases hlt8 : k < 8
          · as_aux_lemma =>
              have hkI : (k : Int) < 8 := by omega
              have RVk := row32_keep RVo.out (HGO.out.block nb (by omega) (by simp; omega))
              have ck := RVk.cells k (show k < v.list.length by simpa [H8.list] using hlt8)
              obtain ⟨x, hx⟩ : ∃ x, v.list.getD k 0 = x := ⟨_, rfl⟩
              have hxl : x < 4294967296 := by rw [← hx]; exact list_lt v HOK k hlt8
              rw [hx] at ck
              have HX := Lib.hid hx
              have HXL := Lib.hid hxl
              have hx0 : (0 : Int) ≤ (x : Int) := by omega
              have hx1 : (x : Int) < 4294967296 := by omega
              clear hx RVk
              go_wp2_with fail
              refine (refputI_any (x : Int) 4 (by omega) (by omega) (by omega) (by omega) _).mono ?_
              intro e w5 hm5
              rw [show (4 : Int).toNat = 4 from rfl] at hm5
              obtain ⟨D5, d5, rfl, ho5, b5, _, _⟩ := hm5.n (putZ_len ..)
              have z5 := Lib.hid (Made.bs ho5 (putZ_bytes (x : Int) 4))
              have HD5 := Lib.hid (fun (b off : Nat) (e : D5 = some ⟨b, off, none⟩) => (ho5.lt b (by rw [e]; rfl)).1)
              have R85 := Lib.hid (HR8.out.same (b5.block ob (by omega)))
              have GO5 := Lib.hid (grown_below HGO.out b5)
              have s5 := b5.size
              clear hm5 ho5 b5 ck HR8 HGO
              go_wp2
              go_loopw [24] (fun i wv => ∃ m : Nat, m ≤ 4 ∧ i = .int .i64 m ∧ ∃ ds : List Int, Hid (ds.length = 32) ∧ Hid (ds.take (4 * k) = cs.take (4 * k)) ∧ Hid (∀ j, j < m → ds.getD (4 * k + j) 0 = (putZ (x : Int) 4).getD j 0) ∧ Hid (Row8 wv ob 0 ds) ∧ Hid (w5.grownBy wv (some ob))) (fun i _ => 4 - (intOf i).toNat)
              case atStart => exact ⟨0, by omega, rfl, cs, HC, Lib.hid rfl, Lib.hid (fun j hj => absurd hj (by omega)), R85, Lib.hid (World.grownBy.refl _ _)⟩
              case round =>
                obtain ⟨m, hm, rfl, ds, HDS, HDT, HDJ, HR, HG⟩ := hrel
                have sg5 := HG.out.size
                by_cases hlt4 : m < 4
                · have zr := z5.out.keepB (w' := wr) (fun b off e hb => HG.out.block b hb (by have := HD5.out b off e; simp; omega))
                  obtain ⟨b1, o1, u1, rfl, hb1, HU1, hu1, hu1', hc1⟩ := zr.at_ (k := m) hlt4
                  have hmI : (m : Int) < 4 := by omega
                  have hcell := row8_cellR HR.out (k := 4 * k + m) (by rw [HDS.out]; omega) rfl
                  obtain ⟨c1', c2'⟩ := hcell
                  have gw : IntKind.i64.wrap (4 * (k : Int) + (m : Int)) = 4 * (k : Int) + (m : Int) := by rw [IntKind.wrap_i64]; omega
                  have i1 : (0 : Int) ≤ 4 * (k : Int) + (m : Int) := by omega
                  have i2 : 4 * (k : Int) + (m : Int) < 32 := by omega
                  have i3 : (4 * (k : Int) + (m : Int)).toNat = 4 * k + m := by omega
                  have HR' := Lib.hid (row8_setR HR.out (4 * k + m) u1 (by rw [HDS.out]; omega))
                  have HG' := Lib.hid (grown_set HG.out (4 * k + m) (.int .u8 u1))
                  have HDS' : Hid ((ds.set (4 * k + m) u1).length = 32) := Lib.hid (by rw [List.length_set]; exact HDS.out)
                  have HDT' : Hid ((ds.set (4 * k + m) u1).take (4 * k) = cs.take (4 * k)) := Lib.hid (by rw [List.take_set_of_le (by omega)]; exact HDT.out)
                  have HDJ' : Hid (∀ j, j < m + 1 → (ds.set (4 * k + m) u1).getD (4 * k + j) 0 = (putZ (x : Int) 4).getD j 0) := Lib.hid (fun j hj => by
                    rw [getD_set _ _ _ _ (by rw [HDS.out]; omega)]
                    split
                    · next h => rw [show j = m by omega, HU1.out]
                    · exact HDJ.out j (by omega))
                  clear zr HR HG HDS HDT HDJ
                  go_wp2
                  go_roundw
                  case rel => exact ⟨m + 1, by omega, by go_num, _, HDS', HDT', HDJ', HR', HG'⟩
                  case measure => simp [intOf]; omega
                · have hm4 : m = 4 := by omega
                  have HT' : Hid (ds.take (4 * (k + 1)) = tagTo v (k + 1)) := Lib.hid (by
                    have e1 : ds.take (4 * (k + 1)) = ds.take (4 * k) ++ (ds.drop (4 * k)).take 4 := by rw [show 4 * (k + 1) = 4 * k + 4 by omega, List.take_add]
                    have e2 : (ds.drop (4 * k)).take 4 = putZ (x : Int) 4 := list_ext_getD (by rw [List.length_take, List.length_drop, HDS.out, putZ_len]; omega) (fun j hj => by
                      rw [List.length_take, List.length_drop, HDS.out] at hj
                      rw [List.getD_eq_getElem?_getD, List.getElem?_take_of_lt (by omega), List.getElem?_drop, ← List.getD_eq_getElem?_getD]
                      exact HDJ.out j (by omega))
                    rw [e1, e2, HDT.out, HTK.out, ← HX.out]; rfl)
                  have HGO' := Lib.hid (show Wo.grownBy wr (some ob) from ⟨HG.out.os.trans GO5.out.os, HG.out.tape.trans GO5.out.tape, HG.out.output.trans GO5.out.output, Nat.le_trans GO5.out.size HG.out.size, fun i hi hne => (HG.out.block i (Nat.lt_of_lt_of_le hi GO5.out.size) hne).trans (GO5.out.block i hi hne)⟩)
                  have hge4 : ¬ (m : Int) < 4 := by omega
                  clear hm4 HDT HDJ HG z5 HD5 R85 GO5
                  go_wp2
                  go_roundw
                  case rel => exact ⟨k + 1, by omega, by go_num, ds, HDS, HT', HR, HGO'⟩
                  case measure => simp [intOf]; omega
          · as_aux_lemma =>
              have hk8 : k = 8 := by omega
              have HE : Hid (cs = shaZ zs) := Lib.hid (by
                rw [← HFIN.out, ← tagTo_8]
                have := HTK.out
                rwa [hk8, List.take_of_length_le (by rw [HC.out]; omega)] at this)
              have hge8 : ¬ (k : Int) < 8 := by omega
              have T2 : Hid (wr.there w.heap.size 0 (vals cs).toArray.size) := Lib.hid (by
                rw [show (vals cs).toArray.size = 32 by rw [List.size_toArray, vals_len, HC.out]]
                exact there_same GRo.out (HGO.out.block _ (by omega) (by simp; omega)))
              have QF : Hid (Below w.heap.size w wr) := Lib.hid (QRo.out.grown HGO.out QRo.out.size (fun j hj => by injection hj with hj; omega))
              have RG := Lib.hid HR8.out.range
              have G := HC
              clear hk8 HTK HR8 HGO
              go_upto_region 28 with fail
              refine wp_region_lit ?_
              refine wpList_load_mid (op := ⟨some 199, .load 24 (.tmp 21), _, _, _, _⟩) rfl 24 (.tmp 21) rfl ob 0 ?_ (vals cs) _ RG.out Tryd.underlying24 rfl (tag_size cs HC.out) ?_
              · rfl
              refine wpList_store_as (op := ⟨none, .store 24 (.tmp 2) (.tmp 199), _, _, _, _⟩) rfl 24 (.tmp 2) (.tmp 199) rfl w.heap.size 0 (vals cs).toArray ?_ ?_ T2.out (tag_size cs HC.out) (all_oneCell_toArray (vals_one cs)) ?_
              · rfl
              · rfl
              intro w9 hw9
              have R9 : w9.rangeAt w.heap.size 0 (vals cs) := by rw [hw9.out]; exact World.rangeAt_setCells_same _ _ _ _ T2.out
              have b9 : Below w.heap.size w w9 := by rw [hw9.out]; exact below_setCells (Nat.le_refl _) _ _ _ QF.out
              have R9' := Lib.hid R9
              have b9' := Lib.hid b9
              clear hw9 R9 b9
              go_wp2
              refine bodyPost_ret (v := .agg (vals cs).toArray) (results_mid (p := 2) (ty := 24) rfl _ _ w.heap.size 0 (vals cs) _ ?_ R9'.out Tryd.underlying24 rfl (tag_size cs HC.out)) rfl ⟨by rw [HE.out], b9'.out⟩
              rfl
end Go.Proofs.YtlknjaoamkcmjaaDoor
/- The document's own way from a tag to bytes. -/
namespace Go.Proofs.YtlknjaoamkcmjaaDoor
open Go.ChangeShapes Go.WideShapes Go.ChangeAt Go.RowKit
set_option linter.unusedVariables false
open Plain Sha
set_option maxRecDepth 100000 in
set_option maxHeartbeats 2000000 in
theorem refbytes_any (T : List Int) (hl : T.length = 32) (hb : IsBytes T) (w : World) :
    Calls Tryd.prog 47 #[.agg (vals T).toArray] w (Made w T) := by
  obtain ⟨i0, hi0, hz0, hz1, hz2⟩ := info_parts u8_row
  have I0 := Lib.hid hi0
  have I1 := Lib.hid hz0
  have I2 := Lib.hid hz1
  have I3 := Lib.hid hz2
  have HL := Lib.hid hl
  have HB := Lib.hid hb
  obtain ⟨W0, hW0⟩ : ∃ W0, W0 = w.alloc (.cells (vals T).toArray 24) := ⟨_, rfl⟩
  have r0 : Row8 W0 w.heap.size 0 T := by rw [hW0]; exact Row8.new w T _
  have b0 : Below w.heap.size w W0 := by rw [hW0]; exact (Below.refl _ _).alloc (Nat.le_refl _) _
  have s0 : w.heap.size < W0.heap.size := by rw [hW0]; simp
  have HW0 := Lib.hid hW0
  have R0 := Lib.hid r0
  have B0 := Lib.hid b0
  clear hi0 hz0 hz1 hz2 hl hb hW0 r0 b0
  go_enter Tryd.func47, Tryd.ntmps47
  go_wp2
  rw [← HW0.out]
  go_loopw [3, 4] (fun v i wr => ∃ k : Nat, k ≤ 32 ∧ i = .int .i64 k ∧ Hid (wr.ownsRow (w.heap.size + 1) 5 1 v k (vals (T.take k))) ∧ Hid (Below W0.heap.size W0 wr)) (fun _ i _ => 32 - (intOf i).toNat)
  case atStart => exact ⟨0, by omega, rfl, Lib.hid (World.ownsRow_nil _ _ _ _), Lib.hid (Below.refl _ _)⟩
  case round =>
    obtain ⟨k, hk, rfl, HO, HB2⟩ := hrel
    have sr := HB2.out.size
    by_cases hlt : k < 32
    · have hkI : (k : Int) < 32 := by omega
      have RW := R0.out.same (HB2.out.block w.heap.size s0)
      have hc := RW.range k _ (vals_at T k (by rw [HL.out]; exact hlt))
      rw [Nat.zero_add] at hc
      obtain ⟨u, hu⟩ : ∃ u, T.getD k 0 = u := ⟨_, rfl⟩
      rw [hu] at hc
      have HT : Hid (vals (T.take (k + 1)) = vals (T.take k) ++ [.int .u8 u]) := Lib.hid (by rw [take_snoc_getD _ _ (by rw [HL.out]; exact hlt), vals_app, hu]; rfl)
      clear hu RW
      go_wp2_with (at_builtin; refine wpList_append_own _ rfl (.tmp 9) (.tmp 13) 22 rfl (w.heap.size + 1) 5 i0 _ 1 1 Tryd.underlying22 I0.out I1.out I2.out I3.out rfl (by decide) u3 k (vals (T.take k)) rfl (HO.out.alloc _) ⟨wr.heap.size, 0, none⟩ 1 1 [.int .u8 u] rfl rfl (World.news_of_block (cs := #[.int .u8 u]) (t := 5) (fr := (0, 0)) (heap_alloc_new wr _)) (by simp [Value.oneCell']) (by unfold maxLen; omega) (by omega) (by simp; omega) ?_; intro v2 w2 ho2 hg2 _)
      have b2 : Below W0.heap.size W0 w2 := (HB2.out.alloc sr _).grown hg2 (by simp; omega) (fun q hq => by
        have h1 := (HO.out.lt q hq).1
        have h2 : W0.heap.size ≤ w.heap.size + 1 := by rw [HW0.out]; simp
        omega)
      have ho2' : w2.ownsRow (w.heap.size + 1) 5 1 v2 (k + 1) (vals (T.take (k + 1))) := by rw [HT.out]; exact ho2
      clear ho2 hg2
      go_roundw
      case rel => exact ⟨k + 1, by omega, by go_num, Lib.hid ho2', Lib.hid b2⟩
      case measure => simp [intOf]; omega
    · have hk32 : k = 32 := by omega
      have HM : Hid (Made w T (.returned u3) wr) := Lib.hid (made_of (n := k) (by rw [HL.out, hk32]) (by
        have := HO.out
        rw [hk32, List.take_of_length_le (by rw [HL.out]; exact Nat.le_refl _)] at this
        rw [hk32]
        exact own_base this (by omega)) (B0.out.trans (HB2.out.mono B0.out.size)))
      have hge : ¬ (k : Int) < 32 := by omega
      clear hk32 HO HB2
      go_wp2
      go_ret
      exact HM.out
end Go.Proofs.YtlknjaoamkcmjaaDoor
/- What the row's condition on the listed variables gives the walks; that the door's own heap meets it. -/
namespace Go.Proofs.YtlknjaoamkcmjaaDoor
open Go.ChangeShapes Go.WideShapes Go.ChangeAt Go.WideMaps Go.WideElems Go.RowKit
set_option linter.unusedVariables false
open Sha
def laidFK : List (String × DataW Unit) := [("seneschal/sha.first", Rows.laid_seneschal_sha_first), ("seneschal/sha.constants", Rows.laid_seneschal_sha_constants)]
def laidK1 : List (String × DataW Unit) := [("seneschal/sha.constants", Rows.laid_seneschal_sha_constants)]
theorem gFirst : Tryd.prog.globalNamed "seneschal/sha.first" = some 0 := by kernel_rfl
theorem gConst : Tryd.prog.globalNamed "seneschal/sha.constants" = some 2 := by kernel_rfl
theorem tFirst : (Tryd.prog.globals[0]?).map (·.type) = some 134 := by kernel_rfl
theorem tConst : (Tryd.prog.globals[2]?).map (·.type) = some 150 := by kernel_rfl
def numsD (l : List Nat) : DataW Unit := .agg (l.map fun (x : Nat) => .lit (.int .u32 (x : Int)))
theorem first_is : (Rows.laid_seneschal_sha_first : DataW Unit) = numsD h0.list := by rfl
theorem const_is : (Rows.laid_seneschal_sha_constants : DataW Unit) = numsD kTab := by rfl
/-- An array of numbers that reads as the list has those numbers in its cells. -/
theorem nums_of {W : World} {enc : TypeId × Value → Unit} {base : Nat} {sp : Nat → Bool} {held : Bool} {t : TypeId} {n f : Nat} {cs : List Value} {q : List MemPlace} (l : List Nat) (hl : l.length = n) (ht : Tryd.prog.underlying t = some (.array n 106)) (hd : DataW.trod enc Tryd.prog W base sp held f t cs = some (numsD l, q)) :
    ∀ j, j < n → cs[j]? = some (.int .u32 ((l.getD j 0 : Nat) : Int)) := by
  obtain ⟨xs, m1, rfl, hx1, hlen, hn3, hel⟩ := DataW.trod_array ht hd
  have c3 : Tryd.prog.cellsOf 106 = 1 := by kernel_rfl
  simp only [Prod.mk.injEq, numsD, DataW.agg.injEq] at hx1
  intro j hj
  have h0 := hel j hj
  rw [c3] at h0
  have hxj : xs[j]? = some xs[j] := List.getElem?_eq_getElem (by omega)
  rw [hxj] at h0
  obtain ⟨k, e1, e2, _⟩ := DataW.trod_int Tryd.underlying106 h0
  have e3 : (l.map fun (x : Nat) => (DataW.lit (.int .u32 (x : Int)) : DataW Unit))[j]? = (xs.map (·.1))[j]? := by rw [hx1.1]
  rw [List.getElem?_map, List.getElem?_map, hxj, List.getElem?_eq_getElem (show j < l.length by omega)] at e3
  simp [e2] at e3
  have h4 : (cs.drop (j * 1)).take 1 = [.int .u32 k] := e1
  have h5 : cs[j]? = some (.int .u32 k) := by
    have := congrArg (·[0]?) h4
    simpa [List.getElem?_take, List.getElem?_drop] using this
  rw [h5, ← e3]
  simp [List.getD_eq_getElem?_getD, List.getElem?_eq_getElem (show j < l.length by omega)]
theorem both_of_laid {W : World} (h : laidMetH Tryd.prog laidFK W) : LaidF W ∧ LaidK W := by
  rw [MakeChecks.laidMetH_plain _ _ _ (by kernel_rfl)] at h
  obtain ⟨ps, ⟨g0, t0, cs0, f0, p0, q0, hg0, ht0, hv0, hd0, ⟨g1, t1, cs1, f1, p1, q1, hg1, ht1, hv1, hd1, _, _⟩, _⟩, _, _⟩ := h
  obtain rfl := Option.some.inj (gFirst.symm.trans hg0)
  obtain rfl := Option.some.inj (gConst.symm.trans hg1)
  obtain rfl := Option.some.inj (tFirst.symm.trans ht0)
  obtain rfl := Option.some.inj (tConst.symm.trans ht1)
  rw [first_is] at hd0
  rw [const_is] at hd1
  have n0 := nums_of h0.list rfl Tryd.underlying134 hd0
  have n1 := nums_of kTab rfl Tryd.underlying150 hd1
  refine ⟨fun j hj => ?_, fun j hj => ?_⟩
  · rw [World.var?_cell hg0 hv0 j]; simpa using n0 j hj
  · rw [World.var?_cell hg1 hv1 j]; simpa using n1 j hj
theorem k_of_laid {W : World} (h : laidMetH Tryd.prog laidK1 W) : LaidK W := by
  rw [MakeChecks.laidMetH_plain _ _ _ (by kernel_rfl)] at h
  obtain ⟨ps, ⟨g1, t1, cs1, f1, p1, q1, hg1, ht1, hv1, hd1, _, _⟩, _, _⟩ := h
  obtain rfl := Option.some.inj (gConst.symm.trans hg1)
  obtain rfl := Option.some.inj (tConst.symm.trans ht1)
  rw [const_is] at hd1
  have n1 := nums_of kTab rfl Tryd.underlying150 hd1
  intro j hj
  rw [World.var?_cell hg1 hv1 j]; simpa using n1 j hj
/-- The door's own heap meets the condition. -/
theorem door_met (os : Os) (args : Array Value) : laidMetH Tryd.prog laidFK ((World.doorLaid Tryd.prog 400 os).forCall (fun _ _ => 0) ⟨#[], args, []⟩).memory :=
  laidMetH_of_parts3 (fuel := 8) (laidMet_of_run' 8 (by kernel_rfl) (by kernel_rfl)) (by kernel_rfl) (by kernel_rfl)
theorem door_metK (os : Os) (args : Array Value) : laidMetH Tryd.prog laidK1 ((World.doorLaid Tryd.prog 400 os).forCall (fun _ _ => 0) ⟨#[], args, []⟩).memory :=
  laidMetH_of_parts3 (fuel := 8) (laidMet_of_run' 8 (by kernel_rfl) (by kernel_rfl)) (by kernel_rfl) (by kernel_rfl)
end Go.Proofs.YtlknjaoamkcmjaaDoor
