/- A block's rounds, as the program makes them. -/
import Derived.Test.YtcihbkdpkhhhcaaDoorSpread
namespace Go.Proofs.YtcihbkdpkhhhcaaDoor
open Go.ChangeShapes Go.WideShapes Go.ChangeAt Go.RowKit
set_option linter.unusedVariables false
open Plain Sha
/-- The table of the constants lies in its variable. -/
def LaidK (w : World) : Prop := ∀ j, j < 64 → w.cell? ⟨1, j, none⟩ = some (.int .u32 ((kTab.getD j 0 : Nat) : Int))
theorem LaidK.lt {w : World} (h : LaidK w) : 1 < w.heap.size := World.block_lt_of_cell? _ _ (h 0 (by omega))
theorem LaidK.below {w w' : World} {B : Nat} (h : LaidK w) (hb : Below B w w') (hB : 1 < B) : LaidK w' := fun j hj => (hb.cell (p := ⟨1, j, none⟩) hB).trans (h j hj)
theorem bs1_bits (x : Nat) (h : x < 4294967296) : bits .xor .u32 (bits .xor .u32 (rotN x 6 : Nat) (rotN x 11 : Nat)) (rotN x 25 : Nat) = ((bs1 x : Nat) : Int) := by
  rw [u32_xor_nat _ _ (rot_lt h (by omega)) (rot_lt h (by omega)), u32_xor_nat _ _ (xor_lt (rot_lt h (by omega)) (rot_lt h (by omega))) (rot_lt h (by omega))]
  rfl
theorem bs0_bits (x : Nat) (h : x < 4294967296) : bits .xor .u32 (bits .xor .u32 (rotN x 2 : Nat) (rotN x 13 : Nat)) (rotN x 22 : Nat) = ((bs0 x : Nat) : Int) := by
  rw [u32_xor_nat _ _ (rot_lt h (by omega)) (rot_lt h (by omega)), u32_xor_nat _ _ (xor_lt (rot_lt h (by omega)) (rot_lt h (by omega))) (rot_lt h (by omega))]
  rfl
theorem mj_bits (a b c : Nat) (ha : a < 4294967296) (hb : b < 4294967296) (hc : c < 4294967296) :
    bits .or .u32 (bits .or .u32 (bits .and .u32 (a : Int) (b : Int)) (bits .and .u32 (a : Int) (c : Int))) (bits .and .u32 (b : Int) (c : Int)) = ((mj a b c : Nat) : Int) := by
  rw [u32_and_nat _ _ ha hb, u32_and_nat _ _ ha hc, u32_and_nat _ _ hb hc, u32_or_nat _ _ (and_lt hb) (and_lt hc), u32_or_nat _ _ (or_lt (and_lt hb) (and_lt hc)) (and_lt hc)]
  rfl
theorem xor_ones (e : Nat) (h : e < 4294967296) : 4294967295 ^^^ e = 4294967295 - e := by
  apply Nat.eq_of_testBit_eq
  intro i
  have e1 : 4294967295 - e = 2 ^ 32 - (e + 1) := by omega
  rw [Nat.testBit_xor, e1, Nat.testBit_two_pow_sub_succ (n := 32) h, show (4294967295 : Nat) = 2 ^ 32 - 1 from rfl, Nat.testBit_two_pow_sub_one]
  by_cases hi : i < 32
  · simp [hi]
  · have : e.testBit i = false := Nat.testBit_lt_two_pow (Nat.lt_of_lt_of_le h (Nat.pow_le_pow_right (by omega : 2 > 0) (by omega : 32 ≤ i)))
    simp [hi, this]
theorem ch_bits (e f g : Nat) (he : e < 4294967296) (hf : f < 4294967296) (hg : g < 4294967296) :
    bits .or .u32 (bits .and .u32 (e : Int) (f : Int)) (bits .and .u32 (bits .xor .u32 IntKind.u32.max (e : Int)) (g : Int)) = ((ch e f g : Nat) : Int) := by
  have e1 : bits .xor .u32 IntKind.u32.max (e : Int) = ((4294967295 - e : Nat) : Int) := by
    have := u32_xor_nat 4294967295 e (by omega) he
    rw [xor_ones e he] at this
    exact this
  rw [e1, u32_and_nat _ _ he hf, u32_and_nat _ _ (by omega) hg, u32_or_nat _ _ (and_lt hf) (and_lt hg)]
  rfl
set_option maxHeartbeats 2000000 in
set_option maxRecDepth 100000 in
theorem block_any (v : H8) (hv : v.ok) (ws : List Nat) (hl : ws.length = 16) (hw : AllW ws) (w : World) (hK : LaidK w) :
    Calls Tryd.prog 49 #[.agg (u32s v.list).toArray, .agg (u32s ws).toArray] w fun e w' => e = .returned (.agg (u32s (blk v ws).list).toArray) ∧ Below w.heap.size w w' := by
  have HL := Lib.hid hl
  have HV := Lib.hid hv
  have r0 : Row32 (((w.alloc (.cells (u32s v.list).toArray 73)).alloc (.cells (u32s ws).toArray 83)).alloc (.cells (u32s (List.replicate 8 0)).toArray 73)) w.heap.size v.list :=
    ((Row32.new w v.list 73).alloc (by simp [H8.list]) _).alloc (by simp [H8.list]) _
  have r1 : Row32 (((w.alloc (.cells (u32s v.list).toArray 73)).alloc (.cells (u32s ws).toArray 83)).alloc (.cells (u32s (List.replicate 8 0)).toArray 73)) (w.heap.size + 1) ws := by
    have := (Row32.new (w.alloc (.cells (u32s v.list).toArray 73)) ws 83).alloc (by omega) (.cells (u32s (List.replicate 8 0)).toArray 73)
    simpa using this
  have r2 : Row32 (((w.alloc (.cells (u32s v.list).toArray 73)).alloc (.cells (u32s ws).toArray 83)).alloc (.cells (u32s (List.replicate 8 0)).toArray 73)) (w.heap.size + 1 + 1) (List.replicate 8 0) := by
    have := Row32.new ((w.alloc (.cells (u32s v.list).toArray 73)).alloc (.cells (u32s ws).toArray 83)) (List.replicate 8 0) 73
    simpa using this
  have hb : Below w.heap.size w (((w.alloc (.cells (u32s v.list).toArray 73)).alloc (.cells (u32s ws).toArray 83)).alloc (.cells (u32s (List.replicate 8 0)).toArray 73)) :=
    (((Below.refl _ _).alloc (Nat.le_refl _) _).alloc (by simp) _).alloc (by simp; omega) _
  have HI16 : Hid ((Tryd.prog.info? 83).map (·.size) = some (u32s ws).length) := Lib.hid (by rw [u32s_len, hl]; kernel_rfl)
  have hkl := hK.lt
  have HK := Lib.hid hK
  have R0 := Lib.hid r0
  have R1 := Lib.hid r1
  have R2 := Lib.hid r2
  have HB := Lib.hid hb
  clear hl hv r0 r1 r2 hb hK
  go_enter Tryd.func49, Tryd.ntmps49
  have HI64 : Hid ((Tryd.prog.info? 87).map (·.size) = some (u32s (schedTo ws 48)).toArray.size) := Lib.hid (by rw [List.size_toArray, u32s_len, schedTo_len ws HL.out]; kernel_rfl)
  go_wp2_with (refine wpList_load_mid (op := ⟨some 21, _, _, _, _, _⟩) rfl 83 (.tmp 3) rfl (w.heap.size + 1) 0 rfl (u32s ws) _ R1.out.range Tryd.underlying83 rfl HI16.out ?_)
  refine (spread_any ws HL.out hw _).mono ?_
  rintro e w2 ⟨rfl, hb2⟩
  have q0 := R0.out.below hb2 (by simp; omega)
  have q2 := R2.out.below hb2 (by simp)
  have hb3 : Below w.heap.size w w2 := HB.out.trans (hb2.mono (by simp; omega))
  have z64 := zero64 w2 87
  have T64 : Hid ((w2.alloc (.cells (u32s (List.replicate 64 0)).toArray 87)).there w2.heap.size 0 (u32s (schedTo ws 48)).toArray.size) := Lib.hid (z64.thereFor (by rw [schedTo_len ws HL.out]; simp))
  have Q0 := Lib.hid q0
  have Q2 := Lib.hid q2
  have hs2 : w.heap.size + 1 + 1 < w2.heap.size := q2.lt (by simp)
  clear R0 R1 R2 HB hb2 q0 q2 z64 HI16
  go_wp2_with (refine wpList_store_as (op := ⟨none, .store 87 (.tmp 5) (.tmp 22), _, _, _, _⟩) rfl 87 (.tmp 5) (.tmp 22) rfl w2.heap.size 0 (u32s (schedTo ws 48)).toArray rfl rfl T64.out HI64.out (u32s_all _) ?_; intro w3 hw3)
  have p0 : Row32 w3 w.heap.size v.list := by rw [hw3.out]; exact (Q0.out.alloc (by simp [H8.list]) _).storeOther _ _ _ (by omega)
  have p2 : Row32 w3 (w.heap.size + 1 + 1) (List.replicate 8 0) := by rw [hw3.out]; exact (Q2.out.alloc (by simp) _).storeOther _ _ _ (by omega)
  have pA : Row32 w3 w2.heap.size (schedTo ws 48) := by rw [hw3.out]; exact (zero64 w2 87).store (by rw [schedTo_len ws HL.out]; simp)
  have pb : Below w.heap.size w w3 := by rw [hw3.out]; exact below_setCells (by omega) _ _ _ (hb3.alloc (by omega) _)
  have PK := Lib.hid (HK.out.below pb hkl)
  have P0 := Lib.hid p0
  have P2 := Lib.hid p2
  have PA := Lib.hid pA
  clear hw3 p0 p2 pA hb3 T64 HI64 Q0 Q2
  generalize w2.heap.size = bA at *
  have c0 := P0.out.cells 0 (by simp [H8.list])
  have c1 := P0.out.cells 1 (by simp [H8.list])
  have c2 := P0.out.cells 2 (by simp [H8.list])
  have c3 := P0.out.cells 3 (by simp [H8.list])
  have c4 := P0.out.cells 4 (by simp [H8.list])
  have c5 := P0.out.cells 5 (by simp [H8.list])
  have c6 := P0.out.cells 6 (by simp [H8.list])
  have c7 := P0.out.cells 7 (by simp [H8.list])
  simp only [H8.list, List.getD_cons_zero, List.getD_cons_succ] at c0 c1 c2 c3 c4 c5 c6 c7
  go_quiet (fail)
  go_wp2
  clear c0 c1 c2 c3 c4 c5 c6 c7
  go_loopw [6, 7, 8, 9, 10, 11, 12, 13, 39] (fun a b c d e f g h i wr => ∃ t m : Nat, t ≤ 64 ∧ i = .int .i64 t ∧ wr = w3.drewN m ∧ ∃ sa sb sc sd se sf sg sh : Nat, Hid ((⟨sa, sb, sc, sd, se, sf, sg, sh⟩ : H8) = rnds ws v t) ∧ a = .int .u32 (sa : Int) ∧ b = .int .u32 (sb : Int) ∧ c = .int .u32 (sc : Int) ∧ d = .int .u32 (sd : Int) ∧ e = .int .u32 (se : Int) ∧ f = .int .u32 (sf : Int) ∧ g = .int .u32 (sg : Int) ∧ h = .int .u32 (sh : Int)) (fun _ _ _ _ _ _ _ _ i _ => 64 - (intOf i).toNat)
  case atStart => exact ⟨0, _, by omega, rfl, rfl, v.a, v.b, v.c, v.d, v.e, v.f, v.g, v.h, Lib.hid rfl, rfl, rfl, rfl, rfl, rfl, rfl, rfl, rfl⟩
  case round =>
    obtain ⟨t, m, ht, rfl, rfl, sa, sb, sc, sd, se, sf, sg, sh, HS, rfl, rfl, rfl, rfl, rfl, rfl, rfl, rfl⟩ := hrel
    have ok := rnds_ok ws HV.out t
    rw [← HS.out] at ok
    obtain ⟨oa, ob, oc, od, oe, of_, og, oh⟩ := ok
    simp only at oa ob oc od oe of_ og oh
    by_cases hlt : t < 64
    · have ck := PK.out t hlt
      obtain ⟨wt, HWT, bw, ca⟩ : ∃ x : Nat, Hid (x = wAt ws t) ∧ x < 4294967296 ∧ w3.cell? ⟨bA, t, none⟩ = some (.int .u32 (x : Int)) :=
        ⟨_, Lib.hid rfl, wAt_lt ws HL.out hw t, by rw [← sched_at ws HL.out 48 t (by omega)]; exact PA.out.cells t (by rw [schedTo_len ws HL.out]; omega)⟩
      have bk := kTab_lt t
      obtain ⟨kt, hkt⟩ : ∃ k, kTab.getD t 0 = k := ⟨_, rfl⟩
      rw [hkt] at ck bk
      have HKT := Lib.hid hkt
      have s1 := bs1_bits se oe
      have s0 := bs0_bits sa oa
      have s2 := mj_bits sa sb sc oa ob oc
      have s3 := ch_bits se sf sg oe of_ og
      clear hkt
      go_wp2_with (go_at_call 53; refine (rotrN_any _ (by omega) _ (by omega) (by omega) _).mono ?_; rintro e w' ⟨rfl, m, rfl⟩)
      obtain ⟨T1, hT1⟩ : ∃ T, (sh + bs1 se + ch se sf sg + kt + wt) % 4294967296 = T := ⟨_, rfl⟩
      have HN : Hid ((⟨(T1 + bs0 sa + mj sa sb sc) % 4294967296, sa, sb, sc, (sd + T1) % 4294967296, se, sf, sg⟩ : H8) = rnds ws v (t + 1)) := Lib.hid (by
        show _ = rnd (rnds ws v t) (kTab.getD t 0) (wAt ws t)
        rw [← HS.out, ← HWT.out, HKT.out, ← hT1]; rfl)
      have HA1 : Hid ((((sh : Int) + (bs1 se : Nat) + (ch se sf sg : Nat) + kt + wt) % 4294967296 + (((bs0 sa : Nat) : Int) + (mj sa sb sc : Nat)) % 4294967296) % 4294967296 = (((T1 + bs0 sa + mj sa sb sc) % 4294967296 : Nat) : Int)) := Lib.hid (by rw [← hT1]; omega)
      have HA2 : Hid (((sd : Int) + ((sh : Int) + (bs1 se : Nat) + (ch se sf sg : Nat) + kt + wt) % 4294967296) % 4294967296 = (((sd + T1) % 4294967296 : Nat) : Int)) := Lib.hid (by rw [← hT1]; omega)
      clear hT1
      clear s1 s0 s2 s3
      go_quiet (fail)
      go_wp2
      go_roundw
      case rel => exact ⟨t + 1, _, by omega, by go_num, rfl, _, _, _, _, _, _, _, _, HN.out, by rw [HA1.out], rfl, rfl, rfl, by rw [HA2.out], rfl, rfl, rfl⟩
      case measure => simp [intOf]; omega
    · have htt : t = 64 := by omega
      have c0 := P0.out.cells 0 (by simp [H8.list])
      have c1 := P0.out.cells 1 (by simp [H8.list])
      have c2 := P0.out.cells 2 (by simp [H8.list])
      have c3 := P0.out.cells 3 (by simp [H8.list])
      have c4 := P0.out.cells 4 (by simp [H8.list])
      have c5 := P0.out.cells 5 (by simp [H8.list])
      have c6 := P0.out.cells 6 (by simp [H8.list])
      have c7 := P0.out.cells 7 (by simp [H8.list])
      simp only [H8.list, List.getD_cons_zero, List.getD_cons_succ] at c0 c1 c2 c3 c4 c5 c6 c7
      have HF : Hid (blk v ws = addV v ⟨sa, sb, sc, sd, se, sf, sg, sh⟩) := Lib.hid (by unfold blk; rw [HS.out, htt])
      have HE : Hid (Value.agg #[.int .u32 (((v.a : Int) + sa) % 4294967296), .int .u32 (((v.b : Int) + sb) % 4294967296), .int .u32 (((v.c : Int) + sc) % 4294967296), .int .u32 (((v.d : Int) + sd) % 4294967296), .int .u32 (((v.e : Int) + se) % 4294967296), .int .u32 (((v.f : Int) + sf) % 4294967296), .int .u32 (((v.g : Int) + sg) % 4294967296), .int .u32 (((v.h : Int) + sh) % 4294967296)] = .agg (u32s (blk v ws).list).toArray) := Lib.hid (by
        rw [HF.out]; simp [u32s, addV, H8.list])
      have HI8 : Hid ((Tryd.prog.info? 73).map (·.size) = some (u32s (blk v ws).list).toArray.size) := Lib.hid (by rw [List.size_toArray, u32s_len]; simp only [H8.list, List.length_cons, List.length_nil]; kernel_rfl)
      have T8 : Hid (w3.there (w.heap.size + 1 + 1) 0 (u32s (blk v ws).list).toArray.size) := Lib.hid (P2.out.thereFor (by simp [H8.list]))
      clear htt HF HS HV
      go_wp2_with (refine wpList_store_as (op := ⟨none, .store 73 (.tmp 4) (.tmp 138), _, _, _, _⟩) rfl 73 (.tmp 4) (.tmp 138) rfl (w.heap.size + 1 + 1) 0 (u32s (blk v ws).list).toArray rfl HE.out T8.out HI8.out (u32s_all _) ?_; intro w4 hw4)
      have R5 : Row32 w4 (w.heap.size + 1 + 1) (blk v ws).list := by rw [hw4.out]; exact (P2.out.drewN _).store (by simp [H8.list])
      have B5 : Below w.heap.size w w4 := by rw [hw4.out]; exact below_setCells (by omega) _ _ _ (below_drewN pb _)
      exact bodyPost_ret (v := .agg (u32s (blk v ws).list).toArray) (results_mid (p := 4) (ty := 73) rfl _ _ (w.heap.size + 1 + 1) 0 (u32s (blk v ws).list) _ rfl R5.range Tryd.underlying73 rfl HI8.out) rfl ⟨rfl, B5⟩
end Go.Proofs.YtcihbkdpkhhhcaaDoor
