/- The document's own answers for frame: Seal, Next. -/
import Derived.Test.YtcihbkdpkhhhcaaDoorFZ
import Derived.Test.YtcihbkdpkhhhcaaDoorR3
import Derived.Test.YtcihbkdpkhhhcaaDoorRBytes
namespace Go.Proofs.YtcihbkdpkhhhcaaDoor
open Go.ChangeShapes Go.WideShapes Go.ChangeAt Go.RowKit
set_option linter.unusedVariables false
open Plain Sha
set_option maxHeartbeats 2000000 in
theorem refseal_any {w : World} {B : Nat} {A : Option Addr} {n : Nat} (c : Nat) {zs : List Int} (hz : Bs w B A n zs) (hB : B ≤ w.heap.size) (hn : n ≤ 65536) :
    Calls Tryd.prog 10 #[.slice A n c] w (Made w (frameZ zs)) := by
  have gw : IntKind.u64.wrap (n : Int) = (n : Int) := by rw [IntKind.wrap_u64]; omega
  have C1 := Lib.hid (refput_any (n : Int) 4 (by omega) (by omega) (by omega) w)
  have HL := hz.len
  have E1 : Hid (putZ (n : Int) 4 ++ zs = aheadZ zs) := Lib.hid (by unfold aheadZ; rw [HL])
  have L1 : Hid ((aheadZ zs).length = 4 + n) := Lib.hid (by rw [aheadZ_len, HL])
  have B1 : Hid (IsBytes (aheadZ zs)) := Lib.hid (aheadZ_bytes hz.isBytes)
  obtain ⟨T, hT⟩ : ∃ T, shaZ (aheadZ zs) = T := ⟨_, rfl⟩
  have LT : Hid (T.length = 32) := Lib.hid (by rw [← hT]; exact shaZ_len _)
  have BT : Hid (IsBytes T) := Lib.hid (by rw [← hT]; exact shaZ_bytesF _)
  have ES : Hid (aheadZ zs ++ T.take 8 = frameZ zs) := Lib.hid (by unfold frameZ sealZ; rw [hT])
  have LS : Hid ((frameZ zs).length = n + 12) := Lib.hid (by rw [frameZ_len, HL])
  have HT := Lib.hid hT
  have HZ := Lib.hid hz
  clear hz HL hT
  go_enter Tryd.func10, Tryd.ntmps10
  go_wp2_with fail
  refine C1.out.mono ?_
  intro e w1 hm1
  obtain ⟨P1, p1, rfl, ho1, b1, _, _⟩ := hm1.n (putZ_len _ _)
  have z1 := Made.bs ho1 (putZ_bytes _ _)
  have q1 := Lib.hid b1
  have C2 := Lib.hid (refcat_any (w := w1) p1 c z1 (HZ.out.belowM b1 hB) (Nat.le_refl _) (Nat.le_trans hB b1.size) (by omega))
  rw [E1.out] at C2
  clear hm1 ho1 b1 z1 C1
  go_wp2_with fail
  refine C2.out.mono ?_
  intro e w2 hm2
  obtain ⟨P2, p2, rfl, ho2, b2, hp2, _⟩ := hm2.n L1.out
  have q2 := Lib.hid (q1.out.trans (b2.mono q1.out.size))
  have z2 := Lib.hid (Made.bs ho2 B1.out)
  clear hm2 ho2 b2 C2 q1
  go_wp2_with fail
  refine (refsum_any p2 z2.out (Nat.le_refl _) (by omega)).mono ?_
  rw [HT.out]
  rintro e w3 ⟨rfl, b3⟩
  have q3 := Lib.hid (q2.out.trans (b3.mono q2.out.size))
  have z3 := Lib.hid (z2.out.belowM b3 (Nat.le_refl _))
  have s3 := b3.size
  clear b3 z2 q2
  go_wp2_with fail
  refine (refbytes_any T LT.out BT.out w3).mono ?_
  intro e w4 hm4
  obtain ⟨P4, p4, rfl, ho4, b4, hp4, hp4'⟩ := hm4.n LT.out
  have q4 := Lib.hid (q3.out.trans (b4.mono q3.out.size))
  have z4 := Lib.hid (z3.out.belowM b4 s3)
  have s4 := b4.size
  have y4 := Made.bs ho4 BT.out
  have y8 : Bs w4 w4.heap.size P4 8 (T.take 8) := by
    have := y4.cut (k := 0) (m := 8) (by omega) P4 (fun b off e _ => by rw [e]; rfl)
    rwa [List.drop_zero] at this
  have i8 := cut_h P4 32 p4 8 8 rfl (by omega)
  have C5 := Lib.hid (refcat_any (w := w4) p2 p4 z4.out y8 (by omega) (Nat.le_refl _) (by omega))
  rw [ES.out] at C5
  clear hm4 ho4 b4 y4 y8 z3 q3
  go_wp2_with fail
  refine C5.out.mono ?_
  intro e w5 hm5
  obtain ⟨P5, p5, rfl, ho5, b5, h5, h5'⟩ := hm5.n LS.out
  have q5 := Lib.hid (q4.out.trans (b5.mono q4.out.size))
  have O5 := Lib.hid (own_base ho5 q4.out.size)
  clear hm5 ho5 b5 C5 i8
  go_wp2
  go_ret
  exact made_of LS.out O5.out q5.out
theorem putZ_numZ : ∀ (n : Nat) (p : List Int), p.length = n → IsBytes p → putZ (numZ p) n = p
  | 0, p, hl, _ => by
    have : p = [] := List.eq_nil_of_length_eq_zero hl
    subst this; rfl
  | n + 1, p, hl, hb => by
    obtain ⟨q, z, rfl⟩ : ∃ q z, p = q ++ [z] := by
      rcases List.eq_nil_or_concat p with rfl | ⟨q, z, rfl⟩
      · simp at hl
      · exact ⟨q, z, by simp⟩
    have hq : q.length = n := by simpa using hl
    have hbq : IsBytes q := by rw [isBytes_iff] at *; exact fun y hy => hb y (List.mem_append_left _ hy)
    have hz := (isBytes_iff.1 hb) z (by simp)
    have hnn := (numZ_range q (isBytes_iff.1 hbq)).1
    rw [numZ_snoc, putZ_succ _ _ (by omega), show (numZ q * 256 + z) / 256 = numZ q by omega, show (numZ q * 256 + z) % 256 = z by omega, putZ_numZ n q hq hbq]
theorem ref_same {bs : List Int} (hb : IsBytes bs) (h4 : 4 ≤ bs.length) (hl : lenZ bs + 12 ≤ bs.length) :
    eqB (frameZ ((bs.drop 4).take (lenZ bs))) (bs.take (lenZ bs + 12)) = eqB ((bs.drop (4 + lenZ bs)).take 8) (sealZ (bs.take (4 + lenZ bs))) := by
  obtain ⟨m, hm⟩ : ∃ m, lenZ bs = m := ⟨_, rfl⟩
  rw [hm] at hl ⊢
  have lp : ((bs.drop 4).take m).length = m := by rw [List.length_take, List.length_drop]; omega
  have hnn := (numZ_range (bs.take 4) (isBytes_iff.1 (hb.take 4))).1
  have e1 : aheadZ ((bs.drop 4).take m) = bs.take (4 + m) := by
    unfold aheadZ
    rw [lp, List.take_add]
    congr 1
    have : ((m : Nat) : Int) = numZ (bs.take 4) := by rw [← hm]; unfold lenZ; omega
    rw [this, putZ_numZ 4 _ (by rw [List.length_take]; omega) (hb.take 4)]
  have e2 : bs.take (m + 12) = bs.take (4 + m) ++ (bs.drop (4 + m)).take 8 := by rw [show m + 12 = 4 + m + 8 by omega, List.take_add]
  unfold frameZ
  rw [e1, e2]
  unfold eqB
  congr 1
  apply propext
  constructor
  · intro h; exact (List.append_cancel_left h).symm
  · intro h; rw [h]
theorem cut_lhU (A : Option Addr) (n c lo hi : Nat) (l h : Int) (hl : l = lo) (hh : h = hi) (h1 : lo ≤ hi) (h2 : hi ≤ c) :
    ∃ A', (∀ W, (Instr.slice 22 (.slice A n c) (some (.int .i64 l)) (some (.int .u64 h)) none).run Tryd.prog W = .ok (.slice A' (hi - lo) (c - lo)) W) ∧ CutAt A A' lo (hi - lo) := by
  subst hl hh
  refine ⟨_, fun W => ?_, cutAt_if A c lo (hi - lo) (by omega)⟩
  have he : Tryd.prog.elem 22 = 5 := by simp [Program.elem, Tryd.underlying22]
  rw [run_slice_lh W 22 A n c (by rw [he]; exact Tryd.underlying22) .i64 .u64 _ _ (by omega) (by omega) (by omega), he, sizeOf_u8']
  simp [Result.andThen, sliced]
set_option maxRecDepth 100000 in
set_option maxHeartbeats 2000000 in
theorem refnext_any {w : World} {B : Nat} {A : Option Addr} {n : Nat} (c : Nat) {bs : List Int} (hz : Bs w B A n bs) (hB : B ≤ w.heap.size) (hn : n ≤ 1000000) (hc : n ≤ c) :
    Calls Tryd.prog 14 #[.slice A n c] w (NextSays w bs) := by
  have HL := Lib.hid hz.len
  have C1 : Hid (Calls Tryd.prog 31 #[.slice A n c, .int .i64 0, .int .i64 4] w (Quiet (.tuple #[.int .u64 (loadZ bs 0 4), .bool (loadOk n 0 4)]) w)) := Lib.hid (refload_any c hz (by unfold maxLen; omega) 0 (by omega) 4 (by omega))
  have HNone : Hid (firstZ bs = none → ∀ w', Below w.heap.size w w' → NextSays w bs (.returned (.tuple #[.slice none 0 0, .int .i64 0, .int .i64 50])) w') := Lib.hid (fun h w' hb => ⟨hb, by rw [h]⟩)
  by_cases h4 : n < 4
  · have e1 : loadOk n 0 4 = false := loadOk_no _ _ _ (.inr (by omega))
    have HR : Hid (firstZ bs = none) := Lib.hid (first_short (by rw [HL.out]; omega))
    rw [e1] at C1
    generalize loadZ bs 0 4 = u at C1
    clear hz e1
    go_enter Tryd.func14, Tryd.ntmps14
    go_wp2_with fail
    refine C1.out.mono ?_
    rintro e w1 ⟨rfl, m, rfl⟩
    go_wp2
    go_ret3
    exact HNone.out HR.out _ (below_drewN (Below.refl _ _) _)
  have e1 : loadOk n 0 4 = true := loadOk_yes _ 0 _ (by omega)
  have hr := numZ_piece_range bs 0 4 4 (by omega) hz.rng'
  rw [List.drop_zero] at hr
  obtain ⟨N, hN⟩ := Int.eq_ofNat_of_zero_le hr.1
  have hN4 : N < 4294967296 := by have := hr.2; rw [hN] at this; omega
  have e2 : loadZ bs 0 4 = (N : Int) := by
    have := loadZ_yes bs 0 4 (by rw [hz.len]; omega)
    rw [show ((0 : Nat) : Int) = 0 from rfl, List.drop_zero] at this
    rw [this, hN]
  have HN : Hid (lenZ bs = N) := Lib.hid (by unfold lenZ; rw [hN]; rfl)
  rw [e1, e2] at C1
  clear e1 e2 hr hN
  by_cases hbig : 65536 < N
  · have HR : Hid (firstZ bs = none) := Lib.hid (firstZ_no (fun h => by have := h.2.1; rw [HN.out] at this; omega))
    have hbigI : 65536 < (N : Int) := by omega
    clear hz
    go_enter Tryd.func14, Tryd.ntmps14
    go_wp2_with fail
    refine C1.out.mono ?_
    rintro e w1 ⟨rfl, m, rfl⟩
    go_wp2
    go_ret3
    exact HNone.out HR.out _ (below_drewN (Below.refl _ _) _)
  have hbigI : ¬ 65536 < (N : Int) := by omega
  have g0 : IntKind.i64.wrap (N : Int) = (N : Int) := by rw [IntKind.wrap_i64]; omega
  have g1 : IntKind.i64.wrap ((N : Int) + 12) = (N : Int) + 12 := by rw [IntKind.wrap_i64]; omega
  by_cases hsh : n < N + 12
  · have HR : Hid (firstZ bs = none) := Lib.hid (firstZ_no (fun h => by have := h.2.2.1; rw [HN.out, HL.out] at this; omega))
    have hshI : (n : Int) < (N : Int) + 12 := by omega
    clear hz
    go_enter Tryd.func14, Tryd.ntmps14
    go_wp2_with fail
    refine C1.out.mono ?_
    rintro e w1 ⟨rfl, m, rfl⟩
    go_wp2
    go_ret3
    exact HNone.out HR.out _ (below_drewN (Below.refl _ _) _)
  have hshI : ¬ (n : Int) < (N : Int) + 12 := by omega
  have g2 : IntKind.u64.wrap (4 + (N : Int)) = 4 + (N : Int) := by rw [IntKind.wrap_u64]; omega
  have g3 : IntKind.u64.wrap ((N : Int) + 12) = (N : Int) + 12 := by rw [IntKind.wrap_u64]; omega
  obtain ⟨A1, hs1, hcut1⟩ := cut_lhU A n c 4 (4 + N) 4 (4 + (N : Int)) rfl (by omega) (by omega) (by omega)
  rw [Nat.add_sub_cancel_left] at hs1 hcut1
  have z1 : Hid (Bs w B A1 N ((bs.drop 4).take N)) := Lib.hid (hz.cut (by omega) A1 hcut1)
  have z2 : Hid (Bs w B A (N + 12) (bs.take (N + 12))) := Lib.hid (by
    have := hz.cut (k := 0) (m := N + 12) (by omega) A (fun b off e _ => by rw [e]; rfl)
    rwa [List.drop_zero] at this)
  obtain ⟨P, hP⟩ : ∃ P, (bs.drop 4).take N = P := ⟨_, rfl⟩
  have LP : Hid (P.length = N) := Lib.hid (by rw [← hP, List.length_take, List.length_drop, HL.out]; omega)
  have BP : Hid (IsBytes P) := Lib.hid (by rw [← hP]; exact (hz.isBytes.drop 4).take N)
  have LF : Hid ((frameZ P).length = N + 12) := Lib.hid (by rw [frameZ_len, LP.out])
  have BF : Hid (IsBytes (frameZ P)) := Lib.hid (frameZ_bytes BP.out)
  obtain ⟨q, hq⟩ : ∃ q, eqB (frameZ P) (bs.take (N + 12)) = q := ⟨_, rfl⟩
  have hq2 : eqB ((bs.drop (4 + N)).take 8) (sealZ (bs.take (4 + N))) = q := by
    have := ref_same hz.isBytes (by rw [HL.out]; omega) (by rw [HN.out, HL.out]; omega)
    rw [HN.out, hP, hq] at this
    exact this.symm
  have HY : Hid (q = true → firstZ bs = some N) := Lib.hid (fun h => by
    rw [firstZ_yes ⟨by rw [HL.out]; omega, by rw [HN.out]; omega, by rw [HN.out, HL.out]; omega, by rw [HN.out, hq2]; exact h⟩, HN.out])
  have HNo : Hid (q = false → firstZ bs = none) := Lib.hid (fun h => firstZ_no (fun hf => by have := hf.2.2.2; rw [HN.out, hq2, h] at this; cases this))
  rw [hP] at z1
  have HP := Lib.hid hP
  have HQ := Lib.hid hq
  have hM : Hid (N + 12 ≤ maxLen) := Lib.hid (by unfold maxLen; omega)
  have i1 : (0 : Int) ≤ (N : Int) + 12 := by omega
  have i2 : (N : Int) + 12 ≤ (c : Int) := by omega
  have i3 : ((N : Int) + 12).toNat = N + 12 := by omega
  clear hz hcut1 hP hq hq2 hsh
  go_enter Tryd.func14, Tryd.ntmps14
  go_wp2_with fail
  refine C1.out.mono ?_
  rintro e w1 ⟨rfl, m, rfl⟩
  have C2 := Lib.hid (refcopy_any (c - 4) (z1.out.drewN m) hB (by omega))
  go_wp2_with fail
  refine C2.out.mono ?_
  intro e w2 hm2
  obtain ⟨D, d, rfl, o2, b2, h2, h2'⟩ := hm2.n LP.out
  have q2 : Hid (Below w.heap.size w w2) := Lib.hid ((below_drewN (Below.refl w.heap.size w) m).trans b2)
  have O2 : Hid (w2.ownsRow w.heap.size 5 1 (.slice D N d) N (vals P)) := Lib.hid o2
  have y2 : Hid (Bs w2 w2.heap.size D N P) := Lib.hid (bs_of_own o2 BP.out)
  have x2 : Hid (Bs w2 B A (N + 12) (bs.take (N + 12))) := Lib.hid (z2.out.belowM q2.out hB)
  have C3 : Hid (Calls Tryd.prog 10 #[.slice D N d] w2.drew (Made w2.drew (frameZ P))) := Lib.hid (refseal_any d y2.out.drew (Nat.le_refl _) (by omega))
  clear hm2 o2 b2 C2 z1 z2 C1
  go_wp2
  go_region_held3 (fun _ => True) (exact trivial) ((first
    | (go_at_call 10; refine C3.out.mono ?_; intro e w3 hm3; obtain ⟨E, ec, rfl, o3, b3, _, _⟩ := hm3.n LF.out; have z3 : Bs w3 w3.heap.size E (N + 12) (frameZ P) := bs_of_own o3 BF.out; have x3 : Bs w3 B A (N + 12) (bs.take (N + 12)) := x2.out.drew.belowM b3 (Nat.le_trans hB q2.out.size); have q3 : Below w.heap.size w w3 := q2.out.drew.trans (b3.mono q2.out.size); have O3 : w3.ownsRow w.heap.size 5 1 (.slice D N d) N (vals P) := own_below O2.out.drew b3 (Nat.le_refl _))
    | (go_at_call 12; refine (refsame_any ec c z3 x3 hM.out hM.out).mono ?_; rw [HQ.out]; rintro e w6 ⟨rfl, m6, rfl⟩)))
  have BW := Lib.hid (below_drewN q3 m6)
  have OW : Hid ((w3.drewN m6).ownsRow w.heap.size 5 1 (.slice D N d) N (vals P)) := Lib.hid O3
  clear z3 x3 q3 O3 C3 o3 b3 hm3
  cases q with
  | true =>
    go_wp2
    go_ret3
    refine ⟨BW.out, ?_⟩
    have hh : firstZ bs = some N := by first | exact HY.out rfl | exact HY.out trivial
    rw [hh]
    exact ⟨D, d, rfl, by rw [HP.out]; exact OW.out, h2, h2'⟩
  | false =>
    go_wp2
    go_ret3
    have hh : firstZ bs = none := by first | exact HNo.out rfl | exact HNo.out trivial
    exact HNone.out hh _ BW.out
end Go.Proofs.YtcihbkdpkhhhcaaDoor
