/- The document's own answer for sha: the tag of bytes. -/
import Derived.Test.YtcihbkdpkhhhcaaDoorR2
import Derived.Test.YtcihbkdpkhhhcaaDoorCuts
import Derived.Test.YtcihbkdpkhhhcaaDoorTagEq
import Derived.Test.YtcihbkdpkhhhcaaDoorTag
import Derived.Deep.Cut
namespace Go.Proofs.YtcihbkdpkhhhcaaDoor
open Go.ChangeShapes Go.WideShapes Go.ChangeAt Go.RowKit
set_option linter.unusedVariables false
open Plain Sha
theorem grown_set {W V : World} {nb : Nat} (h : W.grownBy V (some nb)) (k : Nat) (v : Value) : W.grownBy (V.setCell ⟨nb, k, none⟩ v) (some nb) := grown_setCells [v] k V h
theorem grown_drewN {W V : World} {nb : Nat} (h : W.grownBy V (some nb)) (m : Nat) : W.grownBy (V.drewN m) (some nb) := ⟨h.os, h.tape, h.output, h.size, h.block⟩
theorem grown_drew {W V : World} {nb : Nat} (h : W.grownBy V (some nb)) : W.grownBy V.drew (some nb) := ⟨h.os, h.tape, h.output, h.size, h.block⟩
theorem grown_below {W V U : World} {nb : Nat} (h : W.grownBy V (some nb)) (hb : Below V.heap.size V U) : W.grownBy U (some nb) :=
  ⟨hb.os.trans h.os, hb.tape.trans h.tape, hb.output.trans h.output, Nat.le_trans h.size hb.size, fun i hi hne => (hb.block i (Nat.lt_of_lt_of_le hi h.size)).trans (h.block i hi hne)⟩
theorem Bs.keepB {w w' : World} {B n : Nat} {A : Option Addr} {zs : List Int} (h : Bs w B A n zs) (hk : ∀ b off, A = some ⟨b, off, none⟩ → b < B → w'.heap[b]? = w.heap[b]?) : Bs w' B A n zs :=
  ⟨h.len, h.rng, fun hn => by
    obtain ⟨b, off, e, hb, hc⟩ := h.row hn
    exact ⟨b, off, e, hb, fun j hj => (World.cell?_of_block (a := ⟨b, off + j, none⟩) (hk b off e hb)).trans (hc j hj)⟩⟩
theorem row32_keep {w w' : World} {b : Nat} {l : List Nat} (h : Row32 w b l) (e : w'.heap[b]? = w.heap[b]?) : Row32 w' b l :=
  ⟨fun j hj => (World.cell?_of_block (a := ⟨b, j, none⟩) e).trans (h.cells j hj), fun j hj => (World.frozen?_of_block (a := ⟨b, j, none⟩) e).trans (h.free j hj)⟩
theorem row8_setR {w : World} {b : Nat} {l : List Int} (h : Row8 w b 0 l) (k : Nat) (x : Int) (hk : k < l.length) : Row8 (w.setCell ⟨b, k, none⟩ (.int .u8 x)) b 0 (l.set k x) := by
  have := h.splice k [x] (by simp; omega)
  have e : splice l k [x] = l.set k x := list_ext_getD (by rw [splice_len (by simp; omega), List.length_set]) (fun j hj => by
    rw [splice_at _ _ _ _ (by simp; omega), getD_set _ _ _ _ hk]
    by_cases e : k = j
    · subst e; rw [if_pos (by simp), if_pos rfl, Nat.sub_self]; rfl
    · rw [if_neg (by simp; omega), if_neg e])
  rw [e, Nat.zero_add] at this
  exact this
theorem row8_cellR {w : World} {b : Nat} {l : List Int} (h : Row8 w b 0 l) {k : Nat} (hk : k < l.length) {x : Int} (hx : l.getD k 0 = x) : w.cell? ⟨b, k, none⟩ = some (.int .u8 x) ∧ w.frozen? ⟨b, k, none⟩ = false := by
  have h1 := h.range k _ (vals_at l k hk)
  have h2 := h.there k hk
  rw [Nat.zero_add] at h1 h2
  rw [hx] at h1
  exact ⟨h1, h2.2⟩
theorem wordsAt_piece (ms : List Int) (q : Nat) : wordsAt ((ms.drop (64 * q)).take 64) 0 = wordsAt ms q := by
  unfold wordsAt
  apply List.map_congr_left
  intro t ht
  have ht : t < 16 := by simpa using ht
  congr 2
  rw [Nat.mul_zero, Nat.zero_add, List.drop_take, List.take_take, List.drop_drop]
  congr 1
  omega
theorem blk_list (v : H8) (sa sb sc sd se sf sg sh : Nat) : ((((((((v.list.set 0 ((v.a + sa) % 4294967296)).set 1 ((v.b + sb) % 4294967296)).set 2 ((v.c + sc) % 4294967296)).set 3 ((v.d + sd) % 4294967296)).set 4 ((v.e + se) % 4294967296)).set 5 ((v.f + sf) % 4294967296)).set 6 ((v.g + sg) % 4294967296)).set 7 ((v.h + sh) % 4294967296)) = (addV v ⟨sa, sb, sc, sd, se, sf, sg, sh⟩).list := by
  simp [H8.list, addV]
/-- What the state is ahead of block q. -/
def Ahead (W3 wr : World) (nb : Nat) (v : H8) : Prop := W3.grownBy wr (some nb) ∧ Row32 wr nb v.list
set_option maxRecDepth 100000 in
set_option maxHeartbeats 16000000 in
theorem refsum_any {w : World} {B : Nat} {A : Option Addr} {n : Nat} (c : Nat) {zs : List Int} (hz : Bs w B A n zs) (hB : B ≤ w.heap.size) (hn : n ≤ 100000) :
    Calls Tryd.prog 26 #[.slice A n c] w fun e w' => e = .returned (.agg (vals (shaZ zs)).toArray) ∧ Below w.heap.size w w' := by
  obtain ⟨ms, hms⟩ : ∃ ms, zs ++ padZ n = ms := ⟨_, rfl⟩
  obtain ⟨L, hL⟩ : ∃ L, ms.length = L := ⟨_, rfl⟩
  have hL64 : L % 64 = 0 := by rw [← hL, ← hms, List.length_append, hz.len, padZ_len]; omega
  have hLb : L ≤ 200000 := by rw [← hL, ← hms, List.length_append, hz.len, padZ_len]; omega
  obtain ⟨Q, hQ⟩ : ∃ Q, L / 64 = Q := ⟨_, rfl⟩
  have hLQ : L = 64 * Q := by omega
  have HTZ : Hid (tagZ (behindTo h0 ms Q) = shaZ zs) := Lib.hid (by
    unfold shaZ Sha.behind
    rw [hz.len, hms, hL, hQ])
  have bm : Hid (IsBytes ms) := Lib.hid (by rw [← hms]; exact hz.isBytes.app (padZ_bytes n))
  have HMS := Lib.hid hms
  have HL := Lib.hid hL
  have HQ := Lib.hid hLQ
  have HZ := Lib.hid hz
  obtain ⟨W0, hW0⟩ : ∃ W0, W0 = w.alloc (.cells (vals (List.replicate 32 0)).toArray 50) := ⟨_, rfl⟩
  have b0 : Below w.heap.size w W0 := by rw [hW0]; exact (Below.refl _ _).alloc (Nat.le_refl _) _
  have s0 : W0.heap.size = w.heap.size + 1 := by rw [hW0]; simp
  have g0 : W0.there w.heap.size 0 32 := by rw [hW0]; simpa using (Row8.new w (List.replicate 32 0) 50).there
  obtain ⟨W1, hW1⟩ : ∃ W1, W1 = W0.alloc (.cells (u32s h0.list).toArray 53) := ⟨_, rfl⟩
  have r1 : Row32 W1 (w.heap.size + 1) h0.list := by rw [hW1, ← s0]; exact Row32.new W0 h0.list 53
  have b1 : Below w.heap.size w W1 := by rw [hW1]; exact b0.alloc (by omega) _
  have s1 : W1.heap.size = w.heap.size + 1 + 1 := by rw [hW1]; simp [s0]
  have g1 : W1.there w.heap.size 0 32 := by rw [hW1]; exact there_same g0 (Below.heap_alloc _ _ _ (by omega))
  have HW0 := Lib.hid hW0
  have HW1 := Lib.hid hW1
  have S1 := Lib.hid s1
  have S0 := Lib.hid s0
  have G1 := Lib.hid g1
  have R1 := Lib.hid r1
  have B1 := Lib.hid b1
  clear hms hL hQ hLQ hz hW0 hW1 b0 s0 g0 r1 b1 s1 g1
  go_enter Tryd.func26, Tryd.ntmps26
  go_wp2_with fail
  refine (show Calls Tryd.prog 32 #[] ((w.alloc (.cells (vals (List.replicate 32 0)).toArray 50)).alloc (.cells (u32s h0.list).toArray 53)) _ from ?_)
  rw [← HW0.out, ← HW1.out]
  refine (constants_any W1).mono ?_
  rintro e w2 ⟨rfl, k2, b2, s2⟩
  obtain ⟨kb, hkb⟩ : ∃ g, W1.heap.size = g := ⟨_, rfl⟩
  have hkbE : kb = w.heap.size + 1 + 1 := by rw [← hkb, S1.out]
  rw [hkb] at k2 b2 s2
  simp only [hkb]
  have q2 := Lib.hid (B1.out.trans (b2.mono (by omega)))
  have G2 := Lib.hid (there_same G1.out (b2.block _ (by omega)))
  have R2 := Lib.hid (row32_keep R1.out (b2.block (w.heap.size + 1) (by omega)))
  have K2 := Lib.hid k2
  have HKB := Lib.hid hkbE
  have kb1 : w.heap.size + 2 ≤ kb := by omega
  have kb2 : kb ≤ w.heap.size + 2 := by omega
  clear b2 k2 hkb hkbE R1 G1 B1
  go_wp2_with fail
  refine (whole_any c (HZ.out.belowM q2.out hB) (Nat.le_trans hB q2.out.size) (by omega)).mono ?_
  intro e w3 hm3
  rw [HMS.out] at hm3
  obtain ⟨D, d3, rfl, ho3, b3, hLc, hcm⟩ := hm3.n HL.out
  have HD := Lib.hid (fun (b off : Nat) (e : D = some ⟨b, off, none⟩) => (ho3.lt b (by rw [e]; rfl)).1)
  have Z3 := Lib.hid (bs_of_own ho3 bm.out)
  have q3 := Lib.hid (q2.out.trans (b3.mono q2.out.size))
  have G3 := Lib.hid (there_same G2.out (b3.block _ (by omega)))
  have s3 := b3.size
  obtain ⟨nb, hnb⟩ : ∃ g, w.heap.size + 1 = g := ⟨_, rfl⟩
  have M3 : Hid (Ahead w3 w3 nb (behindTo h0 ms 0)) := Lib.hid ⟨World.grownBy.refl _ _, by rw [← hnb]; exact row32_keep R2.out (b3.block _ (by omega))⟩
  have K3 := Lib.hid (row32_keep K2.out (b3.block kb (by omega)))
  have n1 : w.heap.size < nb := by omega
  have n2 : nb < kb := by omega
  have n3 : kb < w2.heap.size := s2
  rw [hnb]
  clear hm3 ho3 b3 hnb R2 K2 G2 q2 kb1 kb2
  go_wp2
  go_loopw [6] (fun i wr => ∃ a q : Nat, Hid (a = 64 * q) ∧ q ≤ Q ∧ i = .int .i64 a ∧ Hid (Ahead w3 wr nb (behindTo h0 ms q))) (fun i _ => L - (intOf i).toNat)
  case atStart => exact ⟨0, 0, Lib.hid rfl, by omega, rfl, M3⟩
  case round =>
    obtain ⟨a, q, HAQ, hq, rfl, HM⟩ := hrel
    have haq := HAQ.out
    have hgr := HM.out.1
    have hsz := hgr.size
    obtain ⟨v, hv⟩ : ∃ v, behindTo h0 ms q = v := ⟨_, rfl⟩
    have HV := Lib.hid hv
    have HVok : Hid v.ok := Lib.hid (by rw [← hv]; exact behindTo_ok h0_ok ms q)
    rw [hv] at HM
    have HGR := Lib.hid hgr
    clear hv hgr
    have ZR := Lib.hid (Z3.out.keepB (w' := wr) (fun b off e hb => HGR.out.block b hb (by have := HD.out b off e; simp; omega)))
    by_cases hlt : q < Q
    · have hL' := HQ.out
      have haI : (a : Int) < (L : Int) := by omega
      have gw : IntKind.i64.wrap ((a : Int) + 64) = (a : Int) + 64 := by rw [IntKind.wrap_i64]; omega
      obtain ⟨A2, hs, ct⟩ := cut_lh D L d3 a (a + 64) (a : Int) ((a : Int) + 64) rfl (by omega) (by omega) (by omega)
      have hs' : ∀ W, (Instr.slice 22 (.slice D L d3) (some (.int .i64 (a : Int))) (some (.int .i64 ((a : Int) + 64))) none).run Tryd.prog W = .ok (.slice A2 64 (d3 - a)) W := by simpa using hs
      have Z4 : Hid (Bs wr w3.heap.size A2 64 ((ms.drop (64 * q)).take 64)) := Lib.hid (by
        have := ZR.out.cut (k := a) (m := 64) (by omega) A2 (by simpa [CutAt] using ct)
        rwa [haq] at this)
      have i0 : (0 : Int) ≤ (a : Int) := by omega
      have i1 : (a : Int) + 64 ≤ (d3 : Int) := by omega
      clear hs ct haq hL'
      go_wp2_with fail
      refine (schedule_any (d3 - a) Z4.out (by omega)).mono ?_
      rw [wordsAt_piece]
      obtain ⟨ws, hws⟩ : ∃ ws, wordsAt ms q = ws := ⟨_, rfl⟩
      have hwl : Hid (ws.length = 16) := Lib.hid (by rw [← hws]; exact wordsAt_len _ _)
      have hww : Hid (AllW ws) := Lib.hid (by rw [← hws]; exact wordsAt_lt ms bm.out q)
      have HNX : Hid (behindTo h0 ms (q + 1) = blk v ws) := Lib.hid (by rw [← HV.out, ← hws]; rfl)
      rw [hws]
      clear hws
      rintro e w4 ⟨sb, sc4, rfl, hcs, hsb1, hsb2, b4⟩
      have e64 : (schedTo ws 48).length = 64 := schedTo_len ws hwl.out 48
      rw [e64]
      have CS := Lib.hid hcs
      have LS := Lib.hid e64
      have GR4 := Lib.hid (grown_below HGR.out b4)
      have RN4 := Lib.hid (row32_keep HM.out.2 (b4.block nb (by omega)))
      have K4 := Lib.hid (row32_keep K3.out (GR4.out.block kb (by omega) (by simp; omega)))
      have s4 := b4.size
      clear b4 hcs e64 hs' Z4 ZR HM HGR HV
      have hnb4 : nb < w4.heap.size := by omega
      go_upto_region 8 with fail
      have c0 := RN4.out.cells 0 (by simp [H8.list])
      have c1 := RN4.out.cells 1 (by simp [H8.list])
      have c2 := RN4.out.cells 2 (by simp [H8.list])
      have c3 := RN4.out.cells 3 (by simp [H8.list])
      have c4 := RN4.out.cells 4 (by simp [H8.list])
      have c5 := RN4.out.cells 5 (by simp [H8.list])
      have c6 := RN4.out.cells 6 (by simp [H8.list])
      have c7 := RN4.out.cells 7 (by simp [H8.list])
      simp only [H8.list, List.getD_cons_zero, List.getD_cons_succ] at c0 c1 c2 c3 c4 c5 c6 c7
      go_quiet (fail)
      clear c0 c1 c2 c3 c4 c5 c6 c7
      go_wp2
      go_loopw [8, 9, 10, 11, 12, 13, 14, 15, 16] (fun a b c d e f g h i wr => ∃ t m : Nat, t ≤ 64 ∧ i = .int .i64 t ∧ Hid (wr = w4.drewN m) ∧ ∃ sa sb sc sd se sf sg sh : Nat, Hid ((⟨sa, sb, sc, sd, se, sf, sg, sh⟩ : H8) = rnds ws v t) ∧ a = .int .u32 (sa : Int) ∧ b = .int .u32 (sb : Int) ∧ c = .int .u32 (sc : Int) ∧ d = .int .u32 (sd : Int) ∧ e = .int .u32 (se : Int) ∧ f = .int .u32 (sf : Int) ∧ g = .int .u32 (sg : Int) ∧ h = .int .u32 (sh : Int)) (fun _ _ _ _ _ _ _ _ i _ => 64 - (intOf i).toNat)
      case atStart => exact ⟨0, _, by omega, rfl, Lib.hid rfl, v.a, v.b, v.c, v.d, v.e, v.f, v.g, v.h, Lib.hid rfl, rfl, rfl, rfl, rfl, rfl, rfl, rfl, rfl⟩
      case round =>
        obtain ⟨t, m, ht, rfl, HWR, xa, xb, xc, xd, xe, xf, xg, xh, HS, rfl, rfl, rfl, rfl, rfl, rfl, rfl, rfl⟩ := hrel
        have ok := rnds_ok ws HVok.out t
        rw [← HS.out] at ok
        obtain ⟨oa, ob, oc, od, oe, of_, og, oh⟩ := ok
        simp only at oa ob oc od oe of_ og oh
        by_cases hlt : t < 64
        · as_aux_lemma =>
            have ck := K4.out.cells t (show t < kTab.length by simpa [kTab] using hlt)
            have ca := CS.out t (by rw [LS.out]; exact hlt)
            rw [sched_at ws hwl.out 48 t (by omega)] at ca
            obtain ⟨wt, hwt⟩ : ∃ x, wAt ws t = x := ⟨_, rfl⟩
            have bw := wAt_lt ws hwl.out hww.out t
            rw [hwt] at ca bw
            have HWT := Lib.hid hwt
            have bk := kTab_lt t
            obtain ⟨kt, hkt⟩ : ∃ k, kTab.getD t 0 = k := ⟨_, rfl⟩
            rw [hkt] at ck bk
            have HKT := Lib.hid hkt
            have ck' : wr.cell? ⟨kb, t, none⟩ = some (.int .u32 (kt : Int)) := by rw [HWR.out]; exact ck
            have ca' : wr.cell? ⟨sb, t, none⟩ = some (.int .u32 (wt : Int)) := by rw [HWR.out]; exact ca
            clear ck ca
            have hltI : (t : Int) < 64 := by omega
            have s2 := mjx_bits xa xb xc oa ob oc
            have s3 := chx_bits xe xf xg oe of_ og
            clear hkt hwt
            go_upto_region 14 with fail
            rw [show (if IntKind.u32.signed = true then (-1 : Int) else IntKind.u32.max) = IntKind.u32.max from rfl, s3]
            clear s2 s3
            go_quiet ((go_at_call 35; exact quiet_at (turnsE_any xe oe)))
            go_wp2_with fail
            obtain ⟨T1, hT1⟩ : ∃ T, (xh + bs1 xe + ch xe xf xg + kt + wt) % 4294967296 = T := ⟨_, rfl⟩
            have hT1lt : T1 < 4294967296 := by rw [← hT1]; exact mod_lt _
            have HN : Hid ((⟨(T1 + bs0 xa + mj xa xb xc) % 4294967296, xa, xb, xc, (xd + T1) % 4294967296, xe, xf, xg⟩ : H8) = rnds ws v (t + 1)) := Lib.hid (by
              show _ = rnd (rnds ws v t) (kTab.getD t 0) (wAt ws t)
              rw [← HS.out, HWT.out, HKT.out, ← hT1]; rfl)
            rw [show (((xh : Int) + ((bs1 xe : Nat) : Int) + ((ch xe xf xg : Nat) : Int) + (kt : Int)) % 4294967296 + (wt : Int)) % 4294967296 = (T1 : Int) by omega]
            clear hT1 ck' ca'
            refine (turnsA_any xa oa _).mono ?_
            rintro e w6 ⟨rfl, m2, rfl⟩
            go_wp2
            go_roundw
            case rel => exact ⟨t + 1, m + (nq + m2), by omega, by go_num, Lib.hid (by rw [HWR.out, World.drewN_drewN]), _, _, _, _, _, _, _, _, HN, congrArg (Value.int .u32) (by omega), rfl, rfl, rfl, congrArg (Value.int .u32) (by omega), rfl, rfl, rfl⟩
            case measure => simp [intOf]; omega
        · as_aux_lemma =>
            have ht64 : t = 64 := by omega
            have HBK : Hid (blk v ws = addV v ⟨xa, xb, xc, xd, xe, xf, xg, xh⟩) := Lib.hid (by unfold blk; rw [HS.out, ht64])
            have ov := HVok.out
            obtain ⟨va, vb, vc, vd, ve, vf, vg, vh⟩ := ov
            have c0 := RN4.out.cells 0 (by simp [H8.list])
            have c1 := RN4.out.cells 1 (by simp [H8.list])
            have c2 := RN4.out.cells 2 (by simp [H8.list])
            have c3 := RN4.out.cells 3 (by simp [H8.list])
            have f0 := RN4.out.free 0 (by simp [H8.list])
            have f1 := RN4.out.free 1 (by simp [H8.list])
            have f2 := RN4.out.free 2 (by simp [H8.list])
            have f3 := RN4.out.free 3 (by simp [H8.list])
            simp only [H8.list, List.getD_cons_zero, List.getD_cons_succ] at c0 c1 c2 c3
            have e0 : wr.cell? ⟨nb, 0, none⟩ = some (.int .u32 ((v.a : Nat) : Int)) := by rw [HWR.out]; exact c0
            have e1 : wr.cell? ⟨nb, 1, none⟩ = some (.int .u32 ((v.b : Nat) : Int)) := by rw [HWR.out]; exact c1
            have e2 : wr.cell? ⟨nb, 2, none⟩ = some (.int .u32 ((v.c : Nat) : Int)) := by rw [HWR.out]; exact c2
            have e3 : wr.cell? ⟨nb, 3, none⟩ = some (.int .u32 ((v.d : Nat) : Int)) := by rw [HWR.out]; exact c3
            have h0' : wr.frozen? ⟨nb, 0, none⟩ = false := by rw [HWR.out]; exact f0
            have h1' : wr.frozen? ⟨nb, 1, none⟩ = false := by rw [HWR.out]; exact f1
            have h2' : wr.frozen? ⟨nb, 2, none⟩ = false := by rw [HWR.out]; exact f2
            have h3' : wr.frozen? ⟨nb, 3, none⟩ = false := by rw [HWR.out]; exact f3
            have htI : ¬ (t : Int) < 64 := by omega
            clear ht64 HS c0 c1 c2 c3 f0 f1 f2 f3
            have RW : Hid (Row32 wr nb [v.a, v.b, v.c, v.d, v.e, v.f, v.g, v.h]) := Lib.hid (by rw [HWR.out]; exact RN4.out.drewN m)
            have GW : Hid (w3.grownBy wr (some nb)) := Lib.hid (by rw [HWR.out]; exact grown_drewN GR4.out m)
            have hnbW : nb < wr.heap.size := by rw [HWR.out]; exact hnb4
            clear HWR RN4 GR4
            go_wp2
            go_region
            obtain ⟨y0, hy0⟩ : ∃ y, (v.a + xa) % 4294967296 = y := ⟨_, rfl⟩
            obtain ⟨y1, hy1⟩ : ∃ y, (v.b + xb) % 4294967296 = y := ⟨_, rfl⟩
            obtain ⟨y2, hy2⟩ : ∃ y, (v.c + xc) % 4294967296 = y := ⟨_, rfl⟩
            obtain ⟨y3, hy3⟩ : ∃ y, (v.d + xd) % 4294967296 = y := ⟨_, rfl⟩
            rw [show ((v.a : Int) + (xa : Int)) % 4294967296 = (y0 : Int) by omega, show ((v.b : Int) + (xb : Int)) % 4294967296 = (y1 : Int) by omega, show ((v.c : Int) + (xc : Int)) % 4294967296 = (y2 : Int) by omega, show ((v.d : Int) + (xd : Int)) % 4294967296 = (y3 : Int) by omega]
            have R7 := ((((RW.out.set 0 y0 (by simp)).set 1 y1 (by simp)).set 2 y2 (by simp)).set 3 y3 (by simp)).drew
            have G7 := grown_drew (grown_set (grown_set (grown_set (grown_set GW.out 0 (.int .u32 (y0 : Int))) 1 (.int .u32 (y1 : Int))) 2 (.int .u32 (y2 : Int))) 3 (.int .u32 (y3 : Int)))
            simp only [List.set_cons_zero, List.set_cons_succ] at R7
            obtain ⟨W7, hW7⟩ : ∃ W7, ((((wr.setCell ⟨nb, 0, none⟩ (.int .u32 (y0 : Int))).setCell ⟨nb, 1, none⟩ (.int .u32 (y1 : Int))).setCell ⟨nb, 2, none⟩ (.int .u32 (y2 : Int))).setCell ⟨nb, 3, none⟩ (.int .u32 (y3 : Int))).drew = W7 := ⟨_, rfl⟩
            rw [hW7] at R7 G7 ⊢
            have HY0 := Lib.hid hy0
            have HY1 := Lib.hid hy1
            have HY2 := Lib.hid hy2
            have HY3 := Lib.hid hy3
            have HR7 := Lib.hid R7
            have HG7 := Lib.hid G7
            have e4 := R7.cells 4 (by simp)
            have e5 := R7.cells 5 (by simp)
            have e6 := R7.cells 6 (by simp)
            have e7 := R7.cells 7 (by simp)
            have f4 := R7.free 4 (by simp)
            have f5 := R7.free 5 (by simp)
            have f6 := R7.free 6 (by simp)
            have f7 := R7.free 7 (by simp)
            simp only [List.getD_cons_zero, List.getD_cons_succ] at e4 e5 e6 e7
            clear hW7 R7 G7 hy0 hy1 hy2 hy3 RW GW e0 e1 e2 e3 h0' h1' h2' h3'
            as_aux_lemma =>
              go_wp2
              go_region
              obtain ⟨y4, hy4⟩ : ∃ y, (v.e + xe) % 4294967296 = y := ⟨_, rfl⟩
              obtain ⟨y5, hy5⟩ : ∃ y, (v.f + xf) % 4294967296 = y := ⟨_, rfl⟩
              obtain ⟨y6, hy6⟩ : ∃ y, (v.g + xg) % 4294967296 = y := ⟨_, rfl⟩
              obtain ⟨y7, hy7⟩ : ∃ y, (v.h + xh) % 4294967296 = y := ⟨_, rfl⟩
              rw [show ((v.e : Int) + (xe : Int)) % 4294967296 = (y4 : Int) by omega, show ((v.f : Int) + (xf : Int)) % 4294967296 = (y5 : Int) by omega, show ((v.g : Int) + (xg : Int)) % 4294967296 = (y6 : Int) by omega, show ((v.h : Int) + (xh : Int)) % 4294967296 = (y7 : Int) by omega]
              have R8 := ((((HR7.out.set 4 y4 (by simp)).set 5 y5 (by simp)).set 6 y6 (by simp)).set 7 y7 (by simp)).drew
              have G8 := grown_drew (grown_set (grown_set (grown_set (grown_set HG7.out 4 (.int .u32 (y4 : Int))) 5 (.int .u32 (y5 : Int))) 6 (.int .u32 (y6 : Int))) 7 (.int .u32 (y7 : Int)))
              simp only [List.set_cons_zero, List.set_cons_succ] at R8
              obtain ⟨W8, hW8⟩ : ∃ W8, ((((W7.setCell ⟨nb, 4, none⟩ (.int .u32 (y4 : Int))).setCell ⟨nb, 5, none⟩ (.int .u32 (y5 : Int))).setCell ⟨nb, 6, none⟩ (.int .u32 (y6 : Int))).setCell ⟨nb, 7, none⟩ (.int .u32 (y7 : Int))).drew = W8 := ⟨_, rfl⟩
              rw [hW8] at R8 G8 ⊢
              have HAH : Hid (Ahead w3 W8 nb (behindTo h0 ms (q + 1))) := Lib.hid ⟨G8, by
                rw [HNX.out, HBK.out, ← blk_list]
                simp only [H8.list, List.set_cons_zero, List.set_cons_succ]
                rw [HY0.out, HY1.out, HY2.out, HY3.out, hy4, hy5, hy6, hy7]
                exact R8⟩
              have gw2 : IntKind.i64.wrap ((a : Int) + 64) = (a : Int) + 64 := gw
              have haq2 := HAQ.out
              have hL2 := HQ.out
              clear hW8 R8 G8 hy4 hy5 hy6 hy7 e4 e5 e6 e7 f4 f5 f6 f7 HR7 HG7
              go_wp2
              go_roundw
              case rel => exact ⟨a + 64, q + 1, Lib.hid (by omega), by omega, by go_num, HAH⟩
              case measure => simp [intOf]; omega
    · as_aux_lemma =>
        have hqQ : q = Q := by omega
        have haL : a = L := by have := HQ.out; omega
        have hge : ¬ (a : Int) < (L : Int) := by omega
        have HFIN : Hid (tagZ v = shaZ zs) := Lib.hid (by rw [← HV.out, hqQ]; exact HTZ.out)
        have RV : Hid (Row32 wr nb v.list) := Lib.hid HM.out.2
        have GRr : Hid (wr.there w.heap.size 0 32) := Lib.hid (there_same G3.out (HGR.out.block _ (by omega) (by simp; omega)))
        have QR : Hid (Below w.heap.size w wr) := Lib.hid (q3.out.grown HGR.out q3.out.size (fun k hk => by injection hk with hk; omega))
        have hnbr : nb < wr.heap.size := by omega
        clear hqQ haL HV HM HGR HAQ haq ZR Z3 M3 HD
        have o0 : Row8 (wr.alloc (.cells (vals (List.replicate 32 0)).toArray 50)) wr.heap.size 0 (List.replicate 32 0) := Row8.new wr _ _
        obtain ⟨Wo, hWo⟩ : ∃ Wo, Wo = wr.alloc (.cells (vals (List.replicate 32 0)).toArray 50) := ⟨_, rfl⟩
        obtain ⟨ob, hob⟩ : ∃ g, wr.heap.size = g := ⟨_, rfl⟩
        rw [← hWo, hob] at o0
        have RVo : Hid (Row32 Wo nb v.list) := Lib.hid (by rw [hWo]; exact row32_keep RV.out (Below.heap_alloc _ _ _ hnbr))
        have GRo : Hid (Wo.there w.heap.size 0 32) := Lib.hid (by rw [hWo]; exact there_same GRr.out (Below.heap_alloc _ _ _ (by omega)))
        have QRo : Hid (Below w.heap.size w Wo) := Lib.hid (by rw [hWo]; exact QR.out.alloc QR.out.size _)
        have soo : ob < Wo.heap.size := by rw [hWo, ← hob]; simp
        have hobr : nb < ob := by omega
        have O0 := Lib.hid o0
        have HWO := Lib.hid hWo
        have HOB := Lib.hid hob
        have HOK := HVok.out
        clear o0 hWo hob RV GRr QR
        go_upto_region 20 with fail
        refine (show Code.wp Tryd.prog _ _ _ (wr.alloc (.cells (vals (List.replicate 32 0)).toArray 50)) from ?_)
        rw [← HWO.out, HOB.out]
        go_wp2
        go_loopw [22] (fun i wv => ∃ k : Nat, k ≤ 8 ∧ i = .int .i64 k ∧ ∃ cs : List Int, Hid (cs.length = 32) ∧ Hid (cs.take (4 * k) = tagTo v k) ∧ Hid (Row8 wv ob 0 cs) ∧ Hid (Wo.grownBy wv (some ob))) (fun i _ => 8 - (intOf i).toNat)
        case atStart => exact ⟨0, by omega, rfl, List.replicate 32 0, Lib.hid (List.length_replicate ..), Lib.hid rfl, O0, Lib.hid (World.grownBy.refl _ _)⟩
        case round =>
          obtain ⟨k, hk, rfl, cs, HC, HTK, HR8, HGO⟩ := hrel
          have sgo := HGO.out.size
          by_cases hlt8 : k < 8
          · as_aux_lemma =>
              have hkI : (k : Int) < 8 := by omega
              have RVk := row32_keep RVo.out (HGO.out.block nb (by omega) (by simp; omega))
              have ck := RVk.cells k (show k < v.list.length by simpa [H8.list] using hlt8)
              obtain ⟨x, hx⟩ : ∃ x, v.list.getD k 0 = x := ⟨_, rfl⟩
              have hxl : x < 4294967296 := by rw [← hx]; exact list_lt v HOK k hlt8
              rw [hx] at ck
              have HX := Lib.hid hx
              have HXL := Lib.hid hxl
              have hx0 : (0 : Int) ≤ (x : Int) := by omega
              have hx1 : (x : Int) < 4294967296 := by omega
              clear hx RVk
              go_wp2_with fail
              refine (refputI_any (x : Int) 4 (by omega) (by omega) (by omega) (by omega) _).mono ?_
              intro e w5 hm5
              rw [show (4 : Int).toNat = 4 from rfl] at hm5
              obtain ⟨D5, d5, rfl, ho5, b5, _, _⟩ := hm5.n (putZ_len ..)
              have z5 := Lib.hid (Made.bs ho5 (putZ_bytes (x : Int) 4))
              have HD5 := Lib.hid (fun (b off : Nat) (e : D5 = some ⟨b, off, none⟩) => (ho5.lt b (by rw [e]; rfl)).1)
              have R85 := Lib.hid (HR8.out.same (b5.block ob (by omega)))
              have GO5 := Lib.hid (grown_below HGO.out b5)
              have s5 := b5.size
              clear hm5 ho5 b5 ck HR8 HGO
              go_wp2
              go_loopw [24] (fun i wv => ∃ m : Nat, m ≤ 4 ∧ i = .int .i64 m ∧ ∃ ds : List Int, Hid (ds.length = 32) ∧ Hid (ds.take (4 * k) = cs.take (4 * k)) ∧ Hid (∀ j, j < m → ds.getD (4 * k + j) 0 = (putZ (x : Int) 4).getD j 0) ∧ Hid (Row8 wv ob 0 ds) ∧ Hid (w5.grownBy wv (some ob))) (fun i _ => 4 - (intOf i).toNat)
              case atStart => exact ⟨0, by omega, rfl, cs, HC, Lib.hid rfl, Lib.hid (fun j hj => absurd hj (by omega)), R85, Lib.hid (World.grownBy.refl _ _)⟩
              case round =>
                obtain ⟨m, hm, rfl, ds, HDS, HDT, HDJ, HR, HG⟩ := hrel
                have sg5 := HG.out.size
                by_cases hlt4 : m < 4
                · have zr := z5.out.keepB (w' := wr) (fun b off e hb => HG.out.block b hb (by have := HD5.out b off e; simp; omega))
                  obtain ⟨b1, o1, u1, rfl, hb1, HU1, hu1, hu1', hc1⟩ := zr.at_ (k := m) hlt4
                  have hmI : (m : Int) < 4 := by omega
                  have hcell := row8_cellR HR.out (k := 4 * k + m) (by rw [HDS.out]; omega) rfl
                  obtain ⟨c1', c2'⟩ := hcell
                  have gw : IntKind.i64.wrap (4 * (k : Int) + (m : Int)) = 4 * (k : Int) + (m : Int) := by rw [IntKind.wrap_i64]; omega
                  have i1 : (0 : Int) ≤ 4 * (k : Int) + (m : Int) := by omega
                  have i2 : 4 * (k : Int) + (m : Int) < 32 := by omega
                  have i3 : (4 * (k : Int) + (m : Int)).toNat = 4 * k + m := by omega
                  have HR' := Lib.hid (row8_setR HR.out (4 * k + m) u1 (by rw [HDS.out]; omega))
                  have HG' := Lib.hid (grown_set HG.out (4 * k + m) (.int .u8 u1))
                  have HDS' : Hid ((ds.set (4 * k + m) u1).length = 32) := Lib.hid (by rw [List.length_set]; exact HDS.out)
                  have HDT' : Hid ((ds.set (4 * k + m) u1).take (4 * k) = cs.take (4 * k)) := Lib.hid (by rw [List.take_set_of_le (by omega)]; exact HDT.out)
                  have HDJ' : Hid (∀ j, j < m + 1 → (ds.set (4 * k + m) u1).getD (4 * k + j) 0 = (putZ (x : Int) 4).getD j 0) := Lib.hid (fun j hj => by
                    rw [getD_set _ _ _ _ (by rw [HDS.out]; omega)]
                    split
                    · next h => rw [show j = m by omega, HU1.out]
                    · exact HDJ.out j (by omega))
                  clear zr HR HG HDS HDT HDJ
                  go_wp2
                  go_roundw
                  case rel => exact ⟨m + 1, by omega, by go_num, _, HDS', HDT', HDJ', HR', HG'⟩
                  case measure => simp [intOf]; omega
                · have hm4 : m = 4 := by omega
                  have HT' : Hid (ds.take (4 * (k + 1)) = tagTo v (k + 1)) := Lib.hid (by
                    have e1 : ds.take (4 * (k + 1)) = ds.take (4 * k) ++ (ds.drop (4 * k)).take 4 := by rw [show 4 * (k + 1) = 4 * k + 4 by omega, List.take_add]
                    have e2 : (ds.drop (4 * k)).take 4 = putZ (x : Int) 4 := list_ext_getD (by rw [List.length_take, List.length_drop, HDS.out, putZ_len]; omega) (fun j hj => by
                      rw [List.length_take, List.length_drop, HDS.out] at hj
                      rw [List.getD_eq_getElem?_getD, List.getElem?_take_of_lt (by omega), List.getElem?_drop, ← List.getD_eq_getElem?_getD]
                      exact HDJ.out j (by omega))
                    rw [e1, e2, HDT.out, HTK.out, ← HX.out]; rfl)
                  have HGO' := Lib.hid (show Wo.grownBy wr (some ob) from ⟨HG.out.os.trans GO5.out.os, HG.out.tape.trans GO5.out.tape, HG.out.output.trans GO5.out.output, Nat.le_trans GO5.out.size HG.out.size, fun i hi hne => (HG.out.block i (Nat.lt_of_lt_of_le hi GO5.out.size) hne).trans (GO5.out.block i hi hne)⟩)
                  have hge4 : ¬ (m : Int) < 4 := by omega
                  clear hm4 HDT HDJ HG z5 HD5 R85 GO5
                  go_wp2
                  go_roundw
                  case rel => exact ⟨k + 1, by omega, by go_num, ds, HDS, HT', HR, HGO'⟩
                  case measure => simp [intOf]; omega
          · as_aux_lemma =>
              have hk8 : k = 8 := by omega
              have HE : Hid (cs = shaZ zs) := Lib.hid (by
                rw [← HFIN.out, ← tagTo_8]
                have := HTK.out
                rwa [hk8, List.take_of_length_le (by rw [HC.out]; omega)] at this)
              have hge8 : ¬ (k : Int) < 8 := by omega
              have T2 : Hid (wr.there w.heap.size 0 (vals cs).toArray.size) := Lib.hid (by
                rw [show (vals cs).toArray.size = 32 by rw [List.size_toArray, vals_len, HC.out]]
                exact there_same GRo.out (HGO.out.block _ (by omega) (by simp; omega)))
              have QF : Hid (Below w.heap.size w wr) := Lib.hid (QRo.out.grown HGO.out QRo.out.size (fun j hj => by injection hj with hj; omega))
              have RG := Lib.hid HR8.out.range
              have G := HC
              clear hk8 HTK HR8 HGO
              go_upto_region 28 with fail
              refine wp_region_lit ?_
              refine wpList_load_mid (op := ⟨some 199, .load 50 (.tmp 21), _, _, _, _⟩) rfl 50 (.tmp 21) rfl ob 0 ?_ (vals cs) _ RG.out Tryd.underlying50 rfl (tag_size cs HC.out) ?_
              · rfl
              refine wpList_store_as (op := ⟨none, .store 50 (.tmp 2) (.tmp 199), _, _, _, _⟩) rfl 50 (.tmp 2) (.tmp 199) rfl w.heap.size 0 (vals cs).toArray ?_ ?_ T2.out (tag_size cs HC.out) (all_oneCell_toArray (vals_one cs)) ?_
              · rfl
              · rfl
              intro w9 hw9
              have R9 : w9.rangeAt w.heap.size 0 (vals cs) := by rw [hw9.out]; exact World.rangeAt_setCells_same _ _ _ _ T2.out
              have b9 : Below w.heap.size w w9 := by rw [hw9.out]; exact below_setCells (Nat.le_refl _) _ _ _ QF.out
              have R9' := Lib.hid R9
              have b9' := Lib.hid b9
              clear hw9 R9 b9
              go_wp2
              refine bodyPost_ret (v := .agg (vals cs).toArray) (results_mid (p := 2) (ty := 50) rfl _ _ w.heap.size 0 (vals cs) _ ?_ R9'.out Tryd.underlying50 rfl (tag_size cs HC.out)) rfl ⟨by rw [HE.out], b9'.out⟩
              rfl
end Go.Proofs.YtcihbkdpkhhhcaaDoor
