/- A request's form: the document's. -/
import Derived.Test.YtcgclaailhhbpaaRqW
import Derived.Test.YtcgclaailhhbpaaB4
namespace Go.Proofs.Ytcgclaailhhbpaa
open Go.ChangeShapes Go.WideShapes Go.ChangeAt Go.RowKit
set_option linter.unusedVariables false
set_option maxRecDepth 100000
set_option linter.unusedSimpArgs false
open Plain Sha Au Rp Rq
theorem bytesF_bytes {zs : List Int} (h : IsBytes zs) : IsBytes (bytesF zs) := by unfold bytesF; exact (putZ_bytes _ _).app h
/-- Four numbers, one behind the other. -/
def four (a b c d : Int) (j : Nat) : Int := if j = 0 then a else if j = 1 then b else if j = 2 then c else d
def n4 (a b c d : Int) : Nat → List Int := catTo (fun j => n64 (four a b c d j))
theorem n4_four (a b c d : Int) : n4 a b c d 4 = n64 a ++ n64 b ++ n64 c ++ n64 d := by
  show [] ++ n64 a ++ n64 b ++ n64 c ++ n64 d = _
  rw [List.nil_append]
theorem four_in {a b c d : Int} (ha : InA a) (hb : InA b) (hc : InA c) (hd : InA d) (j : Nat) : InA (four a b c d j) := by
  unfold four
  repeat' split
  all_goals assumption
theorem own_byte (w : World) (x : Int) {base : Nat} (hb : base ≤ w.heap.size) : (w.alloc (.cells #[.int .u8 x] 5)).ownsRow base 5 1 (.slice (some ⟨w.heap.size, 0, none⟩) 1 1) 1 (vals [x]) :=
  World.ownsRow_lit w #[.int .u8 x] 1 hb (by simp [maxLen]) rfl
set_option maxHeartbeats 8000000 in
theorem rform_any {w : World} {B : Nat} {x : QX} (h : QOk w B x) (hB : B ≤ w.heap.size) (h1 : x.tl ≤ 2000) (h2 : x.key.size ≤ 500) (h3 : x.val.size ≤ 500) (h4 : x.old.size ≤ 500) : Calls Try.prog 17 #[.agg (qc x).toArray] w (Made w (reqF x.z)) := by
  obtain ⟨W1, hW1⟩ : ∃ W, W = w.alloc (.cells (qc x).toArray 26) := ⟨_, rfl⟩
  have b1 := Lib.hid (show Below w.heap.size w W1 by rw [hW1]; exact below_one _ _)
  obtain ⟨g, hg⟩ : ∃ g, w.heap.size = g := ⟨_, rfl⟩
  have HG := Lib.hid hg
  have V1 := Lib.hid (show VBox W1 g 12 (qc x) by rw [hW1]; exact vbox_new _ _ _ _ _ hg (qc_len x) (by omega))
  have z1 := Lib.hid (show W1.heap.size = g + 1 by rw [hW1]; simp [hg])
  have HW1 := Lib.hid hW1
  have HC := Lib.hid (show ∀ W, Below W1.heap.size W1 W → W.cell? ⟨g, 0, none⟩ = some (.int .u8 x.op) ∧ W.cell? ⟨g, 1, none⟩ = some (.slice x.A x.tl x.tc) ∧ W.cell? ⟨g, 2, none⟩ = some (.string x.key) ∧ W.cell? ⟨g, 3, none⟩ = some (.string x.val) ∧ W.cell? ⟨g, 4, none⟩ = some (.string x.old) ∧ W.cell? ⟨g, 5, none⟩ = some (.int .i64 x.n) ∧ W.cell? ⟨g, 6, none⟩ = some (.int .i64 x.tn) ∧ W.cell? ⟨g, 7, none⟩ = some (.int .i64 x.ks) ∧ W.cell? ⟨g, 8, none⟩ = some (.int .i64 x.sp) ∧ W.cell? ⟨g, 9, none⟩ = some (.int .u8 x.rt) ∧ W.cell? ⟨g, 10, none⟩ = some (.int .i64 x.ex) ∧ W.cell? ⟨g, 11, none⟩ = some (.int .i64 x.sr) from fun W hW => by
    have := rng_q (V1.out.below hW (by rw [z1.out]; omega)).range
    simpa only [Nat.zero_add] using this)
  have HT : Hid (∀ W, Below W1.heap.size W1 W → Bs W B x.A x.tl x.tok) := Lib.hid (fun W hW => h.tok.belowM (b1.out.trans (hW.mono b1.out.size)) hB)
  have HTB : Hid (∀ W, Below W1.heap.size W1 W → B ≤ W.heap.size) := Lib.hid (fun W hW => Nat.le_trans hB (Nat.le_trans b1.out.size hW.size))
  have HK := Lib.hid h
  have hop := h.op
  have hrt := h.rt
  have hex := h.ex
  have hsr := h.sr
  have H4 := Lib.hid (four_in h.n h.tn h.ks h.sp)
  unfold InA at hex hsr
  obtain ⟨m1, hm1⟩ : ∃ m, 4 + x.tl = m := ⟨_, rfl⟩
  obtain ⟨m2, hm2⟩ : ∃ m, 4 + x.key.size = m := ⟨_, rfl⟩
  obtain ⟨m3, hm3⟩ : ∃ m, 4 + x.val.size = m := ⟨_, rfl⟩
  obtain ⟨m4, hm4⟩ : ∃ m, 4 + x.old.size = m := ⟨_, rfl⟩
  have L1 : Hid ((bytesF x.tok).length = m1) := Lib.hid (by rw [bytesF_len, h.tok.len]; exact hm1)
  have L2 : Hid ((bytesF (strZ x.key)).length = m2) := Lib.hid (by rw [bytesF_len, strZ_len]; exact hm2)
  have L3 : Hid ((bytesF (strZ x.val)).length = m3) := Lib.hid (by rw [bytesF_len, strZ_len]; exact hm3)
  have L4 : Hid ((bytesF (strZ x.old)).length = m4) := Lib.hid (by rw [bytesF_len, strZ_len]; exact hm4)
  have l1 : m1 ≤ 2004 := by omega
  have l2 : m2 ≤ 504 := by omega
  have l3 : m3 ≤ 504 := by omega
  have l4 : m4 ≤ 504 := by omega
  have g2 : x.key.size ≤ 65536 := by omega
  have g3 : x.val.size ≤ 65536 := by omega
  have g4 : x.old.size ≤ 65536 := by omega
  have g1 : x.tl ≤ 65536 := by omega
  have P0 := Lib.hid (Below.refl W1.heap.size W1)
  have cc2 := run_toBytes
  clear hW1 hg h hB hm1 hm2 hm3 hm4 h1 h2 h3 h4
  go_enter Try.func17, Try.ntmps17
  go_upto_region 1 with fail
  rw [← HW1.out, HG.out]
  obtain ⟨q0, q1, q2, q3, q4, q5, q6, q7, q8, q9, q10, q11⟩ := HC.out _ P0.out
  have HN0 := Lib.hid (own_byte W1 x.op (Nat.le_refl W1.heap.size))
  have PP := Lib.hid (below_one W1 (.cells #[.int .u8 x.op] 5))
  go_upto_region 2 with fail
  obtain ⟨w1, hw1⟩ : ∃ W, W = W1.alloc (.cells #[.int .u8 x.op] 5) := ⟨_, rfl⟩
  rw [← hw1]
  have O1 : Hid (w1.ownsRow W1.heap.size 5 1 (.slice (some ⟨W1.heap.size, 0, none⟩) 1 1) 1 (vals [x.op])) := Lib.hid (by rw [hw1]; exact HN0.out)
  have P1 : Hid (Below W1.heap.size W1 w1) := Lib.hid (by rw [hw1]; exact PP.out)
  obtain ⟨A1, hA1⟩ : ∃ A : Option Addr, (some ⟨W1.heap.size, 0, none⟩ : Option Addr) = A := ⟨_, rfl⟩
  rw [hA1] at O1
  rw [hA1]
  clear HN0 PP hw1 hA1 q0 q1 q2 q3 q4 q5 q6 q7 q8 q9 q10 q11
  obtain ⟨q0, q1, q2, q3, q4, q5, q6, q7, q8, q9, q10, q11⟩ := HC.out _ P1.out
  go_upto_region 3 with (first
        | (go_at_call 43; refine (refbytesW_any x.tc (HT.out _ P1.out) (HTB.out _ P1.out) g1).mono ?_; intro e v2 hm; obtain ⟨D2, d2, rfl, ho, hb, _, _⟩ := hm.n L1.out; have H2 := Lib.hid (Made.bs ho (bytesF_bytes HK.out.tok.isBytes)); have Oc2 := Lib.hid (own_below O1.out hb (Nat.le_refl _)); have Pc2 := Lib.hid (P1.out.trans (hb.mono P1.out.size)); clear hm ho hb)
        | (at_builtin; refine wpList_app _ rfl (.tmp 9) (.tmp 12) 22 rfl W1.heap.size 5 1 1 Try.underlying22 u8_info (by omega) (.slice A1 (1) 1) (1) (vals ([x.op])) rfl Oc2.out D2 (m1) d2 (vals (bytesF x.tok)) rfl H2.out.lies.1 H2.out.lies.2 (vals_one _) (by unfold maxLen; omega) (by omega) Pc2.out.size ?_; intro v1 w2 ho1 hg1; rw [← vals_app] at ho1; have P2 := Lib.hid (Pc2.out.grown hg1 Pc2.out.size (fun q hq => (Oc2.out.lt q hq).1)); obtain ⟨A2, c2, rfl, _, _⟩ := own_shape ho1; have O2 := Lib.hid ho1; clear ho1 hg1))
  clear O1 P1 Oc2 Pc2 H2
  clear q0 q1 q2 q3 q4 q5 q6 q7 q8 q9 q10 q11
  obtain ⟨q0, q1, q2, q3, q4, q5, q6, q7, q8, q9, q10, q11⟩ := HC.out _ P2.out
  go_upto_region 4 with (first
        | (go_at_call 43; refine (refbytesW_any (grownCap w2 x.key.size 0 5) (bytesW_bs w2 x.key) (by rw [Go.Lib.bytesWorld_size]; omega) g2).mono ?_; intro e v3 hm; obtain ⟨D3, d3, rfl, ho, hb, _, _⟩ := hm.n L2.out; have H3 := Lib.hid (Made.bs ho (bytesF_bytes (strZ_bytes _))); have Oc3 := Lib.hid (own_below (own_below O2.out (bytesW_below w2 x.key) (Nat.le_refl _)) hb (Nat.le_refl _)); have Pc3 := Lib.hid ((P2.out.trans ((bytesW_below w2 x.key).mono P2.out.size)).trans (hb.mono (P2.out.trans ((bytesW_below w2 x.key).mono P2.out.size)).size)); clear hm ho hb)
        | (at_builtin; refine wpList_app _ rfl (.tmp 14) (.tmp 18) 22 rfl W1.heap.size 5 1 1 Try.underlying22 u8_info (by omega) (.slice A2 (1 + m1) c2) (1 + m1) (vals ([x.op] ++ bytesF x.tok)) rfl Oc3.out D3 (m2) d3 (vals (bytesF (strZ x.key))) rfl H3.out.lies.1 H3.out.lies.2 (vals_one _) (by unfold maxLen; omega) (by omega) Pc3.out.size ?_; intro v1 w3 ho1 hg1; rw [← vals_app] at ho1; have P3 := Lib.hid (Pc3.out.grown hg1 Pc3.out.size (fun q hq => (Oc3.out.lt q hq).1)); obtain ⟨A3, c3, rfl, _, _⟩ := own_shape ho1; have O3 := Lib.hid ho1; clear ho1 hg1))
  clear O2 P2 Oc3 Pc3 H3
  clear q0 q1 q2 q3 q4 q5 q6 q7 q8 q9 q10 q11
  obtain ⟨q0, q1, q2, q3, q4, q5, q6, q7, q8, q9, q10, q11⟩ := HC.out _ P3.out
  go_upto_region 5 with (first
        | (go_at_call 43; refine (refbytesW_any (grownCap w3 x.val.size 0 5) (bytesW_bs w3 x.val) (by rw [Go.Lib.bytesWorld_size]; omega) g3).mono ?_; intro e v4 hm; obtain ⟨D4, d4, rfl, ho, hb, _, _⟩ := hm.n L3.out; have H4 := Lib.hid (Made.bs ho (bytesF_bytes (strZ_bytes _))); have Oc4 := Lib.hid (own_below (own_below O3.out (bytesW_below w3 x.val) (Nat.le_refl _)) hb (Nat.le_refl _)); have Pc4 := Lib.hid ((P3.out.trans ((bytesW_below w3 x.val).mono P3.out.size)).trans (hb.mono (P3.out.trans ((bytesW_below w3 x.val).mono P3.out.size)).size)); clear hm ho hb)
        | (at_builtin; refine wpList_app _ rfl (.tmp 20) (.tmp 24) 22 rfl W1.heap.size 5 1 1 Try.underlying22 u8_info (by omega) (.slice A3 (1 + m1 + m2) c3) (1 + m1 + m2) (vals ([x.op] ++ bytesF x.tok ++ bytesF (strZ x.key))) rfl Oc4.out D4 (m3) d4 (vals (bytesF (strZ x.val))) rfl H4.out.lies.1 H4.out.lies.2 (vals_one _) (by unfold maxLen; omega) (by omega) Pc4.out.size ?_; intro v1 w4 ho1 hg1; rw [← vals_app] at ho1; have P4 := Lib.hid (Pc4.out.grown hg1 Pc4.out.size (fun q hq => (Oc4.out.lt q hq).1)); obtain ⟨A4, c4, rfl, _, _⟩ := own_shape ho1; have O4 := Lib.hid ho1; clear ho1 hg1))
  clear O3 P3 Oc4 Pc4 H4
  clear q0 q1 q2 q3 q4 q5 q6 q7 q8 q9 q10 q11
  obtain ⟨q0, q1, q2, q3, q4, q5, q6, q7, q8, q9, q10, q11⟩ := HC.out _ P4.out
  go_upto_region 6 with (first
        | (go_at_call 43; refine (refbytesW_any (grownCap w4 x.old.size 0 5) (bytesW_bs w4 x.old) (by rw [Go.Lib.bytesWorld_size]; omega) g4).mono ?_; intro e v5 hm; obtain ⟨D5, d5, rfl, ho, hb, _, _⟩ := hm.n L4.out; have H5 := Lib.hid (Made.bs ho (bytesF_bytes (strZ_bytes _))); have Oc5 := Lib.hid (own_below (own_below O4.out (bytesW_below w4 x.old) (Nat.le_refl _)) hb (Nat.le_refl _)); have Pc5 := Lib.hid ((P4.out.trans ((bytesW_below w4 x.old).mono P4.out.size)).trans (hb.mono (P4.out.trans ((bytesW_below w4 x.old).mono P4.out.size)).size)); clear hm ho hb)
        | (at_builtin; refine wpList_app _ rfl (.tmp 26) (.tmp 30) 22 rfl W1.heap.size 5 1 1 Try.underlying22 u8_info (by omega) (.slice A4 (1 + m1 + m2 + m3) c4) (1 + m1 + m2 + m3) (vals ([x.op] ++ bytesF x.tok ++ bytesF (strZ x.key) ++ bytesF (strZ x.val))) rfl Oc5.out D5 (m4) d5 (vals (bytesF (strZ x.old))) rfl H5.out.lies.1 H5.out.lies.2 (vals_one _) (by unfold maxLen; omega) (by omega) Pc5.out.size ?_; intro v1 w5 ho1 hg1; rw [← vals_app] at ho1; have P5 := Lib.hid (Pc5.out.grown hg1 Pc5.out.size (fun q hq => (Oc5.out.lt q hq).1)); obtain ⟨A5, c5, rfl, _, _⟩ := own_shape ho1; have O5 := Lib.hid ho1; clear ho1 hg1))
  clear O4 P4 Oc5 Pc5 H5
  clear q0 q1 q2 q3 q4 q5 q6 q7 q8 q9 q10 q11
  obtain ⟨q0, q1, q2, q3, q4, q5, q6, q7, q8, q9, q10, q11⟩ := HC.out _ P5.out
  go_upto_region 8 with fail
  have ZS := Lib.hid (show w5.heap.size = w5.heap.size from rfl)
  obtain ⟨wl, hwl⟩ : ∃ W, W = w5.alloc (.cells #[.int .i64 x.n, .int .i64 x.tn, .int .i64 x.ks, .int .i64 x.sp] 3) := ⟨_, rfl⟩
  rw [← hwl]
  obtain ⟨lb, hlb⟩ : ∃ b, w5.heap.size = b := ⟨_, rfl⟩
  rw [hlb]
  have OL := Lib.hid (show wl.ownsRow W1.heap.size 5 1 (.slice A5 (1 + m1 + m2 + m3 + m4) c5) (1 + m1 + m2 + m3 + m4) (vals ([x.op] ++ bytesF x.tok ++ bytesF (strZ x.key) ++ bytesF (strZ x.val) ++ bytesF (strZ x.old))) by rw [hwl]; exact O5.out.alloc _)
  have PL := Lib.hid (show Below W1.heap.size W1 wl by rw [hwl]; exact P5.out.trans ((below_one _ _).mono P5.out.size))
  have APA := Lib.hid (show ∀ b, A5 = some b → b.block ≠ lb from fun b hA => by have := (O5.out.lt b.block (by rw [hA]; rfl)).2; rw [← hlb]; omega)
  have LB := Lib.hid (show W1.heap.size ≤ lb ∧ lb < wl.heap.size by rw [hwl, ← hlb]; exact ⟨P5.out.size, by simp⟩)
  have LC := Lib.hid (show ∀ j, j < 4 → wl.cell? ⟨lb, j, none⟩ = some (.int .i64 (four (x.n) (x.tn) (x.ks) (x.sp) j)) by
    intro j hj
    rw [hwl, ← hlb, cell_of_row _ _ _ _ _ _ (heap_alloc_new w5 _)]
    match j, hj with
    | 0, _ => rfl
    | 1, _ => rfl
    | 2, _ => rfl
    | 3, _ => rfl)
  obtain ⟨N, hN⟩ : ∃ N, 1 + m1 + m2 + m3 + m4 = N := ⟨_, rfl⟩
  have hN5 : N ≤ 20000 := by omega
  rw [hN] at OL
  obtain ⟨zz, hzz⟩ : ∃ z, [x.op] ++ bytesF x.tok ++ bytesF (strZ x.key) ++ bytesF (strZ x.val) ++ bytesF (strZ x.old) = z := ⟨_, rfl⟩
  rw [hzz] at OL
  have HN := Lib.hid hN
  have HZZ := Lib.hid hzz
  rw [HN.out]
  clear hwl hlb ZS hN hzz O5 P5
  clear q0 q1 q2 q3 q4 q5 q6 q7 q8 q9 q10 q11
  go_wp2
  go_loopw [3, 5] (fun v3 i wr => ∃ (k : Nat) (A : Option Addr) (c : Nat), k ≤ 4 ∧ i = .int .i64 k ∧ v3 = .slice A (N + 8 * k) c ∧ Hid (wr.ownsRow W1.heap.size 5 1 (.slice A (N + 8 * k) c) (N + 8 * k) (vals (zz ++ n4 (x.n) (x.tn) (x.ks) (x.sp) k))) ∧ Hid (Below W1.heap.size W1 wr) ∧ Hid (lb < wr.heap.size ∧ ∀ j, j < 4 → wr.cell? ⟨lb, j, none⟩ = some (.int .i64 (four (x.n) (x.tn) (x.ks) (x.sp) j))) ∧ Hid (∀ b, A = some b → b.block ≠ lb)) (fun _ i _ => 4 - (intOf i).toNat)
  case atStart => exact ⟨0, A5, c5, by omega, rfl, by rw [Nat.mul_zero, Nat.add_zero], Lib.hid (by rw [Nat.mul_zero, Nat.add_zero, show n4 (x.n) (x.tn) (x.ks) (x.sp) 0 = [] from rfl, List.append_nil]; exact OL.out), PL, Lib.hid ⟨LB.out.2, LC.out⟩, APA⟩
  case round =>
    obtain ⟨k, A, c, hk, rfl, rfl, OR, PR, RC, RA⟩ := hrel
    by_cases hlt : k < 4
    · have hki : (k : Int) < 4 := by omega
      obtain ⟨v, hv⟩ : ∃ v, four (x.n) (x.tn) (x.ks) (x.sp) k = v := ⟨_, rfl⟩
      have hc := RC.out.2 k hlt
      rw [hv] at hc
      have hvi := H4.out k
      rw [hv] at hvi
      unfold InA at hvi
      have HV := Lib.hid hv
      have hNk : N + 8 * k ≤ 20100 := by omega
      have lbw := RC.out.1
      clear hv
      go_wp2_with (first
        | (go_at_call 44; refine (refint_any v hvi.1 hvi.2 wr).mono ?_; intro e w8 hm; obtain ⟨D8, d8, rfl, ho, hb, _, _⟩ := hm.n (n64_len' _); have H8 := Lib.hid (Made.bs ho (n64_bytes' _)); have O8 := Lib.hid (own_below OR.out hb (Nat.le_refl _)); have P8 := Lib.hid (PR.out.trans (hb.mono PR.out.size)); have B8 := Lib.hid hb; clear hm ho hb)
        | (at_builtin; refine wpList_appW _ rfl (.tmp 47) (.tmp 52) 22 rfl W1.heap.size 5 1 1 Try.underlying22 u8_info (by omega) (.slice A (N + 8 * k) c) (N + 8 * k) (vals (zz ++ n4 (x.n) (x.tn) (x.ks) (x.sp) k)) rfl O8.out D8 8 d8 (vals (n64 v)) rfl H8.out.lies.1 H8.out.lies.2 (vals_one _) (by unfold maxLen; omega) (by omega) P8.out.size ?_; intro v1 w9 ho1 hg1 hw1; have P9 := Lib.hid (P8.out.grown hg1 P8.out.size (fun q hq => (O8.out.lt q hq).1)); have HW9 := Lib.hid hw1; have G9 := Lib.hid hg1; obtain ⟨A9, c9, rfl, _, _⟩ := own_shape ho1; have O9 := Lib.hid ho1; clear ho1 hg1 hw1))
      have ec : Hid (vals (zz ++ n4 (x.n) (x.tn) (x.ks) (x.sp) (k + 1)) = vals (zz ++ n4 (x.n) (x.tn) (x.ks) (x.sp) k) ++ vals (n64 v)) := Lib.hid (by rw [← vals_app, List.append_assoc, ← HV.out]; rfl)
      have lb8 := Nat.lt_of_lt_of_le lbw B8.out.size
      have LB8 := Lib.hid lb8
      have ne9 : Hid (∀ b, A9 = some b → b.block ≠ lb) := Lib.hid (fun b hA => by
        rcases HW9.out with h | h
        · rw [hA] at h
          cases hAA : A with
          | none => rw [hAA] at h; simp [Value.ownBlock] at h
          | some b0 =>
            rw [hAA] at h
            simp only [Value.ownBlock, Option.some.injEq] at h
            rw [h]; exact RA.out b0 hAA
        · have := h b.block (by rw [hA]; rfl)
          have := LB8.out
          omega)
      have cc9 : Hid (∀ j, j < 4 → w9.cell? ⟨lb, j, none⟩ = some (.int .i64 (four (x.n) (x.tn) (x.ks) (x.sp) j))) := Lib.hid (fun j hj => by
        have e1 := (B8.out.cell (p := ⟨lb, j, none⟩) RC.out.1).trans (RC.out.2 j hj)
        refine (World.cell?_of_block (a := ⟨lb, j, none⟩) (G9.out.block lb LB8.out (fun e => ?_))).trans e1
        cases hAA : A with
        | none => rw [hAA] at e; simp [Value.ownBlock] at e
        | some b0 =>
          rw [hAA] at e
          simp only [Value.ownBlock, Option.some.injEq] at e
          exact RA.out b0 hAA e.symm)
      have hs9 := G9.out.size
      clear lb8 hc hvi
      go_roundw
      case rel => exact ⟨k + 1, A9, c9, by omega, by go_num, by rw [Nat.mul_add, ← Nat.add_assoc], Lib.hid (by rw [ec.out, Nat.mul_add, ← Nat.add_assoc]; exact O9.out), P9, Lib.hid ⟨Nat.lt_of_lt_of_le LB8.out hs9, cc9.out⟩, ne9⟩
      case measure => simp [intOf]; omega
    · obtain rfl : k = 4 := by omega
      have O6 := Lib.hid (show wr.ownsRow W1.heap.size 5 1 (.slice A (N + 32) c) (N + 32) (vals (zz ++ n4 (x.n) (x.tn) (x.ks) (x.sp) 4)) from OR.out)
      have P6 := PR
      clear OR RC RA OL PL LC hlt hk
      obtain ⟨q0, q1, q2, q3, q4, q5, q6, q7, q8, q9, q10, q11⟩ := HC.out _ P6.out
      have Ob := Lib.hid (O6.out.alloc (.cells #[.int .u8 x.rt] 5))
      have Hb := Lib.hid (bs_new wr [x.rt] 1 rfl (one_byte x.rt hrt.1 hrt.2) 5 _ rfl)
      have Pb := Lib.hid (P6.out.trans ((below_one wr (.cells #[.int .u8 x.rt] 5)).mono P6.out.size))
      go_upto_region 12 with (at_builtin; refine wpList_app _ rfl (.tmp 54) (.tmp 58) 22 rfl W1.heap.size 5 1 1 Try.underlying22 u8_info (by omega) (.slice A (N + 32) c) (N + 32) (vals (zz ++ n4 (x.n) (x.tn) (x.ks) (x.sp) 4)) rfl Ob.out (some ⟨wr.heap.size, 0, none⟩) (1) 1 (vals ([x.rt])) rfl Hb.out.lies.1 Hb.out.lies.2 (vals_one _) (by unfold maxLen; omega) (by omega) Pb.out.size ?_; intro v1 w7 ho1 hg1; rw [← vals_app] at ho1; have P7 := Lib.hid (Pb.out.grown hg1 Pb.out.size (fun q hq => (Ob.out.lt q hq).1)); obtain ⟨A7, c7, rfl, _, _⟩ := own_shape ho1; have O7 := Lib.hid ho1; clear ho1 hg1)
      clear O6 P6 Ob Hb Pb
      clear q0 q1 q2 q3 q4 q5 q6 q7 q8 q9 q10 q11
      obtain ⟨q0, q1, q2, q3, q4, q5, q6, q7, q8, q9, q10, q11⟩ := HC.out _ P7.out
      go_upto_region 13 with (first
            | (go_at_call 44; refine (refint_any x.ex hex.1 hex.2 _).mono ?_; intro e v8 hm; obtain ⟨D8, d8, rfl, ho, hb, _, _⟩ := hm.n (n64_len' _); have H8 := Lib.hid (Made.bs ho (n64_bytes' _)); have Oc8 := Lib.hid (own_below O7.out hb (Nat.le_refl _)); have Pc8 := Lib.hid (P7.out.trans (hb.mono P7.out.size)); clear hm ho hb)
            | (at_builtin; refine wpList_app _ rfl (.tmp 60) (.tmp 64) 22 rfl W1.heap.size 5 1 1 Try.underlying22 u8_info (by omega) (.slice A7 (N + 32 + 1) c7) (N + 32 + 1) (vals (zz ++ n4 (x.n) (x.tn) (x.ks) (x.sp) 4 ++ [x.rt])) rfl Oc8.out D8 (8) d8 (vals (n64 x.ex)) rfl H8.out.lies.1 H8.out.lies.2 (vals_one _) (by unfold maxLen; omega) (by omega) Pc8.out.size ?_; intro v1 w8 ho1 hg1; rw [← vals_app] at ho1; have P8 := Lib.hid (Pc8.out.grown hg1 Pc8.out.size (fun q hq => (Oc8.out.lt q hq).1)); obtain ⟨A8, c8, rfl, _, _⟩ := own_shape ho1; have O8 := Lib.hid ho1; clear ho1 hg1))
      clear O7 P7 Oc8 Pc8 H8
      clear q0 q1 q2 q3 q4 q5 q6 q7 q8 q9 q10 q11
      obtain ⟨q0, q1, q2, q3, q4, q5, q6, q7, q8, q9, q10, q11⟩ := HC.out _ P8.out
      go_wp2_with (first
            | (go_at_call 44; refine (refint_any x.sr hsr.1 hsr.2 _).mono ?_; intro e v9 hm; obtain ⟨D9, d9, rfl, ho, hb, _, _⟩ := hm.n (n64_len' _); have H9 := Lib.hid (Made.bs ho (n64_bytes' _)); have Oc9 := Lib.hid (own_below O8.out hb (Nat.le_refl _)); have Pc9 := Lib.hid (P8.out.trans (hb.mono P8.out.size)); clear hm ho hb)
            | (at_builtin; refine wpList_app _ rfl (.tmp 66) (.tmp 70) 22 rfl W1.heap.size 5 1 1 Try.underlying22 u8_info (by omega) (.slice A8 (N + 32 + 1 + 8) c8) (N + 32 + 1 + 8) (vals (zz ++ n4 (x.n) (x.tn) (x.ks) (x.sp) 4 ++ [x.rt] ++ n64 x.ex)) rfl Oc9.out D9 (8) d9 (vals (n64 x.sr)) rfl H9.out.lies.1 H9.out.lies.2 (vals_one _) (by unfold maxLen; omega) (by omega) Pc9.out.size ?_; intro v1 w9 ho1 hg1; rw [← vals_app] at ho1; have P9 := Lib.hid (Pc9.out.grown hg1 Pc9.out.size (fun q hq => (Oc9.out.lt q hq).1)); obtain ⟨A9, c9, rfl, _, _⟩ := own_shape ho1; have O9 := Lib.hid ho1; clear ho1 hg1))
      go_ret
      have EZ : Hid (zz ++ n4 (x.n) (x.tn) (x.ks) (x.sp) 4 ++ [x.rt] ++ n64 x.ex ++ n64 x.sr = reqF x.z) := Lib.hid (by
        rw [← HZZ.out, n4_four]
        unfold reqF
        simp only [List.append_assoc]
        rfl)
      have OF := O9.out
      rw [EZ.out] at OF
      refine made_of ?_ (own_base OF b1.out.size) (b1.out.trans (P9.out.mono b1.out.size))
      have := OF.1
      rw [vals_len] at this
      omega
end Go.Proofs.Ytcgclaailhhbpaa
