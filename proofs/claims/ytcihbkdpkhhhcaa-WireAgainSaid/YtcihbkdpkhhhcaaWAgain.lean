/- The statement WireAgain: the walk. -/
import Derived.Test.YtcihbkdpkhhhcaaAgainZ
import Derived.Test.YtcihbkdpkhhhcaaWAwake
namespace Go.Proofs.Ytcihbkdpkhhhcaa
open Go.ChangeShapes Go.WideShapes Go.ChangeAt Go.RowKit
set_option linter.unusedVariables false
open Plain
set_option maxRecDepth 100000 in
set_option maxHeartbeats 4000000 in
theorem wireAgain_in (A0 : Option Addr) (n0 c0 : Nat) (bs : List Int) (A1 : Option Addr) (n1 c1 : Nat) (F : Nat → FieldZ) (w : World) (hb : Bs w w.heap.size A0 n0 bs) (hc0 : n0 ≤ c0) (hn0 : n0 ≤ maxLen) (hf : Fields w w.heap.size A1 n1 F) (hn1 : n1 ≤ maxLen) :
    Calls Try.prog 6 #[.slice A0 n0 c0, .slice A1 n1 c1] w fun e w' => e = .returned (.bool true) ∧ Below w.heap.size w w' := by
  unfold maxLen at hn0 hn1
  by_cases g0 : 3000 < n0
  · have : (3000 : Int) < n0 := by omega
    go_enter Try.func6, Try.ntmps6
    go_wp2_with (go_at_call 29; refine (wawake_any w).mono ?_; rintro e w1 ⟨rfl, hb⟩)
    go_ret
    exact ⟨rfl, hb⟩
  by_cases g1 : 40 < n1
  · have : (40 : Int) < n1 := by omega
    have h0 : ¬ (3000 : Int) < n0 := by omega
    go_enter Try.func6, Try.ntmps6
    go_wp2_with (go_at_call 29; refine (wawake_any w).mono ?_; rintro e w1 ⟨rfl, hb⟩)
    go_ret
    exact ⟨rfl, hb⟩
  have h0 : ¬ (3000 : Int) < n0 := by omega
  have h1 : ¬ (40 : Int) < n1 := by omega
  have HB := Lib.hid hb
  have HF := Lib.hid hf
  have G0 : Hid (n0 ≤ 3000) := Lib.hid (by omega)
  have hn40 : n1 ≤ 40 := by omega
  have HNW : Hid (newWhy bs = (0, bs)) := Lib.hid (by unfold newWhy; rw [if_pos (by rw [hb.len]; omega)])
  have HBs : Hid (bs.length ≤ 65536) := Lib.hid (by rw [hb.len]; omega)
  have HBL := Lib.hid hb.len
  have HBy := Lib.hid hb.isBytes
  have HC0 := Lib.hid hc0
  clear hb hf g0 g1 hc0 hn0 hn1
  go_enter Try.func6, Try.ntmps6
  go_wp2_with (go_at_call 29; refine (wawake_any w).mono ?_; rintro e w1 ⟨rfl, hb1⟩)
  have Q1 := Lib.hid hb1
  have s1 := hb1.size
  clear hb1
  refine (newreader_any c0 (HB.out.below Q1.out) s1 (by have := G0.out; omega)).mono ?_
  rw [HNW.out]
  rintro e w2 ⟨rb, rfl, r2, hb2, b2⟩
  have R2 : Hid (Rd w2 rb ⟨w1.heap.size, rb⟩ 0 bs) := Lib.hid r2
  have Q2 := Lib.hid (Q1.out.trans (b2.mono s1))
  have hrw := r2.lt
  have hrb : w.heap.size ≤ rb := by omega
  generalize (Span.mk w1.heap.size rb) = Y at *
  clear r2 b2 HNW
  go_wp2_with fail
  refine (newwriter_any w2).mono ?_
  rintro e w3 ⟨rfl, r3, b3, _⟩
  have Q3 := Lib.hid (Q2.out.trans (b3.mono Q2.out.size))
  have R3 : Hid (Rd w3 rb Y 0 bs) := Lib.hid (R2.out.below b3 hrw)
  have W3 : Hid (Wr w3 w2.heap.size none (some [])) := Lib.hid r3
  obtain ⟨bw, hbw⟩ : ∃ bw, w2.heap.size = bw := ⟨_, rfl⟩
  rw [hbw] at W3 hrw
  simp only [hbw]
  have hlt2 : rb < bw := hrw
  have HG3 : Hid (GoodS bs 0 bs (some [])) := Lib.hid (.inl ⟨rfl, [], rfl, rfl⟩)
  have hwb : w.heap.size ≤ bw := by omega
  clear r3 b3 R2 Q2 Q1 hbw hb2 s1 hrw
  go_wp2
  go_loopw [7] (fun i wr => ∃ k : Nat, k ≤ n1 ∧ i = .int .i64 (k : Int) ∧ ∃ why rest st g, Hid (Rd wr rb Y why rest) ∧ Hid (Wr wr bw g st) ∧ Hid (GoodS bs why rest st) ∧ Hid (Below w.heap.size w wr)) (fun i _ => n1 - (intOf i).toNat)
  case atStart => exact ⟨0, by omega, rfl, 0, bs, some [], none, R3, W3, HG3, Q3⟩
  case round =>
    obtain ⟨k, hk, rfl, why, rest, st, g, RR, WW, HG, QQ⟩ := hrel
    clear R3 W3 HG3 Q3
    by_cases hlt : k < n1
    · have hltI : (k : Int) < (n1 : Int) := by omega
      obtain ⟨fb, off, rfl, hfb, _, hc, _⟩ := (HF.out.below QQ.out).at_ hlt
      obtain ⟨K, hK⟩ : ∃ K, (F k).kind = K := ⟨_, rfl⟩
      rw [hK] at hc
      clear hK hfb
      by_cases k0 : K = 0
      · subst k0
        have GG := Lib.hid (good_byte HBs.out HBy.out HG.out)
        have hrg := rByte_rng why RR.out.isBytes
        have RC := Lib.hid (byte_rd RR.out)
        obtain ⟨x, hx⟩ : ∃ x, (rByte (why, rest)).1 = x := ⟨_, rfl⟩
        obtain ⟨s2, hs2⟩ : ∃ s2, (rByte (why, rest)).2 = s2 := ⟨_, rfl⟩
        rw [hx] at hrg
        rw [hx, hs2] at RC GG
        clear hx hs2 HG
        go_wp2_with fail
        refine RC.out.mono ?_
        rintro e w2 ⟨rfl, r2, g2⟩
        have R2 := Lib.hid r2
        have W2 := Lib.hid (WW.out.grown g2 (fun e => by injection e with e; omega) (fun k hk e => by injection e with e; have := (WW.out.own k hk).1; omega))
        have Q2 := Lib.hid (QQ.out.grown g2 QQ.out.size (fun k hk => by injection hk with hk; omega))
        have s2' := g2.size
        have WC := Lib.hid (byte_wr W2.out x hrg.1 hrg.2)
        clear r2 g2 RC RR
        go_wp2_with fail
        refine WC.out.mono ?_
        rintro e w3 ⟨rfl, g3, r3, o3, _⟩
        have hg2 : ∀ k, g = some k → bw < k ∧ k < w2.heap.size := W2.out.own
        have R3 := Lib.hid (rd_wrote R2.out o3 hlt2 (fun k hk => (hg2 k hk).1))
        have W3 := Lib.hid r3
        have Q3 : Hid (Below w.heap.size w w3) := Lib.hid (Q2.out.trans (o3.below Q2.out.size (by omega) (fun i hi => by have := (hg2 i hi).1; omega)))
        clear r3 o3 WC W2 R2 Q2 QQ WW hg2
        go_wp2
        go_roundw
        case rel => exact ⟨k + 1, by omega, by go_num, s2.1, s2.2, _, g3, R3, W3, GG, Q3⟩
        case measure => simp [intOf]; omega
      by_cases k1 : K = 1
      · subst k1
        have GG := Lib.hid (good_int HBs.out HBy.out HG.out)
        have hrg := rInt_rng why RR.out.isBytes
        have RC := Lib.hid (int_rd RR.out)
        obtain ⟨x, hx⟩ : ∃ x, (rInt (why, rest)).1 = x := ⟨_, rfl⟩
        obtain ⟨s2, hs2⟩ : ∃ s2, (rInt (why, rest)).2 = s2 := ⟨_, rfl⟩
        rw [hx] at hrg
        rw [hx, hs2] at RC GG
        clear hx hs2 HG
        go_wp2_with fail
        refine RC.out.mono ?_
        rintro e w2 ⟨rfl, r2, g2⟩
        have R2 := Lib.hid r2
        have W2 := Lib.hid (WW.out.grown g2 (fun e => by injection e with e; omega) (fun k hk e => by injection e with e; have := (WW.out.own k hk).1; omega))
        have Q2 := Lib.hid (QQ.out.grown g2 QQ.out.size (fun k hk => by injection hk with hk; omega))
        have s2' := g2.size
        have WC := Lib.hid (int_wr W2.out x hrg.1 hrg.2)
        clear r2 g2 RC RR
        go_wp2_with fail
        refine WC.out.mono ?_
        rintro e w3 ⟨rfl, g3, r3, o3, _⟩
        have hg2 : ∀ k, g = some k → bw < k ∧ k < w2.heap.size := W2.out.own
        have R3 := Lib.hid (rd_wrote R2.out o3 hlt2 (fun k hk => (hg2 k hk).1))
        have W3 := Lib.hid r3
        have Q3 : Hid (Below w.heap.size w w3) := Lib.hid (Q2.out.trans (o3.below Q2.out.size (by omega) (fun i hi => by have := (hg2 i hi).1; omega)))
        clear r3 o3 WC W2 R2 Q2 QQ WW hg2
        go_wp2
        go_roundw
        case rel => exact ⟨k + 1, by omega, by go_num, s2.1, s2.2, _, g3, R3, W3, GG, Q3⟩
        case measure => simp [intOf]; omega
      by_cases k2 : K = 2
      · subst k2
        have GG := Lib.hid (good_flag HBs.out HBy.out HG.out)
        have RC := Lib.hid (flag_rd RR.out)
        obtain ⟨x, hx⟩ : ∃ x, (rFlag (why, rest)).1 = x := ⟨_, rfl⟩
        obtain ⟨s2, hs2⟩ : ∃ s2, (rFlag (why, rest)).2 = s2 := ⟨_, rfl⟩
        rw [hx, hs2] at RC GG
        clear hx hs2 HG
        go_wp2_with fail
        refine RC.out.mono ?_
        rintro e w2 ⟨rfl, r2, g2⟩
        have R2 := Lib.hid r2
        have W2 := Lib.hid (WW.out.grown g2 (fun e => by injection e with e; omega) (fun k hk e => by injection e with e; have := (WW.out.own k hk).1; omega))
        have Q2 := Lib.hid (QQ.out.grown g2 QQ.out.size (fun k hk => by injection hk with hk; omega))
        have s2' := g2.size
        have WC := Lib.hid (flag_wr W2.out x)
        clear r2 g2 RC RR
        go_wp2_with fail
        refine WC.out.mono ?_
        rintro e w3 ⟨rfl, g3, r3, o3, _⟩
        have hg2 : ∀ k, g = some k → bw < k ∧ k < w2.heap.size := W2.out.own
        have R3 := Lib.hid (rd_wrote R2.out o3 hlt2 (fun k hk => (hg2 k hk).1))
        have W3 := Lib.hid r3
        have Q3 : Hid (Below w.heap.size w w3) := Lib.hid (Q2.out.trans (o3.below Q2.out.size (by omega) (fun i hi => by have := (hg2 i hi).1; omega)))
        clear r3 o3 WC W2 R2 Q2 QQ WW hg2
        go_wp2
        go_roundw
        case rel => exact ⟨k + 1, by omega, by go_num, s2.1, s2.2, _, g3, R3, W3, GG, Q3⟩
        case measure => simp [intOf]; omega
      by_cases k3 : K = 3
      · subst k3
        have GG := Lib.hid (good_bytes HBs.out HBy.out HG.out)
        have hrg := Lib.hid (rBytes_good why RR.out.isBytes RR.out.small)
        have RC := Lib.hid (bytes_rd RR.out)
        obtain ⟨x, hx⟩ : ∃ x, (rBytes (why, rest)).1 = x := ⟨_, rfl⟩
        obtain ⟨s2, hs2⟩ : ∃ s2, (rBytes (why, rest)).2 = s2 := ⟨_, rfl⟩
        rw [hx] at hrg
        rw [hx, hs2] at RC GG
        clear hx hs2 HG
        go_wp2_with fail
        refine RC.out.mono ?_
        rintro e w2 ⟨v, ⟨rfl, r2, g2⟩, l2⟩
        obtain ⟨xA, xc, rfl, z2, _, _⟩ := l2.bs hrg.out.1
        have o2 : ∀ a, xA = some a → wr.heap.size ≤ a.block := by
          obtain ⟨A', c', e', o', _, _⟩ := l2
          injection e' with e1 e2 e3
          subst e1
          rintro a rfl
          exact (o'.lt a.block rfl).1
        have R2 := Lib.hid r2
        have W2 := Lib.hid (WW.out.grown g2 (fun e => by injection e with e; omega) (fun k hk e => by injection e with e; have := (WW.out.own k hk).1; omega))
        have Q2 := Lib.hid (QQ.out.grown g2 QQ.out.size (fun k hk => by injection hk with hk; omega))
        have s2' := g2.size
        have WC := Lib.hid (bytes_wr W2.out xc z2 (Nat.le_refl _) (by have := hrg.out.2; omega) (fun _ a ha => ⟨fun e => by have := o2 a ha; have := WW.out.lt; omega, fun e => by have := o2 a ha; have := (WW.out.own _ e.symm).2; omega⟩))
        clear r2 g2 RC RR z2 l2 o2
        go_wp2_with fail
        refine WC.out.mono ?_
        rintro e w3 ⟨rfl, g3, r3, o3, _⟩
        have hg2 : ∀ k, g = some k → bw < k ∧ k < w2.heap.size := W2.out.own
        have R3 := Lib.hid (rd_wrote R2.out o3 hlt2 (fun k hk => (hg2 k hk).1))
        have W3 := Lib.hid r3
        have Q3 : Hid (Below w.heap.size w w3) := Lib.hid (Q2.out.trans (o3.below Q2.out.size (by omega) (fun i hi => by have := (hg2 i hi).1; omega)))
        clear r3 o3 WC W2 R2 Q2 QQ WW hg2
        go_wp2
        go_roundw
        case rel => exact ⟨k + 1, by omega, by go_num, s2.1, s2.2, _, g3, R3, W3, GG, Q3⟩
        case measure => simp [intOf]; omega
      by_cases k4 : K = 4
      · subst k4
        have GG := Lib.hid (good_bytes HBs.out HBy.out HG.out)
        have hrg := Lib.hid (rBytes_good why RR.out.isBytes RR.out.small)
        have RC := Lib.hid (text_rd RR.out)
        obtain ⟨x, hx⟩ : ∃ x, (rBytes (why, rest)).1 = x := ⟨_, rfl⟩
        obtain ⟨s2, hs2⟩ : ∃ s2, (rBytes (why, rest)).2 = s2 := ⟨_, rfl⟩
        rw [hx] at hrg
        rw [hx, hs2] at RC GG
        clear hx hs2 HG
        go_wp2_with fail
        refine RC.out.mono ?_
        rintro e w2 ⟨rfl, r2, g2⟩
        have R2 := Lib.hid r2
        have W2 := Lib.hid (WW.out.grown g2 (fun e => by injection e with e; omega) (fun k hk e => by injection e with e; have := (WW.out.own k hk).1; omega))
        have Q2 := Lib.hid (QQ.out.grown g2 QQ.out.size (fun k hk => by injection hk with hk; omega))
        have s2' := g2.size
        have WC := Lib.hid (text_wr W2.out (strOfNums x) (by rw [← strZ_len, strZ_of hrg.out.1]; have := hrg.out.2; omega))
        rw [strZ_of hrg.out.1] at WC
        clear r2 g2 RC RR
        go_wp2_with fail
        refine WC.out.mono ?_
        rintro e w3 ⟨rfl, g3, r3, o3, _⟩
        have hg2 : ∀ k, g = some k → bw < k ∧ k < w2.heap.size := W2.out.own
        have R3 := Lib.hid (rd_wrote R2.out o3 hlt2 (fun k hk => (hg2 k hk).1))
        have W3 := Lib.hid r3
        have Q3 : Hid (Below w.heap.size w w3) := Lib.hid (Q2.out.trans (o3.below Q2.out.size (by omega) (fun i hi => by have := (hg2 i hi).1; omega)))
        clear r3 o3 WC W2 R2 Q2 QQ WW hg2
        go_wp2
        go_roundw
        case rel => exact ⟨k + 1, by omega, by go_num, s2.1, s2.2, _, g3, R3, W3, GG, Q3⟩
        case measure => simp [intOf]; omega
      by_cases k5 : K = 5
      · subst k5
        have GG := Lib.hid (good_tag HBs.out HBy.out HG.out)
        have hrg := Lib.hid (rTag_ok why RR.out.isBytes)
        have RC := Lib.hid (tag_rd RR.out)
        obtain ⟨x, hx⟩ : ∃ x, (rTag (why, rest)).1 = x := ⟨_, rfl⟩
        obtain ⟨s2, hs2⟩ : ∃ s2, (rTag (why, rest)).2 = s2 := ⟨_, rfl⟩
        rw [hx] at hrg
        rw [hx, hs2] at RC GG
        clear hx hs2 HG
        go_wp2_with fail
        refine RC.out.mono ?_
        rintro e w2 ⟨rfl, r2, g2⟩
        have R2 := Lib.hid r2
        have W2 := Lib.hid (WW.out.grown g2 (fun e => by injection e with e; omega) (fun k hk e => by injection e with e; have := (WW.out.own k hk).1; omega))
        have Q2 := Lib.hid (QQ.out.grown g2 QQ.out.size (fun k hk => by injection hk with hk; omega))
        have s2' := g2.size
        have WC := Lib.hid (tag_wr W2.out x hrg.out.1 hrg.out.2)
        clear r2 g2 RC RR
        go_wp2_with fail
        refine WC.out.mono ?_
        rintro e w3 ⟨rfl, g3, r3, o3, _⟩
        have hg2 : ∀ k, g = some k → bw < k ∧ k < w2.heap.size := W2.out.own
        have R3 := Lib.hid (rd_wrote R2.out o3 hlt2 (fun k hk => (hg2 k hk).1))
        have W3 := Lib.hid r3
        have Q3 : Hid (Below w.heap.size w w3) := Lib.hid (Q2.out.trans (o3.below Q2.out.size (by omega) (fun i hi => by have := (hg2 i hi).1; omega)))
        clear r3 o3 WC W2 R2 Q2 QQ WW hg2
        go_wp2
        go_roundw
        case rel => exact ⟨k + 1, by omega, by go_num, s2.1, s2.2, _, g3, R3, W3, GG, Q3⟩
        case measure => simp [intOf]; omega
      have j0 : (K == 0) = false := by simpa using k0
      have j1 : (K == 1) = false := by simpa using k1
      have j2 : (K == 2) = false := by simpa using k2
      have j3 : (K == 3) = false := by simpa using k3
      have j4 : (K == 4) = false := by simpa using k4
      have j5 : (K == 5) = false := by simpa using k5
      clear k0 k1 k2 k3 k4 k5
      go_wp2
      go_roundw
      case rel => exact ⟨k + 1, by omega, by go_num, why, rest, st, g, RR, WW, HG, QQ⟩
      case measure => simp [intOf]; omega
    · have hkn : ¬ (k : Int) < (n1 : Int) := by omega
      have HE := Lib.hid (err_any RR.out)
      have HLf := Lib.hid (left_any RR.out)
      clear hlt hk
      rcases HG.out with ⟨rfl, fs, rfl, hfs⟩ | ⟨rfl, rfl⟩
      · have HFS := Lib.hid hfs
        have LFS : Hid (fs.length + rest.length = n0) := Lib.hid (by rw [← HBL.out, ← hfs, List.length_append])
        have hle : fs.length ≤ n0 := by have := LFS.out; omega
        have DC := Lib.hid (done_ok WW.out)
        have BF : Hid (IsBytes fs) := Lib.hid (by have := HBy.out; rw [← hfs] at this; rw [isBytes_iff] at *; exact fun z hz => this z (List.mem_append_left _ hz))
        have hleft : (n0 : Int) - (rest.length : Int) = (fs.length : Int) := by have := LFS.out; omega
        obtain ⟨L, hL⟩ : ∃ L, fs.length = L := ⟨_, rfl⟩
        obtain ⟨M, hM⟩ : ∃ M, rest.length = M := ⟨_, rfl⟩
        rw [hL] at hle
        rw [hL, hM] at hleft
        rw [hM] at HLf
        have HL := Lib.hid hL
        have hgw : IntKind.i64.wrap ((n0 : Int) - (M : Int)) = (L : Int) := by rw [hleft, IntKind.wrap_i64]; have := G0.out; omega
        clear hfs hM hL HG
        go_wp2_with (go_at_call 19; refine HE.out.mono ?_; rintro e w8 ⟨rfl, rfl⟩)
        refine DC.out.mono ?_
        rintro e w4 ⟨x4, rfl, l4, b4⟩
        obtain ⟨A4, c4, rfl, z4, _, _⟩ := l4.bs BF.out
        rw [HL.out] at z4 ⊢
        have Q4 := Lib.hid (QQ.out.trans (b4.mono QQ.out.size))
        have R4 := Lib.hid (RR.out.below b4 RR.out.lt)
        have HL4 : Hid (Calls Try.prog 17 #[.pointer (some ⟨rb, 0, none⟩)] w4 (Says (.int .i64 (M : Int)) w4)) := Lib.hid (by
          have := left_any R4.out
          rwa [show (rest.length : Nat) = M from by have := LFS.out; have := HL.out; omega] at this)
        have zb : Hid (Bs w4 w.heap.size A0 L (bs.take L)) := Lib.hid (by
          have := (HB.out.below Q4.out).cut (k := 0) (m := L) (by omega) A0 (fun b off e _ => by rw [e]; rfl)
          rwa [List.drop_zero] at this)
        have hsl := cut_h A0 n0 c0 L (L : Int) rfl (Nat.le_trans hle HC0.out)
        have hM2 : Hid (L ≤ maxLen) := Lib.hid (by unfold maxLen; have := G0.out; omega)
        have SM := Lib.hid (same_any c4 c0 z4 zb.out hM2.out hM2.out)
        rw [show eqB fs (bs.take L) = true from by rw [← HFS.out, List.take_append_of_le_length (by rw [HL.out]; exact Nat.le_refl _), ← HL.out, List.take_length]; exact eqB_self _] at SM
        clear l4 b4 z4 zb HE HLf DC RR WW
        go_wp2_with (first
          | (go_at_call 17; refine HL4.out.mono ?_; rintro e w8 ⟨rfl, rfl⟩)
          | (go_at_call 36; refine SM.out.mono ?_; rintro e w9 ⟨rfl, m9, rfl⟩))
        go_ret
        exact ⟨rfl, below_drewN Q4.out _⟩
      · go_wp2_with (go_at_call 19; refine HE.out.mono ?_; rintro e w8 ⟨rfl, rfl⟩)
        go_ret
        exact ⟨rfl, QQ.out⟩
end Go.Proofs.Ytcihbkdpkhhhcaa
