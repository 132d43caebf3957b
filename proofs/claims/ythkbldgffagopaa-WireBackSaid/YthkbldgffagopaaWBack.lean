/- The statement WireBack: the walk. -/
import Derived.Test.YthkbldgffagopaaBackZ
namespace Go.Proofs.Ythkbldgffagopaa
open Go.ChangeShapes Go.WideShapes Go.ChangeAt Go.RowKit
set_option linter.unusedVariables false
open Plain
theorem fz_of {w : World} {B : Nat} {f : FieldZ} (h : FieldOk w B f) (hs : f.len ≤ 65536) : FZ f := ⟨h.n, by rw [h.bs.len]; exact hs, h.tag⟩
theorem len_le_gsum (F : Nat → FieldZ) {j m : Nat} (h : j < m) : (F j).len ≤ gsum F m := by
  have := gsum_le F (j + 1) m h
  have h2 : gsum F (j + 1) = gsum F j + (F j).len + 40 := rfl
  omega
theorem wPut_form {F : Nat → FieldZ} {k : Nat} (h : formN F (k + 1) ≤ 65536) : wPut (some (formB F k)) (fieldB (F k)) = some (formB F (k + 1)) := by
  rw [wPut_yes _ _ (by rw [formB_len]; rw [formN_succ] at h; exact h)]; rfl
theorem formB_bytes {w : World} {B m : Nat} {A : Option Addr} {F : Nat → FieldZ} (h : ∀ j, j < m → IsBytes (fieldB (F j))) : IsBytes (formB F m) := catTo_bytes _ m h
theorem fieldB_bytes {w : World} {B : Nat} {f : FieldZ} (h : FieldOk w B f) : IsBytes (fieldB f) := by
  unfold fieldB
  by_cases k0 : f.kind = 0
  · rw [if_pos k0]; exact one_byte _ (by omega) (by omega)
  by_cases k1 : f.kind = 1
  · rw [if_neg k0, if_pos k1]; exact n64_bytes' _
  by_cases k2 : f.kind = 2
  · rw [if_neg k0, if_neg k1, if_pos k2]; split <;> exact one_byte _ (by omega) (by omega)
  by_cases k3 : f.kind = 3
  · rw [if_neg k0, if_neg k1, if_neg k2, if_pos k3]; exact (putZ_bytes _ _).app h.bs.isBytes
  by_cases k4 : f.kind = 4
  · rw [if_neg k0, if_neg k1, if_neg k2, if_neg k3, if_pos k4]; exact (putZ_bytes _ _).app h.bs.isBytes
  by_cases k5 : f.kind = 5
  · rw [if_neg k0, if_neg k1, if_neg k2, if_neg k3, if_neg k4, if_pos k5]; exact h.bytes
  · rw [if_neg k0, if_neg k1, if_neg k2, if_neg k3, if_neg k4, if_neg k5]; exact IsBytes.nil
theorem newWhy_cut (F : Nat → FieldZ) (j m : Nat) (h : m ≤ 65536) : newWhy ((formB F j).take m) = cutSt F j m 0 := by
  have e : formN F 0 = 0 := rfl
  unfold newWhy cutSt
  rw [e, if_pos (Nat.zero_le _), List.drop_zero, if_pos (by rw [List.length_take]; omega)]
theorem wrap_small (m : Nat) (h : m ≤ 4000) : wrap64 (m : Int) = (m : Int) := by unfold wrap64; omega
set_option maxRecDepth 100000 in
set_option maxHeartbeats 4000000 in
theorem wireBack_in (A : Option Addr) (n c : Nat) (F : Nat → FieldZ) (cut : Int) (w : World) (hf : Fields w w.heap.size A n F) (hn : n ≤ maxLen) (hcut : -9223372036854775808 ≤ cut ∧ cut ≤ 9223372036854775807) :
    Calls Try.prog 7 #[.slice A n c, .int .i64 cut] w fun e w' => e = .returned (.bool true) ∧ Below w.heap.size w w' := by
  have hn' := hn
  unfold maxLen at hn
  by_cases hg : 4000 < gsum F n
  · have HG := Lib.hid (fun w1 (h : Below w.heap.size w w1) => great_any c (hf.below h) hn')
    rw [show decide (4000 < gsum F n) = true from decide_eq_true hg] at HG
    clear hg hf
    go_enter Try.func7, Try.ntmps7
    go_wp2_with (first | (go_at_call 34; refine (wawake_any w).mono ?_; rintro e w1 ⟨rfl, hb⟩) | (go_at_call 11; refine (HG.out w1 hb).mono ?_; rintro e w2 ⟨rfl, rfl⟩))
    go_ret
    exact ⟨rfl, hb⟩
  have HG := Lib.hid (fun w1 (h : Below w.heap.size w w1) => great_any c (hf.below h) hn')
  rw [show decide (4000 < gsum F n) = false from decide_eq_false hg] at HG
  have HS : Hid (formN F n ≤ 4000) := Lib.hid (by
    have := form_small n (fun j hj => ⟨(hf.ok j hj).tag, (hf.ok j hj).bs.len⟩)
    omega)
  have HZ : Hid (∀ j, j < n → FZ (F j)) := Lib.hid (fun j hj => fz_of (hf.ok j hj) (by have := len_le_gsum F hj; omega))
  have HBy : Hid (IsBytes (formB F n)) := Lib.hid (catTo_bytes _ n (fun j hj => fieldB_bytes (hf.ok j hj)))
  have HLe : Hid (∀ k, k ≤ n → formN F k ≤ formN F n) := Lib.hid (fun k hk => formN_le F hk)
  have HF := Lib.hid hf
  clear hg hf hn'
  go_enter Try.func7, Try.ntmps7
  go_wp2_with (first | (go_at_call 34; refine (wawake_any w).mono ?_; rintro e w1 ⟨rfl, hb⟩) | (go_at_call 11; refine (HG.out w1 hb).mono ?_; rintro e w2 ⟨rfl, rfl⟩))
  have Q1 := Lib.hid hb
  have s1 := hb.size
  clear hb HG
  refine (newwriter_any w1).mono ?_
  rintro e w2 ⟨rfl, r2, b2, _⟩
  have Q2 := Lib.hid (Q1.out.trans (b2.mono s1))
  have R2 := Lib.hid r2
  generalize hbw : w1.heap.size = bw at *
  clear r2 b2 Q1 hbw
  go_wp2
  go_loopw [6] (fun i wr => ∃ k : Nat, k ≤ n ∧ i = .int .i64 k ∧ ∃ g, Hid (Wr wr bw g (some (formB F k))) ∧ Hid (Below w.heap.size w wr)) (fun i _ => n - (intOf i).toNat)
  case atStart => exact ⟨0, by omega, rfl, none, R2, Q2⟩
  case round =>
    obtain ⟨k, hk, rfl, g, RR, QQ⟩ := hrel
    by_cases hlt : k < n
    · have FF := HF.out.below QQ.out
      obtain ⟨fb, off, rfl, hfb, hr, _, _⟩ := FF.at_ hlt
      have FO := Lib.hid (FF.ok k hlt)
      have FR := Lib.hid hr
      have FI := Lib.hid (field_info FO.out.tag)
      have hltI : (k : Int) < (n : Int) := by omega
      have hap : Apart bw g (F k).A (F k).len := fun h0 a ha => by
        obtain ⟨b', o', e', hb', _⟩ := FO.out.bs.row h0
        rw [ha] at e'
        injection e' with e'
        rw [e']
        exact ⟨by show b' ≠ bw; omega, fun e => absurd (show bw < b' from (RR.out.own _ e.symm).1) (by omega)⟩
      have WC := Lib.hid (write_any RR.out (F k) FO.out QQ.out.size hap)
      rw [wPut_form (by have := HLe.out (k + 1) (by omega); have := HS.out; omega)] at WC
      have G := FI
      clear FF hr hap
      go_wp2_with (first
        | (have g := G; refine wpList_load_mid (op := ⟨some 28, .load 30 (.tmp 27), _, _, _, _⟩) rfl 30 (.tmp 27) rfl fb (off + k * 35) rfl (fCells (F k)) _ FR.out Try.underlying30 rfl FI.out ?_; clear g)
        | (go_at_call 14; refine WC.out.mono ?_; rintro e w3 ⟨rfl, g3, r3, o3, _⟩; have R3 := Lib.hid r3; have Q3 : Hid (Below w.heap.size w w3) := Lib.hid (QQ.out.trans (o3.below QQ.out.size (by omega) (fun i hi => by have := (RR.out.own i hi).1; omega))); clear r3 o3))
      go_roundw
      case rel => exact ⟨k + 1, by omega, by go_num, g3, R3, Q3⟩
      case measure => simp [intOf]; omega
    · have hkn : k = n := by omega
      subst hkn
      have DC := Lib.hid (done_ok RR.out)
      clear hk hlt
      go_wp2_with fail
      refine DC.out.mono ?_
      rintro e w3 ⟨x3, rfl, l3, b3⟩
      obtain ⟨A3, c3, rfl, z3, hc3, hm3⟩ := l3.bs HBy.out
      rw [formB_len] at z3 hc3
      rw [formB_len]
      obtain ⟨L, hL⟩ : ∃ L, formN F k = L := ⟨_, rfl⟩
      rw [hL] at z3 hc3
      simp only [hL]
      have HL := Lib.hid hL
      have hS := HS.out
      rw [hL] at hS
      have HS4 := Lib.hid hS
      have Q3 := Lib.hid (QQ.out.trans (b3.mono QQ.out.size))
      have s3 := Q3.out.size
      have Z3 := Lib.hid z3
      clear hS hL b3 z3 l3 DC
      have NC := Lib.hid (newreader_any c3 Z3.out (Nat.le_refl _) (by have := HS4.out; omega))
      rw [show newWhy (formB F k) = (0, formB F k) from by unfold newWhy; rw [if_pos (by rw [formB_len, HL.out]; have := HS4.out; omega)]] at NC
      go_wp2_with fail
      refine NC.out.mono ?_
      rintro e w4 ⟨rb, rfl, r4, hrb, b4⟩
      have Q4 := Lib.hid (Q3.out.trans (b4.mono s3))
      have R4 := Lib.hid r4
      have Z4 := Lib.hid (Z3.out.below b4)
      have hrbb : w.heap.size ≤ rb := by omega
      generalize (Span.mk w3.heap.size rb) = Y at *
      clear r4 NC Z3
      have s4 : w3.heap.size ≤ w4.heap.size := b4.size
      clear b4
      go_wp2
      go_loopw [10] (fun i wr => ∃ j : Nat, j ≤ k ∧ i = .int .i64 j ∧ Hid (Rd wr rb Y 0 ((formB F k).drop (formN F j))) ∧ Hid (Below w.heap.size w wr) ∧ Hid (Below w3.heap.size w4 wr)) (fun i _ => k - (intOf i).toNat)
      case atStart => exact ⟨0, by omega, rfl, R4, Q4, Lib.hid (Below.refl _ _)⟩
      case round =>
        obtain ⟨j, hj, rfl, RJ, QJ, BJ⟩ := hrel
        by_cases hltj : j < k
        · have FF := HF.out.below QJ.out
          obtain ⟨fb, off, rfl, hfb, hr, _, _⟩ := FF.at_ hltj
          have FO := Lib.hid (FF.ok j hltj)
          have FR := Lib.hid hr
          have FI := Lib.hid (field_info FO.out.tag)
          have hltI : (j : Int) < (k : Int) := by omega
          have BC := Lib.hid (back_any RJ.out (F j) FO.out QJ.out.size hrbb)
          rw [formB_drop F j k hltj, back_field (HZ.out j hltj)] at BC
          have G := FI
          clear FF hr
          go_wp2_with (first
            | (have g := G; refine wpList_load_mid (op := ⟨some 49, .load 30 (.tmp 48), _, _, _, _⟩) rfl 30 (.tmp 48) rfl fb (off + j * 35) rfl (fCells (F j)) _ FR.out Try.underlying30 rfl FI.out ?_; clear g)
            | (go_at_call 35; refine BC.out.mono ?_; rintro e w5 ⟨rfl, r5, g5⟩; have R5 := Lib.hid r5; have Q5 := Lib.hid (QJ.out.grown g5 QJ.out.size (fun k hk => by injection hk with hk; omega)); have B5 := Lib.hid (BJ.out.grown g5 (Nat.le_trans s4 BJ.out.size) (fun k hk => by injection hk with hk; omega)); clear r5 g5))
          go_roundw
          case rel => exact ⟨j + 1, by omega, by go_num, R5, Q5, B5⟩
          case measure => simp [intOf]; omega
        · have hjk : j = k := by omega
          subst hjk
          have RE : Hid (Rd wr rb Y 0 []) := Lib.hid (by
            have := RJ.out
            rwa [List.drop_of_length_le (by rw [formB_len]; exact Nat.le_refl _)] at this)
          have HD := Lib.hid (end_rd RE.out)
          have HLf := Lib.hid (left_any RE.out)
          rw [show endZ 0 [] = 0 from by decide] at HD
          rw [show (([] : List Int).length : Nat) = 0 from rfl] at HLf
          clear hj hltj
          have SJ := BJ.out.size
          by_cases c1 : cut < 1
          · go_wp2_with (first | (go_at_call 24; refine HD.out.mono ?_; rintro e w8 ⟨rfl, rfl⟩) | (go_at_call 21; refine HLf.out.mono ?_; rintro e w8 ⟨rfl, rfl⟩))
            go_ret
            exact ⟨rfl, QJ.out⟩
          by_cases c2 : (L : Int) < cut
          · go_wp2_with (first | (go_at_call 24; refine HD.out.mono ?_; rintro e w8 ⟨rfl, rfl⟩) | (go_at_call 21; refine HLf.out.mono ?_; rintro e w8 ⟨rfl, rfl⟩))
            go_ret
            exact ⟨rfl, QJ.out⟩
          obtain ⟨m, hm⟩ : ∃ m : Nat, (m : Int) = (L : Int) - cut := ⟨((L : Int) - cut).toNat, by omega⟩
          have hmI : (L : Int) - cut = (m : Int) := hm.symm
          have hmL : m < L := by omega
          have C1 : ∀ W, (Instr.slice 26 (.slice A3 L c3) none (some (.int .i64 (m : Int))) none).run Try.prog W = .ok (.slice A3 m c3) W := cut_h A3 L c3 m _ rfl (Nat.le_trans (Nat.le_of_lt hmL) hc3)
          have hwm : wrap64 (m : Int) = (m : Int) := wrap_small m (Nat.le_trans (Nat.le_of_lt hmL) HS4.out)
          have ZB := Z4.out.below BJ.out
          have ZC : Bs wr w3.heap.size A3 m ((formB F j).take m) := by
            have := ZB.cut (k := 0) (m := m) (by rw [Nat.zero_add]; exact Nat.le_of_lt hmL) A3 (fun b off e _ => by rw [e]; simp)
            rwa [List.drop_zero] at this
          have hmm : m ≤ 4000 := Nat.le_trans (Nat.le_of_lt hmL) HS4.out
          have NC := Lib.hid (newreader_any c3 ZC (Nat.le_trans s4 SJ) (Nat.le_trans hmm (by decide)))
          rw [newWhy_cut F j m (Nat.le_trans hmm (by decide))] at NC
          have ML := Lib.hid hmL
          have HN := Lib.hid hn
          clear ZB ZC hm hmL RE hmm hcut hn hm3 s1 s3 s4 SJ hrbb hrb hc3
          go_wp2_with (first | (go_at_call 24; refine HD.out.mono ?_; rintro e w8 ⟨rfl, rfl⟩) | (go_at_call 21; refine HLf.out.mono ?_; rintro e w8 ⟨rfl, rfl⟩) | (go_at_call 18; refine NC.out.mono ?_; rintro e w9 ⟨sb, rfl, r9, hsb, b9⟩))
          have Q9 := Lib.hid (QJ.out.trans (b9.mono QJ.out.size))
          have R9 := Lib.hid r9
          have hsbb : w.heap.size ≤ sb := by have := QJ.out.size; omega
          generalize (Span.mk wr.heap.size sb) = X at *
          clear r9 b9 NC HD HLf
          have hn := HN.out
          go_loopw [12] (fun i wr2 => ∃ p : Nat, p ≤ j ∧ i = .int .i64 p ∧ Hid (Rd wr2 sb X (cutSt F j m p).1 (cutSt F j m p).2) ∧ Hid (Below w.heap.size w wr2)) (fun i _ => j - (intOf i).toNat)
          case atStart => exact ⟨0, by omega, rfl, R9, Q9⟩
          case round =>
            obtain ⟨p, hp, rfl, RP, QP⟩ := hrel
            by_cases hltp : p < j
            · have FF := HF.out.below QP.out
              obtain ⟨fb, off, rfl, hfb, hr, _, _⟩ := FF.at_ hltp
              have FO := Lib.hid (FF.ok p hltp)
              have FR := Lib.hid hr
              have FI := Lib.hid (field_info FO.out.tag)
              have hltI : (p : Int) < (j : Int) := by omega
              have BC := Lib.hid (back_any RP.out (F p) FO.out QP.out.size hsbb)
              rw [show ((cutSt F j m p).1, (cutSt F j m p).2) = cutSt F j m p from rfl, cut_step hltp (HZ.out p hltp)] at BC
              have G := FI
              clear FF hr
              go_wp2_with (first
                | (have g := G; refine wpList_load_mid (op := ⟨some 85, .load 30 (.tmp 84), _, _, _, _⟩) rfl 30 (.tmp 84) rfl fb (off + p * 35) rfl (fCells (F p)) _ FR.out Try.underlying30 rfl FI.out ?_; clear g)
                | (go_at_call 35; refine BC.out.mono ?_; rintro e w5 ⟨rfl, r5, g5⟩; have R5 := Lib.hid r5; have Q5 := Lib.hid (QP.out.grown g5 QP.out.size (fun k hk => by injection hk with hk; omega)); clear r5 g5))
              go_roundw
              case rel => exact ⟨p + 1, by omega, by go_num, R5, Q5⟩
              case measure => simp [intOf]; omega
            · have hpj : p = j := by omega
              subst hpj
              have HE := Lib.hid (err_any RP.out)
              rw [show (cutSt F p m p).1 = 40 from by unfold cutSt; rw [if_neg (by rw [HL.out]; have := ML.out; omega)]] at HE
              clear hp hltp
              go_wp2_with (go_at_call 23; refine HE.out.mono ?_; rintro e w8 ⟨rfl, rfl⟩)
              go_ret
              exact ⟨rfl, QP.out⟩
end Go.Proofs.Ythkbldgffagopaa
