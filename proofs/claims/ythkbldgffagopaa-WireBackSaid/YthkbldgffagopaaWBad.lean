/- The statement WireBad: the walk. -/
import Derived.Test.YthkbldgffagopaaBack
import Derived.Test.YthkbldgffagopaaWAwake
namespace Go.Proofs.Ythkbldgffagopaa
open Go.ChangeShapes Go.WideShapes Go.ChangeAt Go.RowKit
set_option linter.unusedVariables false
open Plain
/-- A reader of a few bytes is good, or bad by ErrWire; no more is left than there was. -/
def StOk (n : Nat) (s : Int × List Int) : Prop := (s.1 = 0 ∨ s.1 = 40) ∧ s.2.length ≤ n
theorem tk_st {α : Type} {n k : Nat} {okf : List Int → List Int → Bool} {val : List Int → α} {nv : α} {s : Int × List Int} (h : StOk n s) : StOk n (tk k okf val nv s).2 := by
  unfold tk
  split
  · exact ⟨.inl rfl, by simp only [List.length_drop]; have := h.2; omega⟩
  · refine ⟨?_, by simp⟩
    rcases h.1 with h1 | h1
    · right; simp only; rw [if_pos h1]
    · right; simp only; rw [if_neg (by omega), h1]
theorem back_st {n : Nat} {f : FieldZ} {s : Int × List Int} (h : StOk n s) : StOk n (backR f s).2 := by
  unfold backR rByte rInt rFlag rBytes rLen rTag
  repeat' split
  all_goals first | exact tk_st h | exact tk_st (tk_st h) | exact h
theorem field_info {f : FieldZ} (h : f.tag.length = 32) : (Try.prog.info? 30).map (·.size) = some (fCells f).length := by rw [fCells_len h]; kernel_rfl
/-- The one tag of noughts. -/
theorem zt_eq (W : World) : (binOp .eql 28 (.agg (vals ZT).toArray) (.agg #[.int .u8 0, .int .u8 0, .int .u8 0, .int .u8 0, .int .u8 0, .int .u8 0, .int .u8 0, .int .u8 0, .int .u8 0, .int .u8 0, .int .u8 0, .int .u8 0, .int .u8 0, .int .u8 0, .int .u8 0, .int .u8 0, .int .u8 0, .int .u8 0, .int .u8 0, .int .u8 0, .int .u8 0, .int .u8 0, .int .u8 0, .int .u8 0, .int .u8 0, .int .u8 0, .int .u8 0, .int .u8 0, .int .u8 0, .int .u8 0, .int .u8 0, .int .u8 0])).run Try.prog W = .ok (.bool true) W := by
  have := run_tagEq ZT ZT rfl rfl W
  rw [eqB_self] at this
  exact this
set_option maxRecDepth 100000 in
set_option maxHeartbeats 4000000 in
theorem wireBad_in (A0 : Option Addr) (n0 c0 : Nat) (bs : List Int) (A1 : Option Addr) (n1 c1 : Nat) (F : Nat → FieldZ) (n : Int) (w : World) (hb : Bs w w.heap.size A0 n0 bs) (hn0 : n0 ≤ maxLen) (hf : Fields w w.heap.size A1 n1 F) (hn1 : n1 ≤ maxLen) (hn : -9223372036854775808 ≤ n ∧ n ≤ 9223372036854775807) :
    Calls Try.prog 9 #[.slice A0 n0 c0, .slice A1 n1 c1, .int .i64 n] w fun e w' => e = .returned (.bool true) ∧ Below w.heap.size w w' := by
  unfold maxLen at hn0 hn1
  by_cases g0 : 3000 < n0
  · have : (3000 : Int) < n0 := by omega
    go_enter Try.func9, Try.ntmps9
    go_wp2_with (go_at_call 34; refine (wawake_any w).mono ?_; rintro e w1 ⟨rfl, hb⟩)
    go_ret
    exact ⟨rfl, hb⟩
  by_cases g1 : 40 < n1
  · have : (40 : Int) < n1 := by omega
    have h0 : ¬ (3000 : Int) < n0 := by omega
    go_enter Try.func9, Try.ntmps9
    go_wp2_with (go_at_call 34; refine (wawake_any w).mono ?_; rintro e w1 ⟨rfl, hb⟩)
    go_ret
    exact ⟨rfl, hb⟩
  have h0 : ¬ (3000 : Int) < n0 := by omega
  have h1 : ¬ (40 : Int) < n1 := by omega
  have HB := Lib.hid hb
  have HF := Lib.hid hf
  have G0 := Lib.hid g0
  have G1 := Lib.hid g1
  have HNW : Hid (newWhy bs = (0, bs)) := Lib.hid (by unfold newWhy; rw [if_pos (by rw [hb.len]; omega)])
  have HBL := Lib.hid hb.len
  clear hb hf g0 g1
  go_enter Try.func9, Try.ntmps9
  go_wp2_with (go_at_call 34; refine (wawake_any w).mono ?_; rintro e w1 ⟨rfl, hb1⟩)
  have Q1 := Lib.hid hb1
  have s1 := hb1.size
  clear hb1
  refine (newreader_any c0 (HB.out.below Q1.out) s1 (by have := G0.out; omega)).mono ?_
  rw [HNW.out]
  rintro e w2 ⟨b, rfl, r2, hb2, b2⟩
  have Q2 := Lib.hid (Q1.out.trans (b2.mono s1))
  have R2 := Lib.hid r2
  have hbb : w.heap.size ≤ b := by omega
  clear r2 b2 Q1
  generalize (Span.mk w1.heap.size b) = Z at *
  go_wp2
  go_loopw [8] (fun i wr => ∃ k : Nat, k ≤ n1 ∧ i = .int .i64 k ∧ ∃ s : Int × List Int, Hid (Rd wr b Z s.1 s.2) ∧ Hid (StOk n0 s) ∧ Hid (Below w.heap.size w wr)) (fun i _ => n1 - (intOf i).toNat)
  case atStart => exact ⟨0, by omega, rfl, (0, bs), R2, Lib.hid ⟨.inl rfl, by show bs.length ≤ n0; rw [HBL.out]; exact Nat.le_refl _⟩, Q2⟩
  case round =>
    obtain ⟨k, hk, rfl, s, RR, SS, QQ⟩ := hrel
    by_cases hlt : k < n1
    · have FF := HF.out.below QQ.out
      obtain ⟨fb, off, rfl, hfb, hr, _, _⟩ := FF.at_ hlt
      have FO := Lib.hid (FF.ok k hlt)
      have FR := Lib.hid hr
      have FI := Lib.hid (field_info FO.out.tag)
      have hltI : (k : Int) < (n1 : Int) := by omega
      have BC := Lib.hid (back_any RR.out (F k) FO.out QQ.out.size hbb)
      have BS := Lib.hid (back_st (f := F k) SS.out)
      have G := FI
      clear FF hr
      go_wp2_with (first
        | (have g := G; refine wpList_load_mid (op := ⟨some 32, .load 30 (.tmp 31), _, _, _, _⟩) rfl 30 (.tmp 31) rfl fb (off + k * 35) rfl (fCells (F k)) _ FR.out Try.underlying30 rfl FI.out ?_; clear g)
        | (go_at_call 35; refine BC.out.mono ?_; rintro e w3 ⟨rfl, r3, g3⟩; have R3 := Lib.hid r3; have Q3 := Lib.hid (QQ.out.grown g3 QQ.out.size (fun k hk => by injection hk with hk; omega)); clear r3 g3))
      go_roundw
      case rel => exact ⟨k + 1, by omega, by go_num, (backR (F k) s).2, R3, BS, Q3⟩
      case measure => simp [intOf]; omega
    · have hkn : k = n1 := by omega
      obtain ⟨why, zs⟩ := s
      have HE := Lib.hid (err_any RR.out)
      have HL := Lib.hid (left_any RR.out)
      simp only at HE HL
      have HLe : Hid (zs.length ≤ n0) := Lib.hid SS.out.2
      have hn1I : ¬ (k : Int) < (n1 : Int) := by omega
      rcases SS.out.1 with hw | hw
      · have hw : why = 0 := hw
        subst hw
        generalize zs.length = l at *
        have hli : (l : Int) ≤ (n0 : Int) := by have := HLe.out; omega
        clear hkn
        go_wp2_with (first | (go_at_call 23; refine HE.out.mono ?_; rintro e w8 ⟨rfl, rfl⟩) | (go_at_call 21; refine HL.out.mono ?_; rintro e w8 ⟨rfl, rfl⟩))
        go_ret
        exact ⟨rfl, QQ.out⟩
      · have hw : why = 40 := hw
        subst hw
        have R0 : Hid (Rd wr b Z 40 []) := Lib.hid (by
          have h := RR.out
          have e := h.bad (by simp)
          simp only at e
          rw [e] at h
          exact h)
        have HL : Hid (Calls Try.prog 21 #[.pointer (some ⟨b, 0, none⟩)] wr (Says (.int .i64 0) wr)) := Lib.hid (left_any R0.out)
        clear hkn RR SS HLe
        have hz := zt_eq
        go_wp2_with fail
        refine HE.out.mono ?_
        rintro e w3 ⟨rfl, rfl⟩
        go_wp2_with fail
        refine HL.out.mono ?_
        rintro e w3 ⟨rfl, rfl⟩
        clear HE HL
        go_wp2_with fail
        refine (byte_rd R0.out).mono ?_
        rw [show rByte (40, []) = (0, 40, []) from by decide]
        rintro e w4 ⟨rfl, r4, g4⟩
        have R4 : Hid (Rd w4 b Z 40 []) := Lib.hid r4
        have Q4 := Lib.hid (QQ.out.grown g4 QQ.out.size (fun k hk => by injection hk with hk; omega))
        clear r4 g4 R0 QQ
        go_wp2_with fail
        refine (int_rd R4.out).mono ?_
        rw [show rInt (40, []) = (0, 40, []) from by decide]
        rintro e w5 ⟨rfl, r5, g5⟩
        have R5 : Hid (Rd w5 b Z 40 []) := Lib.hid r5
        have Q5 := Lib.hid (Q4.out.grown g5 Q4.out.size (fun k hk => by injection hk with hk; omega))
        clear r5 g5 R4 Q4
        go_wp2_with fail
        refine (flag_rd R5.out).mono ?_
        rw [show rFlag (40, []) = (false, 40, []) from by decide]
        rintro e w6 ⟨rfl, r6, g6⟩
        have R6 : Hid (Rd w6 b Z 40 []) := Lib.hid r6
        have Q6 := Lib.hid (Q5.out.grown g6 Q5.out.size (fun k hk => by injection hk with hk; omega))
        clear r6 g6 R5 Q5
        go_wp2_with fail
        refine (bytes_rd R6.out).mono ?_
        rw [show rBytes (40, []) = ([], 40, []) from by decide]
        rintro e w7 ⟨x7, ⟨rfl, r7, g7⟩, ⟨A7, c7, rfl, _⟩⟩
        have R7 : Hid (Rd w7 b Z 40 []) := Lib.hid r7
        have Q7 := Lib.hid (Q6.out.grown g7 Q6.out.size (fun k hk => by injection hk with hk; omega))
        clear r7 g7 R6 Q6
        rw [show ([] : List Int).length = 0 from rfl]
        go_wp2_with fail
        refine (text_rd R7.out).mono ?_
        rw [show rBytes (40, []) = ([], 40, []) from by decide, show strOfNums [] = ⟨#[]⟩ from rfl]
        rintro e w8 ⟨rfl, r8, g8⟩
        have R8 : Hid (Rd w8 b Z 40 []) := Lib.hid r8
        have Q8 := Lib.hid (Q7.out.grown g8 Q7.out.size (fun k hk => by injection hk with hk; omega))
        clear r8 g8 R7 Q7
        go_wp2_with fail
        refine (tag_rd R8.out).mono ?_
        rw [show rTag (40, []) = (ZT, 40, []) from by decide]
        rintro e w9 ⟨rfl, r9, g9⟩
        have R9 : Hid (Rd w9 b Z 40 []) := Lib.hid r9
        have Q9 := Lib.hid (Q8.out.grown g9 Q8.out.size (fun k hk => by injection hk with hk; omega))
        clear r9 g9 R8 Q8
        go_wp2_with fail
        refine (count_rd n R9.out).mono ?_
        rw [show rCount n (40, []) = (0, 40, []) from tk_bad _ _ _ _ _ _ (by decide)]
        rintro e w10 ⟨rfl, r10, g10⟩
        have R10 : Hid (Rd w10 b Z 40 []) := Lib.hid r10
        have Q10 := Lib.hid (Q9.out.grown g10 Q9.out.size (fun k hk => by injection hk with hk; omega))
        clear r10 g10 R9 Q9
        have HE := Lib.hid (err_any R10.out)
        have HD := Lib.hid (end_rd R10.out)
        rw [show endZ 40 [] = 40 from by decide] at HD
        go_wp2_with (first | (go_at_call 23; refine HE.out.mono ?_; rintro e w20 ⟨rfl, rfl⟩) | (go_at_call 24; refine HD.out.mono ?_; rintro e w20 ⟨rfl, rfl⟩))
        go_ret
        exact ⟨rfl, Q10.out⟩
end Go.Proofs.Ythkbldgffagopaa
