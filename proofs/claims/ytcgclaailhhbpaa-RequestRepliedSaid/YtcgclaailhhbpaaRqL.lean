/- A request that is read: the program's. -/
import Derived.Test.YtcgclaailhhbpaaRqK
import Derived.Test.YtcgclaailhhbpaaRqH
import Derived.Test.YtcgclaailhhbpaaB3
namespace Go.Proofs.Ytcgclaailhhbpaa
open Go.ChangeShapes Go.WideShapes Go.ChangeAt Go.RowKit
set_option linter.unusedVariables false
set_option maxRecDepth 100000
set_option linter.unusedSimpArgs false
open Plain Sha Au Rp Rq
section
variable {w : World} {b : Nat} {B : Span} {s s' : Int × List Int}
theorem byte_st (h : RdP b B w s) {a : Int} (e : rByte s = (a, s')) : Calls Try.prog 51 #[.pointer (some ⟨b, 0, none⟩)] w (fun e w' => e = .returned (.int .u8 a) ∧ RdP b B w' s' ∧ w.grownBy w' (some b)) := by
  obtain ⟨y, zs⟩ := s
  have := byte_rd h
  rw [e] at this
  exact this
theorem int_st (h : RdP b B w s) {a : Int} (e : rInt s = (a, s')) : Calls Try.prog 54 #[.pointer (some ⟨b, 0, none⟩)] w (fun e w' => e = .returned (.int .i64 a) ∧ RdP b B w' s' ∧ w.grownBy w' (some b)) := by
  obtain ⟨y, zs⟩ := s
  have := int_rd h
  rw [e] at this
  exact this
theorem text_st (h : RdP b B w s) {a : List Int} (e : rBytes s = (a, s')) : Calls Try.prog 53 #[.pointer (some ⟨b, 0, none⟩)] w (fun e w' => e = .returned (.string (strOfNums a)) ∧ RdP b B w' s' ∧ w.grownBy w' (some b)) := by
  obtain ⟨y, zs⟩ := s
  have := text_rd h
  rw [e] at this
  exact this
theorem bytes_st (h : RdP b B w s) {a : List Int} (e : rBytes s = (a, s')) : Calls Try.prog 52 #[.pointer (some ⟨b, 0, none⟩)] w (fun e w' => ∃ T, e = .returned T ∧ RdP b B w' s' ∧ w.grownBy w' (some b) ∧ IsList T w' w.heap.size a) := by
  obtain ⟨y, zs⟩ := s
  have := bytes_rd h
  rw [e] at this
  exact this.mono fun e w' ⟨T, ⟨h1, h2, h3⟩, h4⟩ => ⟨T, h1, h2, h3, h4⟩
theorem tag_st (h : RdP b B w s) {a : List Int} (e : rTag s = (a, s')) : Calls Try.prog 62 #[.pointer (some ⟨b, 0, none⟩)] w (fun e w' => e = .returned (.agg (vals a).toArray) ∧ RdP b B w' s' ∧ w.grownBy w' (some b)) := by
  obtain ⟨y, zs⟩ := s
  have := tag_rd h
  rw [e] at this
  exact this
theorem count_st (most : Int) (h : RdP b B w s) {a : Int} (e : rCount most s = (a, s')) : Calls Try.prog 61 #[.pointer (some ⟨b, 0, none⟩), .int .i64 most] w (fun e w' => e = .returned (.int .i64 a) ∧ RdP b B w' s' ∧ w.grownBy w' (some b)) := by
  obtain ⟨y, zs⟩ := s
  have := count_rd most h
  rw [e] at this
  exact this
theorem end_st (h : RdP b B w s) (z : Int) (e : endZ s.1 s.2 = z) : Calls Try.prog 55 #[.pointer (some ⟨b, 0, none⟩)] w (Says (.int .i64 z) w) := by
  have := end_rd h
  rw [e] at this
  exact this
end
/-- What is read is in its range, whatever is left is bytes. -/
def StB (s : Int × List Int) : Prop := IsBytes s.2 ∧ s.2.length ≤ 65536
theorem tk_rq {α : Type} (k : Nat) (okf : List Int → List Int → Bool) (val : List Int → α) (nv : α) {s s' : Int × List Int} {a : α} (h : StB s) (e : tk k okf val nv s = (a, s')) : StB s' := by
  unfold tk at e
  split at e
  · injection e with _ e; subst e
    refine ⟨?_, ?_⟩
    · have := h.1; rw [isBytes_iff] at *; exact fun z hz => this z (List.mem_of_mem_drop hz)
    · show (s.2.drop k).length ≤ _; rw [List.length_drop]; have := h.2; omega
  · injection e with _ e; subst e
    exact ⟨IsBytes.nil, by simp⟩
theorem byte_rg {s s' : Int × List Int} {a : Int} (h : StB s) (e : rByte s = (a, s')) : (0 ≤ a ∧ a < 256) ∧ StB s' := by
  refine ⟨?_, tk_rq _ _ _ _ h e⟩
  have := rByte_rng s.1 h.1
  rw [show rByte (s.1, s.2) = (a, s') from e] at this
  exact this
theorem int_rg {s s' : Int × List Int} {a : Int} (h : StB s) (e : rInt s = (a, s')) : InA a ∧ StB s' := by
  refine ⟨?_, tk_rq _ _ _ _ h e⟩
  have := rInt_rng s.1 h.1
  rw [show rInt (s.1, s.2) = (a, s') from e] at this
  exact this
theorem bytes_rg {s s' a} (h : StB s) (e : rBytes s = (a, s')) : (IsBytes a ∧ a.length ≤ 65536) ∧ StB s' := by
  have h1 := rBytes_good s.1 h.1 h.2
  rw [show rBytes (s.1, s.2) = (a, s') from e] at h1
  refine ⟨h1, ?_⟩
  unfold rBytes at e
  obtain ⟨v, s1, e1⟩ : ∃ v s1, rLen s = (v, s1) := ⟨_, _, rfl⟩
  rw [e1] at e
  exact tk_rq _ _ _ _ (tk_rq _ _ _ _ h e1) e
theorem tag_rg {s s' : Int × List Int} {a : List Int} (h : StB s) (e : rTag s = (a, s')) : (a.length = 32 ∧ IsBytes a) ∧ StB s' := by
  refine ⟨?_, tk_rq _ _ _ _ h e⟩
  have := rTag_ok s.1 h.1
  rw [show rTag (s.1, s.2) = (a, s') from e] at this
  exact this
theorem count_rg {most : Int} {s s' : Int × List Int} {a : Int} (h : StB s) (e : rCount most s = (a, s')) : StB s' := tk_rq _ _ _ _ h e
theorem size_setCellsQ (b : Nat) : ∀ (vs : List Value) (o : Nat) (w : World), (w.setCells b o vs).heap.size = w.heap.size
  | [], _, _ => rfl
  | v :: r, o, w => by rw [World.setCells, size_setCellsQ b r]; simp [World.setCell]
/-- What Parse tells: a request, an error; its token stands in new memory. -/
def ReadsQ (w : World) (z : ReqZ) (er : Int) (e : Ending) (w' : World) : Prop := ∃ x : QX, e = .returned (.tuple #[.agg (qc x).toArray, .int .i64 er]) ∧ x.z = z ∧ QOk w' w'.heap.size x ∧ w'.ownsRow w.heap.size 5 1 (.slice x.A x.tl x.tc) x.tl (vals x.tok) ∧ Below w.heap.size w w'
theorem build_q0 (W : World) : (Instr.build 26 #[]).run Try.prog W = .ok (.agg (qc q0).toArray) W := run_build W 26 _ _ (by kernel_rfl)
theorem exec_q0 {P : Program} {a : Act} {op : Oper} {w : World} (hP : P = Try.prog) (ho : op.op = .build 26 #[]) : (execOp a.eval op).run P w = .ok (.value (.agg (qc q0).toArray)) w := by
  subst hP
  have hb := build_q0 w
  unfold execOp
  simp only [ho]
  simp [hb]
theorem reads_zero {w w' : World} (er : Int) (hb : Below w.heap.size w w') : ReadsQ w z0 er (.returned (.tuple #[.agg (qc q0).toArray, .int .i64 er])) w' := ⟨q0, rfl, rfl, q0_ok _ _, World.ownsRow_nil _ _ _ _, hb⟩
set_option maxHeartbeats 8000000 in
theorem parse_any {w : World} {B n c : Nat} {A : Option Addr} {bs : List Int} (h : Bs w B A n bs) (hB : B ≤ w.heap.size) (hn : n ≤ 140737488355328) : Calls Try.prog 19 #[.slice A n c] w (ReadsQ w (parseQ bs).1 (parseQ bs).2) := by
  obtain ⟨g, hg⟩ : ∃ g, w.heap.size = g := ⟨_, rfl⟩
  have HG := Lib.hid hg
  obtain ⟨W1, hW1⟩ : ∃ W, W = w.alloc (.cells #[.int .u8 0, .slice none 0 0, .string { data := #[] }, .string { data := #[] }, .string { data := #[] }, .int .i64 0, .int .i64 0, .int .i64 0, .int .i64 0, .int .u8 0, .int .i64 0, .int .i64 0] 26) := ⟨_, rfl⟩
  have b1 := Lib.hid (show Below w.heap.size w W1 by rw [hW1]; exact below_one _ _)
  have V1 := Lib.hid (show VBox W1 g 12 (qc q0) by rw [hW1]; exact vbox_new w (qc q0) _ _ _ hg (qc_len _) (by omega))
  have z1 := Lib.hid (show W1.heap.size = g + 1 by rw [hW1]; simp [hg])
  have HW1 := Lib.hid hW1
  have HL := Lib.hid h.len
  clear hW1 hg
  by_cases hbig : 1024 < n
  · have hi : (1024 : Int) < (n : Int) := by omega
    have HP : Hid (parseQ bs = (z0, 3)) := Lib.hid (by unfold parseQ; rw [if_pos (by rw [HL.out]; exact hbig)])
    have VT := Lib.hid (vthere V1.out (us := qc q0) rfl)
    rw [HP.out]
    clear h hbig
    go_enter Try.func19, Try.ntmps19
    go_upto_region 1 with fail
    rw [← HW1.out, HG.out]
    go_wp2_with (first
          | (show wpList _ _ _ (⟨some 9, .build 26 #[], _, _, _, _⟩ :: _) _ _; refine wpList_exec (op := ⟨some 9, .build 26 #[], _, _, _, _⟩) rfl (.agg (qc q0).toArray) (by exact exec_q0 rfl rfl) ?_)
          | (show wpList _ _ _ (⟨none, .store 26 (.tmp 2) (.tmp 9), _, _, _, _⟩ :: _) _ _; refine wpList_store_as (op := ⟨none, .store 26 (.tmp 2) (.tmp 9), _, _, _, _⟩) rfl 26 (.tmp 2) (.tmp 9) rfl (g) 0 (qc q0).toArray rfl rfl (VT.out) (q_sizeA q0) (q_oneA q0) ?_; intro w9 hw9))
    obtain ⟨V9, b9⟩ := vstored V1.out (qc_len q0) hw9 (by rw [HG.out]; exact Nat.le_refl _) b1.out
    exact bodyPost_ret (v := .tuple #[.agg (qc q0).toArray, .int .i64 3]) (results_mid_tmp (p := 2) (u := 3) (ty := 26) rfl _ _ g 0 (qc q0) _ rfl V9.range Try.underlying26 rfl (q_size q0)) rfl (reads_zero 3 b9)
  · have hi : ¬ (1024 : Int) < (n : Int) := by omega
    have hsmall : n ≤ 1024 := by omega
    obtain ⟨W2, hW2⟩ : ∃ W, W = W1.alloc (.cells #[.int .u8 0, .slice none 0 0, .string { data := #[] }, .string { data := #[] }, .string { data := #[] }, .int .i64 0, .int .i64 0, .int .i64 0, .int .i64 0, .int .u8 0, .int .i64 0, .int .i64 0] 26) := ⟨_, rfl⟩
    obtain ⟨r, hr0⟩ : ∃ r, W1.heap.size = r := ⟨_, rfl⟩
    have HRR := Lib.hid hr0
    have b2 := Lib.hid (show Below W1.heap.size W1 W2 by rw [hW2]; exact below_one _ _)
    have V2 := Lib.hid (show VBox W2 r 12 (qc q0) by rw [hW2]; exact vbox_new W1 (qc q0) _ _ _ hr0 (qc_len _) (by omega))
    have z2 := Lib.hid (show W2.heap.size = r + 1 by rw [hW2]; simp [hr0])
    have HW2 := Lib.hid hW2
    have HN2 := Lib.hid (newreader_any (w := W2) c (h.belowM (b1.out.trans (b2.out.mono b1.out.size)) hB) (Nat.le_trans hB (Nat.le_trans b1.out.size b2.out.size)) (by omega))
    have t0 : StB (0, bs) := ⟨h.isBytes, by rw [h.len]; omega⟩
    have HW : Hid (newWhy bs = (0, bs)) := Lib.hid (by unfold newWhy; rw [if_pos (by rw [h.len]; omega)])
    have BG := Lib.hid b1.out.size
    clear hW2 hr0 h hbig hsmall
    obtain ⟨a1, s1, e1⟩ : ∃ a s, rByte (0, bs) = (a, s) := ⟨_, _, rfl⟩
    obtain ⟨a2, s2, e2⟩ : ∃ a s, rBytes s1 = (a, s) := ⟨_, _, rfl⟩
    obtain ⟨a3, s3, e3⟩ : ∃ a s, rBytes s2 = (a, s) := ⟨_, _, rfl⟩
    obtain ⟨a4, s4, e4⟩ : ∃ a s, rBytes s3 = (a, s) := ⟨_, _, rfl⟩
    obtain ⟨a5, s5, e5⟩ : ∃ a s, rBytes s4 = (a, s) := ⟨_, _, rfl⟩
    obtain ⟨a6, s6, e6⟩ : ∃ a s, rInt s5 = (a, s) := ⟨_, _, rfl⟩
    obtain ⟨a7, s7, e7⟩ : ∃ a s, rInt s6 = (a, s) := ⟨_, _, rfl⟩
    obtain ⟨a8, s8, e8⟩ : ∃ a s, rInt s7 = (a, s) := ⟨_, _, rfl⟩
    obtain ⟨a9, s9, e9⟩ : ∃ a s, rInt s8 = (a, s) := ⟨_, _, rfl⟩
    obtain ⟨a10, s10, e10⟩ : ∃ a s, rByte s9 = (a, s) := ⟨_, _, rfl⟩
    obtain ⟨a11, s11, e11⟩ : ∃ a s, rInt s10 = (a, s) := ⟨_, _, rfl⟩
    obtain ⟨a12, s12, e12⟩ : ∃ a s, rInt s11 = (a, s) := ⟨_, _, rfl⟩
    obtain ⟨g1, t1⟩ := byte_rg t0 e1
    obtain ⟨g2, t2⟩ := bytes_rg t1 e2
    obtain ⟨g3, t3⟩ := bytes_rg t2 e3
    obtain ⟨g4, t4⟩ := bytes_rg t3 e4
    obtain ⟨g5, t5⟩ := bytes_rg t4 e5
    obtain ⟨g6, t6⟩ := int_rg t5 e6
    obtain ⟨g7, t7⟩ := int_rg t6 e7
    obtain ⟨g8, t8⟩ := int_rg t7 e8
    obtain ⟨g9, t9⟩ := int_rg t8 e9
    obtain ⟨g10, t10⟩ := byte_rg t9 e10
    obtain ⟨g11, t11⟩ := int_rg t10 e11
    obtain ⟨g12, t12⟩ := int_rg t11 e12
    have HR : Hid (reqR (0, bs) = (⟨a1, a2, strOfNums a3, strOfNums a4, strOfNums a5, a6, a7, a8, a9, a10, a11, a12⟩, s12)) := Lib.hid (by
      unfold reqR
      simp only [e1, e2, e3, e4, e5, e6, e7, e8, e9, e10, e11, e12])
    have E1 := Lib.hid e1
    have E2 := Lib.hid e2
    have E3 := Lib.hid e3
    have E4 := Lib.hid e4
    have E5 := Lib.hid e5
    have E6 := Lib.hid e6
    have E7 := Lib.hid e7
    have E8 := Lib.hid e8
    have E9 := Lib.hid e9
    have E10 := Lib.hid e10
    have E11 := Lib.hid e11
    have E12 := Lib.hid e12
    clear e1 e2 e3 e4 e5 e6 e7 e8 e9 e10 e11 e12
    have HP : Hid (parseQ bs = if endZ s12.1 s12.2 = 0 ∧ mayB ⟨a1, a2, strOfNums a3, strOfNums a4, strOfNums a5, a6, a7, a8, a9, a10, a11, a12⟩ = true then (⟨a1, a2, strOfNums a3, strOfNums a4, strOfNums a5, a6, a7, a8, a9, a10, a11, a12⟩, 0) else (z0, 150)) := Lib.hid (by unfold parseQ; rw [if_neg (by rw [HL.out]; omega), HR.out])
    go_enter Try.func19, Try.ntmps19
    go_upto_region 1 with fail
    rw [← HW1.out, HG.out]
    go_upto_region 4 with fail
    rw [← HW2.out, HRR.out]
    go_upto_region 5 with (go_at_call 50; refine HN2.out.mono ?_; rintro e w3 ⟨b, rfl, hrd, hbl, hb⟩; rw [HW.out] at hrd; have HB3 := Lib.hid hb; have HBL := Lib.hid hbl; have HRD := Lib.hid hrd; clear hb hbl hrd)
    have Q0 : Hid (PS (RdP b ⟨W2.heap.size, b⟩) W1 w3 r b (b + 1) 12 (0, bs) (qc q0) (.slice none 0 0) []) := Lib.hid
      ⟨HRD.out, V2.out.below HB3.out (by rw [z2.out]; omega), b2.out.trans (HB3.out.mono b2.out.size), by rw [HRR.out]; exact Nat.le_refl _, by have := HBL.out; rw [z2.out] at this; omega, by have := HBL.out; rw [z2.out] at this; omega, by omega, HRD.out.lt, by have := HBL.out; rw [z2.out] at this; rw [HRR.out]; omega,
        rdP_keep (by show r < W2.heap.size; rw [z2.out]; omega) HBL.out (by omega), isList_nil _ _⟩
    clear HN2 HB3 HBL HRD V2
    go_upto_region 6 with (first
          | (go_at_call 51; refine (byte_st Q0.out.rd E1.out).mono ?_; rintro e v1 ⟨rfl, hr, hg⟩; have P1 := Lib.hid (Q0.out.read hr hg); clear hr hg)
          | (go_at_call 52; refine (bytes_st P1.out.rd E2.out).mono ?_; rintro e v2 ⟨T, rfl, hr, hg, hl⟩; have P2 := Lib.hid ((P1.out.read hr hg).list (hl.base P1.out.ms)); obtain ⟨AT, cT, rfl, _, _⟩ := hl; clear hr hg; obtain ⟨x0, y0⟩ := P2.out.cell 0 rfl; obtain ⟨x1, y1⟩ := P2.out.cell 1 rfl))
    obtain ⟨wA, hwA⟩ : ∃ W, W = ((v2.setCell ⟨r, 0, none⟩ (.int .u8 a1)).setCell ⟨r, 1, none⟩ (.slice AT a2.length cT)) := ⟨_, rfl⟩
    rw [← hwA]
    have QA := Lib.hid ((P2.out.set (i := 0) (by omega) (.int .u8 a1)).set (i := 1) (by omega) (.slice AT a2.length cT))
    rw [← hwA] at QA
    clear hwA P2 x0 y0 x1 y1
    have GA := QA
    have GB := QA
    have GC := QA
    go_upto_region 7 with (first
          | (have g := GA; clear g; go_at_call 53; refine (text_st QA.out.rd E3.out).mono ?_; rintro e v3 ⟨rfl, hr, hg⟩; have P3 := Lib.hid (QA.out.read hr hg); clear hr hg; clear GA)
          | (have g := GB; clear g; go_at_call 53; refine (text_st P3.out.rd E4.out).mono ?_; rintro e v4 ⟨rfl, hr, hg⟩; have P4 := Lib.hid (P3.out.read hr hg); clear hr hg; clear GB)
          | (have g := GC; clear g; go_at_call 53; refine (text_st P4.out.rd E5.out).mono ?_; rintro e v5 ⟨rfl, hr, hg⟩; have P5 := Lib.hid (P4.out.read hr hg); clear hr hg; obtain ⟨x2, y2⟩ := P5.out.cell 2 rfl; obtain ⟨x3, y3⟩ := P5.out.cell 3 rfl; obtain ⟨x4, y4⟩ := P5.out.cell 4 rfl; clear GC))
    obtain ⟨wB, hwB⟩ : ∃ W, W = (((v5.setCell ⟨r, 2, none⟩ (.string (strOfNums a3))).setCell ⟨r, 3, none⟩ (.string (strOfNums a4))).setCell ⟨r, 4, none⟩ (.string (strOfNums a5))) := ⟨_, rfl⟩
    rw [← hwB]
    have QB := Lib.hid (((P5.out.set (i := 2) (by omega) (.string (strOfNums a3))).set (i := 3) (by omega) (.string (strOfNums a4))).set (i := 4) (by omega) (.string (strOfNums a5)))
    rw [← hwB] at QB
    clear hwB P5 x2 y2 x3 y3 x4 y4
    have GA := QB
    have GB := QB
    have GC := QB
    have GD := QB
    go_upto_region 8 with (first
          | (have g := GA; clear g; go_at_call 54; refine (int_st QB.out.rd E6.out).mono ?_; rintro e v6 ⟨rfl, hr, hg⟩; have P6 := Lib.hid (QB.out.read hr hg); clear hr hg; clear GA)
          | (have g := GB; clear g; go_at_call 54; refine (int_st P6.out.rd E7.out).mono ?_; rintro e v7 ⟨rfl, hr, hg⟩; have P7 := Lib.hid (P6.out.read hr hg); clear hr hg; clear GB)
          | (have g := GC; clear g; go_at_call 54; refine (int_st P7.out.rd E8.out).mono ?_; rintro e v8 ⟨rfl, hr, hg⟩; have P8 := Lib.hid (P7.out.read hr hg); clear hr hg; clear GC)
          | (have g := GD; clear g; go_at_call 54; refine (int_st P8.out.rd E9.out).mono ?_; rintro e v9 ⟨rfl, hr, hg⟩; have P9 := Lib.hid (P8.out.read hr hg); clear hr hg; obtain ⟨x5, y5⟩ := P9.out.cell 5 rfl; obtain ⟨x6, y6⟩ := P9.out.cell 6 rfl; obtain ⟨x7, y7⟩ := P9.out.cell 7 rfl; obtain ⟨x8, y8⟩ := P9.out.cell 8 rfl; clear GD))
    obtain ⟨wC, hwC⟩ : ∃ W, W = ((((v9.setCell ⟨r, 5, none⟩ (.int .i64 a6)).setCell ⟨r, 6, none⟩ (.int .i64 a7)).setCell ⟨r, 7, none⟩ (.int .i64 a8)).setCell ⟨r, 8, none⟩ (.int .i64 a9)) := ⟨_, rfl⟩
    rw [← hwC]
    have QC := Lib.hid ((((P9.out.set (i := 5) (by omega) (.int .i64 a6)).set (i := 6) (by omega) (.int .i64 a7)).set (i := 7) (by omega) (.int .i64 a8)).set (i := 8) (by omega) (.int .i64 a9))
    rw [← hwC] at QC
    clear hwC P9 x5 y5 x6 y6 x7 y7 x8 y8
    have GA := QC
    have GB := QC
    go_upto_region 9 with (first
          | (go_at_call 51; refine (byte_st QC.out.rd E10.out).mono ?_; rintro e v10 ⟨rfl, hr, hg⟩; have P10 := Lib.hid (QC.out.read hr hg); clear hr hg)
          | (have g := GA; clear g; go_at_call 54; refine (int_st P10.out.rd E11.out).mono ?_; rintro e v11 ⟨rfl, hr, hg⟩; have P11 := Lib.hid (P10.out.read hr hg); clear hr hg; clear GA)
          | (have g := GB; clear g; go_at_call 54; refine (int_st P11.out.rd E12.out).mono ?_; rintro e v12 ⟨rfl, hr, hg⟩; have P12 := Lib.hid (P11.out.read hr hg); clear hr hg; obtain ⟨x9, y9⟩ := P12.out.cell 9 rfl; obtain ⟨x10, y10⟩ := P12.out.cell 10 rfl; obtain ⟨x11, y11⟩ := P12.out.cell 11 rfl; clear GB))
    obtain ⟨wD, hwD⟩ : ∃ W, W = (((v12.setCell ⟨r, 9, none⟩ (.int .u8 a10)).setCell ⟨r, 10, none⟩ (.int .i64 a11)).setCell ⟨r, 11, none⟩ (.int .i64 a12)) := ⟨_, rfl⟩
    rw [← hwD]
    have QD := Lib.hid (((P12.out.set (i := 9) (by omega) (.int .u8 a10)).set (i := 10) (by omega) (.int .i64 a11)).set (i := 11) (by omega) (.int .i64 a12))
    rw [← hwD] at QD
    clear hwD P12 x9 y9 x10 y10 x11 y11
    have QX0 := Lib.hid (show PS (RdP b ⟨W2.heap.size, b⟩) W1 wD r b (b + 1) 12 s12 (qc ⟨a1, AT, a2.length, cT, a2, strOfNums a3, strOfNums a4, strOfNums a5, a6, a7, a8, a9, a10, a11, a12⟩) (.slice AT a2.length cT) a2 from QD.out)
    obtain ⟨x, hx⟩ : ∃ x : QX, x = ⟨a1, AT, a2.length, cT, a2, strOfNums a3, strOfNums a4, strOfNums a5, a6, a7, a8, a9, a10, a11, a12⟩ := ⟨_, rfl⟩
    have OW : Hid (wD.ownsRow (b + 1) 5 1 (.slice x.A x.tl x.tc) x.tl (vals x.tok)) := Lib.hid (by
      obtain ⟨A0, c0, h0, ho, _⟩ := QD.out.tok
      injection h0 with h1 h2 h3
      subst h1 h3
      rw [hx]; exact ho)
    have OX : Hid (QOk wD wD.heap.size x) := Lib.hid (by
      obtain ⟨A0, c0, h0, ho, h4, h5⟩ := QD.out.tok
      injection h0 with h1 h2 h3
      subst h1 h3
      rw [hx]
      exact ⟨g1, g6, g7, g8, g9, g10, g11, g12, h4, h5, bs_of_own ho g2.1⟩)
    rw [← hx] at QX0
    have HP2 : Hid (parseQ bs = if endZ s12.1 s12.2 = 0 ∧ mayB x.z = true then (x.z, 0) else (z0, 150)) := Lib.hid (by rw [HP.out, hx]; rfl)
    clear QD hx HP g1 g2 g3 g4 g5 g6 g7 g8 g9 g10 g11 g12 t0 t1 t2 t3 t4 t5 t6 t7 t8 t9 t10 t11 t12 E1 E2 E3 E4 E5 E6 E7 E8 E9 E10 E11 E12 HR
    have V9 := Lib.hid (V1.out.below QX0.out.below (by rw [z1.out]; omega))
    have BD := Lib.hid (b1.out.trans (QX0.out.below.mono b1.out.size))
    have gD : Hid (g < wD.heap.size ∧ w.heap.size ≤ b + 1) := Lib.hid (by have h1 := QX0.out.below.size; rw [z1.out] at h1; have h2 := QX0.out.bl; rw [z1.out] at h2; have h3 := HG.out; omega)
    obtain ⟨z, hz⟩ : ∃ z, endZ s12.1 s12.2 = z := ⟨_, rfl⟩
    have EM := Lib.hid (end_st QX0.out.rd z hz)
    rw [hz] at HP2
    clear hz
    by_cases hz0 : z = 0
    · subst hz0
      obtain ⟨q, hq⟩ : ∃ q, mayB x.z = q := ⟨_, rfl⟩
      have MM := Lib.hid (fun w => may_any (w := w) q OX.out.tok.len hq)
      rw [hq] at HP2
      clear hq
      cases q with
      | false =>
        have HP3 : Hid (parseQ bs = (z0, 150)) := Lib.hid (by rw [HP2.out]; simp)
        go_upto_region 10 with (first
              | (go_at_call 55; refine EM.out.mono ?_; rintro e v13 ⟨rfl, rfl⟩)
              | (show wpList _ _ _ (⟨some 51, .load 26 (.tmp 4), _, _, _, some (3, false)⟩ :: _) _ _; refine wpList_load_guard (op := ⟨some 51, .load 26 (.tmp 4), _, _, _, some (3, false)⟩) (by rfl) 26 (.tmp 4) rfl (r) 0 rfl (qc x) _ (QX0.out.box.range) Try.underlying26 rfl (q_size x) ?_)
              | (go_at_call 15; refine (MM.out _).mono ?_; rintro e w10 ⟨rfl, hb⟩; have B10 := Lib.hid hb; clear hb))
        have VT := Lib.hid (vthere (V9.out.grow B10.out) (us := qc q0) rfl)
        go_wp2_with (first
              | (show wpList _ _ _ (⟨some 55, .build 26 #[], _, _, _, _⟩ :: _) _ _; refine wpList_exec (op := ⟨some 55, .build 26 #[], _, _, _, _⟩) rfl (.agg (qc q0).toArray) (by exact exec_q0 rfl rfl) ?_)
              | (show wpList _ _ _ (⟨none, .store 26 (.tmp 2) (.tmp 55), _, _, _, _⟩ :: _) _ _; refine wpList_store_as (op := ⟨none, .store 26 (.tmp 2) (.tmp 55), _, _, _, _⟩) rfl 26 (.tmp 2) (.tmp 55) rfl (g) 0 (qc q0).toArray rfl rfl (VT.out) (q_sizeA q0) (q_oneA q0) ?_; intro w9 hw9))
        obtain ⟨V11, b11⟩ := vstored (V9.out.grow B10.out) (qc_len q0) hw9 (by rw [HG.out]; exact Nat.le_refl _) (BD.out.trans (B10.out.mono BD.out.size))
        exact bodyPost_ret (v := .tuple #[.agg (qc q0).toArray, .int .i64 150]) (results_mid_tmp (p := 2) (u := 3) (ty := 26) rfl _ _ g 0 (qc q0) _ rfl V11.range Try.underlying26 rfl (q_size q0)) rfl (by rw [HP3.out]; exact reads_zero 150 b11)
      | true =>
        have HP3 : Hid (parseQ bs = (x.z, 0)) := Lib.hid (by rw [HP2.out]; simp)
        go_upto_region 11 with (first
              | (go_at_call 55; refine EM.out.mono ?_; rintro e v13 ⟨rfl, rfl⟩)
              | (show wpList _ _ _ (⟨some 51, .load 26 (.tmp 4), _, _, _, some (3, false)⟩ :: _) _ _; refine wpList_load_guard (op := ⟨some 51, .load 26 (.tmp 4), _, _, _, some (3, false)⟩) (by rfl) 26 (.tmp 4) rfl (r) 0 rfl (qc x) _ (QX0.out.box.range) Try.underlying26 rfl (q_size x) ?_)
              | (go_at_call 15; refine (MM.out _).mono ?_; rintro e w10 ⟨rfl, hb⟩; have B10 := Lib.hid hb; clear hb))
        have VT := Lib.hid (vthere (V9.out.grow B10.out) (us := qc x) rfl)
        have VR := Lib.hid (QX0.out.box.grow B10.out)
        go_wp2_with (first
              | (show wpList _ _ _ (⟨some 56, .load 26 (.tmp 4), _, _, _, _⟩ :: _) _ _; refine wpList_load_mid (op := ⟨some 56, .load 26 (.tmp 4), _, _, _, _⟩) rfl 26 (.tmp 4) rfl (r) 0 rfl (qc x) _ (VR.out.range) Try.underlying26 rfl (q_size x) ?_)
              | (show wpList _ _ _ (⟨none, .store 26 (.tmp 2) (.tmp 56), _, _, _, _⟩ :: _) _ _; refine wpList_store_as (op := ⟨none, .store 26 (.tmp 2) (.tmp 56), _, _, _, _⟩) rfl 26 (.tmp 2) (.tmp 56) rfl (g) 0 (qc x).toArray rfl rfl (VT.out) (q_sizeA x) (q_oneA x) ?_; intro w9 hw9))
        obtain ⟨V11, b11⟩ := vstored (V9.out.grow B10.out) (qc_len x) hw9 (by rw [HG.out]; exact Nat.le_refl _) (BD.out.trans (B10.out.mono BD.out.size))
        have hk : ∀ k, k ≠ g → w9.heap[k]? = w10.heap[k]? := fun k hk => by rw [hw9.out]; exact heap_setCells g k hk _ _ _
        have sz : w9.heap.size = w10.heap.size := by rw [hw9.out]; exact size_setCellsQ _ _ _ _
        have OW2 := own_below OW.out B10.out (Nat.le_refl _)
        have OW3 : w9.ownsRow w.heap.size 5 1 (.slice x.A x.tl x.tc) x.tl (vals x.tok) := own_base (own_keepB OW2 (fun k h1 h2 => hk k (by have := QX0.out.bl; rw [z1.out] at this; omega))) gD.out.2
        have OX3 : QOk w9 w9.heap.size x := by
          have h0 := OX.out
          exact ⟨h0.op, h0.n, h0.tn, h0.ks, h0.sp, h0.rt, h0.ex, h0.sr, h0.tc, h0.tm, bs_of_own OW3 h0.tok.isBytes⟩
        exact bodyPost_ret (v := .tuple #[.agg (qc x).toArray, .int .i64 0]) (results_mid_tmp (p := 2) (u := 3) (ty := 26) rfl _ _ g 0 (qc x) _ rfl V11.range Try.underlying26 rfl (q_size x)) rfl (by rw [HP3.out]; exact ⟨x, rfl, rfl, OX3, OW3, b11⟩)
    · have HP3 : Hid (parseQ bs = (z0, 150)) := Lib.hid (by rw [HP2.out, if_neg (fun h => hz0 h.1)])
      have hzb : (z != 0) = true := by simpa using hz0
      have VT := Lib.hid (vthere V9.out (us := qc q0) rfl)
      clear hz0
      go_wp2_with (first
            | (go_at_call 55; refine EM.out.mono ?_; rintro e v13 ⟨rfl, rfl⟩)
            | (show wpList _ _ _ (⟨some 55, .build 26 #[], _, _, _, _⟩ :: _) _ _; refine wpList_exec (op := ⟨some 55, .build 26 #[], _, _, _, _⟩) rfl (.agg (qc q0).toArray) (by exact exec_q0 rfl rfl) ?_)
            | (show wpList _ _ _ (⟨none, .store 26 (.tmp 2) (.tmp 55), _, _, _, _⟩ :: _) _ _; refine wpList_store_as (op := ⟨none, .store 26 (.tmp 2) (.tmp 55), _, _, _, _⟩) rfl 26 (.tmp 2) (.tmp 55) rfl (g) 0 (qc q0).toArray rfl rfl (VT.out) (q_sizeA q0) (q_oneA q0) ?_; intro w9 hw9))
      obtain ⟨V11, b11⟩ := vstored V9.out (qc_len q0) hw9 (by rw [HG.out]; exact Nat.le_refl _) BD.out
      exact bodyPost_ret (v := .tuple #[.agg (qc q0).toArray, .int .i64 150]) (results_mid_tmp (p := 2) (u := 3) (ty := 26) rfl _ _ g 0 (qc q0) _ rfl V11.range Try.underlying26 rfl (q_size q0)) rfl (by rw [HP3.out]; exact reads_zero 150 b11)
end Go.Proofs.Ytcgclaailhhbpaa
