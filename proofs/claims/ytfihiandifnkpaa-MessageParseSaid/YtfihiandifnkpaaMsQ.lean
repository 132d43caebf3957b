/- Parse: the program's. Printed by gen_msq.py. -/
import Derived.Test.YtfihiandifnkpaaMsP
namespace Go.Proofs.Ytfihiandifnkpaa
open Go.ChangeShapes Go.WideShapes Go.ChangeAt Go.RowKit
set_option linter.unusedVariables false
set_option maxRecDepth 100000
set_option linter.unusedSimpArgs false
open Plain Sha Ms
/-- What Parse tells: a message, an error; its rows stand in new memory. -/
def ParsesM (w : World) (z : MsgZ) (er : Int) (e : Ending) (w' : World) : Prop := ∃ x : MX, e = .returned (.tuple #[.agg (mc x).toArray, .int .i64 er]) ∧ x.z = z ∧ MXOk w' w'.heap.size x ∧ NewM w' w.heap.size x ∧ Below w.heap.size w w'
theorem parses0 {w w' : World} (hb : Below w.heap.size w w') : ParsesM w mz0 200 (.returned (.tuple #[.agg (mc mx0).toArray, .int .i64 200])) w' :=
  ⟨mx0, rfl, rfl, mx0_ok _ _, ⟨World.ownsRow_nil _ _ _ _, World.ownsRow_nil _ _ _ _, fun x hx => (by cases hx), World.ownsRow_nil _ _ _ _⟩, hb⟩
theorem may_own {k : Int} {s : St} (h : kindB k = false) : mayM (ownR k s).1 = false := by
  unfold mayM
  rw [own_kind, h]; rfl
theorem parseM_of {bs : List Int} {k : Int} {s1 : St} (e : rByte (0, bs) = (k, s1)) : parseM bs = if endZ (ownR k s1).2.1 (ownR k s1).2.2 = 0 ∧ mayM (ownR k s1).1 = true then ((ownR k s1).1, 0) else (mz0, 200) := by
  unfold parseM msgR
  rw [e]
/-- A message's rows as another message's, but for its Kind. -/
theorem NewM.kind {w : World} {m : Nat} {x : MX} (h : NewM w m x) (k : Int) : NewM w m { x with kind := k } := ⟨h.body, h.es, h.bo, h.ms⟩
theorem MXOk.setKind {w : World} {B : Nat} {x : MX} (h : MXOk w B x) {k : Int} (hk : 0 ≤ k ∧ k < 256) : MXOk w B { x with kind := k } :=
  ⟨hk, h.client, h.id, h.cap, h.max, h.body, h.upto, h.frm, h.ecap, h.emax, h.es, h.hav, h.don, h.ep, h.mcap, h.mmax, h.ms, h.since⟩
theorem NewM.ok {w : World} {B m : Nat} {w' : World} {x : MX} (n : NewM w' m x) (h : MXOk w B x) : MXOk w' w'.heap.size x :=
  ⟨h.kind, h.client, h.id, h.cap, h.max, bs_of_own n.body h.body.isBytes, h.upto, h.frm, h.ecap, h.emax, ⟨rws_of_own ec_len (by omega) n.es, fun y hy => by
    have k := h.es.ok y hy
    exact ⟨k.pos, k.stamp, k.client, k.id, k.cap, k.max, bs_of_own (n.bo y hy) k.body.isBytes⟩⟩, h.hav, h.don, h.ep, h.mcap, h.mmax, ⟨rws_of_own bc_len (by omega) n.ms, h.ms.ok⟩, h.since⟩
theorem NewM.keep {w w' : World} {m : Nat} {x : MX} (n : NewM w m x) (hk : ∀ g, m ≤ g → g < w.heap.size → w'.heap[g]? = w.heap[g]?) : NewM w' m x := ⟨own_keepB n.body hk, own_keepB n.es hk, n.bo.keep hk, own_keepB n.ms hk⟩
theorem NewM.base {w : World} {m m' : Nat} {x : MX} (n : NewM w m x) (hm : m' ≤ m) : NewM w m' x := ⟨own_base n.body hm, own_base n.es hm, fun y hy => own_base (n.bo y hy) hm, own_base n.ms hm⟩
set_option maxHeartbeats 8000000 in
theorem parse_no {w : World} {B n c : Nat} {A : Option Addr} {bs : List Int} {k : Int} {s1 : St} (h : Bs w B A n bs) (hB : B ≤ w.heap.size) (hn : n ≤ 65536) (e1 : rByte (0, bs) = (k, s1)) (hk : kindB k = false) : Calls Try.prog 18 #[.slice A n c] w (ParsesM w mz0 200) := by
  obtain ⟨W1, hW1⟩ : ∃ W, W = w.alloc (.cells #[.int .u8 0, .int .i64 0, .int .i64 0, .slice none 0 0, .int .i64 0, .int .i64 0, .slice none 0 0, .int .i64 0, .int .i64 0, .int .i64 0, .slice none 0 0, .int .i64 0] 28) := ⟨_, rfl⟩
  obtain ⟨g, hg⟩ : ∃ g, w.heap.size = g := ⟨_, rfl⟩
  have Hg := Lib.hid hg
  have b1 := Lib.hid (show Below w.heap.size w W1 by rw [hW1]; exact below_one _ _)
  have V1 := Lib.hid (show VBox W1 g 12 (mc mx0) by rw [hW1]; exact vbox_new _ (mc mx0) _ _ _ hg rfl (by omega))
  have HW1 := Lib.hid hW1
  have NR := Lib.hid (newreader_any (w := W1) c (h.belowM b1.out hB) (Nat.le_trans hB b1.out.size) (by omega))
  have HW : Hid (newWhy bs = (0, bs)) := Lib.hid (by unfold newWhy; rw [if_pos (by rw [h.len]; omega)])
  have T0 : StM (0, bs) := ⟨h.isBytes, by rw [h.len]; omega⟩
  clear hW1 hg h
  have E1 := Lib.hid e1
  have KO := Lib.hid (fun W => show Calls Try.prog 41 #[.int .u8 k] W (fun e w' => e = .returned (.tuple #[.agg #[.nilFunc, .nilFunc, .nilFunc, .nilFunc], .bool false]) ∧ Below W.heap.size W w') from by have := kindof_any k W; rw [hk, kcell_no hk] at this; exact this)
  have hst := fun (p : Addr) (W : World) => run_store Try.prog W p .nilFunc .plain rfl
  clear e1 hk hB hn T0
  go_enter Try.func18, Try.ntmps18
  go_upto_region 1 with fail
  rw [← HW1.out, Hg.out]
  go_upto_region 2 with (go_at_call 33; refine NR.out.mono ?_; rintro e w3 ⟨b, rfl, hrd, hbl, hb⟩; rw [HW.out] at hrd; have B3 := Lib.hid hb; have BL := Lib.hid hbl; have R3 := Lib.hid (show RdP b ⟨W1.heap.size, b⟩ w3 (0, bs) from hrd); clear hrd hbl hb)
  have V3 := Lib.hid (V1.out.grow B3.out)
  have lt3 := Lib.hid (Rd.lt R3.out)
  have gb : g < b := Nat.lt_of_lt_of_le V1.out.lt BL.out
  go_upto_region 3 with (go_at_call 56; refine (byte_st R3.out E1.out).mono ?_; rintro e w4 ⟨rfl, hr, hg⟩; have R4 := Lib.hid hr; have G4 := Lib.hid hg; clear hr hg)
  have V4 := Lib.hid (V3.out.same (G4.out.block g V3.out.lt (fun e => by injection e with e; omega)))
  have B4 := Lib.hid (show Below W1.heap.size W1 w4 from B3.out.trans (below_of_grown G4.out B3.out.size (fun j hj => by injection hj with hj; have := BL.out; omega)))
  go_upto_region 4 with (go_at_call 41; refine (KO.out _).mono ?_; rintro e w5 ⟨rfl, hb⟩; have B5 := Lib.hid hb; clear hb)
  obtain ⟨w6, hw6⟩ : ∃ W, W = w5.alloc (.cells #[.nilFunc, .nilFunc, .nilFunc, .nilFunc] 71) := ⟨_, rfl⟩
  have V6 := Lib.hid (show VBox w6 g 12 (mc mx0) by rw [hw6]; exact (V4.out.grow B5.out).grow (below_one _ _))
  have B6 := Lib.hid (show Below w.heap.size w w6 by rw [hw6]; exact b1.out.trans ((B4.out.trans ((B5.out.trans ((below_one _ _).mono B5.out.size)).mono B4.out.size)).mono b1.out.size))
  rw [← hw6]
  clear hw6 hst
  have VT := Lib.hid (vthere V6.out (us := mc mx0) rfl)
  go_upto_region 5 with fail
  go_wp2_with (first
        | (with_reducible show wpList _ _ _ (⟨some 20, .build 28 #[], _, _, _, _⟩ :: _) _ _; refine wpList_exec (op := ⟨some 20, .build 28 #[], _, _, _, _⟩) rfl (.agg (mc mx0).toArray) (by exact exec_bm0 rfl (build_m0 _)) ?_)
        | (with_reducible show wpList _ _ _ (⟨none, .store 28 (.tmp 2) (.tmp 20), _, _, _, _⟩ :: _) _ _; refine wpList_store_as (op := ⟨none, .store 28 (.tmp 2) (.tmp 20), _, _, _, _⟩) rfl 28 (.tmp 2) (.tmp 20) rfl (g) 0 (mc mx0).toArray rfl rfl (VT.out) (m_sizeA _) (m_oneA _) ?_; intro w9 hw9))
  have e9 := hw9.out
  have V9 := V6.out.store (us := mc mx0) rfl hw9
  have b9 : Below w.heap.size w w9 := by rw [e9]; exact below_setCells (by rw [Hg.out]; exact Nat.le_refl _) _ _ _ B6.out
  exact bodyPost_ret (v := .tuple #[.agg (mc mx0).toArray, .int .i64 200]) (results_mid_tmp (p := 2) (u := 3) (ty := 28) rfl _ _ g 0 (mc mx0) _ rfl V9.range Try.underlying28 rfl (m_size _)) rfl (parses0 b9)
set_option maxHeartbeats 8000000 in
theorem parse_yes1 {w : World} {B n c : Nat} {A : Option Addr} {bs : List Int} {s1 : St} (h : Bs w B A n bs) (hB : B ≤ w.heap.size) (hn : n ≤ 65536) (e1 : rByte (0, bs) = (1, s1)) : Calls Try.prog 18 #[.slice A n c] w (ParsesM w (parseM bs).1 (parseM bs).2) := by
  obtain ⟨W1, hW1⟩ : ∃ W, W = w.alloc (.cells #[.int .u8 0, .int .i64 0, .int .i64 0, .slice none 0 0, .int .i64 0, .int .i64 0, .slice none 0 0, .int .i64 0, .int .i64 0, .int .i64 0, .slice none 0 0, .int .i64 0] 28) := ⟨_, rfl⟩
  obtain ⟨g, hg⟩ : ∃ g, w.heap.size = g := ⟨_, rfl⟩
  have Hg := Lib.hid hg
  have b1 := Lib.hid (show Below w.heap.size w W1 by rw [hW1]; exact below_one _ _)
  have V1 := Lib.hid (show VBox W1 g 12 (mc mx0) by rw [hW1]; exact vbox_new _ (mc mx0) _ _ _ hg rfl (by omega))
  have HW1 := Lib.hid hW1
  have NR := Lib.hid (newreader_any (w := W1) c (h.belowM b1.out hB) (Nat.le_trans hB b1.out.size) (by omega))
  have HW : Hid (newWhy bs = (0, bs)) := Lib.hid (by unfold newWhy; rw [if_pos (by rw [h.len]; omega)])
  have T0 : StM (0, bs) := ⟨h.isBytes, by rw [h.len]; omega⟩
  clear hW1 hg h
  obtain ⟨g1, t1⟩ := byte_rm T0 e1
  have HP := Lib.hid (parseM_of e1)
  have E1 := Lib.hid e1
  obtain ⟨PM, hPM⟩ : ∃ p, parseM bs = p := ⟨_, rfl⟩
  rw [hPM] at HP ⊢
  have KO := Lib.hid (fun W => show Calls Try.prog 41 #[.int .u8 1] W (fun e w' => e = .returned (.tuple #[.agg #[.func (.func 90) #[] #[], .func (.func 91) #[] #[], .func (.func 92) #[] #[], .func (.func 93) #[] #[]], .bool true]) ∧ Below W.heap.size W w') from kindof_any 1 W)
  have hst := fun (f : Fn) (p : Addr) (W : World) => run_store Try.prog W p (.func f #[] #[]) .plain rfl
  clear e1 hn T0 hPM
  go_enter Try.func18, Try.ntmps18
  go_upto_region 1 with fail
  rw [← HW1.out, Hg.out]
  go_upto_region 2 with (go_at_call 33; refine NR.out.mono ?_; rintro e w3 ⟨b, rfl, hrd, hbl, hb⟩; rw [HW.out] at hrd; have B3 := Lib.hid hb; have BL := Lib.hid hbl; have R3 := Lib.hid (show RdP b ⟨W1.heap.size, b⟩ w3 (0, bs) from hrd); clear hrd hbl hb)
  have V3 := Lib.hid (V1.out.grow B3.out)
  have lt3 := Lib.hid (Rd.lt R3.out)
  have gb : g < b := Nat.lt_of_lt_of_le V1.out.lt BL.out
  go_upto_region 3 with (go_at_call 56; refine (byte_st R3.out E1.out).mono ?_; rintro e w4 ⟨rfl, hr, hg⟩; have R4 := Lib.hid hr; have G4 := Lib.hid hg; clear hr hg)
  have V4 := Lib.hid (V3.out.same (G4.out.block g V3.out.lt (fun e => by injection e with e; omega)))
  have B4 := Lib.hid (show Below W1.heap.size W1 w4 from B3.out.trans (below_of_grown G4.out B3.out.size (fun j hj => by injection hj with hj; have := BL.out; omega)))
  go_upto_region 4 with (go_at_call 41; refine (KO.out _).mono ?_; rintro e w5 ⟨rfl, hb⟩; have B5 := Lib.hid hb; clear hb)
  obtain ⟨w6, hw6⟩ : ∃ W, W = w5.alloc (.cells #[.func (.func 90) #[] #[], .func (.func 91) #[] #[], .func (.func 92) #[] #[], .func (.func 93) #[] #[]] 71) := ⟨_, rfl⟩
  have b6 := Lib.hid (show Below w5.heap.size w5 w6 by rw [hw6]; exact below_one _ _)
  have B6 := Lib.hid (B5.out.trans (b6.out.mono B5.out.size))
  have V6 := Lib.hid (V4.out.grow B6.out)
  have K6 := Lib.hid (show VBox w6 w5.heap.size 4 kc1 by rw [hw6]; exact vbox_new w5 kc1 _ _ 4 rfl rfl (by omega))
  have lt4 : b < w4.heap.size := Rd.lt R4.out
  have RK := Lib.hid (rdk_P (B := ⟨W1.heap.size, b⟩) lt4)
  have R6 := Lib.hid (RK.out.keep w4 w6 _ none R4.out (grown_of_below B6.out none) (fun j hj => by cases hj))
  have B16 := Lib.hid (show Below w.heap.size w w6 from b1.out.trans ((B4.out.trans (B6.out.mono B4.out.size)).mono b1.out.size))
  have hg5 : w4.heap.size ≤ w5.heap.size := B5.out.size
  obtain ⟨g5, hg5'⟩ : ∃ b, w5.heap.size = b := ⟨_, rfl⟩
  rw [← hw6, hg5']
  rw [hg5'] at K6 hg5
  clear hw6 hst hg5'
  have x3 := K6.out.at1 (i := 3) rfl
  have RC := Lib.hid (rk1 w6 b ⟨W1.heap.size, b⟩ s1 R6.out t1)
  unfold fv at x3
  go_upto_region 7 with (go_at_call 93; refine RC.out.mono ?_; rintro e w7 ⟨x, he, hz, hr, hg, hnw, hok⟩; have he : e = .returned (.agg #[.int .u8 x.kind, .int .i64 x.client, .int .i64 x.id, .slice x.A x.n x.c, .int .i64 x.upto, .int .i64 x.frm, .slice x.EA x.en x.ecp, .int .i64 x.hav, .int .i64 x.don, .int .i64 x.ep, .slice x.MA x.mn x.mcp, .int .i64 x.since]) := he; subst he; have R7 := Lib.hid hr; have G7 := Lib.hid hg; have HZ := Lib.hid hz; have NW := Lib.hid hnw; have OK := Lib.hid hok; clear hr hg hz hnw hok)
  obtain ⟨w8, hw8⟩ : ∃ W, W = w7.alloc (.cells #[.int .u8 x.kind, .int .i64 x.client, .int .i64 x.id, .slice x.A x.n x.c, .int .i64 x.upto, .int .i64 x.frm, .slice x.EA x.en x.ecp, .int .i64 x.hav, .int .i64 x.don, .int .i64 x.ep, .slice x.MA x.mn x.mcp, .int .i64 x.since] 28) := ⟨_, rfl⟩
  obtain ⟨g8, hg8⟩ : ∃ b, w7.heap.size = b := ⟨_, rfl⟩
  have b8 := Lib.hid (show Below w7.heap.size w7 w8 by rw [hw8]; exact below_one _ _)
  have V8 := Lib.hid (show VBox w8 g8 12 (mc x) by rw [hw8]; exact vbox_new w7 (mc x) _ _ _ hg8 rfl (by omega))
  have lt8 : w6.heap.size ≤ g8 := by rw [← hg8]; exact G7.out.size
  have Hg8 := Lib.hid hg8
  rw [← hw8, hg8]
  clear hw8 hg8 x3
  have y0 := V8.out.at1 (i := 0) rfl
  have f0 := V8.out.fr1 (i := 0) (by omega)
  go_upto_region 8 with fail
  obtain ⟨w9, hw9⟩ : ∃ W, W = w8.setCell ⟨g8, 0, none⟩ (.int .u8 1) := ⟨_, rfl⟩
  obtain ⟨y, hy⟩ : ∃ y : MX, y = { x with kind := 1 } := ⟨_, rfl⟩
  have lt6 : b < w6.heap.size := by have := B6.out.size; omega
  have lg6 : g < w6.heap.size := V6.out.lt
  have G9 := Lib.hid (show w6.grownBy w9 (some b) by rw [hw9]; exact grown_new (grown_new G7.out (grown_of_below b8.out none) (fun j hj => by cases hj)) (grown_cell w8 ⟨g8, 0, none⟩ _) (fun j hj => by injection hj with hj; have : g8 = j := hj; omega))
  have V9 := Lib.hid (show VBox w9 g8 12 (mc y) by rw [hw9, hy]; exact V8.out.set1 (i := 0) (by omega) (.int .u8 1))
  have U9 := Lib.hid (show VBox w9 g 12 (mc mx0) from V6.out.same (G9.out.block g lg6 (fun e => by injection e with e; omega)))
  have R9 := Lib.hid (show RdP b ⟨W1.heap.size, b⟩ w9 (ownR 1 s1).2 by
    have r8 := RK.out.keep w7 w8 _ none R7.out (grown_of_below b8.out none) (fun j hj => by cases hj)
    rw [hw9]
    exact RK.out.keep w8 _ _ (some g8) r8 (grown_cell w8 ⟨g8, 0, none⟩ _) (fun j hj => by injection hj with hj; have := B6.out.size; omega))
  have N9 : Hid (NewM w9 w6.heap.size y) := Lib.hid (by
    have n8 : NewM w8 w6.heap.size x := NW.out.keep (fun j h1 h2 => b8.out.block j h2)
    have hb8 := b8.out.size
    rw [hy]
    refine NewM.kind (NewM.keep (w := w7) NW.out (fun j h1 h2 => ?_)) 1
    rw [hw9]
    exact (Below.heap_setCell _ _ _ _ (by show j ≠ g8; have := Hg8.out; omega)).trans (b8.out.block j h2))
  have O9 : Hid (MXOk w9 w9.heap.size y) := Lib.hid (N9.out.ok (by rw [hy]; exact OK.out.setKind (by omega)))
  have B9 := Lib.hid (show Below w.heap.size w w9 from B16.out.trans (below_of_grown G9.out B16.out.size (fun j hj => by injection hj with hj; have := b1.out.size; have := BL.out; omega)))
  have HY : Hid ((ownR 1 s1).2.1 = 0 → y.z = (ownR 1 s1).1) := Lib.hid (fun h0 => by
    have e := HZ.out h0
    have hk := own_kind 1 s1
    have := kind_back (ownR 1 s1).1 1 hk
    rw [← e] at this
    rw [hy]
    exact this)
  rw [← hw9]
  clear y0 f0 hw9 hy
  obtain ⟨z, hz⟩ : ∃ z, endZ (ownR 1 s1).2.1 (ownR 1 s1).2.2 = z := ⟨_, rfl⟩
  have EM := Lib.hid (end_st R9.out z hz)
  have HEZ := Lib.hid hz
  by_cases hz0 : z = 0
  · obtain ⟨q, hq⟩ : ∃ q, mayM y.z = q := ⟨_, rfl⟩
    subst hz0
    have MM := Lib.hid (may_any q O9.out (Nat.le_refl _) hq)
    have hY := HY.out (endZ_zero HEZ.out).1
    have HMQ : Hid (mayM (ownR 1 s1).1 = q) := Lib.hid (by rw [← hY]; exact hq)
    have HYZ := Lib.hid hY
    clear hq hz hY
    cases q with
    | false =>
      have HP3 : PM = (mz0, 200) := by rw [HP.out, if_neg (fun h => by have := h.2; rw [HMQ.out] at this; cases this)]
      subst HP3
      go_upto_region 9 with (first
            | (go_at_call 36; refine EM.out.mono ?_; rintro e v13 ⟨rfl, rfl⟩)
            | (with_reducible show wpList _ _ _ (⟨some 31, .load 28 (.tmp 8), _, _, _, _⟩ :: _) _ _; refine wpList_load_guardL (op := ⟨some 31, .load 28 (.tmp 8), _, _, _, some (3, false)⟩) (by first | rfl | go_simp) 28 (.tmp 8) rfl (g8) (0) rfl (mc y) _ (V9.out.range) Try.underlying28 rfl (m_size _) ?_)
            | (go_at_call 13; refine MM.out.mono ?_; rintro e w10 ⟨rfl, hb⟩; have B10 := Lib.hid hb; clear hb))
      have U10 := Lib.hid (U9.out.grow B10.out)
      have VT := Lib.hid (vthere U10.out (us := mc mx0) rfl)
      go_wp2_with (first
        | (with_reducible show wpList _ _ _ (⟨some 35, .build 28 #[], _, _, _, _⟩ :: _) _ _; refine wpList_exec (op := ⟨some 35, .build 28 #[], _, _, _, _⟩) rfl (.agg (mc mx0).toArray) (by exact exec_bm0 rfl (build_m0 _)) ?_)
        | (with_reducible show wpList _ _ _ (⟨none, .store 28 (.tmp 2) (.tmp 35), _, _, _, _⟩ :: _) _ _; refine wpList_store_as (op := ⟨none, .store 28 (.tmp 2) (.tmp 35), _, _, _, _⟩) rfl 28 (.tmp 2) (.tmp 35) rfl (g) 0 (mc mx0).toArray rfl rfl (VT.out) (m_sizeA _) (m_oneA _) ?_; intro w9 hw9))
      have e9 := hw9.out
      have V9 := U10.out.store (us := mc mx0) rfl hw9
      have b9 : Below w.heap.size w w9 := by rw [e9]; exact below_setCells (by rw [Hg.out]; exact Nat.le_refl _) _ _ _ (B9.out.trans (B10.out.mono B9.out.size))
      exact bodyPost_ret (v := .tuple #[.agg (mc mx0).toArray, .int .i64 200]) (results_mid_tmp (p := 2) (u := 3) (ty := 28) rfl _ _ g 0 (mc mx0) _ rfl V9.range Try.underlying28 rfl (m_size _)) rfl (parses0 b9)
    | true =>
      have HP3 : PM = (y.z, 0) := by rw [HP.out, if_pos ⟨HEZ.out, HMQ.out⟩, HYZ.out]
      subst HP3
      go_upto_region 10 with (first
            | (go_at_call 36; refine EM.out.mono ?_; rintro e v13 ⟨rfl, rfl⟩)
            | (with_reducible show wpList _ _ _ (⟨some 31, .load 28 (.tmp 8), _, _, _, _⟩ :: _) _ _; refine wpList_load_guardL (op := ⟨some 31, .load 28 (.tmp 8), _, _, _, some (3, false)⟩) (by first | rfl | go_simp) 28 (.tmp 8) rfl (g8) (0) rfl (mc y) _ (V9.out.range) Try.underlying28 rfl (m_size _) ?_)
            | (go_at_call 13; refine MM.out.mono ?_; rintro e w10 ⟨rfl, hb⟩; have B10 := Lib.hid hb; clear hb))
      have U10 := Lib.hid (U9.out.grow B10.out)
      have VX := Lib.hid (V9.out.grow B10.out)
      have VT := Lib.hid (vthere U10.out (us := mc y) rfl)
      go_wp2_with (first
        | (with_reducible show wpList _ _ _ (⟨some 36, .load 28 (.tmp 8), _, _, _, _⟩ :: _) _ _; refine wpList_load_mid (op := ⟨some 36, .load 28 (.tmp 8), _, _, _, _⟩) rfl 28 (.tmp 8) rfl (g8) (0) rfl (mc y) _ (VX.out.range) Try.underlying28 rfl (m_size _) ?_)
        | (with_reducible show wpList _ _ _ (⟨none, .store 28 (.tmp 2) (.tmp 36), _, _, _, _⟩ :: _) _ _; refine wpList_store_as (op := ⟨none, .store 28 (.tmp 2) (.tmp 36), _, _, _, _⟩) rfl 28 (.tmp 2) (.tmp 36) rfl (g) 0 (mc y).toArray rfl rfl (VT.out) (m_sizeA _) (m_oneA _) ?_; intro w11 hw11))
      have e9 := hw11.out
      have V11 := U10.out.store (us := mc y) rfl hw11
      have b11 : Below w.heap.size w w11 := by rw [e9]; exact below_setCells (by rw [Hg.out]; exact Nat.le_refl _) _ _ _ (B9.out.trans (B10.out.mono B9.out.size))
      have n11 : NewM w11 w6.heap.size y := NewM.keep (w := w9) N9.out (fun j h1 h2 => by rw [e9]; exact (heap_setCells g j (by omega) _ _ _).trans (B10.out.block j h2))
      have o11 : MXOk w11 w11.heap.size y := n11.ok O9.out
      exact bodyPost_ret (v := .tuple #[.agg (mc y).toArray, .int .i64 0]) (results_mid_tmp (p := 2) (u := 3) (ty := 28) rfl _ _ g 0 (mc y) _ rfl V11.range Try.underlying28 rfl (m_size _)) rfl ⟨y, rfl, rfl, o11, n11.base B16.out.size, b11⟩
  · have HP3 : PM = (mz0, 200) := by rw [HP.out, if_neg (fun h => hz0 (by rw [← HEZ.out]; exact h.1))]
    subst HP3
    have hzb : (z != 0) = true := by simpa using hz0
    have VT := Lib.hid (vthere U9.out (us := mc mx0) rfl)
    clear hz0 hz
    go_upto_region 9 with (go_at_call 36; refine EM.out.mono ?_; rintro e v13 ⟨rfl, rfl⟩)
    go_wp2_with (first
        | (with_reducible show wpList _ _ _ (⟨some 35, .build 28 #[], _, _, _, _⟩ :: _) _ _; refine wpList_exec (op := ⟨some 35, .build 28 #[], _, _, _, _⟩) rfl (.agg (mc mx0).toArray) (by exact exec_bm0 rfl (build_m0 _)) ?_)
        | (with_reducible show wpList _ _ _ (⟨none, .store 28 (.tmp 2) (.tmp 35), _, _, _, _⟩ :: _) _ _; refine wpList_store_as (op := ⟨none, .store 28 (.tmp 2) (.tmp 35), _, _, _, _⟩) rfl 28 (.tmp 2) (.tmp 35) rfl (g) 0 (mc mx0).toArray rfl rfl (VT.out) (m_sizeA _) (m_oneA _) ?_; intro w10 hw10))
    have e9 := hw10.out
    have V9 := U9.out.store (us := mc mx0) rfl hw10
    have b9 : Below w.heap.size w w10 := by rw [e9]; exact below_setCells (by rw [Hg.out]; exact Nat.le_refl _) _ _ _ B9.out
    exact bodyPost_ret (v := .tuple #[.agg (mc mx0).toArray, .int .i64 200]) (results_mid_tmp (p := 2) (u := 3) (ty := 28) rfl _ _ g 0 (mc mx0) _ rfl V9.range Try.underlying28 rfl (m_size _)) rfl (parses0 b9)
set_option maxHeartbeats 8000000 in
theorem parse_yes2 {w : World} {B n c : Nat} {A : Option Addr} {bs : List Int} {s1 : St} (h : Bs w B A n bs) (hB : B ≤ w.heap.size) (hn : n ≤ 65536) (e1 : rByte (0, bs) = (2, s1)) : Calls Try.prog 18 #[.slice A n c] w (ParsesM w (parseM bs).1 (parseM bs).2) := by
  obtain ⟨W1, hW1⟩ : ∃ W, W = w.alloc (.cells #[.int .u8 0, .int .i64 0, .int .i64 0, .slice none 0 0, .int .i64 0, .int .i64 0, .slice none 0 0, .int .i64 0, .int .i64 0, .int .i64 0, .slice none 0 0, .int .i64 0] 28) := ⟨_, rfl⟩
  obtain ⟨g, hg⟩ : ∃ g, w.heap.size = g := ⟨_, rfl⟩
  have Hg := Lib.hid hg
  have b1 := Lib.hid (show Below w.heap.size w W1 by rw [hW1]; exact below_one _ _)
  have V1 := Lib.hid (show VBox W1 g 12 (mc mx0) by rw [hW1]; exact vbox_new _ (mc mx0) _ _ _ hg rfl (by omega))
  have HW1 := Lib.hid hW1
  have NR := Lib.hid (newreader_any (w := W1) c (h.belowM b1.out hB) (Nat.le_trans hB b1.out.size) (by omega))
  have HW : Hid (newWhy bs = (0, bs)) := Lib.hid (by unfold newWhy; rw [if_pos (by rw [h.len]; omega)])
  have T0 : StM (0, bs) := ⟨h.isBytes, by rw [h.len]; omega⟩
  clear hW1 hg h
  obtain ⟨g1, t1⟩ := byte_rm T0 e1
  have HP := Lib.hid (parseM_of e1)
  have E1 := Lib.hid e1
  obtain ⟨PM, hPM⟩ : ∃ p, parseM bs = p := ⟨_, rfl⟩
  rw [hPM] at HP ⊢
  have KO := Lib.hid (fun W => show Calls Try.prog 41 #[.int .u8 2] W (fun e w' => e = .returned (.tuple #[.agg #[.func (.func 94) #[] #[], .func (.func 95) #[] #[], .func (.func 96) #[] #[], .func (.func 97) #[] #[]], .bool true]) ∧ Below W.heap.size W w') from kindof_any 2 W)
  have hst := fun (f : Fn) (p : Addr) (W : World) => run_store Try.prog W p (.func f #[] #[]) .plain rfl
  clear e1 hn T0 hPM
  go_enter Try.func18, Try.ntmps18
  go_upto_region 1 with fail
  rw [← HW1.out, Hg.out]
  go_upto_region 2 with (go_at_call 33; refine NR.out.mono ?_; rintro e w3 ⟨b, rfl, hrd, hbl, hb⟩; rw [HW.out] at hrd; have B3 := Lib.hid hb; have BL := Lib.hid hbl; have R3 := Lib.hid (show RdP b ⟨W1.heap.size, b⟩ w3 (0, bs) from hrd); clear hrd hbl hb)
  have V3 := Lib.hid (V1.out.grow B3.out)
  have lt3 := Lib.hid (Rd.lt R3.out)
  have gb : g < b := Nat.lt_of_lt_of_le V1.out.lt BL.out
  go_upto_region 3 with (go_at_call 56; refine (byte_st R3.out E1.out).mono ?_; rintro e w4 ⟨rfl, hr, hg⟩; have R4 := Lib.hid hr; have G4 := Lib.hid hg; clear hr hg)
  have V4 := Lib.hid (V3.out.same (G4.out.block g V3.out.lt (fun e => by injection e with e; omega)))
  have B4 := Lib.hid (show Below W1.heap.size W1 w4 from B3.out.trans (below_of_grown G4.out B3.out.size (fun j hj => by injection hj with hj; have := BL.out; omega)))
  go_upto_region 4 with (go_at_call 41; refine (KO.out _).mono ?_; rintro e w5 ⟨rfl, hb⟩; have B5 := Lib.hid hb; clear hb)
  obtain ⟨w6, hw6⟩ : ∃ W, W = w5.alloc (.cells #[.func (.func 94) #[] #[], .func (.func 95) #[] #[], .func (.func 96) #[] #[], .func (.func 97) #[] #[]] 71) := ⟨_, rfl⟩
  have b6 := Lib.hid (show Below w5.heap.size w5 w6 by rw [hw6]; exact below_one _ _)
  have B6 := Lib.hid (B5.out.trans (b6.out.mono B5.out.size))
  have V6 := Lib.hid (V4.out.grow B6.out)
  have K6 := Lib.hid (show VBox w6 w5.heap.size 4 kc2 by rw [hw6]; exact vbox_new w5 kc2 _ _ 4 rfl rfl (by omega))
  have lt4 : b < w4.heap.size := Rd.lt R4.out
  have RK := Lib.hid (rdk_P (B := ⟨W1.heap.size, b⟩) lt4)
  have R6 := Lib.hid (RK.out.keep w4 w6 _ none R4.out (grown_of_below B6.out none) (fun j hj => by cases hj))
  have B16 := Lib.hid (show Below w.heap.size w w6 from b1.out.trans ((B4.out.trans (B6.out.mono B4.out.size)).mono b1.out.size))
  have hg5 : w4.heap.size ≤ w5.heap.size := B5.out.size
  obtain ⟨g5, hg5'⟩ : ∃ b, w5.heap.size = b := ⟨_, rfl⟩
  rw [← hw6, hg5']
  rw [hg5'] at K6 hg5
  clear hw6 hst hg5'
  have x3 := K6.out.at1 (i := 3) rfl
  have RC := Lib.hid (rk2 w6 b ⟨W1.heap.size, b⟩ s1 R6.out t1)
  unfold fv at x3
  go_upto_region 7 with (go_at_call 97; refine RC.out.mono ?_; rintro e w7 ⟨x, he, hz, hr, hg, hnw, hok⟩; have he : e = .returned (.agg #[.int .u8 x.kind, .int .i64 x.client, .int .i64 x.id, .slice x.A x.n x.c, .int .i64 x.upto, .int .i64 x.frm, .slice x.EA x.en x.ecp, .int .i64 x.hav, .int .i64 x.don, .int .i64 x.ep, .slice x.MA x.mn x.mcp, .int .i64 x.since]) := he; subst he; have R7 := Lib.hid hr; have G7 := Lib.hid hg; have HZ := Lib.hid hz; have NW := Lib.hid hnw; have OK := Lib.hid hok; clear hr hg hz hnw hok)
  obtain ⟨w8, hw8⟩ : ∃ W, W = w7.alloc (.cells #[.int .u8 x.kind, .int .i64 x.client, .int .i64 x.id, .slice x.A x.n x.c, .int .i64 x.upto, .int .i64 x.frm, .slice x.EA x.en x.ecp, .int .i64 x.hav, .int .i64 x.don, .int .i64 x.ep, .slice x.MA x.mn x.mcp, .int .i64 x.since] 28) := ⟨_, rfl⟩
  obtain ⟨g8, hg8⟩ : ∃ b, w7.heap.size = b := ⟨_, rfl⟩
  have b8 := Lib.hid (show Below w7.heap.size w7 w8 by rw [hw8]; exact below_one _ _)
  have V8 := Lib.hid (show VBox w8 g8 12 (mc x) by rw [hw8]; exact vbox_new w7 (mc x) _ _ _ hg8 rfl (by omega))
  have lt8 : w6.heap.size ≤ g8 := by rw [← hg8]; exact G7.out.size
  have Hg8 := Lib.hid hg8
  rw [← hw8, hg8]
  clear hw8 hg8 x3
  have y0 := V8.out.at1 (i := 0) rfl
  have f0 := V8.out.fr1 (i := 0) (by omega)
  go_upto_region 8 with fail
  obtain ⟨w9, hw9⟩ : ∃ W, W = w8.setCell ⟨g8, 0, none⟩ (.int .u8 2) := ⟨_, rfl⟩
  obtain ⟨y, hy⟩ : ∃ y : MX, y = { x with kind := 2 } := ⟨_, rfl⟩
  have lt6 : b < w6.heap.size := by have := B6.out.size; omega
  have lg6 : g < w6.heap.size := V6.out.lt
  have G9 := Lib.hid (show w6.grownBy w9 (some b) by rw [hw9]; exact grown_new (grown_new G7.out (grown_of_below b8.out none) (fun j hj => by cases hj)) (grown_cell w8 ⟨g8, 0, none⟩ _) (fun j hj => by injection hj with hj; have : g8 = j := hj; omega))
  have V9 := Lib.hid (show VBox w9 g8 12 (mc y) by rw [hw9, hy]; exact V8.out.set1 (i := 0) (by omega) (.int .u8 2))
  have U9 := Lib.hid (show VBox w9 g 12 (mc mx0) from V6.out.same (G9.out.block g lg6 (fun e => by injection e with e; omega)))
  have R9 := Lib.hid (show RdP b ⟨W1.heap.size, b⟩ w9 (ownR 2 s1).2 by
    have r8 := RK.out.keep w7 w8 _ none R7.out (grown_of_below b8.out none) (fun j hj => by cases hj)
    rw [hw9]
    exact RK.out.keep w8 _ _ (some g8) r8 (grown_cell w8 ⟨g8, 0, none⟩ _) (fun j hj => by injection hj with hj; have := B6.out.size; omega))
  have N9 : Hid (NewM w9 w6.heap.size y) := Lib.hid (by
    have n8 : NewM w8 w6.heap.size x := NW.out.keep (fun j h1 h2 => b8.out.block j h2)
    have hb8 := b8.out.size
    rw [hy]
    refine NewM.kind (NewM.keep (w := w7) NW.out (fun j h1 h2 => ?_)) 2
    rw [hw9]
    exact (Below.heap_setCell _ _ _ _ (by show j ≠ g8; have := Hg8.out; omega)).trans (b8.out.block j h2))
  have O9 : Hid (MXOk w9 w9.heap.size y) := Lib.hid (N9.out.ok (by rw [hy]; exact OK.out.setKind (by omega)))
  have B9 := Lib.hid (show Below w.heap.size w w9 from B16.out.trans (below_of_grown G9.out B16.out.size (fun j hj => by injection hj with hj; have := b1.out.size; have := BL.out; omega)))
  have HY : Hid ((ownR 2 s1).2.1 = 0 → y.z = (ownR 2 s1).1) := Lib.hid (fun h0 => by
    have e := HZ.out h0
    have hk := own_kind 2 s1
    have := kind_back (ownR 2 s1).1 2 hk
    rw [← e] at this
    rw [hy]
    exact this)
  rw [← hw9]
  clear y0 f0 hw9 hy
  obtain ⟨z, hz⟩ : ∃ z, endZ (ownR 2 s1).2.1 (ownR 2 s1).2.2 = z := ⟨_, rfl⟩
  have EM := Lib.hid (end_st R9.out z hz)
  have HEZ := Lib.hid hz
  by_cases hz0 : z = 0
  · obtain ⟨q, hq⟩ : ∃ q, mayM y.z = q := ⟨_, rfl⟩
    subst hz0
    have MM := Lib.hid (may_any q O9.out (Nat.le_refl _) hq)
    have hY := HY.out (endZ_zero HEZ.out).1
    have HMQ : Hid (mayM (ownR 2 s1).1 = q) := Lib.hid (by rw [← hY]; exact hq)
    have HYZ := Lib.hid hY
    clear hq hz hY
    cases q with
    | false =>
      have HP3 : PM = (mz0, 200) := by rw [HP.out, if_neg (fun h => by have := h.2; rw [HMQ.out] at this; cases this)]
      subst HP3
      go_upto_region 9 with (first
            | (go_at_call 36; refine EM.out.mono ?_; rintro e v13 ⟨rfl, rfl⟩)
            | (with_reducible show wpList _ _ _ (⟨some 31, .load 28 (.tmp 8), _, _, _, _⟩ :: _) _ _; refine wpList_load_guardL (op := ⟨some 31, .load 28 (.tmp 8), _, _, _, some (3, false)⟩) (by first | rfl | go_simp) 28 (.tmp 8) rfl (g8) (0) rfl (mc y) _ (V9.out.range) Try.underlying28 rfl (m_size _) ?_)
            | (go_at_call 13; refine MM.out.mono ?_; rintro e w10 ⟨rfl, hb⟩; have B10 := Lib.hid hb; clear hb))
      have U10 := Lib.hid (U9.out.grow B10.out)
      have VT := Lib.hid (vthere U10.out (us := mc mx0) rfl)
      go_wp2_with (first
        | (with_reducible show wpList _ _ _ (⟨some 35, .build 28 #[], _, _, _, _⟩ :: _) _ _; refine wpList_exec (op := ⟨some 35, .build 28 #[], _, _, _, _⟩) rfl (.agg (mc mx0).toArray) (by exact exec_bm0 rfl (build_m0 _)) ?_)
        | (with_reducible show wpList _ _ _ (⟨none, .store 28 (.tmp 2) (.tmp 35), _, _, _, _⟩ :: _) _ _; refine wpList_store_as (op := ⟨none, .store 28 (.tmp 2) (.tmp 35), _, _, _, _⟩) rfl 28 (.tmp 2) (.tmp 35) rfl (g) 0 (mc mx0).toArray rfl rfl (VT.out) (m_sizeA _) (m_oneA _) ?_; intro w9 hw9))
      have e9 := hw9.out
      have V9 := U10.out.store (us := mc mx0) rfl hw9
      have b9 : Below w.heap.size w w9 := by rw [e9]; exact below_setCells (by rw [Hg.out]; exact Nat.le_refl _) _ _ _ (B9.out.trans (B10.out.mono B9.out.size))
      exact bodyPost_ret (v := .tuple #[.agg (mc mx0).toArray, .int .i64 200]) (results_mid_tmp (p := 2) (u := 3) (ty := 28) rfl _ _ g 0 (mc mx0) _ rfl V9.range Try.underlying28 rfl (m_size _)) rfl (parses0 b9)
    | true =>
      have HP3 : PM = (y.z, 0) := by rw [HP.out, if_pos ⟨HEZ.out, HMQ.out⟩, HYZ.out]
      subst HP3
      go_upto_region 10 with (first
            | (go_at_call 36; refine EM.out.mono ?_; rintro e v13 ⟨rfl, rfl⟩)
            | (with_reducible show wpList _ _ _ (⟨some 31, .load 28 (.tmp 8), _, _, _, _⟩ :: _) _ _; refine wpList_load_guardL (op := ⟨some 31, .load 28 (.tmp 8), _, _, _, some (3, false)⟩) (by first | rfl | go_simp) 28 (.tmp 8) rfl (g8) (0) rfl (mc y) _ (V9.out.range) Try.underlying28 rfl (m_size _) ?_)
            | (go_at_call 13; refine MM.out.mono ?_; rintro e w10 ⟨rfl, hb⟩; have B10 := Lib.hid hb; clear hb))
      have U10 := Lib.hid (U9.out.grow B10.out)
      have VX := Lib.hid (V9.out.grow B10.out)
      have VT := Lib.hid (vthere U10.out (us := mc y) rfl)
      go_wp2_with (first
        | (with_reducible show wpList _ _ _ (⟨some 36, .load 28 (.tmp 8), _, _, _, _⟩ :: _) _ _; refine wpList_load_mid (op := ⟨some 36, .load 28 (.tmp 8), _, _, _, _⟩) rfl 28 (.tmp 8) rfl (g8) (0) rfl (mc y) _ (VX.out.range) Try.underlying28 rfl (m_size _) ?_)
        | (with_reducible show wpList _ _ _ (⟨none, .store 28 (.tmp 2) (.tmp 36), _, _, _, _⟩ :: _) _ _; refine wpList_store_as (op := ⟨none, .store 28 (.tmp 2) (.tmp 36), _, _, _, _⟩) rfl 28 (.tmp 2) (.tmp 36) rfl (g) 0 (mc y).toArray rfl rfl (VT.out) (m_sizeA _) (m_oneA _) ?_; intro w11 hw11))
      have e9 := hw11.out
      have V11 := U10.out.store (us := mc y) rfl hw11
      have b11 : Below w.heap.size w w11 := by rw [e9]; exact below_setCells (by rw [Hg.out]; exact Nat.le_refl _) _ _ _ (B9.out.trans (B10.out.mono B9.out.size))
      have n11 : NewM w11 w6.heap.size y := NewM.keep (w := w9) N9.out (fun j h1 h2 => by rw [e9]; exact (heap_setCells g j (by omega) _ _ _).trans (B10.out.block j h2))
      have o11 : MXOk w11 w11.heap.size y := n11.ok O9.out
      exact bodyPost_ret (v := .tuple #[.agg (mc y).toArray, .int .i64 0]) (results_mid_tmp (p := 2) (u := 3) (ty := 28) rfl _ _ g 0 (mc y) _ rfl V11.range Try.underlying28 rfl (m_size _)) rfl ⟨y, rfl, rfl, o11, n11.base B16.out.size, b11⟩
  · have HP3 : PM = (mz0, 200) := by rw [HP.out, if_neg (fun h => hz0 (by rw [← HEZ.out]; exact h.1))]
    subst HP3
    have hzb : (z != 0) = true := by simpa using hz0
    have VT := Lib.hid (vthere U9.out (us := mc mx0) rfl)
    clear hz0 hz
    go_upto_region 9 with (go_at_call 36; refine EM.out.mono ?_; rintro e v13 ⟨rfl, rfl⟩)
    go_wp2_with (first
        | (with_reducible show wpList _ _ _ (⟨some 35, .build 28 #[], _, _, _, _⟩ :: _) _ _; refine wpList_exec (op := ⟨some 35, .build 28 #[], _, _, _, _⟩) rfl (.agg (mc mx0).toArray) (by exact exec_bm0 rfl (build_m0 _)) ?_)
        | (with_reducible show wpList _ _ _ (⟨none, .store 28 (.tmp 2) (.tmp 35), _, _, _, _⟩ :: _) _ _; refine wpList_store_as (op := ⟨none, .store 28 (.tmp 2) (.tmp 35), _, _, _, _⟩) rfl 28 (.tmp 2) (.tmp 35) rfl (g) 0 (mc mx0).toArray rfl rfl (VT.out) (m_sizeA _) (m_oneA _) ?_; intro w10 hw10))
    have e9 := hw10.out
    have V9 := U9.out.store (us := mc mx0) rfl hw10
    have b9 : Below w.heap.size w w10 := by rw [e9]; exact below_setCells (by rw [Hg.out]; exact Nat.le_refl _) _ _ _ B9.out
    exact bodyPost_ret (v := .tuple #[.agg (mc mx0).toArray, .int .i64 200]) (results_mid_tmp (p := 2) (u := 3) (ty := 28) rfl _ _ g 0 (mc mx0) _ rfl V9.range Try.underlying28 rfl (m_size _)) rfl (parses0 b9)
set_option maxHeartbeats 8000000 in
theorem parse_yes3 {w : World} {B n c : Nat} {A : Option Addr} {bs : List Int} {s1 : St} (h : Bs w B A n bs) (hB : B ≤ w.heap.size) (hn : n ≤ 65536) (e1 : rByte (0, bs) = (3, s1)) : Calls Try.prog 18 #[.slice A n c] w (ParsesM w (parseM bs).1 (parseM bs).2) := by
  obtain ⟨W1, hW1⟩ : ∃ W, W = w.alloc (.cells #[.int .u8 0, .int .i64 0, .int .i64 0, .slice none 0 0, .int .i64 0, .int .i64 0, .slice none 0 0, .int .i64 0, .int .i64 0, .int .i64 0, .slice none 0 0, .int .i64 0] 28) := ⟨_, rfl⟩
  obtain ⟨g, hg⟩ : ∃ g, w.heap.size = g := ⟨_, rfl⟩
  have Hg := Lib.hid hg
  have b1 := Lib.hid (show Below w.heap.size w W1 by rw [hW1]; exact below_one _ _)
  have V1 := Lib.hid (show VBox W1 g 12 (mc mx0) by rw [hW1]; exact vbox_new _ (mc mx0) _ _ _ hg rfl (by omega))
  have HW1 := Lib.hid hW1
  have NR := Lib.hid (newreader_any (w := W1) c (h.belowM b1.out hB) (Nat.le_trans hB b1.out.size) (by omega))
  have HW : Hid (newWhy bs = (0, bs)) := Lib.hid (by unfold newWhy; rw [if_pos (by rw [h.len]; omega)])
  have T0 : StM (0, bs) := ⟨h.isBytes, by rw [h.len]; omega⟩
  clear hW1 hg h
  obtain ⟨g1, t1⟩ := byte_rm T0 e1
  have HP := Lib.hid (parseM_of e1)
  have E1 := Lib.hid e1
  obtain ⟨PM, hPM⟩ : ∃ p, parseM bs = p := ⟨_, rfl⟩
  rw [hPM] at HP ⊢
  have KO := Lib.hid (fun W => show Calls Try.prog 41 #[.int .u8 3] W (fun e w' => e = .returned (.tuple #[.agg #[.func (.func 98) #[] #[], .func (.func 99) #[] #[], .func (.func 100) #[] #[], .func (.func 101) #[] #[]], .bool true]) ∧ Below W.heap.size W w') from kindof_any 3 W)
  have hst := fun (f : Fn) (p : Addr) (W : World) => run_store Try.prog W p (.func f #[] #[]) .plain rfl
  clear e1 hn T0 hPM
  go_enter Try.func18, Try.ntmps18
  go_upto_region 1 with fail
  rw [← HW1.out, Hg.out]
  go_upto_region 2 with (go_at_call 33; refine NR.out.mono ?_; rintro e w3 ⟨b, rfl, hrd, hbl, hb⟩; rw [HW.out] at hrd; have B3 := Lib.hid hb; have BL := Lib.hid hbl; have R3 := Lib.hid (show RdP b ⟨W1.heap.size, b⟩ w3 (0, bs) from hrd); clear hrd hbl hb)
  have V3 := Lib.hid (V1.out.grow B3.out)
  have lt3 := Lib.hid (Rd.lt R3.out)
  have gb : g < b := Nat.lt_of_lt_of_le V1.out.lt BL.out
  go_upto_region 3 with (go_at_call 56; refine (byte_st R3.out E1.out).mono ?_; rintro e w4 ⟨rfl, hr, hg⟩; have R4 := Lib.hid hr; have G4 := Lib.hid hg; clear hr hg)
  have V4 := Lib.hid (V3.out.same (G4.out.block g V3.out.lt (fun e => by injection e with e; omega)))
  have B4 := Lib.hid (show Below W1.heap.size W1 w4 from B3.out.trans (below_of_grown G4.out B3.out.size (fun j hj => by injection hj with hj; have := BL.out; omega)))
  go_upto_region 4 with (go_at_call 41; refine (KO.out _).mono ?_; rintro e w5 ⟨rfl, hb⟩; have B5 := Lib.hid hb; clear hb)
  obtain ⟨w6, hw6⟩ : ∃ W, W = w5.alloc (.cells #[.func (.func 98) #[] #[], .func (.func 99) #[] #[], .func (.func 100) #[] #[], .func (.func 101) #[] #[]] 71) := ⟨_, rfl⟩
  have b6 := Lib.hid (show Below w5.heap.size w5 w6 by rw [hw6]; exact below_one _ _)
  have B6 := Lib.hid (B5.out.trans (b6.out.mono B5.out.size))
  have V6 := Lib.hid (V4.out.grow B6.out)
  have K6 := Lib.hid (show VBox w6 w5.heap.size 4 kc3 by rw [hw6]; exact vbox_new w5 kc3 _ _ 4 rfl rfl (by omega))
  have lt4 : b < w4.heap.size := Rd.lt R4.out
  have RK := Lib.hid (rdk_P (B := ⟨W1.heap.size, b⟩) lt4)
  have R6 := Lib.hid (RK.out.keep w4 w6 _ none R4.out (grown_of_below B6.out none) (fun j hj => by cases hj))
  have B16 := Lib.hid (show Below w.heap.size w w6 from b1.out.trans ((B4.out.trans (B6.out.mono B4.out.size)).mono b1.out.size))
  have hg5 : w4.heap.size ≤ w5.heap.size := B5.out.size
  obtain ⟨g5, hg5'⟩ : ∃ b, w5.heap.size = b := ⟨_, rfl⟩
  rw [← hw6, hg5']
  rw [hg5'] at K6 hg5
  clear hw6 hst hg5'
  have x3 := K6.out.at1 (i := 3) rfl
  have RC := Lib.hid (rk3 w6 b ⟨W1.heap.size, b⟩ s1 R6.out t1)
  unfold fv at x3
  go_upto_region 7 with (go_at_call 101; refine RC.out.mono ?_; rintro e w7 ⟨x, he, hz, hr, hg, hnw, hok⟩; have he : e = .returned (.agg #[.int .u8 x.kind, .int .i64 x.client, .int .i64 x.id, .slice x.A x.n x.c, .int .i64 x.upto, .int .i64 x.frm, .slice x.EA x.en x.ecp, .int .i64 x.hav, .int .i64 x.don, .int .i64 x.ep, .slice x.MA x.mn x.mcp, .int .i64 x.since]) := he; subst he; have R7 := Lib.hid hr; have G7 := Lib.hid hg; have HZ := Lib.hid hz; have NW := Lib.hid hnw; have OK := Lib.hid hok; clear hr hg hz hnw hok)
  obtain ⟨w8, hw8⟩ : ∃ W, W = w7.alloc (.cells #[.int .u8 x.kind, .int .i64 x.client, .int .i64 x.id, .slice x.A x.n x.c, .int .i64 x.upto, .int .i64 x.frm, .slice x.EA x.en x.ecp, .int .i64 x.hav, .int .i64 x.don, .int .i64 x.ep, .slice x.MA x.mn x.mcp, .int .i64 x.since] 28) := ⟨_, rfl⟩
  obtain ⟨g8, hg8⟩ : ∃ b, w7.heap.size = b := ⟨_, rfl⟩
  have b8 := Lib.hid (show Below w7.heap.size w7 w8 by rw [hw8]; exact below_one _ _)
  have V8 := Lib.hid (show VBox w8 g8 12 (mc x) by rw [hw8]; exact vbox_new w7 (mc x) _ _ _ hg8 rfl (by omega))
  have lt8 : w6.heap.size ≤ g8 := by rw [← hg8]; exact G7.out.size
  have Hg8 := Lib.hid hg8
  rw [← hw8, hg8]
  clear hw8 hg8 x3
  have y0 := V8.out.at1 (i := 0) rfl
  have f0 := V8.out.fr1 (i := 0) (by omega)
  go_upto_region 8 with fail
  obtain ⟨w9, hw9⟩ : ∃ W, W = w8.setCell ⟨g8, 0, none⟩ (.int .u8 3) := ⟨_, rfl⟩
  obtain ⟨y, hy⟩ : ∃ y : MX, y = { x with kind := 3 } := ⟨_, rfl⟩
  have lt6 : b < w6.heap.size := by have := B6.out.size; omega
  have lg6 : g < w6.heap.size := V6.out.lt
  have G9 := Lib.hid (show w6.grownBy w9 (some b) by rw [hw9]; exact grown_new (grown_new G7.out (grown_of_below b8.out none) (fun j hj => by cases hj)) (grown_cell w8 ⟨g8, 0, none⟩ _) (fun j hj => by injection hj with hj; have : g8 = j := hj; omega))
  have V9 := Lib.hid (show VBox w9 g8 12 (mc y) by rw [hw9, hy]; exact V8.out.set1 (i := 0) (by omega) (.int .u8 3))
  have U9 := Lib.hid (show VBox w9 g 12 (mc mx0) from V6.out.same (G9.out.block g lg6 (fun e => by injection e with e; omega)))
  have R9 := Lib.hid (show RdP b ⟨W1.heap.size, b⟩ w9 (ownR 3 s1).2 by
    have r8 := RK.out.keep w7 w8 _ none R7.out (grown_of_below b8.out none) (fun j hj => by cases hj)
    rw [hw9]
    exact RK.out.keep w8 _ _ (some g8) r8 (grown_cell w8 ⟨g8, 0, none⟩ _) (fun j hj => by injection hj with hj; have := B6.out.size; omega))
  have N9 : Hid (NewM w9 w6.heap.size y) := Lib.hid (by
    have n8 : NewM w8 w6.heap.size x := NW.out.keep (fun j h1 h2 => b8.out.block j h2)
    have hb8 := b8.out.size
    rw [hy]
    refine NewM.kind (NewM.keep (w := w7) NW.out (fun j h1 h2 => ?_)) 3
    rw [hw9]
    exact (Below.heap_setCell _ _ _ _ (by show j ≠ g8; have := Hg8.out; omega)).trans (b8.out.block j h2))
  have O9 : Hid (MXOk w9 w9.heap.size y) := Lib.hid (N9.out.ok (by rw [hy]; exact OK.out.setKind (by omega)))
  have B9 := Lib.hid (show Below w.heap.size w w9 from B16.out.trans (below_of_grown G9.out B16.out.size (fun j hj => by injection hj with hj; have := b1.out.size; have := BL.out; omega)))
  have HY : Hid ((ownR 3 s1).2.1 = 0 → y.z = (ownR 3 s1).1) := Lib.hid (fun h0 => by
    have e := HZ.out h0
    have hk := own_kind 3 s1
    have := kind_back (ownR 3 s1).1 3 hk
    rw [← e] at this
    rw [hy]
    exact this)
  rw [← hw9]
  clear y0 f0 hw9 hy
  obtain ⟨z, hz⟩ : ∃ z, endZ (ownR 3 s1).2.1 (ownR 3 s1).2.2 = z := ⟨_, rfl⟩
  have EM := Lib.hid (end_st R9.out z hz)
  have HEZ := Lib.hid hz
  by_cases hz0 : z = 0
  · obtain ⟨q, hq⟩ : ∃ q, mayM y.z = q := ⟨_, rfl⟩
    subst hz0
    have MM := Lib.hid (may_any q O9.out (Nat.le_refl _) hq)
    have hY := HY.out (endZ_zero HEZ.out).1
    have HMQ : Hid (mayM (ownR 3 s1).1 = q) := Lib.hid (by rw [← hY]; exact hq)
    have HYZ := Lib.hid hY
    clear hq hz hY
    cases q with
    | false =>
      have HP3 : PM = (mz0, 200) := by rw [HP.out, if_neg (fun h => by have := h.2; rw [HMQ.out] at this; cases this)]
      subst HP3
      go_upto_region 9 with (first
            | (go_at_call 36; refine EM.out.mono ?_; rintro e v13 ⟨rfl, rfl⟩)
            | (with_reducible show wpList _ _ _ (⟨some 31, .load 28 (.tmp 8), _, _, _, _⟩ :: _) _ _; refine wpList_load_guardL (op := ⟨some 31, .load 28 (.tmp 8), _, _, _, some (3, false)⟩) (by first | rfl | go_simp) 28 (.tmp 8) rfl (g8) (0) rfl (mc y) _ (V9.out.range) Try.underlying28 rfl (m_size _) ?_)
            | (go_at_call 13; refine MM.out.mono ?_; rintro e w10 ⟨rfl, hb⟩; have B10 := Lib.hid hb; clear hb))
      have U10 := Lib.hid (U9.out.grow B10.out)
      have VT := Lib.hid (vthere U10.out (us := mc mx0) rfl)
      go_wp2_with (first
        | (with_reducible show wpList _ _ _ (⟨some 35, .build 28 #[], _, _, _, _⟩ :: _) _ _; refine wpList_exec (op := ⟨some 35, .build 28 #[], _, _, _, _⟩) rfl (.agg (mc mx0).toArray) (by exact exec_bm0 rfl (build_m0 _)) ?_)
        | (with_reducible show wpList _ _ _ (⟨none, .store 28 (.tmp 2) (.tmp 35), _, _, _, _⟩ :: _) _ _; refine wpList_store_as (op := ⟨none, .store 28 (.tmp 2) (.tmp 35), _, _, _, _⟩) rfl 28 (.tmp 2) (.tmp 35) rfl (g) 0 (mc mx0).toArray rfl rfl (VT.out) (m_sizeA _) (m_oneA _) ?_; intro w9 hw9))
      have e9 := hw9.out
      have V9 := U10.out.store (us := mc mx0) rfl hw9
      have b9 : Below w.heap.size w w9 := by rw [e9]; exact below_setCells (by rw [Hg.out]; exact Nat.le_refl _) _ _ _ (B9.out.trans (B10.out.mono B9.out.size))
      exact bodyPost_ret (v := .tuple #[.agg (mc mx0).toArray, .int .i64 200]) (results_mid_tmp (p := 2) (u := 3) (ty := 28) rfl _ _ g 0 (mc mx0) _ rfl V9.range Try.underlying28 rfl (m_size _)) rfl (parses0 b9)
    | true =>
      have HP3 : PM = (y.z, 0) := by rw [HP.out, if_pos ⟨HEZ.out, HMQ.out⟩, HYZ.out]
      subst HP3
      go_upto_region 10 with (first
            | (go_at_call 36; refine EM.out.mono ?_; rintro e v13 ⟨rfl, rfl⟩)
            | (with_reducible show wpList _ _ _ (⟨some 31, .load 28 (.tmp 8), _, _, _, _⟩ :: _) _ _; refine wpList_load_guardL (op := ⟨some 31, .load 28 (.tmp 8), _, _, _, some (3, false)⟩) (by first | rfl | go_simp) 28 (.tmp 8) rfl (g8) (0) rfl (mc y) _ (V9.out.range) Try.underlying28 rfl (m_size _) ?_)
            | (go_at_call 13; refine MM.out.mono ?_; rintro e w10 ⟨rfl, hb⟩; have B10 := Lib.hid hb; clear hb))
      have U10 := Lib.hid (U9.out.grow B10.out)
      have VX := Lib.hid (V9.out.grow B10.out)
      have VT := Lib.hid (vthere U10.out (us := mc y) rfl)
      go_wp2_with (first
        | (with_reducible show wpList _ _ _ (⟨some 36, .load 28 (.tmp 8), _, _, _, _⟩ :: _) _ _; refine wpList_load_mid (op := ⟨some 36, .load 28 (.tmp 8), _, _, _, _⟩) rfl 28 (.tmp 8) rfl (g8) (0) rfl (mc y) _ (VX.out.range) Try.underlying28 rfl (m_size _) ?_)
        | (with_reducible show wpList _ _ _ (⟨none, .store 28 (.tmp 2) (.tmp 36), _, _, _, _⟩ :: _) _ _; refine wpList_store_as (op := ⟨none, .store 28 (.tmp 2) (.tmp 36), _, _, _, _⟩) rfl 28 (.tmp 2) (.tmp 36) rfl (g) 0 (mc y).toArray rfl rfl (VT.out) (m_sizeA _) (m_oneA _) ?_; intro w11 hw11))
      have e9 := hw11.out
      have V11 := U10.out.store (us := mc y) rfl hw11
      have b11 : Below w.heap.size w w11 := by rw [e9]; exact below_setCells (by rw [Hg.out]; exact Nat.le_refl _) _ _ _ (B9.out.trans (B10.out.mono B9.out.size))
      have n11 : NewM w11 w6.heap.size y := NewM.keep (w := w9) N9.out (fun j h1 h2 => by rw [e9]; exact (heap_setCells g j (by omega) _ _ _).trans (B10.out.block j h2))
      have o11 : MXOk w11 w11.heap.size y := n11.ok O9.out
      exact bodyPost_ret (v := .tuple #[.agg (mc y).toArray, .int .i64 0]) (results_mid_tmp (p := 2) (u := 3) (ty := 28) rfl _ _ g 0 (mc y) _ rfl V11.range Try.underlying28 rfl (m_size _)) rfl ⟨y, rfl, rfl, o11, n11.base B16.out.size, b11⟩
  · have HP3 : PM = (mz0, 200) := by rw [HP.out, if_neg (fun h => hz0 (by rw [← HEZ.out]; exact h.1))]
    subst HP3
    have hzb : (z != 0) = true := by simpa using hz0
    have VT := Lib.hid (vthere U9.out (us := mc mx0) rfl)
    clear hz0 hz
    go_upto_region 9 with (go_at_call 36; refine EM.out.mono ?_; rintro e v13 ⟨rfl, rfl⟩)
    go_wp2_with (first
        | (with_reducible show wpList _ _ _ (⟨some 35, .build 28 #[], _, _, _, _⟩ :: _) _ _; refine wpList_exec (op := ⟨some 35, .build 28 #[], _, _, _, _⟩) rfl (.agg (mc mx0).toArray) (by exact exec_bm0 rfl (build_m0 _)) ?_)
        | (with_reducible show wpList _ _ _ (⟨none, .store 28 (.tmp 2) (.tmp 35), _, _, _, _⟩ :: _) _ _; refine wpList_store_as (op := ⟨none, .store 28 (.tmp 2) (.tmp 35), _, _, _, _⟩) rfl 28 (.tmp 2) (.tmp 35) rfl (g) 0 (mc mx0).toArray rfl rfl (VT.out) (m_sizeA _) (m_oneA _) ?_; intro w10 hw10))
    have e9 := hw10.out
    have V9 := U9.out.store (us := mc mx0) rfl hw10
    have b9 : Below w.heap.size w w10 := by rw [e9]; exact below_setCells (by rw [Hg.out]; exact Nat.le_refl _) _ _ _ B9.out
    exact bodyPost_ret (v := .tuple #[.agg (mc mx0).toArray, .int .i64 200]) (results_mid_tmp (p := 2) (u := 3) (ty := 28) rfl _ _ g 0 (mc mx0) _ rfl V9.range Try.underlying28 rfl (m_size _)) rfl (parses0 b9)
set_option maxHeartbeats 8000000 in
theorem parse_yes4 {w : World} {B n c : Nat} {A : Option Addr} {bs : List Int} {s1 : St} (h : Bs w B A n bs) (hB : B ≤ w.heap.size) (hn : n ≤ 65536) (e1 : rByte (0, bs) = (4, s1)) : Calls Try.prog 18 #[.slice A n c] w (ParsesM w (parseM bs).1 (parseM bs).2) := by
  obtain ⟨W1, hW1⟩ : ∃ W, W = w.alloc (.cells #[.int .u8 0, .int .i64 0, .int .i64 0, .slice none 0 0, .int .i64 0, .int .i64 0, .slice none 0 0, .int .i64 0, .int .i64 0, .int .i64 0, .slice none 0 0, .int .i64 0] 28) := ⟨_, rfl⟩
  obtain ⟨g, hg⟩ : ∃ g, w.heap.size = g := ⟨_, rfl⟩
  have Hg := Lib.hid hg
  have b1 := Lib.hid (show Below w.heap.size w W1 by rw [hW1]; exact below_one _ _)
  have V1 := Lib.hid (show VBox W1 g 12 (mc mx0) by rw [hW1]; exact vbox_new _ (mc mx0) _ _ _ hg rfl (by omega))
  have HW1 := Lib.hid hW1
  have NR := Lib.hid (newreader_any (w := W1) c (h.belowM b1.out hB) (Nat.le_trans hB b1.out.size) (by omega))
  have HW : Hid (newWhy bs = (0, bs)) := Lib.hid (by unfold newWhy; rw [if_pos (by rw [h.len]; omega)])
  have T0 : StM (0, bs) := ⟨h.isBytes, by rw [h.len]; omega⟩
  clear hW1 hg h
  obtain ⟨g1, t1⟩ := byte_rm T0 e1
  have HP := Lib.hid (parseM_of e1)
  have E1 := Lib.hid e1
  obtain ⟨PM, hPM⟩ : ∃ p, parseM bs = p := ⟨_, rfl⟩
  rw [hPM] at HP ⊢
  have KO := Lib.hid (fun W => show Calls Try.prog 41 #[.int .u8 4] W (fun e w' => e = .returned (.tuple #[.agg #[.func (.func 102) #[] #[], .func (.func 103) #[] #[], .func (.func 104) #[] #[], .func (.func 105) #[] #[]], .bool true]) ∧ Below W.heap.size W w') from kindof_any 4 W)
  have hst := fun (f : Fn) (p : Addr) (W : World) => run_store Try.prog W p (.func f #[] #[]) .plain rfl
  clear e1 hn T0 hPM
  go_enter Try.func18, Try.ntmps18
  go_upto_region 1 with fail
  rw [← HW1.out, Hg.out]
  go_upto_region 2 with (go_at_call 33; refine NR.out.mono ?_; rintro e w3 ⟨b, rfl, hrd, hbl, hb⟩; rw [HW.out] at hrd; have B3 := Lib.hid hb; have BL := Lib.hid hbl; have R3 := Lib.hid (show RdP b ⟨W1.heap.size, b⟩ w3 (0, bs) from hrd); clear hrd hbl hb)
  have V3 := Lib.hid (V1.out.grow B3.out)
  have lt3 := Lib.hid (Rd.lt R3.out)
  have gb : g < b := Nat.lt_of_lt_of_le V1.out.lt BL.out
  go_upto_region 3 with (go_at_call 56; refine (byte_st R3.out E1.out).mono ?_; rintro e w4 ⟨rfl, hr, hg⟩; have R4 := Lib.hid hr; have G4 := Lib.hid hg; clear hr hg)
  have V4 := Lib.hid (V3.out.same (G4.out.block g V3.out.lt (fun e => by injection e with e; omega)))
  have B4 := Lib.hid (show Below W1.heap.size W1 w4 from B3.out.trans (below_of_grown G4.out B3.out.size (fun j hj => by injection hj with hj; have := BL.out; omega)))
  go_upto_region 4 with (go_at_call 41; refine (KO.out _).mono ?_; rintro e w5 ⟨rfl, hb⟩; have B5 := Lib.hid hb; clear hb)
  obtain ⟨w6, hw6⟩ : ∃ W, W = w5.alloc (.cells #[.func (.func 102) #[] #[], .func (.func 103) #[] #[], .func (.func 104) #[] #[], .func (.func 105) #[] #[]] 71) := ⟨_, rfl⟩
  have b6 := Lib.hid (show Below w5.heap.size w5 w6 by rw [hw6]; exact below_one _ _)
  have B6 := Lib.hid (B5.out.trans (b6.out.mono B5.out.size))
  have V6 := Lib.hid (V4.out.grow B6.out)
  have K6 := Lib.hid (show VBox w6 w5.heap.size 4 kc4 by rw [hw6]; exact vbox_new w5 kc4 _ _ 4 rfl rfl (by omega))
  have lt4 : b < w4.heap.size := Rd.lt R4.out
  have RK := Lib.hid (rdk_P (B := ⟨W1.heap.size, b⟩) lt4)
  have R6 := Lib.hid (RK.out.keep w4 w6 _ none R4.out (grown_of_below B6.out none) (fun j hj => by cases hj))
  have B16 := Lib.hid (show Below w.heap.size w w6 from b1.out.trans ((B4.out.trans (B6.out.mono B4.out.size)).mono b1.out.size))
  have hg5 : w4.heap.size ≤ w5.heap.size := B5.out.size
  obtain ⟨g5, hg5'⟩ : ∃ b, w5.heap.size = b := ⟨_, rfl⟩
  rw [← hw6, hg5']
  rw [hg5'] at K6 hg5
  clear hw6 hst hg5'
  have x3 := K6.out.at1 (i := 3) rfl
  have RC := Lib.hid (rk4 w6 b ⟨W1.heap.size, b⟩ s1 R6.out t1)
  unfold fv at x3
  go_upto_region 7 with (go_at_call 105; refine RC.out.mono ?_; rintro e w7 ⟨x, he, hz, hr, hg, hnw, hok⟩; have he : e = .returned (.agg #[.int .u8 x.kind, .int .i64 x.client, .int .i64 x.id, .slice x.A x.n x.c, .int .i64 x.upto, .int .i64 x.frm, .slice x.EA x.en x.ecp, .int .i64 x.hav, .int .i64 x.don, .int .i64 x.ep, .slice x.MA x.mn x.mcp, .int .i64 x.since]) := he; subst he; have R7 := Lib.hid hr; have G7 := Lib.hid hg; have HZ := Lib.hid hz; have NW := Lib.hid hnw; have OK := Lib.hid hok; clear hr hg hz hnw hok)
  obtain ⟨w8, hw8⟩ : ∃ W, W = w7.alloc (.cells #[.int .u8 x.kind, .int .i64 x.client, .int .i64 x.id, .slice x.A x.n x.c, .int .i64 x.upto, .int .i64 x.frm, .slice x.EA x.en x.ecp, .int .i64 x.hav, .int .i64 x.don, .int .i64 x.ep, .slice x.MA x.mn x.mcp, .int .i64 x.since] 28) := ⟨_, rfl⟩
  obtain ⟨g8, hg8⟩ : ∃ b, w7.heap.size = b := ⟨_, rfl⟩
  have b8 := Lib.hid (show Below w7.heap.size w7 w8 by rw [hw8]; exact below_one _ _)
  have V8 := Lib.hid (show VBox w8 g8 12 (mc x) by rw [hw8]; exact vbox_new w7 (mc x) _ _ _ hg8 rfl (by omega))
  have lt8 : w6.heap.size ≤ g8 := by rw [← hg8]; exact G7.out.size
  have Hg8 := Lib.hid hg8
  rw [← hw8, hg8]
  clear hw8 hg8 x3
  have y0 := V8.out.at1 (i := 0) rfl
  have f0 := V8.out.fr1 (i := 0) (by omega)
  go_upto_region 8 with fail
  obtain ⟨w9, hw9⟩ : ∃ W, W = w8.setCell ⟨g8, 0, none⟩ (.int .u8 4) := ⟨_, rfl⟩
  obtain ⟨y, hy⟩ : ∃ y : MX, y = { x with kind := 4 } := ⟨_, rfl⟩
  have lt6 : b < w6.heap.size := by have := B6.out.size; omega
  have lg6 : g < w6.heap.size := V6.out.lt
  have G9 := Lib.hid (show w6.grownBy w9 (some b) by rw [hw9]; exact grown_new (grown_new G7.out (grown_of_below b8.out none) (fun j hj => by cases hj)) (grown_cell w8 ⟨g8, 0, none⟩ _) (fun j hj => by injection hj with hj; have : g8 = j := hj; omega))
  have V9 := Lib.hid (show VBox w9 g8 12 (mc y) by rw [hw9, hy]; exact V8.out.set1 (i := 0) (by omega) (.int .u8 4))
  have U9 := Lib.hid (show VBox w9 g 12 (mc mx0) from V6.out.same (G9.out.block g lg6 (fun e => by injection e with e; omega)))
  have R9 := Lib.hid (show RdP b ⟨W1.heap.size, b⟩ w9 (ownR 4 s1).2 by
    have r8 := RK.out.keep w7 w8 _ none R7.out (grown_of_below b8.out none) (fun j hj => by cases hj)
    rw [hw9]
    exact RK.out.keep w8 _ _ (some g8) r8 (grown_cell w8 ⟨g8, 0, none⟩ _) (fun j hj => by injection hj with hj; have := B6.out.size; omega))
  have N9 : Hid (NewM w9 w6.heap.size y) := Lib.hid (by
    have n8 : NewM w8 w6.heap.size x := NW.out.keep (fun j h1 h2 => b8.out.block j h2)
    have hb8 := b8.out.size
    rw [hy]
    refine NewM.kind (NewM.keep (w := w7) NW.out (fun j h1 h2 => ?_)) 4
    rw [hw9]
    exact (Below.heap_setCell _ _ _ _ (by show j ≠ g8; have := Hg8.out; omega)).trans (b8.out.block j h2))
  have O9 : Hid (MXOk w9 w9.heap.size y) := Lib.hid (N9.out.ok (by rw [hy]; exact OK.out.setKind (by omega)))
  have B9 := Lib.hid (show Below w.heap.size w w9 from B16.out.trans (below_of_grown G9.out B16.out.size (fun j hj => by injection hj with hj; have := b1.out.size; have := BL.out; omega)))
  have HY : Hid ((ownR 4 s1).2.1 = 0 → y.z = (ownR 4 s1).1) := Lib.hid (fun h0 => by
    have e := HZ.out h0
    have hk := own_kind 4 s1
    have := kind_back (ownR 4 s1).1 4 hk
    rw [← e] at this
    rw [hy]
    exact this)
  rw [← hw9]
  clear y0 f0 hw9 hy
  obtain ⟨z, hz⟩ : ∃ z, endZ (ownR 4 s1).2.1 (ownR 4 s1).2.2 = z := ⟨_, rfl⟩
  have EM := Lib.hid (end_st R9.out z hz)
  have HEZ := Lib.hid hz
  by_cases hz0 : z = 0
  · obtain ⟨q, hq⟩ : ∃ q, mayM y.z = q := ⟨_, rfl⟩
    subst hz0
    have MM := Lib.hid (may_any q O9.out (Nat.le_refl _) hq)
    have hY := HY.out (endZ_zero HEZ.out).1
    have HMQ : Hid (mayM (ownR 4 s1).1 = q) := Lib.hid (by rw [← hY]; exact hq)
    have HYZ := Lib.hid hY
    clear hq hz hY
    cases q with
    | false =>
      have HP3 : PM = (mz0, 200) := by rw [HP.out, if_neg (fun h => by have := h.2; rw [HMQ.out] at this; cases this)]
      subst HP3
      go_upto_region 9 with (first
            | (go_at_call 36; refine EM.out.mono ?_; rintro e v13 ⟨rfl, rfl⟩)
            | (with_reducible show wpList _ _ _ (⟨some 31, .load 28 (.tmp 8), _, _, _, _⟩ :: _) _ _; refine wpList_load_guardL (op := ⟨some 31, .load 28 (.tmp 8), _, _, _, some (3, false)⟩) (by first | rfl | go_simp) 28 (.tmp 8) rfl (g8) (0) rfl (mc y) _ (V9.out.range) Try.underlying28 rfl (m_size _) ?_)
            | (go_at_call 13; refine MM.out.mono ?_; rintro e w10 ⟨rfl, hb⟩; have B10 := Lib.hid hb; clear hb))
      have U10 := Lib.hid (U9.out.grow B10.out)
      have VT := Lib.hid (vthere U10.out (us := mc mx0) rfl)
      go_wp2_with (first
        | (with_reducible show wpList _ _ _ (⟨some 35, .build 28 #[], _, _, _, _⟩ :: _) _ _; refine wpList_exec (op := ⟨some 35, .build 28 #[], _, _, _, _⟩) rfl (.agg (mc mx0).toArray) (by exact exec_bm0 rfl (build_m0 _)) ?_)
        | (with_reducible show wpList _ _ _ (⟨none, .store 28 (.tmp 2) (.tmp 35), _, _, _, _⟩ :: _) _ _; refine wpList_store_as (op := ⟨none, .store 28 (.tmp 2) (.tmp 35), _, _, _, _⟩) rfl 28 (.tmp 2) (.tmp 35) rfl (g) 0 (mc mx0).toArray rfl rfl (VT.out) (m_sizeA _) (m_oneA _) ?_; intro w9 hw9))
      have e9 := hw9.out
      have V9 := U10.out.store (us := mc mx0) rfl hw9
      have b9 : Below w.heap.size w w9 := by rw [e9]; exact below_setCells (by rw [Hg.out]; exact Nat.le_refl _) _ _ _ (B9.out.trans (B10.out.mono B9.out.size))
      exact bodyPost_ret (v := .tuple #[.agg (mc mx0).toArray, .int .i64 200]) (results_mid_tmp (p := 2) (u := 3) (ty := 28) rfl _ _ g 0 (mc mx0) _ rfl V9.range Try.underlying28 rfl (m_size _)) rfl (parses0 b9)
    | true =>
      have HP3 : PM = (y.z, 0) := by rw [HP.out, if_pos ⟨HEZ.out, HMQ.out⟩, HYZ.out]
      subst HP3
      go_upto_region 10 with (first
            | (go_at_call 36; refine EM.out.mono ?_; rintro e v13 ⟨rfl, rfl⟩)
            | (with_reducible show wpList _ _ _ (⟨some 31, .load 28 (.tmp 8), _, _, _, _⟩ :: _) _ _; refine wpList_load_guardL (op := ⟨some 31, .load 28 (.tmp 8), _, _, _, some (3, false)⟩) (by first | rfl | go_simp) 28 (.tmp 8) rfl (g8) (0) rfl (mc y) _ (V9.out.range) Try.underlying28 rfl (m_size _) ?_)
            | (go_at_call 13; refine MM.out.mono ?_; rintro e w10 ⟨rfl, hb⟩; have B10 := Lib.hid hb; clear hb))
      have U10 := Lib.hid (U9.out.grow B10.out)
      have VX := Lib.hid (V9.out.grow B10.out)
      have VT := Lib.hid (vthere U10.out (us := mc y) rfl)
      go_wp2_with (first
        | (with_reducible show wpList _ _ _ (⟨some 36, .load 28 (.tmp 8), _, _, _, _⟩ :: _) _ _; refine wpList_load_mid (op := ⟨some 36, .load 28 (.tmp 8), _, _, _, _⟩) rfl 28 (.tmp 8) rfl (g8) (0) rfl (mc y) _ (VX.out.range) Try.underlying28 rfl (m_size _) ?_)
        | (with_reducible show wpList _ _ _ (⟨none, .store 28 (.tmp 2) (.tmp 36), _, _, _, _⟩ :: _) _ _; refine wpList_store_as (op := ⟨none, .store 28 (.tmp 2) (.tmp 36), _, _, _, _⟩) rfl 28 (.tmp 2) (.tmp 36) rfl (g) 0 (mc y).toArray rfl rfl (VT.out) (m_sizeA _) (m_oneA _) ?_; intro w11 hw11))
      have e9 := hw11.out
      have V11 := U10.out.store (us := mc y) rfl hw11
      have b11 : Below w.heap.size w w11 := by rw [e9]; exact below_setCells (by rw [Hg.out]; exact Nat.le_refl _) _ _ _ (B9.out.trans (B10.out.mono B9.out.size))
      have n11 : NewM w11 w6.heap.size y := NewM.keep (w := w9) N9.out (fun j h1 h2 => by rw [e9]; exact (heap_setCells g j (by omega) _ _ _).trans (B10.out.block j h2))
      have o11 : MXOk w11 w11.heap.size y := n11.ok O9.out
      exact bodyPost_ret (v := .tuple #[.agg (mc y).toArray, .int .i64 0]) (results_mid_tmp (p := 2) (u := 3) (ty := 28) rfl _ _ g 0 (mc y) _ rfl V11.range Try.underlying28 rfl (m_size _)) rfl ⟨y, rfl, rfl, o11, n11.base B16.out.size, b11⟩
  · have HP3 : PM = (mz0, 200) := by rw [HP.out, if_neg (fun h => hz0 (by rw [← HEZ.out]; exact h.1))]
    subst HP3
    have hzb : (z != 0) = true := by simpa using hz0
    have VT := Lib.hid (vthere U9.out (us := mc mx0) rfl)
    clear hz0 hz
    go_upto_region 9 with (go_at_call 36; refine EM.out.mono ?_; rintro e v13 ⟨rfl, rfl⟩)
    go_wp2_with (first
        | (with_reducible show wpList _ _ _ (⟨some 35, .build 28 #[], _, _, _, _⟩ :: _) _ _; refine wpList_exec (op := ⟨some 35, .build 28 #[], _, _, _, _⟩) rfl (.agg (mc mx0).toArray) (by exact exec_bm0 rfl (build_m0 _)) ?_)
        | (with_reducible show wpList _ _ _ (⟨none, .store 28 (.tmp 2) (.tmp 35), _, _, _, _⟩ :: _) _ _; refine wpList_store_as (op := ⟨none, .store 28 (.tmp 2) (.tmp 35), _, _, _, _⟩) rfl 28 (.tmp 2) (.tmp 35) rfl (g) 0 (mc mx0).toArray rfl rfl (VT.out) (m_sizeA _) (m_oneA _) ?_; intro w10 hw10))
    have e9 := hw10.out
    have V9 := U9.out.store (us := mc mx0) rfl hw10
    have b9 : Below w.heap.size w w10 := by rw [e9]; exact below_setCells (by rw [Hg.out]; exact Nat.le_refl _) _ _ _ B9.out
    exact bodyPost_ret (v := .tuple #[.agg (mc mx0).toArray, .int .i64 200]) (results_mid_tmp (p := 2) (u := 3) (ty := 28) rfl _ _ g 0 (mc mx0) _ rfl V9.range Try.underlying28 rfl (m_size _)) rfl (parses0 b9)
set_option maxHeartbeats 8000000 in
theorem parse_yes5 {w : World} {B n c : Nat} {A : Option Addr} {bs : List Int} {s1 : St} (h : Bs w B A n bs) (hB : B ≤ w.heap.size) (hn : n ≤ 65536) (e1 : rByte (0, bs) = (5, s1)) : Calls Try.prog 18 #[.slice A n c] w (ParsesM w (parseM bs).1 (parseM bs).2) := by
  obtain ⟨W1, hW1⟩ : ∃ W, W = w.alloc (.cells #[.int .u8 0, .int .i64 0, .int .i64 0, .slice none 0 0, .int .i64 0, .int .i64 0, .slice none 0 0, .int .i64 0, .int .i64 0, .int .i64 0, .slice none 0 0, .int .i64 0] 28) := ⟨_, rfl⟩
  obtain ⟨g, hg⟩ : ∃ g, w.heap.size = g := ⟨_, rfl⟩
  have Hg := Lib.hid hg
  have b1 := Lib.hid (show Below w.heap.size w W1 by rw [hW1]; exact below_one _ _)
  have V1 := Lib.hid (show VBox W1 g 12 (mc mx0) by rw [hW1]; exact vbox_new _ (mc mx0) _ _ _ hg rfl (by omega))
  have HW1 := Lib.hid hW1
  have NR := Lib.hid (newreader_any (w := W1) c (h.belowM b1.out hB) (Nat.le_trans hB b1.out.size) (by omega))
  have HW : Hid (newWhy bs = (0, bs)) := Lib.hid (by unfold newWhy; rw [if_pos (by rw [h.len]; omega)])
  have T0 : StM (0, bs) := ⟨h.isBytes, by rw [h.len]; omega⟩
  clear hW1 hg h
  obtain ⟨g1, t1⟩ := byte_rm T0 e1
  have HP := Lib.hid (parseM_of e1)
  have E1 := Lib.hid e1
  obtain ⟨PM, hPM⟩ : ∃ p, parseM bs = p := ⟨_, rfl⟩
  rw [hPM] at HP ⊢
  have KO := Lib.hid (fun W => show Calls Try.prog 41 #[.int .u8 5] W (fun e w' => e = .returned (.tuple #[.agg #[.func (.func 106) #[] #[], .func (.func 107) #[] #[], .func (.func 108) #[] #[], .func (.func 109) #[] #[]], .bool true]) ∧ Below W.heap.size W w') from kindof_any 5 W)
  have hst := fun (f : Fn) (p : Addr) (W : World) => run_store Try.prog W p (.func f #[] #[]) .plain rfl
  clear e1 hn T0 hPM
  go_enter Try.func18, Try.ntmps18
  go_upto_region 1 with fail
  rw [← HW1.out, Hg.out]
  go_upto_region 2 with (go_at_call 33; refine NR.out.mono ?_; rintro e w3 ⟨b, rfl, hrd, hbl, hb⟩; rw [HW.out] at hrd; have B3 := Lib.hid hb; have BL := Lib.hid hbl; have R3 := Lib.hid (show RdP b ⟨W1.heap.size, b⟩ w3 (0, bs) from hrd); clear hrd hbl hb)
  have V3 := Lib.hid (V1.out.grow B3.out)
  have lt3 := Lib.hid (Rd.lt R3.out)
  have gb : g < b := Nat.lt_of_lt_of_le V1.out.lt BL.out
  go_upto_region 3 with (go_at_call 56; refine (byte_st R3.out E1.out).mono ?_; rintro e w4 ⟨rfl, hr, hg⟩; have R4 := Lib.hid hr; have G4 := Lib.hid hg; clear hr hg)
  have V4 := Lib.hid (V3.out.same (G4.out.block g V3.out.lt (fun e => by injection e with e; omega)))
  have B4 := Lib.hid (show Below W1.heap.size W1 w4 from B3.out.trans (below_of_grown G4.out B3.out.size (fun j hj => by injection hj with hj; have := BL.out; omega)))
  go_upto_region 4 with (go_at_call 41; refine (KO.out _).mono ?_; rintro e w5 ⟨rfl, hb⟩; have B5 := Lib.hid hb; clear hb)
  obtain ⟨w6, hw6⟩ : ∃ W, W = w5.alloc (.cells #[.func (.func 106) #[] #[], .func (.func 107) #[] #[], .func (.func 108) #[] #[], .func (.func 109) #[] #[]] 71) := ⟨_, rfl⟩
  have b6 := Lib.hid (show Below w5.heap.size w5 w6 by rw [hw6]; exact below_one _ _)
  have B6 := Lib.hid (B5.out.trans (b6.out.mono B5.out.size))
  have V6 := Lib.hid (V4.out.grow B6.out)
  have K6 := Lib.hid (show VBox w6 w5.heap.size 4 kc5 by rw [hw6]; exact vbox_new w5 kc5 _ _ 4 rfl rfl (by omega))
  have lt4 : b < w4.heap.size := Rd.lt R4.out
  have RK := Lib.hid (rdk_P (B := ⟨W1.heap.size, b⟩) lt4)
  have R6 := Lib.hid (RK.out.keep w4 w6 _ none R4.out (grown_of_below B6.out none) (fun j hj => by cases hj))
  have B16 := Lib.hid (show Below w.heap.size w w6 from b1.out.trans ((B4.out.trans (B6.out.mono B4.out.size)).mono b1.out.size))
  have hg5 : w4.heap.size ≤ w5.heap.size := B5.out.size
  obtain ⟨g5, hg5'⟩ : ∃ b, w5.heap.size = b := ⟨_, rfl⟩
  rw [← hw6, hg5']
  rw [hg5'] at K6 hg5
  clear hw6 hst hg5'
  have x3 := K6.out.at1 (i := 3) rfl
  have RC := Lib.hid (rk5 w6 b ⟨W1.heap.size, b⟩ s1 R6.out t1)
  unfold fv at x3
  go_upto_region 7 with (go_at_call 109; refine RC.out.mono ?_; rintro e w7 ⟨x, he, hz, hr, hg, hnw, hok⟩; have he : e = .returned (.agg #[.int .u8 x.kind, .int .i64 x.client, .int .i64 x.id, .slice x.A x.n x.c, .int .i64 x.upto, .int .i64 x.frm, .slice x.EA x.en x.ecp, .int .i64 x.hav, .int .i64 x.don, .int .i64 x.ep, .slice x.MA x.mn x.mcp, .int .i64 x.since]) := he; subst he; have R7 := Lib.hid hr; have G7 := Lib.hid hg; have HZ := Lib.hid hz; have NW := Lib.hid hnw; have OK := Lib.hid hok; clear hr hg hz hnw hok)
  obtain ⟨w8, hw8⟩ : ∃ W, W = w7.alloc (.cells #[.int .u8 x.kind, .int .i64 x.client, .int .i64 x.id, .slice x.A x.n x.c, .int .i64 x.upto, .int .i64 x.frm, .slice x.EA x.en x.ecp, .int .i64 x.hav, .int .i64 x.don, .int .i64 x.ep, .slice x.MA x.mn x.mcp, .int .i64 x.since] 28) := ⟨_, rfl⟩
  obtain ⟨g8, hg8⟩ : ∃ b, w7.heap.size = b := ⟨_, rfl⟩
  have b8 := Lib.hid (show Below w7.heap.size w7 w8 by rw [hw8]; exact below_one _ _)
  have V8 := Lib.hid (show VBox w8 g8 12 (mc x) by rw [hw8]; exact vbox_new w7 (mc x) _ _ _ hg8 rfl (by omega))
  have lt8 : w6.heap.size ≤ g8 := by rw [← hg8]; exact G7.out.size
  have Hg8 := Lib.hid hg8
  rw [← hw8, hg8]
  clear hw8 hg8 x3
  have y0 := V8.out.at1 (i := 0) rfl
  have f0 := V8.out.fr1 (i := 0) (by omega)
  go_upto_region 8 with fail
  obtain ⟨w9, hw9⟩ : ∃ W, W = w8.setCell ⟨g8, 0, none⟩ (.int .u8 5) := ⟨_, rfl⟩
  obtain ⟨y, hy⟩ : ∃ y : MX, y = { x with kind := 5 } := ⟨_, rfl⟩
  have lt6 : b < w6.heap.size := by have := B6.out.size; omega
  have lg6 : g < w6.heap.size := V6.out.lt
  have G9 := Lib.hid (show w6.grownBy w9 (some b) by rw [hw9]; exact grown_new (grown_new G7.out (grown_of_below b8.out none) (fun j hj => by cases hj)) (grown_cell w8 ⟨g8, 0, none⟩ _) (fun j hj => by injection hj with hj; have : g8 = j := hj; omega))
  have V9 := Lib.hid (show VBox w9 g8 12 (mc y) by rw [hw9, hy]; exact V8.out.set1 (i := 0) (by omega) (.int .u8 5))
  have U9 := Lib.hid (show VBox w9 g 12 (mc mx0) from V6.out.same (G9.out.block g lg6 (fun e => by injection e with e; omega)))
  have R9 := Lib.hid (show RdP b ⟨W1.heap.size, b⟩ w9 (ownR 5 s1).2 by
    have r8 := RK.out.keep w7 w8 _ none R7.out (grown_of_below b8.out none) (fun j hj => by cases hj)
    rw [hw9]
    exact RK.out.keep w8 _ _ (some g8) r8 (grown_cell w8 ⟨g8, 0, none⟩ _) (fun j hj => by injection hj with hj; have := B6.out.size; omega))
  have N9 : Hid (NewM w9 w6.heap.size y) := Lib.hid (by
    have n8 : NewM w8 w6.heap.size x := NW.out.keep (fun j h1 h2 => b8.out.block j h2)
    have hb8 := b8.out.size
    rw [hy]
    refine NewM.kind (NewM.keep (w := w7) NW.out (fun j h1 h2 => ?_)) 5
    rw [hw9]
    exact (Below.heap_setCell _ _ _ _ (by show j ≠ g8; have := Hg8.out; omega)).trans (b8.out.block j h2))
  have O9 : Hid (MXOk w9 w9.heap.size y) := Lib.hid (N9.out.ok (by rw [hy]; exact OK.out.setKind (by omega)))
  have B9 := Lib.hid (show Below w.heap.size w w9 from B16.out.trans (below_of_grown G9.out B16.out.size (fun j hj => by injection hj with hj; have := b1.out.size; have := BL.out; omega)))
  have HY : Hid ((ownR 5 s1).2.1 = 0 → y.z = (ownR 5 s1).1) := Lib.hid (fun h0 => by
    have e := HZ.out h0
    have hk := own_kind 5 s1
    have := kind_back (ownR 5 s1).1 5 hk
    rw [← e] at this
    rw [hy]
    exact this)
  rw [← hw9]
  clear y0 f0 hw9 hy
  obtain ⟨z, hz⟩ : ∃ z, endZ (ownR 5 s1).2.1 (ownR 5 s1).2.2 = z := ⟨_, rfl⟩
  have EM := Lib.hid (end_st R9.out z hz)
  have HEZ := Lib.hid hz
  by_cases hz0 : z = 0
  · obtain ⟨q, hq⟩ : ∃ q, mayM y.z = q := ⟨_, rfl⟩
    subst hz0
    have MM := Lib.hid (may_any q O9.out (Nat.le_refl _) hq)
    have hY := HY.out (endZ_zero HEZ.out).1
    have HMQ : Hid (mayM (ownR 5 s1).1 = q) := Lib.hid (by rw [← hY]; exact hq)
    have HYZ := Lib.hid hY
    clear hq hz hY
    cases q with
    | false =>
      have HP3 : PM = (mz0, 200) := by rw [HP.out, if_neg (fun h => by have := h.2; rw [HMQ.out] at this; cases this)]
      subst HP3
      go_upto_region 9 with (first
            | (go_at_call 36; refine EM.out.mono ?_; rintro e v13 ⟨rfl, rfl⟩)
            | (with_reducible show wpList _ _ _ (⟨some 31, .load 28 (.tmp 8), _, _, _, _⟩ :: _) _ _; refine wpList_load_guardL (op := ⟨some 31, .load 28 (.tmp 8), _, _, _, some (3, false)⟩) (by first | rfl | go_simp) 28 (.tmp 8) rfl (g8) (0) rfl (mc y) _ (V9.out.range) Try.underlying28 rfl (m_size _) ?_)
            | (go_at_call 13; refine MM.out.mono ?_; rintro e w10 ⟨rfl, hb⟩; have B10 := Lib.hid hb; clear hb))
      have U10 := Lib.hid (U9.out.grow B10.out)
      have VT := Lib.hid (vthere U10.out (us := mc mx0) rfl)
      go_wp2_with (first
        | (with_reducible show wpList _ _ _ (⟨some 35, .build 28 #[], _, _, _, _⟩ :: _) _ _; refine wpList_exec (op := ⟨some 35, .build 28 #[], _, _, _, _⟩) rfl (.agg (mc mx0).toArray) (by exact exec_bm0 rfl (build_m0 _)) ?_)
        | (with_reducible show wpList _ _ _ (⟨none, .store 28 (.tmp 2) (.tmp 35), _, _, _, _⟩ :: _) _ _; refine wpList_store_as (op := ⟨none, .store 28 (.tmp 2) (.tmp 35), _, _, _, _⟩) rfl 28 (.tmp 2) (.tmp 35) rfl (g) 0 (mc mx0).toArray rfl rfl (VT.out) (m_sizeA _) (m_oneA _) ?_; intro w9 hw9))
      have e9 := hw9.out
      have V9 := U10.out.store (us := mc mx0) rfl hw9
      have b9 : Below w.heap.size w w9 := by rw [e9]; exact below_setCells (by rw [Hg.out]; exact Nat.le_refl _) _ _ _ (B9.out.trans (B10.out.mono B9.out.size))
      exact bodyPost_ret (v := .tuple #[.agg (mc mx0).toArray, .int .i64 200]) (results_mid_tmp (p := 2) (u := 3) (ty := 28) rfl _ _ g 0 (mc mx0) _ rfl V9.range Try.underlying28 rfl (m_size _)) rfl (parses0 b9)
    | true =>
      have HP3 : PM = (y.z, 0) := by rw [HP.out, if_pos ⟨HEZ.out, HMQ.out⟩, HYZ.out]
      subst HP3
      go_upto_region 10 with (first
            | (go_at_call 36; refine EM.out.mono ?_; rintro e v13 ⟨rfl, rfl⟩)
            | (with_reducible show wpList _ _ _ (⟨some 31, .load 28 (.tmp 8), _, _, _, _⟩ :: _) _ _; refine wpList_load_guardL (op := ⟨some 31, .load 28 (.tmp 8), _, _, _, some (3, false)⟩) (by first | rfl | go_simp) 28 (.tmp 8) rfl (g8) (0) rfl (mc y) _ (V9.out.range) Try.underlying28 rfl (m_size _) ?_)
            | (go_at_call 13; refine MM.out.mono ?_; rintro e w10 ⟨rfl, hb⟩; have B10 := Lib.hid hb; clear hb))
      have U10 := Lib.hid (U9.out.grow B10.out)
      have VX := Lib.hid (V9.out.grow B10.out)
      have VT := Lib.hid (vthere U10.out (us := mc y) rfl)
      go_wp2_with (first
        | (with_reducible show wpList _ _ _ (⟨some 36, .load 28 (.tmp 8), _, _, _, _⟩ :: _) _ _; refine wpList_load_mid (op := ⟨some 36, .load 28 (.tmp 8), _, _, _, _⟩) rfl 28 (.tmp 8) rfl (g8) (0) rfl (mc y) _ (VX.out.range) Try.underlying28 rfl (m_size _) ?_)
        | (with_reducible show wpList _ _ _ (⟨none, .store 28 (.tmp 2) (.tmp 36), _, _, _, _⟩ :: _) _ _; refine wpList_store_as (op := ⟨none, .store 28 (.tmp 2) (.tmp 36), _, _, _, _⟩) rfl 28 (.tmp 2) (.tmp 36) rfl (g) 0 (mc y).toArray rfl rfl (VT.out) (m_sizeA _) (m_oneA _) ?_; intro w11 hw11))
      have e9 := hw11.out
      have V11 := U10.out.store (us := mc y) rfl hw11
      have b11 : Below w.heap.size w w11 := by rw [e9]; exact below_setCells (by rw [Hg.out]; exact Nat.le_refl _) _ _ _ (B9.out.trans (B10.out.mono B9.out.size))
      have n11 : NewM w11 w6.heap.size y := NewM.keep (w := w9) N9.out (fun j h1 h2 => by rw [e9]; exact (heap_setCells g j (by omega) _ _ _).trans (B10.out.block j h2))
      have o11 : MXOk w11 w11.heap.size y := n11.ok O9.out
      exact bodyPost_ret (v := .tuple #[.agg (mc y).toArray, .int .i64 0]) (results_mid_tmp (p := 2) (u := 3) (ty := 28) rfl _ _ g 0 (mc y) _ rfl V11.range Try.underlying28 rfl (m_size _)) rfl ⟨y, rfl, rfl, o11, n11.base B16.out.size, b11⟩
  · have HP3 : PM = (mz0, 200) := by rw [HP.out, if_neg (fun h => hz0 (by rw [← HEZ.out]; exact h.1))]
    subst HP3
    have hzb : (z != 0) = true := by simpa using hz0
    have VT := Lib.hid (vthere U9.out (us := mc mx0) rfl)
    clear hz0 hz
    go_upto_region 9 with (go_at_call 36; refine EM.out.mono ?_; rintro e v13 ⟨rfl, rfl⟩)
    go_wp2_with (first
        | (with_reducible show wpList _ _ _ (⟨some 35, .build 28 #[], _, _, _, _⟩ :: _) _ _; refine wpList_exec (op := ⟨some 35, .build 28 #[], _, _, _, _⟩) rfl (.agg (mc mx0).toArray) (by exact exec_bm0 rfl (build_m0 _)) ?_)
        | (with_reducible show wpList _ _ _ (⟨none, .store 28 (.tmp 2) (.tmp 35), _, _, _, _⟩ :: _) _ _; refine wpList_store_as (op := ⟨none, .store 28 (.tmp 2) (.tmp 35), _, _, _, _⟩) rfl 28 (.tmp 2) (.tmp 35) rfl (g) 0 (mc mx0).toArray rfl rfl (VT.out) (m_sizeA _) (m_oneA _) ?_; intro w10 hw10))
    have e9 := hw10.out
    have V9 := U9.out.store (us := mc mx0) rfl hw10
    have b9 : Below w.heap.size w w10 := by rw [e9]; exact below_setCells (by rw [Hg.out]; exact Nat.le_refl _) _ _ _ B9.out
    exact bodyPost_ret (v := .tuple #[.agg (mc mx0).toArray, .int .i64 200]) (results_mid_tmp (p := 2) (u := 3) (ty := 28) rfl _ _ g 0 (mc mx0) _ rfl V9.range Try.underlying28 rfl (m_size _)) rfl (parses0 b9)
set_option maxHeartbeats 8000000 in
theorem parse_yes6 {w : World} {B n c : Nat} {A : Option Addr} {bs : List Int} {s1 : St} (h : Bs w B A n bs) (hB : B ≤ w.heap.size) (hn : n ≤ 65536) (e1 : rByte (0, bs) = (6, s1)) : Calls Try.prog 18 #[.slice A n c] w (ParsesM w (parseM bs).1 (parseM bs).2) := by
  obtain ⟨W1, hW1⟩ : ∃ W, W = w.alloc (.cells #[.int .u8 0, .int .i64 0, .int .i64 0, .slice none 0 0, .int .i64 0, .int .i64 0, .slice none 0 0, .int .i64 0, .int .i64 0, .int .i64 0, .slice none 0 0, .int .i64 0] 28) := ⟨_, rfl⟩
  obtain ⟨g, hg⟩ : ∃ g, w.heap.size = g := ⟨_, rfl⟩
  have Hg := Lib.hid hg
  have b1 := Lib.hid (show Below w.heap.size w W1 by rw [hW1]; exact below_one _ _)
  have V1 := Lib.hid (show VBox W1 g 12 (mc mx0) by rw [hW1]; exact vbox_new _ (mc mx0) _ _ _ hg rfl (by omega))
  have HW1 := Lib.hid hW1
  have NR := Lib.hid (newreader_any (w := W1) c (h.belowM b1.out hB) (Nat.le_trans hB b1.out.size) (by omega))
  have HW : Hid (newWhy bs = (0, bs)) := Lib.hid (by unfold newWhy; rw [if_pos (by rw [h.len]; omega)])
  have T0 : StM (0, bs) := ⟨h.isBytes, by rw [h.len]; omega⟩
  clear hW1 hg h
  obtain ⟨g1, t1⟩ := byte_rm T0 e1
  have HP := Lib.hid (parseM_of e1)
  have E1 := Lib.hid e1
  obtain ⟨PM, hPM⟩ : ∃ p, parseM bs = p := ⟨_, rfl⟩
  rw [hPM] at HP ⊢
  have KO := Lib.hid (fun W => show Calls Try.prog 41 #[.int .u8 6] W (fun e w' => e = .returned (.tuple #[.agg #[.func (.func 90) #[] #[], .func (.func 91) #[] #[], .func (.func 92) #[] #[], .func (.func 93) #[] #[]], .bool true]) ∧ Below W.heap.size W w') from kindof_any 6 W)
  have hst := fun (f : Fn) (p : Addr) (W : World) => run_store Try.prog W p (.func f #[] #[]) .plain rfl
  clear e1 hn T0 hPM
  go_enter Try.func18, Try.ntmps18
  go_upto_region 1 with fail
  rw [← HW1.out, Hg.out]
  go_upto_region 2 with (go_at_call 33; refine NR.out.mono ?_; rintro e w3 ⟨b, rfl, hrd, hbl, hb⟩; rw [HW.out] at hrd; have B3 := Lib.hid hb; have BL := Lib.hid hbl; have R3 := Lib.hid (show RdP b ⟨W1.heap.size, b⟩ w3 (0, bs) from hrd); clear hrd hbl hb)
  have V3 := Lib.hid (V1.out.grow B3.out)
  have lt3 := Lib.hid (Rd.lt R3.out)
  have gb : g < b := Nat.lt_of_lt_of_le V1.out.lt BL.out
  go_upto_region 3 with (go_at_call 56; refine (byte_st R3.out E1.out).mono ?_; rintro e w4 ⟨rfl, hr, hg⟩; have R4 := Lib.hid hr; have G4 := Lib.hid hg; clear hr hg)
  have V4 := Lib.hid (V3.out.same (G4.out.block g V3.out.lt (fun e => by injection e with e; omega)))
  have B4 := Lib.hid (show Below W1.heap.size W1 w4 from B3.out.trans (below_of_grown G4.out B3.out.size (fun j hj => by injection hj with hj; have := BL.out; omega)))
  go_upto_region 4 with (go_at_call 41; refine (KO.out _).mono ?_; rintro e w5 ⟨rfl, hb⟩; have B5 := Lib.hid hb; clear hb)
  obtain ⟨w6, hw6⟩ : ∃ W, W = w5.alloc (.cells #[.func (.func 90) #[] #[], .func (.func 91) #[] #[], .func (.func 92) #[] #[], .func (.func 93) #[] #[]] 71) := ⟨_, rfl⟩
  have b6 := Lib.hid (show Below w5.heap.size w5 w6 by rw [hw6]; exact below_one _ _)
  have B6 := Lib.hid (B5.out.trans (b6.out.mono B5.out.size))
  have V6 := Lib.hid (V4.out.grow B6.out)
  have K6 := Lib.hid (show VBox w6 w5.heap.size 4 kc1 by rw [hw6]; exact vbox_new w5 kc1 _ _ 4 rfl rfl (by omega))
  have lt4 : b < w4.heap.size := Rd.lt R4.out
  have RK := Lib.hid (rdk_P (B := ⟨W1.heap.size, b⟩) lt4)
  have R6 := Lib.hid (RK.out.keep w4 w6 _ none R4.out (grown_of_below B6.out none) (fun j hj => by cases hj))
  have B16 := Lib.hid (show Below w.heap.size w w6 from b1.out.trans ((B4.out.trans (B6.out.mono B4.out.size)).mono b1.out.size))
  have hg5 : w4.heap.size ≤ w5.heap.size := B5.out.size
  obtain ⟨g5, hg5'⟩ : ∃ b, w5.heap.size = b := ⟨_, rfl⟩
  rw [← hw6, hg5']
  rw [hg5'] at K6 hg5
  clear hw6 hst hg5'
  have x3 := K6.out.at1 (i := 3) rfl
  have RC := Lib.hid (rk6 w6 b ⟨W1.heap.size, b⟩ s1 R6.out t1)
  unfold fv at x3
  go_upto_region 7 with (go_at_call 93; refine RC.out.mono ?_; rintro e w7 ⟨x, he, hz, hr, hg, hnw, hok⟩; have he : e = .returned (.agg #[.int .u8 x.kind, .int .i64 x.client, .int .i64 x.id, .slice x.A x.n x.c, .int .i64 x.upto, .int .i64 x.frm, .slice x.EA x.en x.ecp, .int .i64 x.hav, .int .i64 x.don, .int .i64 x.ep, .slice x.MA x.mn x.mcp, .int .i64 x.since]) := he; subst he; have R7 := Lib.hid hr; have G7 := Lib.hid hg; have HZ := Lib.hid hz; have NW := Lib.hid hnw; have OK := Lib.hid hok; clear hr hg hz hnw hok)
  obtain ⟨w8, hw8⟩ : ∃ W, W = w7.alloc (.cells #[.int .u8 x.kind, .int .i64 x.client, .int .i64 x.id, .slice x.A x.n x.c, .int .i64 x.upto, .int .i64 x.frm, .slice x.EA x.en x.ecp, .int .i64 x.hav, .int .i64 x.don, .int .i64 x.ep, .slice x.MA x.mn x.mcp, .int .i64 x.since] 28) := ⟨_, rfl⟩
  obtain ⟨g8, hg8⟩ : ∃ b, w7.heap.size = b := ⟨_, rfl⟩
  have b8 := Lib.hid (show Below w7.heap.size w7 w8 by rw [hw8]; exact below_one _ _)
  have V8 := Lib.hid (show VBox w8 g8 12 (mc x) by rw [hw8]; exact vbox_new w7 (mc x) _ _ _ hg8 rfl (by omega))
  have lt8 : w6.heap.size ≤ g8 := by rw [← hg8]; exact G7.out.size
  have Hg8 := Lib.hid hg8
  rw [← hw8, hg8]
  clear hw8 hg8 x3
  have y0 := V8.out.at1 (i := 0) rfl
  have f0 := V8.out.fr1 (i := 0) (by omega)
  go_upto_region 8 with fail
  obtain ⟨w9, hw9⟩ : ∃ W, W = w8.setCell ⟨g8, 0, none⟩ (.int .u8 6) := ⟨_, rfl⟩
  obtain ⟨y, hy⟩ : ∃ y : MX, y = { x with kind := 6 } := ⟨_, rfl⟩
  have lt6 : b < w6.heap.size := by have := B6.out.size; omega
  have lg6 : g < w6.heap.size := V6.out.lt
  have G9 := Lib.hid (show w6.grownBy w9 (some b) by rw [hw9]; exact grown_new (grown_new G7.out (grown_of_below b8.out none) (fun j hj => by cases hj)) (grown_cell w8 ⟨g8, 0, none⟩ _) (fun j hj => by injection hj with hj; have : g8 = j := hj; omega))
  have V9 := Lib.hid (show VBox w9 g8 12 (mc y) by rw [hw9, hy]; exact V8.out.set1 (i := 0) (by omega) (.int .u8 6))
  have U9 := Lib.hid (show VBox w9 g 12 (mc mx0) from V6.out.same (G9.out.block g lg6 (fun e => by injection e with e; omega)))
  have R9 := Lib.hid (show RdP b ⟨W1.heap.size, b⟩ w9 (ownR 6 s1).2 by
    have r8 := RK.out.keep w7 w8 _ none R7.out (grown_of_below b8.out none) (fun j hj => by cases hj)
    rw [hw9]
    exact RK.out.keep w8 _ _ (some g8) r8 (grown_cell w8 ⟨g8, 0, none⟩ _) (fun j hj => by injection hj with hj; have := B6.out.size; omega))
  have N9 : Hid (NewM w9 w6.heap.size y) := Lib.hid (by
    have n8 : NewM w8 w6.heap.size x := NW.out.keep (fun j h1 h2 => b8.out.block j h2)
    have hb8 := b8.out.size
    rw [hy]
    refine NewM.kind (NewM.keep (w := w7) NW.out (fun j h1 h2 => ?_)) 6
    rw [hw9]
    exact (Below.heap_setCell _ _ _ _ (by show j ≠ g8; have := Hg8.out; omega)).trans (b8.out.block j h2))
  have O9 : Hid (MXOk w9 w9.heap.size y) := Lib.hid (N9.out.ok (by rw [hy]; exact OK.out.setKind (by omega)))
  have B9 := Lib.hid (show Below w.heap.size w w9 from B16.out.trans (below_of_grown G9.out B16.out.size (fun j hj => by injection hj with hj; have := b1.out.size; have := BL.out; omega)))
  have HY : Hid ((ownR 6 s1).2.1 = 0 → y.z = (ownR 6 s1).1) := Lib.hid (fun h0 => by
    have e := HZ.out h0
    have hk := own_kind 6 s1
    have := kind_back (ownR 6 s1).1 6 hk
    rw [← e] at this
    rw [hy]
    exact this)
  rw [← hw9]
  clear y0 f0 hw9 hy
  obtain ⟨z, hz⟩ : ∃ z, endZ (ownR 6 s1).2.1 (ownR 6 s1).2.2 = z := ⟨_, rfl⟩
  have EM := Lib.hid (end_st R9.out z hz)
  have HEZ := Lib.hid hz
  by_cases hz0 : z = 0
  · obtain ⟨q, hq⟩ : ∃ q, mayM y.z = q := ⟨_, rfl⟩
    subst hz0
    have MM := Lib.hid (may_any q O9.out (Nat.le_refl _) hq)
    have hY := HY.out (endZ_zero HEZ.out).1
    have HMQ : Hid (mayM (ownR 6 s1).1 = q) := Lib.hid (by rw [← hY]; exact hq)
    have HYZ := Lib.hid hY
    clear hq hz hY
    cases q with
    | false =>
      have HP3 : PM = (mz0, 200) := by rw [HP.out, if_neg (fun h => by have := h.2; rw [HMQ.out] at this; cases this)]
      subst HP3
      go_upto_region 9 with (first
            | (go_at_call 36; refine EM.out.mono ?_; rintro e v13 ⟨rfl, rfl⟩)
            | (with_reducible show wpList _ _ _ (⟨some 31, .load 28 (.tmp 8), _, _, _, _⟩ :: _) _ _; refine wpList_load_guardL (op := ⟨some 31, .load 28 (.tmp 8), _, _, _, some (3, false)⟩) (by first | rfl | go_simp) 28 (.tmp 8) rfl (g8) (0) rfl (mc y) _ (V9.out.range) Try.underlying28 rfl (m_size _) ?_)
            | (go_at_call 13; refine MM.out.mono ?_; rintro e w10 ⟨rfl, hb⟩; have B10 := Lib.hid hb; clear hb))
      have U10 := Lib.hid (U9.out.grow B10.out)
      have VT := Lib.hid (vthere U10.out (us := mc mx0) rfl)
      go_wp2_with (first
        | (with_reducible show wpList _ _ _ (⟨some 35, .build 28 #[], _, _, _, _⟩ :: _) _ _; refine wpList_exec (op := ⟨some 35, .build 28 #[], _, _, _, _⟩) rfl (.agg (mc mx0).toArray) (by exact exec_bm0 rfl (build_m0 _)) ?_)
        | (with_reducible show wpList _ _ _ (⟨none, .store 28 (.tmp 2) (.tmp 35), _, _, _, _⟩ :: _) _ _; refine wpList_store_as (op := ⟨none, .store 28 (.tmp 2) (.tmp 35), _, _, _, _⟩) rfl 28 (.tmp 2) (.tmp 35) rfl (g) 0 (mc mx0).toArray rfl rfl (VT.out) (m_sizeA _) (m_oneA _) ?_; intro w9 hw9))
      have e9 := hw9.out
      have V9 := U10.out.store (us := mc mx0) rfl hw9
      have b9 : Below w.heap.size w w9 := by rw [e9]; exact below_setCells (by rw [Hg.out]; exact Nat.le_refl _) _ _ _ (B9.out.trans (B10.out.mono B9.out.size))
      exact bodyPost_ret (v := .tuple #[.agg (mc mx0).toArray, .int .i64 200]) (results_mid_tmp (p := 2) (u := 3) (ty := 28) rfl _ _ g 0 (mc mx0) _ rfl V9.range Try.underlying28 rfl (m_size _)) rfl (parses0 b9)
    | true =>
      have HP3 : PM = (y.z, 0) := by rw [HP.out, if_pos ⟨HEZ.out, HMQ.out⟩, HYZ.out]
      subst HP3
      go_upto_region 10 with (first
            | (go_at_call 36; refine EM.out.mono ?_; rintro e v13 ⟨rfl, rfl⟩)
            | (with_reducible show wpList _ _ _ (⟨some 31, .load 28 (.tmp 8), _, _, _, _⟩ :: _) _ _; refine wpList_load_guardL (op := ⟨some 31, .load 28 (.tmp 8), _, _, _, some (3, false)⟩) (by first | rfl | go_simp) 28 (.tmp 8) rfl (g8) (0) rfl (mc y) _ (V9.out.range) Try.underlying28 rfl (m_size _) ?_)
            | (go_at_call 13; refine MM.out.mono ?_; rintro e w10 ⟨rfl, hb⟩; have B10 := Lib.hid hb; clear hb))
      have U10 := Lib.hid (U9.out.grow B10.out)
      have VX := Lib.hid (V9.out.grow B10.out)
      have VT := Lib.hid (vthere U10.out (us := mc y) rfl)
      go_wp2_with (first
        | (with_reducible show wpList _ _ _ (⟨some 36, .load 28 (.tmp 8), _, _, _, _⟩ :: _) _ _; refine wpList_load_mid (op := ⟨some 36, .load 28 (.tmp 8), _, _, _, _⟩) rfl 28 (.tmp 8) rfl (g8) (0) rfl (mc y) _ (VX.out.range) Try.underlying28 rfl (m_size _) ?_)
        | (with_reducible show wpList _ _ _ (⟨none, .store 28 (.tmp 2) (.tmp 36), _, _, _, _⟩ :: _) _ _; refine wpList_store_as (op := ⟨none, .store 28 (.tmp 2) (.tmp 36), _, _, _, _⟩) rfl 28 (.tmp 2) (.tmp 36) rfl (g) 0 (mc y).toArray rfl rfl (VT.out) (m_sizeA _) (m_oneA _) ?_; intro w11 hw11))
      have e9 := hw11.out
      have V11 := U10.out.store (us := mc y) rfl hw11
      have b11 : Below w.heap.size w w11 := by rw [e9]; exact below_setCells (by rw [Hg.out]; exact Nat.le_refl _) _ _ _ (B9.out.trans (B10.out.mono B9.out.size))
      have n11 : NewM w11 w6.heap.size y := NewM.keep (w := w9) N9.out (fun j h1 h2 => by rw [e9]; exact (heap_setCells g j (by omega) _ _ _).trans (B10.out.block j h2))
      have o11 : MXOk w11 w11.heap.size y := n11.ok O9.out
      exact bodyPost_ret (v := .tuple #[.agg (mc y).toArray, .int .i64 0]) (results_mid_tmp (p := 2) (u := 3) (ty := 28) rfl _ _ g 0 (mc y) _ rfl V11.range Try.underlying28 rfl (m_size _)) rfl ⟨y, rfl, rfl, o11, n11.base B16.out.size, b11⟩
  · have HP3 : PM = (mz0, 200) := by rw [HP.out, if_neg (fun h => hz0 (by rw [← HEZ.out]; exact h.1))]
    subst HP3
    have hzb : (z != 0) = true := by simpa using hz0
    have VT := Lib.hid (vthere U9.out (us := mc mx0) rfl)
    clear hz0 hz
    go_upto_region 9 with (go_at_call 36; refine EM.out.mono ?_; rintro e v13 ⟨rfl, rfl⟩)
    go_wp2_with (first
        | (with_reducible show wpList _ _ _ (⟨some 35, .build 28 #[], _, _, _, _⟩ :: _) _ _; refine wpList_exec (op := ⟨some 35, .build 28 #[], _, _, _, _⟩) rfl (.agg (mc mx0).toArray) (by exact exec_bm0 rfl (build_m0 _)) ?_)
        | (with_reducible show wpList _ _ _ (⟨none, .store 28 (.tmp 2) (.tmp 35), _, _, _, _⟩ :: _) _ _; refine wpList_store_as (op := ⟨none, .store 28 (.tmp 2) (.tmp 35), _, _, _, _⟩) rfl 28 (.tmp 2) (.tmp 35) rfl (g) 0 (mc mx0).toArray rfl rfl (VT.out) (m_sizeA _) (m_oneA _) ?_; intro w10 hw10))
    have e9 := hw10.out
    have V9 := U9.out.store (us := mc mx0) rfl hw10
    have b9 : Below w.heap.size w w10 := by rw [e9]; exact below_setCells (by rw [Hg.out]; exact Nat.le_refl _) _ _ _ B9.out
    exact bodyPost_ret (v := .tuple #[.agg (mc mx0).toArray, .int .i64 200]) (results_mid_tmp (p := 2) (u := 3) (ty := 28) rfl _ _ g 0 (mc mx0) _ rfl V9.range Try.underlying28 rfl (m_size _)) rfl (parses0 b9)
theorem parse_anyM {w : World} {B n c : Nat} {A : Option Addr} {bs : List Int} (h : Bs w B A n bs) (hB : B ≤ w.heap.size) (hn : n ≤ 65536) : Calls Try.prog 18 #[.slice A n c] w (ParsesM w (parseM bs).1 (parseM bs).2) := by
  obtain ⟨k, s1, e1⟩ : ∃ a s', rByte (0, bs) = (a, s') := ⟨_, _, rfl⟩
  cases hk : kindB k with
  | false =>
    have : parseM bs = (mz0, 200) := by rw [parseM_of e1, if_neg (fun h => by have := h.2; rw [may_own hk] at this; cases this)]
    rw [this]
    exact parse_no h hB hn e1 hk
  | true =>
    rcases kind_cases hk with rfl | rfl | rfl | rfl | rfl | rfl
    · exact parse_yes1 h hB hn e1
    · exact parse_yes2 h hB hn e1
    · exact parse_yes3 h hB hn e1
    · exact parse_yes4 h hB hn e1
    · exact parse_yes5 h hB hn e1
    · exact parse_yes6 h hB hn e1
end Go.Proofs.Ytfihiandifnkpaa
