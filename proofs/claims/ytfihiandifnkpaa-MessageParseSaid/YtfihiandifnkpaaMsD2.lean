/- A message that is read: the document's Parse. Printed by gen_msd2.py. -/
import Derived.Test.YtfihiandifnkpaaMsD1
import Derived.Test.YtfihiandifnkpaaMsRm
import Derived.Test.YtfihiandifnkpaaMsQ
namespace Go.Proofs.Ytfihiandifnkpaa
open Go.ChangeShapes Go.WideShapes Go.ChangeAt Go.RowKit
set_option linter.unusedVariables false
set_option maxRecDepth 100000
set_option linter.unusedSimpArgs false
open Plain Sha Ms
/-- A reader, a variable, a row that grows. -/
structure QB (R : World → St → Prop) (b : Nat) (w0 w : World) (r kr : Nat) (s : St) (cs : List Value) (m : Nat) (T : TypeId) (sz : Nat) (v : Value) (n : Nat) (vs : List Value) (l : List EX) : Prop where
  rd : R w s
  gb : w0.grownBy w (some b)
  keep : RdK R b w0.heap.size
  box : VBox w r kr cs
  lo : w0.heap.size ≤ r
  rm : r < m
  ms : m ≤ w.heap.size
  ow : w.ownsRow m T sz v n vs
  bo : Bodies w m l
  ty : T ≠ 5
section
variable {R : World → St → Prop} {b : Nat} {w0 w w' : World} {r kr : Nat} {s s' : St} {cs : List Value} {m : Nat} {T : TypeId} {sz : Nat} {v v' : Value} {n n' : Nat} {vs vs' : List Value} {l : List EX}
theorem QB.read (h : QB R b w0 w r kr s cs m T sz v n vs l) (hr : R w' s') (hg : w.grownBy w' (some b)) : QB R b w0 w' r kr s' cs m T sz v n vs l := by
  have hb := h.keep.lt
  have h1 := h.lo
  have h3 := h.ms
  have h4 := h.rm
  have ht : ∀ g, m ≤ g → g < w.heap.size → w'.heap[g]? = w.heap[g]? := fun g hm hs => hg.block g hs (fun e => by injection e with e; omega)
  exact ⟨hr, grown_trans h.gb hg, h.keep, h.box.same (hg.block r (by omega) (fun e => by injection e with e; omega)), h1, h4, Nat.le_trans h3 hg.size, own_keepB h.ow ht, h.bo.keep ht, h.ty⟩
theorem QB.grow (h : QB R b w0 w r kr s cs m T sz v n vs l) (hg : w.grownBy w' none) : QB R b w0 w' r kr s cs m T sz v n vs l := by
  have h3 := h.ms
  have h4 := h.rm
  have ht : ∀ g, m ≤ g → g < w.heap.size → w'.heap[g]? = w.heap[g]? := fun g hm hs => hg.block g hs (by simp)
  exact ⟨h.keep.keep w w' s none h.rd hg (fun j hj => by cases hj), grown_new h.gb hg (fun j hj => by cases hj), h.keep, h.box.same (hg.block r (by omega) (by simp)), h.lo, h4, Nat.le_trans h3 hg.size, own_keepB h.ow ht, h.bo.keep ht, h.ty⟩
theorem QB.drew1 (h : QB R b w0 w r kr s cs m T sz v n vs l) : QB R b w0 w.drew r kr s cs m T sz v n vs l := h.grow (grown_drewN w 1 none)
theorem QB.app (h : QB R b w0 w r kr s cs m T sz v n vs l) (ho : w'.ownsRow m T sz v' n' vs') (hg : w.grownBy w' v.ownBlock) : QB R b w0 w' r kr s cs m T sz v' n' vs' l := by
  have h3 := h.ms
  have h4 := h.rm
  have h1 := h.lo
  have hq : ∀ j, v.ownBlock = some j → m ≤ j := fun j hj => (h.ow.lt j hj).1
  refine ⟨h.keep.keep w w' s _ h.rd hg (fun j hj => by have := hq j hj; omega), grown_new h.gb hg (fun j hj => by have := hq j hj; omega), h.keep, h.box.same (hg.block r (by omega) (fun e => by have := hq r e.symm; omega)), h1, h4, Nat.le_trans h3 hg.size, ho, fun x hx => own_keepO (h.bo x hx) (fun g hgx => hg.block g ((h.bo x hx).lt g hgx).2 (fun e => own_apart (h.bo x hx) h.ow (fun e => h.ty e.symm) hgx e.symm)), h.ty⟩
theorem QB.set (h : QB R b w0 w r kr s cs m T sz v n vs l) {i : Nat} (hi : i < kr) (u : Value) : QB R b w0 (w.setCell ⟨r, i, none⟩ u) r kr s (cs.set i u) m T sz v n vs l := by
  have h4 := h.rm
  have ht : ∀ g, m ≤ g → g < w.heap.size → (w.setCell ⟨r, i, none⟩ u).heap[g]? = w.heap[g]? := fun g hm hs => Below.heap_setCell _ _ _ _ (by show g ≠ r; omega)
  exact ⟨h.keep.keep w _ s (some r) h.rd (grown_cell w ⟨r, i, none⟩ u) (fun j hj => by injection hj with hj; have := h.lo; omega), grown_new h.gb (grown_cell w ⟨r, i, none⟩ u) (fun j hj => by injection hj with hj; have := h.lo; have : r = j := hj; omega), h.keep, h.box.set1 hi u, h.lo, h4, by simpa [World.setCell] using h.ms, own_keepB h.ow ht, h.bo.keep ht, h.ty⟩
theorem QB.cell (h : QB R b w0 w r kr s cs m T sz v n vs l) (i : Nat) {u : Value} (hv : cs[i]? = some u) : w.cell? ⟨r, i, none⟩ = some u ∧ w.frozen? ⟨r, i, none⟩ = false := by
  have hi : i < kr := by rw [← h.box.len]; exact (List.getElem?_eq_some_iff.1 hv).1
  exact ⟨h.box.at1 hv, h.box.fr1 hi⟩
theorem QB.body (h : QB R b w0 w r kr s cs m T sz v n vs l) {x : EX} (hx : w.ownsRow m 5 1 (.slice x.A x.n x.c) x.n (vals x.body)) : QB R b w0 w r kr s cs m T sz v n vs (l ++ [x]) :=
  ⟨h.rd, h.gb, h.keep, h.box, h.lo, h.rm, h.ms, h.ow, fun y hy => by
    rcases List.mem_append.1 hy with hy | hy
    · exact h.bo y hy
    · rw [List.mem_singleton.1 hy]; exact hx, h.ty⟩
theorem QB.row (h : QB R b w0 w r kr s cs m T sz v n vs l) {T' : TypeId} {sz' n' : Nat} {v' : Value} {vs' : List Value} (ho : w.ownsRow m T' sz' v' n' vs') (ht : T' ≠ 5) : QB R b w0 w r kr s cs m T' sz' v' n' vs' l :=
  ⟨h.rd, h.gb, h.keep, h.box, h.lo, h.rm, h.ms, ho, h.bo, ht⟩
theorem QB.on (h : QB R b w0 w r kr s cs m T sz v n vs l) : b < w.heap.size := Nat.lt_of_lt_of_le h.keep.lt h.gb.size
end
theorem NewM.keepB {w w' : World} {m : Nat} {x : MX} (h : NewM w m x) (hk : ∀ j, m ≤ j → j < w.heap.size → w'.heap[j]? = w.heap[j]?) : NewM w' m x := ⟨own_keepB h.body hk, own_keepB h.es hk, h.bo.keep hk, own_keepB h.ms hk⟩
theorem NewM.baseB {w : World} {m m' : Nat} {x : MX} (h : NewM w m x) (hm : m' ≤ m) : NewM w m' x := ⟨own_base h.body hm, own_base h.es hm, fun y hy => own_base (h.bo y hy) hm, own_base h.ms hm⟩
theorem own_capM {w : World} {base n c size : Nat} {A : Option Addr} {t : TypeId} {xs : List Value} (h : w.ownsRow base t size (.slice A n c) n xs) : n ≤ c ∧ c ≤ maxLen := by
  obtain ⟨A', c', e, h1, h2⟩ := own_shapeM h
  injection e with _ _ e
  subst e
  exact ⟨h1, h2⟩
theorem mxok_new {w : World} {m : Nat} {x : MX} (h : NewM w m x) (z : MsgOk x.z) : MXOk w w.heap.size x :=
  ⟨z.kind, z.client, z.id, (own_capM h.body).1, (own_capM h.body).2, bs_of_own h.body z.body, z.upto, z.frm, (own_capM h.es).1, (own_capM h.es).2, ents_of_own h.es h.bo z.es, z.hav, z.don, z.ep, (own_capM h.ms).1, (own_capM h.ms).2, ⟨rws_of_own bc_len (by omega) h.ms, z.ms⟩, z.since⟩
set_option maxHeartbeats 8000000 in
theorem rparse1_any {w : World} {B n c : Nat} {A : Option Addr} {bs : List Int} (h : Bs w B A n bs) (hB : B ≤ w.heap.size) (hc : n ≤ c) (hn : n ≤ 65536) (hk : (rByte (0, bs)).1 = 1) : Calls Try.prog 17 #[.slice A n c] w (ParsesM w (parseM bs).1 (parseM bs).2) := by
  obtain ⟨W1, hW1⟩ : ∃ W, W = w.alloc (.cells #[.int .u8 0, .int .i64 0, .int .i64 0, .slice none 0 0, .int .i64 0, .int .i64 0, .slice none 0 0, .int .i64 0, .int .i64 0, .int .i64 0, .slice none 0 0, .int .i64 0] 28) := ⟨_, rfl⟩
  obtain ⟨g, hg⟩ : ∃ g, w.heap.size = g := ⟨_, rfl⟩
  have b1 := Lib.hid (show Below w.heap.size w W1 by rw [hW1]; exact below_one _ _)
  have V1 := Lib.hid (show VBox W1 g 12 (mc mx0) by rw [hW1]; exact vbox_new _ (mc mx0) _ _ _ hg rfl (by omega))
  have z1 := Lib.hid (show W1.heap.size = g + 1 by rw [hW1]; simp [hg])
  have Hg := Lib.hid hg
  have HBg : B ≤ g := by omega
  have NR := Lib.hid (new_rr (w := W1) c (h.belowM b1.out hB) (Nat.le_trans hB b1.out.size) hc hn)
  have HW1 := Lib.hid hW1
  obtain ⟨kd, s4, hb4⟩ : ∃ a s', rByte (0, bs) = (a, s') := ⟨_, _, rfl⟩
  have HB4 := Lib.hid hb4
  have T0 : StM (0, bs) := ⟨h.isBytes, by show bs.length ≤ 65536; rw [h.len]; exact hn⟩
  obtain ⟨hkr, t4⟩ := byte_rm T0 hb4
  have T4 := Lib.hid t4
  clear hW1 hg h hb4 T0 t4
  go_enter Try.func17, Try.ntmps17
  go_upto_region 1 with fail
  rw [← HW1.out, Hg.out]
  go_upto_region 2 with (go_at_call 48; refine NR.out.mono ?_; rintro e w3 ⟨rfl, hrd, hb, hlt⟩; have HB3 := Lib.hid hb; have HRD := Lib.hid hrd; have HLT := Lib.hid hlt; clear hb hrd hlt)
  obtain ⟨rb, hrb⟩ : ∃ b, W1.heap.size = b := ⟨_, rfl⟩
  have B3 := Lib.hid (b1.out.trans (HB3.out.mono b1.out.size))
  have VG3 := Lib.hid (V1.out.grow HB3.out)
  rw [hrb] at HRD HLT ⊢
  have HRG := Lib.hid (show rb = g + 1 by rw [← hrb]; exact z1.out)
  have hBr : B ≤ rb := by rw [HRG.out]; omega
  have RD3 := Lib.hid (show RdD rb B w3 (0, bs) from HRD.out)
  clear hrb z1
  go_upto_region 3 with (go_at_call 49; refine (byte_sd RD3.out HB4.out).mono ?_; rintro e v4 ⟨rfl, hr, hg⟩; have R4 := Lib.hid hr; have GW4 := Lib.hid hg; clear hr hg)
  obtain ⟨W5, hW5⟩ : ∃ W, W = v4.alloc (.cells #[.int .u8 kd, .int .i64 0, .int .i64 0, .slice none 0 0, .int .i64 0, .int .i64 0, .slice none 0 0, .int .i64 0, .int .i64 0, .int .i64 0, .slice none 0 0, .int .i64 0] 28) := ⟨_, rfl⟩
  obtain ⟨g5, hg5⟩ : ∃ g, v4.heap.size = g := ⟨_, rfl⟩
  have hg35 : w3.heap.size ≤ g5 := by rw [← hg5]; exact GW4.out.size
  have hgr : g < rb ∧ rb < w3.heap.size := ⟨by rw [HRG.out]; omega, HLT.out⟩
  have Q5 : Hid (QB (RdD rb B) rb w3 W5 g5 12 s4 (mc { mx0 with kind := kd }) (g5 + 1) 91 3 (.slice none 0 0) 0 [] []) := Lib.hid (by
    have RK := rdk_D (m := w3.heap.size) HLT.out hBr
    have g2 : v4.grownBy W5 none := by rw [hW5]; exact grown_alloc v4 _ _
    exact ⟨RK.keep v4 W5 _ none R4.out g2 (fun j hj => by cases hj), grown_new GW4.out g2 (fun j hj => by cases hj), RK, by rw [hW5]; exact vbox_new v4 (mc { mx0 with kind := kd }) _ _ _ hg5 rfl (by omega), hg35, by omega, by rw [hW5]; simp [hg5], World.ownsRow_nil _ _ _ _, fun x hx => (by cases hx), by decide⟩)
  rw [← hW5, hg5]
  clear hW5 hg5 HRD RD3 R4 GW4 NR V1
  obtain ⟨k0, _⟩ := Q5.out.cell 0 rfl
  go_upto_region 4 with fail
  clear k0
  have ek : kd = 1 := by rw [HB4.out] at hk; exact hk
  subst ek
  clear hk
  obtain ⟨a1, s1, e1⟩ : ∃ a s', rInt s4 = (a, s') := ⟨_, _, rfl⟩
  obtain ⟨a2, s2, e2⟩ : ∃ a s', rInt s1 = (a, s') := ⟨_, _, rfl⟩
  obtain ⟨a3, s3, e3⟩ : ∃ a s', rBytes s2 = (a, s') := ⟨_, _, rfl⟩
  have HR : Hid (ownR 1 s4 = ({ mz0 with kind := 1, client := a1, id := a2, body := a3 }, s3)) := Lib.hid (by unfold ownR; simp [e1, e2, e3])
  have E1 := Lib.hid e1
  have E2 := Lib.hid e2
  have E3 := Lib.hid e3
  clear e1 e2 e3
  go_upto_region 7 with (go_at_call 50; refine (int_sd Q5.out.rd E1.out).mono ?_; rintro e v1 ⟨rfl, hr, hg⟩; have P1 := Lib.hid (Q5.out.read hr hg); obtain ⟨x1, y1⟩ := P1.out.cell 1 rfl; have N1 := Lib.hid (P1.out.set (i := 1) (by omega) (.int .i64 a1)); clear hr hg)
  have M1 : Hid (QB (RdD rb B) rb w3 _ g5 12 s1 (mc { mx0 with kind := 1, client := a1 }) (g5 + 1) 91 3 (.slice none 0 0) 0 [] []) := Lib.hid N1.out
  clear x1 y1 N1
  go_upto_region 8 with (go_at_call 50; refine (int_sd M1.out.rd E2.out).mono ?_; rintro e v2 ⟨rfl, hr, hg⟩; have P2 := Lib.hid (M1.out.read hr hg); obtain ⟨x2, y2⟩ := P2.out.cell 2 rfl; have N2 := Lib.hid (P2.out.set (i := 2) (by omega) (.int .i64 a2)); clear hr hg)
  have M2 : Hid (QB (RdD rb B) rb w3 _ g5 12 s2 (mc { mx0 with kind := 1, client := a1, id := a2 }) (g5 + 1) 91 3 (.slice none 0 0) 0 [] []) := Lib.hid N2.out
  clear x2 y2 N2
  go_upto_region 24 with (go_at_call 51; refine (bytes_sd M2.out.rd E3.out).mono ?_; rintro e v3 ⟨TT, rfl, hr, hg, hl⟩; obtain ⟨AT, cT, rfl, hoT, hn1, hn2⟩ := hl; have P3 := Lib.hid ((M2.out.read hr hg).body (x := ⟨0, 0, 0, 0, AT, a3.length, cT, a3⟩) (own_base hoT M2.out.ms)); obtain ⟨x3, y3⟩ := P3.out.cell 3 rfl; have N3 := Lib.hid (P3.out.set (i := 3) (by omega) (.slice AT a3.length cT)); clear hr hg hoT)
  clear x3 y3
  have M3 : Hid (QB (RdD rb B) rb w3 (v3.setCell ⟨g5, 3, none⟩ (.slice AT a3.length cT)) g5 12 s3 (mc { mx0 with kind := 1, client := a1, id := a2, A := AT, n := a3.length, c := cT, body := a3 }) (g5 + 1) 91 3 (.slice none 0 0) 0 [] [⟨0, 0, 0, 0, AT, a3.length, cT, a3⟩]) := Lib.hid N3.out
  clear N3
  obtain ⟨w8, hw8⟩ : ∃ W, W = v3.setCell ⟨g5, 3, none⟩ (.slice AT a3.length cT) := ⟨_, rfl⟩
  rw [← hw8]
  rw [← hw8] at M3
  have P := M3
  clear hw8 M3
  obtain ⟨zv, hz⟩ : ∃ z, endZ s3.1 s3.2 = z := ⟨_, rfl⟩
  obtain ⟨q, hq⟩ : ∃ q, mayM ({ mx0 with kind := 1, client := a1, id := a2, A := AT, n := a3.length, c := cT, body := a3 } : MX).z = q := ⟨_, rfl⟩
  have EM := Lib.hid (end_sd P.out.rd zv hz)
  have NM := Lib.hid (show NewM w8 (g5 + 1) { mx0 with kind := 1, client := a1, id := a2, A := AT, n := a3.length, c := cT, body := a3 } from ⟨P.out.bo _ (List.mem_singleton.2 rfl), World.ownsRow_nil _ _ _ _, fun x hx => (by cases hx), World.ownsRow_nil _ _ _ _⟩)
  have ZO := Lib.hid (show MsgOk ({ mx0 with kind := 1, client := a1, id := a2, A := AT, n := a3.length, c := cT, body := a3 } : MX).z by have := own_ok (k := 1) T4.out (by omega); rw [HR.out] at this; exact this)
  have MY := Lib.hid (fun (W : World) (hW : Below w8.heap.size w8 W) => rmay_any q ((mxok_new NM.out ZO.out).grow hW (Nat.le_refl _)) (Nat.le_refl _) hq)
  have VG8 := Lib.hid (VG3.out.same (P.out.gb.block g VG3.out.lt (fun e => by injection e with e; omega)))
  have B8 := Lib.hid (B3.out.trans (below_of_grown P.out.gb B3.out.size (fun j hj => by injection hj with hj; have := Hg.out; omega)))
  have HPM : Hid (parseM bs = if zv = 0 ∧ q = true then (({ mx0 with kind := 1, client := a1, id := a2, A := AT, n := a3.length, c := cT, body := a3 } : MX).z, 0) else (mz0, 200)) := Lib.hid (by unfold parseM msgR; rw [HB4.out]; show (if endZ (ownR 1 s4).2.1 (ownR 1 s4).2.2 = 0 ∧ mayM (ownR 1 s4).1 = true then ((ownR 1 s4).1, (0 : Int)) else (mz0, 200)) = _; rw [HR.out]; show (if endZ s3.1 s3.2 = 0 ∧ mayM ({ mx0 with kind := 1, client := a1, id := a2, A := AT, n := a3.length, c := cT, body := a3 } : MX).z = true then (({ mx0 with kind := 1, client := a1, id := a2, A := AT, n := a3.length, c := cT, body := a3 } : MX).z, (0 : Int)) else (mz0, 200)) = _; rw [hz, hq])
  clear hz hq
  by_cases hz0 : zv = 0
  · subst hz0
    cases q with
    | false =>
      have HP : Hid (parseM bs = (mz0, 200)) := Lib.hid (by rw [HPM.out]; simp)
      clear HPM
      go_wp2_with (first
        | (go_at_call 55; refine EM.out.mono ?_; rintro e w9 ⟨rfl, m9, rfl⟩; have D9 := Lib.hid (below_drewN (Below.refl w8.heap.size w8) m9); have V9 := Lib.hid (P.out.box.grow D9.out))
        | (with_reducible show wpList _ _ _ (⟨some 75, .load 28 (.tmp 5), _, _, _, _⟩ :: _) _ _; refine wpList_load_guardL (op := ⟨some 75, .load 28 (.tmp 5), _, _, _, some (3, false)⟩) (by first | rfl | go_simp) 28 (.tmp 5) rfl (g5) (0) rfl (mc { mx0 with kind := 1, client := a1, id := a2, A := AT, n := a3.length, c := cT, body := a3 }) _ (V9.out.range) Try.underlying28 rfl (m_size _) ?_)
        | (go_at_call 11; refine (MY.out _ D9.out).mono ?_; rintro e w10 ⟨rfl, hb⟩; have D10 := Lib.hid (D9.out.trans (hb.mono D9.out.size)); have V10 := Lib.hid (P.out.box.grow D10.out); have G10 := Lib.hid (VG8.out.grow D10.out); have VT := Lib.hid (vthere G10.out (us := mc mx0) rfl); clear hb)
        | (with_reducible show wpList _ _ _ (⟨some 79, .build 28 #[], _, _, _, _⟩ :: _) _ _; refine wpList_exec (op := ⟨some 79, .build 28 #[], _, _, _, _⟩) rfl (.agg (mc mx0).toArray) (by exact exec_bm0 rfl (build_m0 _)) ?_)
        | (with_reducible show wpList _ _ _ (⟨none, .store 28 (.tmp 2) (.tmp 79), _, _, _, _⟩ :: _) _ _; refine wpList_store_as (op := ⟨none, .store 28 (.tmp 2) (.tmp 79), _, _, _, _⟩) rfl 28 (.tmp 2) (.tmp 79) rfl (g) 0 (mc mx0).toArray rfl rfl (VT.out) (m_sizeA _) (m_oneA _) ?_; intro w11 hw11))
      obtain ⟨V11, b11⟩ := vstored G10.out rfl hw11 (by rw [Hg.out]; exact Nat.le_refl _) (B8.out.trans (D10.out.mono B8.out.size))
      exact bodyPost_ret (v := .tuple #[.agg (mc mx0).toArray, .int .i64 200]) (results_mid_tmp (p := 2) (u := 3) (ty := 28) rfl _ _ g 0 (mc mx0) _ rfl V11.range Try.underlying28 rfl (m_size _)) rfl (by rw [HP.out]; exact parses0 b11)
    | true =>
      have HP : Hid (parseM bs = (({ mx0 with kind := 1, client := a1, id := a2, A := AT, n := a3.length, c := cT, body := a3 } : MX).z, 0)) := Lib.hid (by rw [HPM.out]; simp)
      clear HPM
      go_wp2_with (first
        | (go_at_call 55; refine EM.out.mono ?_; rintro e w9 ⟨rfl, m9, rfl⟩; have D9 := Lib.hid (below_drewN (Below.refl w8.heap.size w8) m9); have V9 := Lib.hid (P.out.box.grow D9.out))
        | (with_reducible show wpList _ _ _ (⟨some 75, .load 28 (.tmp 5), _, _, _, _⟩ :: _) _ _; refine wpList_load_guardL (op := ⟨some 75, .load 28 (.tmp 5), _, _, _, some (3, false)⟩) (by first | rfl | go_simp) 28 (.tmp 5) rfl (g5) (0) rfl (mc { mx0 with kind := 1, client := a1, id := a2, A := AT, n := a3.length, c := cT, body := a3 }) _ (V9.out.range) Try.underlying28 rfl (m_size _) ?_)
        | (go_at_call 11; refine (MY.out _ D9.out).mono ?_; rintro e w10 ⟨rfl, hb⟩; have D10 := Lib.hid (D9.out.trans (hb.mono D9.out.size)); have V10 := Lib.hid (P.out.box.grow D10.out); have G10 := Lib.hid (VG8.out.grow D10.out); have VT := Lib.hid (vthere G10.out (us := mc { mx0 with kind := 1, client := a1, id := a2, A := AT, n := a3.length, c := cT, body := a3 }) rfl); clear hb)
        | (with_reducible show wpList _ _ _ (⟨some 80, .load 28 (.tmp 5), _, _, _, _⟩ :: _) _ _; refine wpList_load_mid (op := ⟨some 80, .load 28 (.tmp 5), _, _, _, _⟩) rfl 28 (.tmp 5) rfl (g5) (0) rfl (mc { mx0 with kind := 1, client := a1, id := a2, A := AT, n := a3.length, c := cT, body := a3 }) _ (V10.out.range) Try.underlying28 rfl (m_size _) ?_)
        | (with_reducible show wpList _ _ _ (⟨none, .store 28 (.tmp 2) (.tmp 80), _, _, _, _⟩ :: _) _ _; refine wpList_store_as (op := ⟨none, .store 28 (.tmp 2) (.tmp 80), _, _, _, _⟩) rfl 28 (.tmp 2) (.tmp 80) rfl (g) 0 (mc { mx0 with kind := 1, client := a1, id := a2, A := AT, n := a3.length, c := cT, body := a3 }).toArray rfl rfl (VT.out) (m_sizeA _) (m_oneA _) ?_; intro w11 hw11))
      have e11 := hw11.out
      obtain ⟨V11, b11⟩ := vstored G10.out rfl hw11 (by rw [Hg.out]; exact Nat.le_refl _) (B8.out.trans (D10.out.mono B8.out.size))
      have hms := P.out.ms
      have N10 : NewM w10 (g5 + 1) { mx0 with kind := 1, client := a1, id := a2, A := AT, n := a3.length, c := cT, body := a3 } := ⟨own_below NM.out.body D10.out (Nat.le_refl _), own_below NM.out.es D10.out (Nat.le_refl _), fun y hy => own_below (NM.out.bo y hy) D10.out (Nat.le_refl _), own_below NM.out.ms D10.out (Nat.le_refl _)⟩
      have N11 : NewM w11 (g5 + 1) { mx0 with kind := 1, client := a1, id := a2, A := AT, n := a3.length, c := cT, body := a3 } := N10.keepB (fun j h1 h2 => by rw [e11]; exact heap_setCells g j (by omega) _ _ _)
      exact bodyPost_ret (v := .tuple #[.agg (mc { mx0 with kind := 1, client := a1, id := a2, A := AT, n := a3.length, c := cT, body := a3 }).toArray, .int .i64 0]) (results_mid_tmp (p := 2) (u := 3) (ty := 28) rfl _ _ g 0 (mc { mx0 with kind := 1, client := a1, id := a2, A := AT, n := a3.length, c := cT, body := a3 }) _ rfl V11.range Try.underlying28 rfl (m_size _)) rfl (by rw [HP.out]; exact ⟨{ mx0 with kind := 1, client := a1, id := a2, A := AT, n := a3.length, c := cT, body := a3 }, rfl, rfl, mxok_new N11 ZO.out, N11.baseB (by have := Hg.out; omega), b11⟩)
  · have hzb : (zv != 0) = true := by simp [hz0]
    have HP : Hid (parseM bs = (mz0, 200)) := Lib.hid (by rw [HPM.out]; simp [hz0])
    clear HPM
    go_wp2_with (first
        | (go_at_call 55; refine EM.out.mono ?_; rintro e w9 ⟨rfl, m9, rfl⟩; have D9 := Lib.hid (below_drewN (Below.refl w8.heap.size w8) m9); have V9 := Lib.hid (P.out.box.grow D9.out); have G9 := Lib.hid (VG8.out.grow D9.out); have VT := Lib.hid (vthere G9.out (us := mc mx0) rfl))
        | (with_reducible show wpList _ _ _ (⟨some 79, .build 28 #[], _, _, _, _⟩ :: _) _ _; refine wpList_exec (op := ⟨some 79, .build 28 #[], _, _, _, _⟩) rfl (.agg (mc mx0).toArray) (by exact exec_bm0 rfl (build_m0 _)) ?_)
        | (with_reducible show wpList _ _ _ (⟨none, .store 28 (.tmp 2) (.tmp 79), _, _, _, _⟩ :: _) _ _; refine wpList_store_as (op := ⟨none, .store 28 (.tmp 2) (.tmp 79), _, _, _, _⟩) rfl 28 (.tmp 2) (.tmp 79) rfl (g) 0 (mc mx0).toArray rfl rfl (VT.out) (m_sizeA _) (m_oneA _) ?_; intro w11 hw11))
    obtain ⟨V11, b11⟩ := vstored G9.out rfl hw11 (by rw [Hg.out]; exact Nat.le_refl _) (B8.out.trans (D9.out.mono B8.out.size))
    exact bodyPost_ret (v := .tuple #[.agg (mc mx0).toArray, .int .i64 200]) (results_mid_tmp (p := 2) (u := 3) (ty := 28) rfl _ _ g 0 (mc mx0) _ rfl V11.range Try.underlying28 rfl (m_size _)) rfl (by rw [HP.out]; exact parses0 b11)
set_option maxHeartbeats 8000000 in
theorem rparse6_any {w : World} {B n c : Nat} {A : Option Addr} {bs : List Int} (h : Bs w B A n bs) (hB : B ≤ w.heap.size) (hc : n ≤ c) (hn : n ≤ 65536) (hk : (rByte (0, bs)).1 = 6) : Calls Try.prog 17 #[.slice A n c] w (ParsesM w (parseM bs).1 (parseM bs).2) := by
  obtain ⟨W1, hW1⟩ : ∃ W, W = w.alloc (.cells #[.int .u8 0, .int .i64 0, .int .i64 0, .slice none 0 0, .int .i64 0, .int .i64 0, .slice none 0 0, .int .i64 0, .int .i64 0, .int .i64 0, .slice none 0 0, .int .i64 0] 28) := ⟨_, rfl⟩
  obtain ⟨g, hg⟩ : ∃ g, w.heap.size = g := ⟨_, rfl⟩
  have b1 := Lib.hid (show Below w.heap.size w W1 by rw [hW1]; exact below_one _ _)
  have V1 := Lib.hid (show VBox W1 g 12 (mc mx0) by rw [hW1]; exact vbox_new _ (mc mx0) _ _ _ hg rfl (by omega))
  have z1 := Lib.hid (show W1.heap.size = g + 1 by rw [hW1]; simp [hg])
  have Hg := Lib.hid hg
  have HBg : B ≤ g := by omega
  have NR := Lib.hid (new_rr (w := W1) c (h.belowM b1.out hB) (Nat.le_trans hB b1.out.size) hc hn)
  have HW1 := Lib.hid hW1
  obtain ⟨kd, s4, hb4⟩ : ∃ a s', rByte (0, bs) = (a, s') := ⟨_, _, rfl⟩
  have HB4 := Lib.hid hb4
  have T0 : StM (0, bs) := ⟨h.isBytes, by show bs.length ≤ 65536; rw [h.len]; exact hn⟩
  obtain ⟨hkr, t4⟩ := byte_rm T0 hb4
  have T4 := Lib.hid t4
  clear hW1 hg h hb4 T0 t4
  go_enter Try.func17, Try.ntmps17
  go_upto_region 1 with fail
  rw [← HW1.out, Hg.out]
  go_upto_region 2 with (go_at_call 48; refine NR.out.mono ?_; rintro e w3 ⟨rfl, hrd, hb, hlt⟩; have HB3 := Lib.hid hb; have HRD := Lib.hid hrd; have HLT := Lib.hid hlt; clear hb hrd hlt)
  obtain ⟨rb, hrb⟩ : ∃ b, W1.heap.size = b := ⟨_, rfl⟩
  have B3 := Lib.hid (b1.out.trans (HB3.out.mono b1.out.size))
  have VG3 := Lib.hid (V1.out.grow HB3.out)
  rw [hrb] at HRD HLT ⊢
  have HRG := Lib.hid (show rb = g + 1 by rw [← hrb]; exact z1.out)
  have hBr : B ≤ rb := by rw [HRG.out]; omega
  have RD3 := Lib.hid (show RdD rb B w3 (0, bs) from HRD.out)
  clear hrb z1
  go_upto_region 3 with (go_at_call 49; refine (byte_sd RD3.out HB4.out).mono ?_; rintro e v4 ⟨rfl, hr, hg⟩; have R4 := Lib.hid hr; have GW4 := Lib.hid hg; clear hr hg)
  obtain ⟨W5, hW5⟩ : ∃ W, W = v4.alloc (.cells #[.int .u8 kd, .int .i64 0, .int .i64 0, .slice none 0 0, .int .i64 0, .int .i64 0, .slice none 0 0, .int .i64 0, .int .i64 0, .int .i64 0, .slice none 0 0, .int .i64 0] 28) := ⟨_, rfl⟩
  obtain ⟨g5, hg5⟩ : ∃ g, v4.heap.size = g := ⟨_, rfl⟩
  have hg35 : w3.heap.size ≤ g5 := by rw [← hg5]; exact GW4.out.size
  have hgr : g < rb ∧ rb < w3.heap.size := ⟨by rw [HRG.out]; omega, HLT.out⟩
  have Q5 : Hid (QB (RdD rb B) rb w3 W5 g5 12 s4 (mc { mx0 with kind := kd }) (g5 + 1) 91 3 (.slice none 0 0) 0 [] []) := Lib.hid (by
    have RK := rdk_D (m := w3.heap.size) HLT.out hBr
    have g2 : v4.grownBy W5 none := by rw [hW5]; exact grown_alloc v4 _ _
    exact ⟨RK.keep v4 W5 _ none R4.out g2 (fun j hj => by cases hj), grown_new GW4.out g2 (fun j hj => by cases hj), RK, by rw [hW5]; exact vbox_new v4 (mc { mx0 with kind := kd }) _ _ _ hg5 rfl (by omega), hg35, by omega, by rw [hW5]; simp [hg5], World.ownsRow_nil _ _ _ _, fun x hx => (by cases hx), by decide⟩)
  rw [← hW5, hg5]
  clear hW5 hg5 HRD RD3 R4 GW4 NR V1
  obtain ⟨k0, _⟩ := Q5.out.cell 0 rfl
  go_upto_region 4 with fail
  clear k0
  have ek : kd = 6 := by rw [HB4.out] at hk; exact hk
  subst ek
  clear hk
  obtain ⟨a1, s1, e1⟩ : ∃ a s', rInt s4 = (a, s') := ⟨_, _, rfl⟩
  obtain ⟨a2, s2, e2⟩ : ∃ a s', rInt s1 = (a, s') := ⟨_, _, rfl⟩
  obtain ⟨a3, s3, e3⟩ : ∃ a s', rBytes s2 = (a, s') := ⟨_, _, rfl⟩
  have HR : Hid (ownR 6 s4 = ({ mz0 with kind := 6, client := a1, id := a2, body := a3 }, s3)) := Lib.hid (by unfold ownR; simp [e1, e2, e3])
  have E1 := Lib.hid e1
  have E2 := Lib.hid e2
  have E3 := Lib.hid e3
  clear e1 e2 e3
  go_upto_region 7 with (go_at_call 50; refine (int_sd Q5.out.rd E1.out).mono ?_; rintro e v1 ⟨rfl, hr, hg⟩; have P1 := Lib.hid (Q5.out.read hr hg); obtain ⟨x1, y1⟩ := P1.out.cell 1 rfl; have N1 := Lib.hid (P1.out.set (i := 1) (by omega) (.int .i64 a1)); clear hr hg)
  have M1 : Hid (QB (RdD rb B) rb w3 _ g5 12 s1 (mc { mx0 with kind := 6, client := a1 }) (g5 + 1) 91 3 (.slice none 0 0) 0 [] []) := Lib.hid N1.out
  clear x1 y1 N1
  go_upto_region 8 with (go_at_call 50; refine (int_sd M1.out.rd E2.out).mono ?_; rintro e v2 ⟨rfl, hr, hg⟩; have P2 := Lib.hid (M1.out.read hr hg); obtain ⟨x2, y2⟩ := P2.out.cell 2 rfl; have N2 := Lib.hid (P2.out.set (i := 2) (by omega) (.int .i64 a2)); clear hr hg)
  have M2 : Hid (QB (RdD rb B) rb w3 _ g5 12 s2 (mc { mx0 with kind := 6, client := a1, id := a2 }) (g5 + 1) 91 3 (.slice none 0 0) 0 [] []) := Lib.hid N2.out
  clear x2 y2 N2
  go_upto_region 24 with (go_at_call 51; refine (bytes_sd M2.out.rd E3.out).mono ?_; rintro e v3 ⟨TT, rfl, hr, hg, hl⟩; obtain ⟨AT, cT, rfl, hoT, hn1, hn2⟩ := hl; have P3 := Lib.hid ((M2.out.read hr hg).body (x := ⟨0, 0, 0, 0, AT, a3.length, cT, a3⟩) (own_base hoT M2.out.ms)); obtain ⟨x3, y3⟩ := P3.out.cell 3 rfl; have N3 := Lib.hid (P3.out.set (i := 3) (by omega) (.slice AT a3.length cT)); clear hr hg hoT)
  clear x3 y3
  have M3 : Hid (QB (RdD rb B) rb w3 (v3.setCell ⟨g5, 3, none⟩ (.slice AT a3.length cT)) g5 12 s3 (mc { mx0 with kind := 6, client := a1, id := a2, A := AT, n := a3.length, c := cT, body := a3 }) (g5 + 1) 91 3 (.slice none 0 0) 0 [] [⟨0, 0, 0, 0, AT, a3.length, cT, a3⟩]) := Lib.hid N3.out
  clear N3
  obtain ⟨w8, hw8⟩ : ∃ W, W = v3.setCell ⟨g5, 3, none⟩ (.slice AT a3.length cT) := ⟨_, rfl⟩
  rw [← hw8]
  rw [← hw8] at M3
  have P := M3
  clear hw8 M3
  obtain ⟨zv, hz⟩ : ∃ z, endZ s3.1 s3.2 = z := ⟨_, rfl⟩
  obtain ⟨q, hq⟩ : ∃ q, mayM ({ mx0 with kind := 6, client := a1, id := a2, A := AT, n := a3.length, c := cT, body := a3 } : MX).z = q := ⟨_, rfl⟩
  have EM := Lib.hid (end_sd P.out.rd zv hz)
  have NM := Lib.hid (show NewM w8 (g5 + 1) { mx0 with kind := 6, client := a1, id := a2, A := AT, n := a3.length, c := cT, body := a3 } from ⟨P.out.bo _ (List.mem_singleton.2 rfl), World.ownsRow_nil _ _ _ _, fun x hx => (by cases hx), World.ownsRow_nil _ _ _ _⟩)
  have ZO := Lib.hid (show MsgOk ({ mx0 with kind := 6, client := a1, id := a2, A := AT, n := a3.length, c := cT, body := a3 } : MX).z by have := own_ok (k := 6) T4.out (by omega); rw [HR.out] at this; exact this)
  have MY := Lib.hid (fun (W : World) (hW : Below w8.heap.size w8 W) => rmay_any q ((mxok_new NM.out ZO.out).grow hW (Nat.le_refl _)) (Nat.le_refl _) hq)
  have VG8 := Lib.hid (VG3.out.same (P.out.gb.block g VG3.out.lt (fun e => by injection e with e; omega)))
  have B8 := Lib.hid (B3.out.trans (below_of_grown P.out.gb B3.out.size (fun j hj => by injection hj with hj; have := Hg.out; omega)))
  have HPM : Hid (parseM bs = if zv = 0 ∧ q = true then (({ mx0 with kind := 6, client := a1, id := a2, A := AT, n := a3.length, c := cT, body := a3 } : MX).z, 0) else (mz0, 200)) := Lib.hid (by unfold parseM msgR; rw [HB4.out]; show (if endZ (ownR 6 s4).2.1 (ownR 6 s4).2.2 = 0 ∧ mayM (ownR 6 s4).1 = true then ((ownR 6 s4).1, (0 : Int)) else (mz0, 200)) = _; rw [HR.out]; show (if endZ s3.1 s3.2 = 0 ∧ mayM ({ mx0 with kind := 6, client := a1, id := a2, A := AT, n := a3.length, c := cT, body := a3 } : MX).z = true then (({ mx0 with kind := 6, client := a1, id := a2, A := AT, n := a3.length, c := cT, body := a3 } : MX).z, (0 : Int)) else (mz0, 200)) = _; rw [hz, hq])
  clear hz hq
  by_cases hz0 : zv = 0
  · subst hz0
    cases q with
    | false =>
      have HP : Hid (parseM bs = (mz0, 200)) := Lib.hid (by rw [HPM.out]; simp)
      clear HPM
      go_wp2_with (first
        | (go_at_call 55; refine EM.out.mono ?_; rintro e w9 ⟨rfl, m9, rfl⟩; have D9 := Lib.hid (below_drewN (Below.refl w8.heap.size w8) m9); have V9 := Lib.hid (P.out.box.grow D9.out))
        | (with_reducible show wpList _ _ _ (⟨some 75, .load 28 (.tmp 5), _, _, _, _⟩ :: _) _ _; refine wpList_load_guardL (op := ⟨some 75, .load 28 (.tmp 5), _, _, _, some (3, false)⟩) (by first | rfl | go_simp) 28 (.tmp 5) rfl (g5) (0) rfl (mc { mx0 with kind := 6, client := a1, id := a2, A := AT, n := a3.length, c := cT, body := a3 }) _ (V9.out.range) Try.underlying28 rfl (m_size _) ?_)
        | (go_at_call 11; refine (MY.out _ D9.out).mono ?_; rintro e w10 ⟨rfl, hb⟩; have D10 := Lib.hid (D9.out.trans (hb.mono D9.out.size)); have V10 := Lib.hid (P.out.box.grow D10.out); have G10 := Lib.hid (VG8.out.grow D10.out); have VT := Lib.hid (vthere G10.out (us := mc mx0) rfl); clear hb)
        | (with_reducible show wpList _ _ _ (⟨some 79, .build 28 #[], _, _, _, _⟩ :: _) _ _; refine wpList_exec (op := ⟨some 79, .build 28 #[], _, _, _, _⟩) rfl (.agg (mc mx0).toArray) (by exact exec_bm0 rfl (build_m0 _)) ?_)
        | (with_reducible show wpList _ _ _ (⟨none, .store 28 (.tmp 2) (.tmp 79), _, _, _, _⟩ :: _) _ _; refine wpList_store_as (op := ⟨none, .store 28 (.tmp 2) (.tmp 79), _, _, _, _⟩) rfl 28 (.tmp 2) (.tmp 79) rfl (g) 0 (mc mx0).toArray rfl rfl (VT.out) (m_sizeA _) (m_oneA _) ?_; intro w11 hw11))
      obtain ⟨V11, b11⟩ := vstored G10.out rfl hw11 (by rw [Hg.out]; exact Nat.le_refl _) (B8.out.trans (D10.out.mono B8.out.size))
      exact bodyPost_ret (v := .tuple #[.agg (mc mx0).toArray, .int .i64 200]) (results_mid_tmp (p := 2) (u := 3) (ty := 28) rfl _ _ g 0 (mc mx0) _ rfl V11.range Try.underlying28 rfl (m_size _)) rfl (by rw [HP.out]; exact parses0 b11)
    | true =>
      have HP : Hid (parseM bs = (({ mx0 with kind := 6, client := a1, id := a2, A := AT, n := a3.length, c := cT, body := a3 } : MX).z, 0)) := Lib.hid (by rw [HPM.out]; simp)
      clear HPM
      go_wp2_with (first
        | (go_at_call 55; refine EM.out.mono ?_; rintro e w9 ⟨rfl, m9, rfl⟩; have D9 := Lib.hid (below_drewN (Below.refl w8.heap.size w8) m9); have V9 := Lib.hid (P.out.box.grow D9.out))
        | (with_reducible show wpList _ _ _ (⟨some 75, .load 28 (.tmp 5), _, _, _, _⟩ :: _) _ _; refine wpList_load_guardL (op := ⟨some 75, .load 28 (.tmp 5), _, _, _, some (3, false)⟩) (by first | rfl | go_simp) 28 (.tmp 5) rfl (g5) (0) rfl (mc { mx0 with kind := 6, client := a1, id := a2, A := AT, n := a3.length, c := cT, body := a3 }) _ (V9.out.range) Try.underlying28 rfl (m_size _) ?_)
        | (go_at_call 11; refine (MY.out _ D9.out).mono ?_; rintro e w10 ⟨rfl, hb⟩; have D10 := Lib.hid (D9.out.trans (hb.mono D9.out.size)); have V10 := Lib.hid (P.out.box.grow D10.out); have G10 := Lib.hid (VG8.out.grow D10.out); have VT := Lib.hid (vthere G10.out (us := mc { mx0 with kind := 6, client := a1, id := a2, A := AT, n := a3.length, c := cT, body := a3 }) rfl); clear hb)
        | (with_reducible show wpList _ _ _ (⟨some 80, .load 28 (.tmp 5), _, _, _, _⟩ :: _) _ _; refine wpList_load_mid (op := ⟨some 80, .load 28 (.tmp 5), _, _, _, _⟩) rfl 28 (.tmp 5) rfl (g5) (0) rfl (mc { mx0 with kind := 6, client := a1, id := a2, A := AT, n := a3.length, c := cT, body := a3 }) _ (V10.out.range) Try.underlying28 rfl (m_size _) ?_)
        | (with_reducible show wpList _ _ _ (⟨none, .store 28 (.tmp 2) (.tmp 80), _, _, _, _⟩ :: _) _ _; refine wpList_store_as (op := ⟨none, .store 28 (.tmp 2) (.tmp 80), _, _, _, _⟩) rfl 28 (.tmp 2) (.tmp 80) rfl (g) 0 (mc { mx0 with kind := 6, client := a1, id := a2, A := AT, n := a3.length, c := cT, body := a3 }).toArray rfl rfl (VT.out) (m_sizeA _) (m_oneA _) ?_; intro w11 hw11))
      have e11 := hw11.out
      obtain ⟨V11, b11⟩ := vstored G10.out rfl hw11 (by rw [Hg.out]; exact Nat.le_refl _) (B8.out.trans (D10.out.mono B8.out.size))
      have hms := P.out.ms
      have N10 : NewM w10 (g5 + 1) { mx0 with kind := 6, client := a1, id := a2, A := AT, n := a3.length, c := cT, body := a3 } := ⟨own_below NM.out.body D10.out (Nat.le_refl _), own_below NM.out.es D10.out (Nat.le_refl _), fun y hy => own_below (NM.out.bo y hy) D10.out (Nat.le_refl _), own_below NM.out.ms D10.out (Nat.le_refl _)⟩
      have N11 : NewM w11 (g5 + 1) { mx0 with kind := 6, client := a1, id := a2, A := AT, n := a3.length, c := cT, body := a3 } := N10.keepB (fun j h1 h2 => by rw [e11]; exact heap_setCells g j (by omega) _ _ _)
      exact bodyPost_ret (v := .tuple #[.agg (mc { mx0 with kind := 6, client := a1, id := a2, A := AT, n := a3.length, c := cT, body := a3 }).toArray, .int .i64 0]) (results_mid_tmp (p := 2) (u := 3) (ty := 28) rfl _ _ g 0 (mc { mx0 with kind := 6, client := a1, id := a2, A := AT, n := a3.length, c := cT, body := a3 }) _ rfl V11.range Try.underlying28 rfl (m_size _)) rfl (by rw [HP.out]; exact ⟨{ mx0 with kind := 6, client := a1, id := a2, A := AT, n := a3.length, c := cT, body := a3 }, rfl, rfl, mxok_new N11 ZO.out, N11.baseB (by have := Hg.out; omega), b11⟩)
  · have hzb : (zv != 0) = true := by simp [hz0]
    have HP : Hid (parseM bs = (mz0, 200)) := Lib.hid (by rw [HPM.out]; simp [hz0])
    clear HPM
    go_wp2_with (first
        | (go_at_call 55; refine EM.out.mono ?_; rintro e w9 ⟨rfl, m9, rfl⟩; have D9 := Lib.hid (below_drewN (Below.refl w8.heap.size w8) m9); have V9 := Lib.hid (P.out.box.grow D9.out); have G9 := Lib.hid (VG8.out.grow D9.out); have VT := Lib.hid (vthere G9.out (us := mc mx0) rfl))
        | (with_reducible show wpList _ _ _ (⟨some 79, .build 28 #[], _, _, _, _⟩ :: _) _ _; refine wpList_exec (op := ⟨some 79, .build 28 #[], _, _, _, _⟩) rfl (.agg (mc mx0).toArray) (by exact exec_bm0 rfl (build_m0 _)) ?_)
        | (with_reducible show wpList _ _ _ (⟨none, .store 28 (.tmp 2) (.tmp 79), _, _, _, _⟩ :: _) _ _; refine wpList_store_as (op := ⟨none, .store 28 (.tmp 2) (.tmp 79), _, _, _, _⟩) rfl 28 (.tmp 2) (.tmp 79) rfl (g) 0 (mc mx0).toArray rfl rfl (VT.out) (m_sizeA _) (m_oneA _) ?_; intro w11 hw11))
    obtain ⟨V11, b11⟩ := vstored G9.out rfl hw11 (by rw [Hg.out]; exact Nat.le_refl _) (B8.out.trans (D9.out.mono B8.out.size))
    exact bodyPost_ret (v := .tuple #[.agg (mc mx0).toArray, .int .i64 200]) (results_mid_tmp (p := 2) (u := 3) (ty := 28) rfl _ _ g 0 (mc mx0) _ rfl V11.range Try.underlying28 rfl (m_size _)) rfl (by rw [HP.out]; exact parses0 b11)
set_option maxHeartbeats 8000000 in
theorem rparse2_any {w : World} {B n c : Nat} {A : Option Addr} {bs : List Int} (h : Bs w B A n bs) (hB : B ≤ w.heap.size) (hc : n ≤ c) (hn : n ≤ 65536) (hk : (rByte (0, bs)).1 = 2) : Calls Try.prog 17 #[.slice A n c] w (ParsesM w (parseM bs).1 (parseM bs).2) := by
  obtain ⟨W1, hW1⟩ : ∃ W, W = w.alloc (.cells #[.int .u8 0, .int .i64 0, .int .i64 0, .slice none 0 0, .int .i64 0, .int .i64 0, .slice none 0 0, .int .i64 0, .int .i64 0, .int .i64 0, .slice none 0 0, .int .i64 0] 28) := ⟨_, rfl⟩
  obtain ⟨g, hg⟩ : ∃ g, w.heap.size = g := ⟨_, rfl⟩
  have b1 := Lib.hid (show Below w.heap.size w W1 by rw [hW1]; exact below_one _ _)
  have V1 := Lib.hid (show VBox W1 g 12 (mc mx0) by rw [hW1]; exact vbox_new _ (mc mx0) _ _ _ hg rfl (by omega))
  have z1 := Lib.hid (show W1.heap.size = g + 1 by rw [hW1]; simp [hg])
  have Hg := Lib.hid hg
  have HBg : B ≤ g := by omega
  have NR := Lib.hid (new_rr (w := W1) c (h.belowM b1.out hB) (Nat.le_trans hB b1.out.size) hc hn)
  have HW1 := Lib.hid hW1
  obtain ⟨kd, s4, hb4⟩ : ∃ a s', rByte (0, bs) = (a, s') := ⟨_, _, rfl⟩
  have HB4 := Lib.hid hb4
  have T0 : StM (0, bs) := ⟨h.isBytes, by show bs.length ≤ 65536; rw [h.len]; exact hn⟩
  obtain ⟨hkr, t4⟩ := byte_rm T0 hb4
  have T4 := Lib.hid t4
  clear hW1 hg h hb4 T0 t4
  go_enter Try.func17, Try.ntmps17
  go_upto_region 1 with fail
  rw [← HW1.out, Hg.out]
  go_upto_region 2 with (go_at_call 48; refine NR.out.mono ?_; rintro e w3 ⟨rfl, hrd, hb, hlt⟩; have HB3 := Lib.hid hb; have HRD := Lib.hid hrd; have HLT := Lib.hid hlt; clear hb hrd hlt)
  obtain ⟨rb, hrb⟩ : ∃ b, W1.heap.size = b := ⟨_, rfl⟩
  have B3 := Lib.hid (b1.out.trans (HB3.out.mono b1.out.size))
  have VG3 := Lib.hid (V1.out.grow HB3.out)
  rw [hrb] at HRD HLT ⊢
  have HRG := Lib.hid (show rb = g + 1 by rw [← hrb]; exact z1.out)
  have hBr : B ≤ rb := by rw [HRG.out]; omega
  have RD3 := Lib.hid (show RdD rb B w3 (0, bs) from HRD.out)
  clear hrb z1
  go_upto_region 3 with (go_at_call 49; refine (byte_sd RD3.out HB4.out).mono ?_; rintro e v4 ⟨rfl, hr, hg⟩; have R4 := Lib.hid hr; have GW4 := Lib.hid hg; clear hr hg)
  obtain ⟨W5, hW5⟩ : ∃ W, W = v4.alloc (.cells #[.int .u8 kd, .int .i64 0, .int .i64 0, .slice none 0 0, .int .i64 0, .int .i64 0, .slice none 0 0, .int .i64 0, .int .i64 0, .int .i64 0, .slice none 0 0, .int .i64 0] 28) := ⟨_, rfl⟩
  obtain ⟨g5, hg5⟩ : ∃ g, v4.heap.size = g := ⟨_, rfl⟩
  have hg35 : w3.heap.size ≤ g5 := by rw [← hg5]; exact GW4.out.size
  have hgr : g < rb ∧ rb < w3.heap.size := ⟨by rw [HRG.out]; omega, HLT.out⟩
  have Q5 : Hid (QB (RdD rb B) rb w3 W5 g5 12 s4 (mc { mx0 with kind := kd }) (g5 + 1) 91 3 (.slice none 0 0) 0 [] []) := Lib.hid (by
    have RK := rdk_D (m := w3.heap.size) HLT.out hBr
    have g2 : v4.grownBy W5 none := by rw [hW5]; exact grown_alloc v4 _ _
    exact ⟨RK.keep v4 W5 _ none R4.out g2 (fun j hj => by cases hj), grown_new GW4.out g2 (fun j hj => by cases hj), RK, by rw [hW5]; exact vbox_new v4 (mc { mx0 with kind := kd }) _ _ _ hg5 rfl (by omega), hg35, by omega, by rw [hW5]; simp [hg5], World.ownsRow_nil _ _ _ _, fun x hx => (by cases hx), by decide⟩)
  rw [← hW5, hg5]
  clear hW5 hg5 HRD RD3 R4 GW4 NR V1
  obtain ⟨k0, _⟩ := Q5.out.cell 0 rfl
  go_upto_region 4 with fail
  clear k0
  have ek : kd = 2 := by rw [HB4.out] at hk; exact hk
  subst ek
  clear hk
  obtain ⟨a1, s1, e1⟩ : ∃ a s', rInt s4 = (a, s') := ⟨_, _, rfl⟩
  obtain ⟨a2, s2, e2⟩ : ∃ a s', rInt s1 = (a, s') := ⟨_, _, rfl⟩
  obtain ⟨a3, s3, e3⟩ : ∃ a s', rCount 4 s2 = (a, s') := ⟨_, _, rfl⟩
  obtain ⟨g1, t1⟩ := int_rm T4.out e1
  obtain ⟨g2, t2⟩ := int_rm t1 e2
  have t3 := count_rm t2 e3
  obtain ⟨c20, c21⟩ := count_le (by decide) e3
  obtain ⟨cnt, hcnt⟩ : ∃ c : Nat, a3 = (c : Int) := ⟨a3.toNat, by omega⟩
  subst hcnt
  have c22 : cnt ≤ 4 := by omega
  obtain ⟨M, s5, e4⟩ : ∃ l s', entsR a2 cnt s3 = (l, s') := ⟨_, _, rfl⟩
  have HR : Hid (ownR 2 s4 = ({ mz0 with kind := 2, upto := a1, frm := a2, es := M }, s5)) := Lib.hid (by unfold ownR; simp [e1, e2, e3, e4])
  have HMK := Lib.hid (fun k => ents_rm (frm := a2) k t3)
  have E1 := Lib.hid e1
  have E2 := Lib.hid e2
  have E3 := Lib.hid e3
  have E4 := Lib.hid e4
  clear e1 e2 e3 e4 c20 c21
  go_upto_region 11 with (go_at_call 50; refine (int_sd Q5.out.rd E1.out).mono ?_; rintro e v1 ⟨rfl, hr, hg⟩; have P1 := Lib.hid (Q5.out.read hr hg); obtain ⟨x1, y1⟩ := P1.out.cell 4 rfl; have N1 := Lib.hid (P1.out.set (i := 4) (by omega) (.int .i64 a1)); clear hr hg)
  have M1 : Hid (QB (RdD rb B) rb w3 _ g5 12 s1 (mc { mx0 with kind := 2, upto := a1 }) (g5 + 1) 91 3 (.slice none 0 0) 0 [] []) := Lib.hid N1.out
  clear x1 y1 N1
  go_upto_region 12 with (go_at_call 50; refine (int_sd M1.out.rd E2.out).mono ?_; rintro e v2 ⟨rfl, hr, hg⟩; have P2 := Lib.hid (M1.out.read hr hg); obtain ⟨x2, y2⟩ := P2.out.cell 5 rfl; have N2 := Lib.hid (P2.out.set (i := 5) (by omega) (.int .i64 a2)); clear hr hg)
  have M2 : Hid (QB (RdD rb B) rb w3 _ g5 12 s2 (mc { mx0 with kind := 2, upto := a1, frm := a2 }) (g5 + 1) 91 3 (.slice none 0 0) 0 [] []) := Lib.hid N2.out
  clear x2 y2 N2
  have QE := Lib.hid (M2.out.row (World.ownsRow_nil _ _ 42 5) (by decide))
  go_upto_region 13 with (go_at_call 52; refine (count_sd 4 QE.out.rd E3.out).mono ?_; rintro e v3 ⟨rfl, hr, hg⟩; have Q6 := Lib.hid (QE.out.read hr hg); clear hr hg)
  go_wp2
  go_loopw [7] (fun i wr => ∃ (k : Nat) (A : Option Addr) (c : Nat) (l : List EX), k ≤ cnt ∧ i = .int .i64 k ∧ Hid (l.map EX.z = (entsR a2 k s3).1) ∧ Hid (QB (RdD rb B) rb w3 wr g5 12 (entsR a2 k s3).2 (mc { mx0 with kind := 2, upto := a1, frm := a2, EA := A, en := k, ecp := c, es := l }) (g5 + 1) 42 5 (.slice A k c) k (l.flatMap ec) l)) (fun i _ => cnt - (intOf i).toNat)
  case atStart => exact ⟨0, none, 0, [], by omega, rfl, Lib.hid rfl, Q6⟩
  case round =>
    obtain ⟨k, A, c, l, hk, rfl, HL, PR⟩ := hrel
    obtain ⟨x6, y6⟩ := PR.out.cell 6 rfl
    by_cases hlt : k < cnt
    · have hki : (k : Int) < (cnt : Int) := by omega
      obtain ⟨L, hL⟩ : ∃ L, (entsR a2 k s3).1 = L := ⟨_, rfl⟩
      obtain ⟨z, hz⟩ : ∃ z, (entsR a2 k s3).2 = z := ⟨_, rfl⟩
      obtain ⟨pv, hpv⟩ : ∃ p, wrap64 (a2 + k) = p := ⟨_, rfl⟩
      have hw : IntKind.i64.wrap (a2 + k) = pv := by rw [← hpv, IntKind.wrap_i64]; unfold wrap64; omega
      obtain ⟨y, u, f1⟩ : ∃ a s', restR pv z = (a, s') := ⟨_, _, rfl⟩
      have HS : Hid (entsR a2 (k + 1) s3 = (L ++ [y], u)) := Lib.hid (by
        show ((entsR a2 k s3).1 ++ [(restR (wrap64 (a2 + k)) (entsR a2 k s3).2).1], (restR (wrap64 (a2 + k)) (entsR a2 k s3).2).2) = _
        rw [hL, hz, hpv, f1])
      have HT := Lib.hid (show StM z ∧ InM pv from ⟨by rw [← hz]; exact (HMK.out k).2.2, by rw [← hpv]; exact wrap_in _⟩)
      rw [hz] at PR
      rw [hL] at HL
      have F1 := Lib.hid f1
      clear hL hz f1 hpv
      go_upto_region 16 with fail
      have PD := Lib.hid PR.out.drew1
      refine Late.region (fun w' => w'.cell? ⟨g5, 6, none⟩ = some (.slice A k c) ∧ w'.cell? ⟨g5, 5, none⟩ = some (.int .i64 a2)) [11] (by kernel_rfl) ⟨(PD.out.cell 6 rfl).1, (PD.out.cell 5 rfl).1⟩ (fun hHeld => ?_)
      refine Late.take (i := 0) (oi := ⟨some 42, Op.fieldAddr 28 (Operand.tmp 5) 6, _, _, _, _⟩) (v := ?_) rfl (by kernel_rfl) (by kernel_rfl) (by kernel_rfl) (by kernel_rfl) (fun _ _ _ h => h) (Or.inl ⟨by rfl, fun w hSw => ?_⟩) (by assumption) ?_
      rotate_left
      · (have s1 := hSw; go_simp; try with_reducible rfl)
      try simp only [Act.put, List.setIfInBounds_toArray, List.set_cons_zero, List.set_cons_succ]
      refine Late.take (i := 1) (oi := ⟨some 43, Op.load 23 (Operand.tmp 42), _, _, _, _⟩) (v := ?_) rfl (by kernel_rfl) (by kernel_rfl) (by kernel_rfl) (by kernel_rfl) (fun _ _ _ h => h) (Or.inl ⟨by rfl, fun w hSw => ?_⟩) (by assumption) ?_
      rotate_left
      · (obtain ⟨d6, d5⟩ := hSw; go_simp; try with_reducible rfl)
      try simp only [Act.put, List.setIfInBounds_toArray, List.set_cons_zero, List.set_cons_succ]
      refine Late.take (i := 2) (oi := ⟨some 44, Op.move (Operand.tmp 4), _, _, _, _⟩) (v := ?_) rfl (by kernel_rfl) (by kernel_rfl) (by kernel_rfl) (by kernel_rfl) (fun _ _ _ h => h) (Or.inl ⟨by rfl, fun w hSw => ?_⟩) (by assumption) ?_
      rotate_left
      · (have s1 := hSw; go_simp; try with_reducible rfl)
      try simp only [Act.put, List.setIfInBounds_toArray, List.set_cons_zero, List.set_cons_succ]
      refine Late.take (i := 3) (oi := ⟨some 45, Op.fieldAddr 28 (Operand.tmp 5) 5, _, _, _, _⟩) (v := ?_) rfl (by kernel_rfl) (by kernel_rfl) (by kernel_rfl) (by kernel_rfl) (fun _ _ _ h => h) (Or.inl ⟨by rfl, fun w hSw => ?_⟩) (by assumption) ?_
      rotate_left
      · (have s1 := hSw; go_simp; try with_reducible rfl)
      try simp only [Act.put, List.setIfInBounds_toArray, List.set_cons_zero, List.set_cons_succ]
      refine Late.take (i := 4) (oi := ⟨some 46, Op.load 3 (Operand.tmp 45), _, _, _, _⟩) (v := ?_) rfl (by kernel_rfl) (by kernel_rfl) (by kernel_rfl) (by kernel_rfl) (fun _ _ _ h => h) (Or.inl ⟨by rfl, fun w hSw => ?_⟩) (by assumption) ?_
      rotate_left
      · (obtain ⟨d6, d5⟩ := hSw; go_simp; try with_reducible rfl)
      try simp only [Act.put, List.setIfInBounds_toArray, List.set_cons_zero, List.set_cons_succ]
      refine Late.take (i := 5) (oi := ⟨some 47, Op.move (Operand.tmp 7), _, _, _, _⟩) (v := ?_) rfl (by kernel_rfl) (by kernel_rfl) (by kernel_rfl) (by kernel_rfl) (fun _ _ _ h => h) (Or.inl ⟨by rfl, fun w hSw => ?_⟩) (by assumption) ?_
      rotate_left
      · (have s1 := hSw; go_simp; try with_reducible rfl)
      try simp only [Act.put, List.setIfInBounds_toArray, List.set_cons_zero, List.set_cons_succ]
      refine Late.take (i := 6) (oi := ⟨some 48, Op.binOp BinOp.add 3 (Operand.tmp 46) (Operand.tmp 47) 3, _, _, _, _⟩) (v := ?_) rfl (by kernel_rfl) (by kernel_rfl) (by kernel_rfl) (by kernel_rfl) (fun _ _ _ h => h) (Or.inl ⟨by rfl, fun w hSw => ?_⟩) (by assumption) ?_
      rotate_left
      · (have s1 := hSw; go_simp; try with_reducible rfl)
      try simp only [Act.put, List.setIfInBounds_toArray, List.set_cons_zero, List.set_cons_succ]
      refine Late.one (i := 7) (o := ⟨some 49, Op.call { callee := Callee.value (Operand.func 53), args := #[Operand.tmp 44, Operand.tmp 48], argTypes := #[78, 3] }, _, _, _, _⟩) (by kernel_rfl) rfl (fun K hK => ?_)
      go_simp
      refine (rtakerest_any ⟨PD.out.rd, PD.out.on, hBr⟩ pv HT.out.2 HT.out.1).mono ?_
      rintro e v3 ⟨x, he, hzx, hr, hg, ho, hx, hn⟩
      have he : e = .returned (.agg #[.int .i64 x.pos, .int .i64 x.stamp, .int .i64 x.client, .int .i64 x.id, .slice x.A x.n x.c]) := he
      subst he
      have P3 := Lib.hid ((PD.out.read hr hg).body (own_base ho PD.out.ms))
      have PA := Lib.hid (P3.out.grow (grown_alloc v3 (.cells #[.int .i64 x.pos, .int .i64 x.stamp, .int .i64 x.client, .int .i64 x.id, .slice x.A x.n x.c] 42) none))
      have HZX : Hid (x.z = y ∧ (restR pv z).2 = u) := Lib.hid (by rw [hzx, F1.out]; exact ⟨rfl, rfl⟩)
      clear hr hg ho hx hzx
      refine hK.out _ _ (⟨(P3.out.cell 6 rfl).1, (P3.out.cell 5 rfl).1⟩) (fun hHeld2 => ?_)
      clear hK K hHeld
      have hHeld := hHeld2
      clear hHeld2
      try simp only [Act.put, List.setIfInBounds_toArray, List.set_cons_zero, List.set_cons_succ]
      refine Late.one (i := 8) (o := ⟨some 50, Op.buildSlice 23 1 #[(0, Operand.tmp 49)], _, _, _, _⟩) (by kernel_rfl) rfl (fun K hK => ?_)
      go_simp
      refine hK.out _ _ (⟨(PA.out.cell 6 rfl).1, (PA.out.cell 5 rfl).1⟩) (fun hHeld2 => ?_)
      clear hK K hHeld
      have hHeld := hHeld2
      clear hHeld2
      try simp only [Act.put, List.setIfInBounds_toArray, List.set_cons_zero, List.set_cons_succ]
      refine Late.one (i := 9) (o := ⟨some 51, Op.call { callee := Callee.builtin Builtin.append, args := #[Operand.tmp 43, Operand.tmp 50], argTypes := #[23, 23] }, _, _, _, _⟩) (by kernel_rfl) rfl (fun K hK => ?_)
      refine step_app (v3.alloc (.cells #[.int .i64 x.pos, .int .i64 x.stamp, .int .i64 x.client, .int .i64 x.id, .slice x.A x.n x.c] 42)) rfl (.tmp 43) (.tmp 50) 23 rfl (g5 + 1) 42 5 56 Try.underlying23 e_info (by omega) (.slice A k c) k (l.flatMap ec) (by rfl) PA.out.ow (some ⟨v3.heap.size, 0, none⟩) 1 1 ([x].flatMap ec) (by rfl) ((rws_new (f := ec) v3 x 42).lies ec_len (by omega)).1 ((rws_new (f := ec) v3 x 42).lies ec_len (by omega)).2 (flat_one ec_one _) (by unfold maxLen; omega) (by omega) PA.out.ms ?_
      intro v1 w9 ho1 hg1 _
      obtain ⟨A9, c9, rfl, _, _⟩ := own_shapeM ho1
      rw [← List.flatMap_append] at ho1
      have P9 := Lib.hid (PA.out.app ho1 hg1)
      clear ho1 hg1
      refine hK.out _ _ (⟨(P9.out.cell 6 rfl).1, (P9.out.cell 5 rfl).1⟩) (fun hHeld2 => ?_)
      clear hK K hHeld
      have hHeld := hHeld2
      clear hHeld2
      try simp only [Act.put, List.setIfInBounds_toArray, List.set_cons_zero, List.set_cons_succ]
      refine Late.take (i := 10) (oi := ⟨some 52, Op.fieldAddr 28 (Operand.tmp 5) 6, _, _, _, _⟩) (v := ?_) rfl (by kernel_rfl) (by kernel_rfl) (by kernel_rfl) (by kernel_rfl) (fun _ _ _ h => h) (Or.inl ⟨by rfl, fun w hSw => ?_⟩) (by assumption) ?_
      rotate_left
      · (have s1 := hSw; go_simp; try with_reducible rfl)
      try simp only [Act.put, List.setIfInBounds_toArray, List.set_cons_zero, List.set_cons_succ]
      refine Late.end_ (i := 11) (o := ⟨none, Op.store 23 (Operand.tmp 52) (Operand.tmp 51), _, _, _, _⟩) (by kernel_rfl) rfl rfl (fun K hK => ?_)
      obtain ⟨x6', y6'⟩ := P9.out.cell 6 rfl
      go_simp
      refine hK.out _ _ ?_
      clear hK K
      try simp only [Act.put]
      refine Late.done (by kernel_rfl) ?_ _
      refine NoPanic.normal ?_
      clear hHeld
      go_wp2
      have P10 := Lib.hid (P9.out.set (i := 6) (by omega) (.slice A9 ((k + 1 : Nat)) c9))
      go_roundw
      case rel => exact ⟨k + 1, A9, c9, l ++ [x], by omega, by go_num, Lib.hid (by rw [HS.out, List.map_append, HL.out]; show L ++ [x.z] = _; rw [HZX.out.1]), Lib.hid (by rw [HS.out]; have := P10.out; rw [HZX.out.2] at this; exact this)⟩
      case measure => simp [intOf]; omega
    · have hki : ¬ (k : Int) < (cnt : Int) := by omega
      obtain rfl : k = cnt := by omega
      rw [E4.out] at PR HL
      have HLo : l.map EX.z = M := HL.out
      subst HLo
      go_upto_region 24 with fail
      clear x6 y6
      obtain ⟨w8, hw8⟩ : ∃ W, W = wr := ⟨_, rfl⟩
      rw [← hw8]
      rw [← hw8] at PR
      have P := PR
      clear hw8 PR
      obtain ⟨zv, hz⟩ : ∃ z, endZ s5.1 s5.2 = z := ⟨_, rfl⟩
      obtain ⟨q, hq⟩ : ∃ q, mayM ({ mx0 with kind := 2, upto := a1, frm := a2, EA := A, en := k, ecp := c, es := l } : MX).z = q := ⟨_, rfl⟩
      have EM := Lib.hid (end_sd P.out.rd zv hz)
      have NM := Lib.hid (show NewM w8 (g5 + 1) { mx0 with kind := 2, upto := a1, frm := a2, EA := A, en := k, ecp := c, es := l } from ⟨World.ownsRow_nil _ _ _ _, P.out.ow, P.out.bo, World.ownsRow_nil _ _ _ _⟩)
      have ZO := Lib.hid (show MsgOk ({ mx0 with kind := 2, upto := a1, frm := a2, EA := A, en := k, ecp := c, es := l } : MX).z by have := own_ok (k := 2) T4.out (by omega); rw [HR.out] at this; exact this)
      have MY := Lib.hid (fun (W : World) (hW : Below w8.heap.size w8 W) => rmay_any q ((mxok_new NM.out ZO.out).grow hW (Nat.le_refl _)) (Nat.le_refl _) hq)
      have VG8 := Lib.hid (VG3.out.same (P.out.gb.block g VG3.out.lt (fun e => by injection e with e; omega)))
      have B8 := Lib.hid (B3.out.trans (below_of_grown P.out.gb B3.out.size (fun j hj => by injection hj with hj; have := Hg.out; omega)))
      have HPM : Hid (parseM bs = if zv = 0 ∧ q = true then (({ mx0 with kind := 2, upto := a1, frm := a2, EA := A, en := k, ecp := c, es := l } : MX).z, 0) else (mz0, 200)) := Lib.hid (by unfold parseM msgR; rw [HB4.out]; show (if endZ (ownR 2 s4).2.1 (ownR 2 s4).2.2 = 0 ∧ mayM (ownR 2 s4).1 = true then ((ownR 2 s4).1, (0 : Int)) else (mz0, 200)) = _; rw [HR.out]; show (if endZ s5.1 s5.2 = 0 ∧ mayM ({ mx0 with kind := 2, upto := a1, frm := a2, EA := A, en := k, ecp := c, es := l } : MX).z = true then (({ mx0 with kind := 2, upto := a1, frm := a2, EA := A, en := k, ecp := c, es := l } : MX).z, (0 : Int)) else (mz0, 200)) = _; rw [hz, hq])
      clear hz hq
      by_cases hz0 : zv = 0
      · subst hz0
        cases q with
        | false =>
          have HP : Hid (parseM bs = (mz0, 200)) := Lib.hid (by rw [HPM.out]; simp)
          clear HPM
          go_wp2_with (first
            | (go_at_call 55; refine EM.out.mono ?_; rintro e w9 ⟨rfl, m9, rfl⟩; have D9 := Lib.hid (below_drewN (Below.refl w8.heap.size w8) m9); have V9 := Lib.hid (P.out.box.grow D9.out))
            | (with_reducible show wpList _ _ _ (⟨some 75, .load 28 (.tmp 5), _, _, _, _⟩ :: _) _ _; refine wpList_load_guardL (op := ⟨some 75, .load 28 (.tmp 5), _, _, _, some (3, false)⟩) (by first | rfl | go_simp) 28 (.tmp 5) rfl (g5) (0) rfl (mc { mx0 with kind := 2, upto := a1, frm := a2, EA := A, en := k, ecp := c, es := l }) _ (V9.out.range) Try.underlying28 rfl (m_size _) ?_)
            | (go_at_call 11; refine (MY.out _ D9.out).mono ?_; rintro e w10 ⟨rfl, hb⟩; have D10 := Lib.hid (D9.out.trans (hb.mono D9.out.size)); have V10 := Lib.hid (P.out.box.grow D10.out); have G10 := Lib.hid (VG8.out.grow D10.out); have VT := Lib.hid (vthere G10.out (us := mc mx0) rfl); clear hb)
            | (with_reducible show wpList _ _ _ (⟨some 79, .build 28 #[], _, _, _, _⟩ :: _) _ _; refine wpList_exec (op := ⟨some 79, .build 28 #[], _, _, _, _⟩) rfl (.agg (mc mx0).toArray) (by exact exec_bm0 rfl (build_m0 _)) ?_)
            | (with_reducible show wpList _ _ _ (⟨none, .store 28 (.tmp 2) (.tmp 79), _, _, _, _⟩ :: _) _ _; refine wpList_store_as (op := ⟨none, .store 28 (.tmp 2) (.tmp 79), _, _, _, _⟩) rfl 28 (.tmp 2) (.tmp 79) rfl (g) 0 (mc mx0).toArray rfl rfl (VT.out) (m_sizeA _) (m_oneA _) ?_; intro w11 hw11))
          obtain ⟨V11, b11⟩ := vstored G10.out rfl hw11 (by rw [Hg.out]; exact Nat.le_refl _) (B8.out.trans (D10.out.mono B8.out.size))
          exact bodyPost_ret (v := .tuple #[.agg (mc mx0).toArray, .int .i64 200]) (results_mid_tmp (p := 2) (u := 3) (ty := 28) rfl _ _ g 0 (mc mx0) _ rfl V11.range Try.underlying28 rfl (m_size _)) rfl (by rw [HP.out]; exact parses0 b11)
        | true =>
          have HP : Hid (parseM bs = (({ mx0 with kind := 2, upto := a1, frm := a2, EA := A, en := k, ecp := c, es := l } : MX).z, 0)) := Lib.hid (by rw [HPM.out]; simp)
          clear HPM
          go_wp2_with (first
            | (go_at_call 55; refine EM.out.mono ?_; rintro e w9 ⟨rfl, m9, rfl⟩; have D9 := Lib.hid (below_drewN (Below.refl w8.heap.size w8) m9); have V9 := Lib.hid (P.out.box.grow D9.out))
            | (with_reducible show wpList _ _ _ (⟨some 75, .load 28 (.tmp 5), _, _, _, _⟩ :: _) _ _; refine wpList_load_guardL (op := ⟨some 75, .load 28 (.tmp 5), _, _, _, some (3, false)⟩) (by first | rfl | go_simp) 28 (.tmp 5) rfl (g5) (0) rfl (mc { mx0 with kind := 2, upto := a1, frm := a2, EA := A, en := k, ecp := c, es := l }) _ (V9.out.range) Try.underlying28 rfl (m_size _) ?_)
            | (go_at_call 11; refine (MY.out _ D9.out).mono ?_; rintro e w10 ⟨rfl, hb⟩; have D10 := Lib.hid (D9.out.trans (hb.mono D9.out.size)); have V10 := Lib.hid (P.out.box.grow D10.out); have G10 := Lib.hid (VG8.out.grow D10.out); have VT := Lib.hid (vthere G10.out (us := mc { mx0 with kind := 2, upto := a1, frm := a2, EA := A, en := k, ecp := c, es := l }) rfl); clear hb)
            | (with_reducible show wpList _ _ _ (⟨some 80, .load 28 (.tmp 5), _, _, _, _⟩ :: _) _ _; refine wpList_load_mid (op := ⟨some 80, .load 28 (.tmp 5), _, _, _, _⟩) rfl 28 (.tmp 5) rfl (g5) (0) rfl (mc { mx0 with kind := 2, upto := a1, frm := a2, EA := A, en := k, ecp := c, es := l }) _ (V10.out.range) Try.underlying28 rfl (m_size _) ?_)
            | (with_reducible show wpList _ _ _ (⟨none, .store 28 (.tmp 2) (.tmp 80), _, _, _, _⟩ :: _) _ _; refine wpList_store_as (op := ⟨none, .store 28 (.tmp 2) (.tmp 80), _, _, _, _⟩) rfl 28 (.tmp 2) (.tmp 80) rfl (g) 0 (mc { mx0 with kind := 2, upto := a1, frm := a2, EA := A, en := k, ecp := c, es := l }).toArray rfl rfl (VT.out) (m_sizeA _) (m_oneA _) ?_; intro w11 hw11))
          have e11 := hw11.out
          obtain ⟨V11, b11⟩ := vstored G10.out rfl hw11 (by rw [Hg.out]; exact Nat.le_refl _) (B8.out.trans (D10.out.mono B8.out.size))
          have hms := P.out.ms
          have N10 : NewM w10 (g5 + 1) { mx0 with kind := 2, upto := a1, frm := a2, EA := A, en := k, ecp := c, es := l } := ⟨own_below NM.out.body D10.out (Nat.le_refl _), own_below NM.out.es D10.out (Nat.le_refl _), fun y hy => own_below (NM.out.bo y hy) D10.out (Nat.le_refl _), own_below NM.out.ms D10.out (Nat.le_refl _)⟩
          have N11 : NewM w11 (g5 + 1) { mx0 with kind := 2, upto := a1, frm := a2, EA := A, en := k, ecp := c, es := l } := N10.keepB (fun j h1 h2 => by rw [e11]; exact heap_setCells g j (by omega) _ _ _)
          exact bodyPost_ret (v := .tuple #[.agg (mc { mx0 with kind := 2, upto := a1, frm := a2, EA := A, en := k, ecp := c, es := l }).toArray, .int .i64 0]) (results_mid_tmp (p := 2) (u := 3) (ty := 28) rfl _ _ g 0 (mc { mx0 with kind := 2, upto := a1, frm := a2, EA := A, en := k, ecp := c, es := l }) _ rfl V11.range Try.underlying28 rfl (m_size _)) rfl (by rw [HP.out]; exact ⟨{ mx0 with kind := 2, upto := a1, frm := a2, EA := A, en := k, ecp := c, es := l }, rfl, rfl, mxok_new N11 ZO.out, N11.baseB (by have := Hg.out; omega), b11⟩)
      · have hzb : (zv != 0) = true := by simp [hz0]
        have HP : Hid (parseM bs = (mz0, 200)) := Lib.hid (by rw [HPM.out]; simp [hz0])
        clear HPM
        go_wp2_with (first
            | (go_at_call 55; refine EM.out.mono ?_; rintro e w9 ⟨rfl, m9, rfl⟩; have D9 := Lib.hid (below_drewN (Below.refl w8.heap.size w8) m9); have V9 := Lib.hid (P.out.box.grow D9.out); have G9 := Lib.hid (VG8.out.grow D9.out); have VT := Lib.hid (vthere G9.out (us := mc mx0) rfl))
            | (with_reducible show wpList _ _ _ (⟨some 79, .build 28 #[], _, _, _, _⟩ :: _) _ _; refine wpList_exec (op := ⟨some 79, .build 28 #[], _, _, _, _⟩) rfl (.agg (mc mx0).toArray) (by exact exec_bm0 rfl (build_m0 _)) ?_)
            | (with_reducible show wpList _ _ _ (⟨none, .store 28 (.tmp 2) (.tmp 79), _, _, _, _⟩ :: _) _ _; refine wpList_store_as (op := ⟨none, .store 28 (.tmp 2) (.tmp 79), _, _, _, _⟩) rfl 28 (.tmp 2) (.tmp 79) rfl (g) 0 (mc mx0).toArray rfl rfl (VT.out) (m_sizeA _) (m_oneA _) ?_; intro w11 hw11))
        obtain ⟨V11, b11⟩ := vstored G9.out rfl hw11 (by rw [Hg.out]; exact Nat.le_refl _) (B8.out.trans (D9.out.mono B8.out.size))
        exact bodyPost_ret (v := .tuple #[.agg (mc mx0).toArray, .int .i64 200]) (results_mid_tmp (p := 2) (u := 3) (ty := 28) rfl _ _ g 0 (mc mx0) _ rfl V11.range Try.underlying28 rfl (m_size _)) rfl (by rw [HP.out]; exact parses0 b11)
set_option maxHeartbeats 8000000 in
theorem rparse3_any {w : World} {B n c : Nat} {A : Option Addr} {bs : List Int} (h : Bs w B A n bs) (hB : B ≤ w.heap.size) (hc : n ≤ c) (hn : n ≤ 65536) (hk : (rByte (0, bs)).1 = 3) : Calls Try.prog 17 #[.slice A n c] w (ParsesM w (parseM bs).1 (parseM bs).2) := by
  obtain ⟨W1, hW1⟩ : ∃ W, W = w.alloc (.cells #[.int .u8 0, .int .i64 0, .int .i64 0, .slice none 0 0, .int .i64 0, .int .i64 0, .slice none 0 0, .int .i64 0, .int .i64 0, .int .i64 0, .slice none 0 0, .int .i64 0] 28) := ⟨_, rfl⟩
  obtain ⟨g, hg⟩ : ∃ g, w.heap.size = g := ⟨_, rfl⟩
  have b1 := Lib.hid (show Below w.heap.size w W1 by rw [hW1]; exact below_one _ _)
  have V1 := Lib.hid (show VBox W1 g 12 (mc mx0) by rw [hW1]; exact vbox_new _ (mc mx0) _ _ _ hg rfl (by omega))
  have z1 := Lib.hid (show W1.heap.size = g + 1 by rw [hW1]; simp [hg])
  have Hg := Lib.hid hg
  have HBg : B ≤ g := by omega
  have NR := Lib.hid (new_rr (w := W1) c (h.belowM b1.out hB) (Nat.le_trans hB b1.out.size) hc hn)
  have HW1 := Lib.hid hW1
  obtain ⟨kd, s4, hb4⟩ : ∃ a s', rByte (0, bs) = (a, s') := ⟨_, _, rfl⟩
  have HB4 := Lib.hid hb4
  have T0 : StM (0, bs) := ⟨h.isBytes, by show bs.length ≤ 65536; rw [h.len]; exact hn⟩
  obtain ⟨hkr, t4⟩ := byte_rm T0 hb4
  have T4 := Lib.hid t4
  clear hW1 hg h hb4 T0 t4
  go_enter Try.func17, Try.ntmps17
  go_upto_region 1 with fail
  rw [← HW1.out, Hg.out]
  go_upto_region 2 with (go_at_call 48; refine NR.out.mono ?_; rintro e w3 ⟨rfl, hrd, hb, hlt⟩; have HB3 := Lib.hid hb; have HRD := Lib.hid hrd; have HLT := Lib.hid hlt; clear hb hrd hlt)
  obtain ⟨rb, hrb⟩ : ∃ b, W1.heap.size = b := ⟨_, rfl⟩
  have B3 := Lib.hid (b1.out.trans (HB3.out.mono b1.out.size))
  have VG3 := Lib.hid (V1.out.grow HB3.out)
  rw [hrb] at HRD HLT ⊢
  have HRG := Lib.hid (show rb = g + 1 by rw [← hrb]; exact z1.out)
  have hBr : B ≤ rb := by rw [HRG.out]; omega
  have RD3 := Lib.hid (show RdD rb B w3 (0, bs) from HRD.out)
  clear hrb z1
  go_upto_region 3 with (go_at_call 49; refine (byte_sd RD3.out HB4.out).mono ?_; rintro e v4 ⟨rfl, hr, hg⟩; have R4 := Lib.hid hr; have GW4 := Lib.hid hg; clear hr hg)
  obtain ⟨W5, hW5⟩ : ∃ W, W = v4.alloc (.cells #[.int .u8 kd, .int .i64 0, .int .i64 0, .slice none 0 0, .int .i64 0, .int .i64 0, .slice none 0 0, .int .i64 0, .int .i64 0, .int .i64 0, .slice none 0 0, .int .i64 0] 28) := ⟨_, rfl⟩
  obtain ⟨g5, hg5⟩ : ∃ g, v4.heap.size = g := ⟨_, rfl⟩
  have hg35 : w3.heap.size ≤ g5 := by rw [← hg5]; exact GW4.out.size
  have hgr : g < rb ∧ rb < w3.heap.size := ⟨by rw [HRG.out]; omega, HLT.out⟩
  have Q5 : Hid (QB (RdD rb B) rb w3 W5 g5 12 s4 (mc { mx0 with kind := kd }) (g5 + 1) 91 3 (.slice none 0 0) 0 [] []) := Lib.hid (by
    have RK := rdk_D (m := w3.heap.size) HLT.out hBr
    have g2 : v4.grownBy W5 none := by rw [hW5]; exact grown_alloc v4 _ _
    exact ⟨RK.keep v4 W5 _ none R4.out g2 (fun j hj => by cases hj), grown_new GW4.out g2 (fun j hj => by cases hj), RK, by rw [hW5]; exact vbox_new v4 (mc { mx0 with kind := kd }) _ _ _ hg5 rfl (by omega), hg35, by omega, by rw [hW5]; simp [hg5], World.ownsRow_nil _ _ _ _, fun x hx => (by cases hx), by decide⟩)
  rw [← hW5, hg5]
  clear hW5 hg5 HRD RD3 R4 GW4 NR V1
  obtain ⟨k0, _⟩ := Q5.out.cell 0 rfl
  go_upto_region 4 with fail
  clear k0
  have ek : kd = 3 := by rw [HB4.out] at hk; exact hk
  subst ek
  clear hk
  obtain ⟨a1, s1, e1⟩ : ∃ a s', rInt s4 = (a, s') := ⟨_, _, rfl⟩
  obtain ⟨a2, s2, e2⟩ : ∃ a s', rInt s1 = (a, s') := ⟨_, _, rfl⟩
  have HR : Hid (ownR 3 s4 = ({ mz0 with kind := 3, hav := a1, don := a2 }, s2)) := Lib.hid (by unfold ownR; simp [e1, e2])
  have E1 := Lib.hid e1
  have E2 := Lib.hid e2
  clear e1 e2
  go_upto_region 19 with (go_at_call 50; refine (int_sd Q5.out.rd E1.out).mono ?_; rintro e v1 ⟨rfl, hr, hg⟩; have P1 := Lib.hid (Q5.out.read hr hg); obtain ⟨x1, y1⟩ := P1.out.cell 7 rfl; have N1 := Lib.hid (P1.out.set (i := 7) (by omega) (.int .i64 a1)); clear hr hg)
  have M1 : Hid (QB (RdD rb B) rb w3 _ g5 12 s1 (mc { mx0 with kind := 3, hav := a1 }) (g5 + 1) 91 3 (.slice none 0 0) 0 [] []) := Lib.hid N1.out
  clear x1 y1 N1
  go_upto_region 24 with (go_at_call 50; refine (int_sd M1.out.rd E2.out).mono ?_; rintro e v2 ⟨rfl, hr, hg⟩; have P2 := Lib.hid (M1.out.read hr hg); obtain ⟨x2, y2⟩ := P2.out.cell 8 rfl; have N2 := Lib.hid (P2.out.set (i := 8) (by omega) (.int .i64 a2)); clear hr hg)
  have M2 : Hid (QB (RdD rb B) rb w3 _ g5 12 s2 (mc { mx0 with kind := 3, hav := a1, don := a2 }) (g5 + 1) 91 3 (.slice none 0 0) 0 [] []) := Lib.hid N2.out
  clear x2 y2 N2
  obtain ⟨w8, hw8⟩ : ∃ W, W = v2.setCell ⟨g5, 8, none⟩ (.int .i64 a2) := ⟨_, rfl⟩
  rw [← hw8]
  rw [← hw8] at M2
  have P := M2
  clear hw8 M2
  obtain ⟨zv, hz⟩ : ∃ z, endZ s2.1 s2.2 = z := ⟨_, rfl⟩
  obtain ⟨q, hq⟩ : ∃ q, mayM ({ mx0 with kind := 3, hav := a1, don := a2 } : MX).z = q := ⟨_, rfl⟩
  have EM := Lib.hid (end_sd P.out.rd zv hz)
  have NM := Lib.hid (show NewM w8 (g5 + 1) { mx0 with kind := 3, hav := a1, don := a2 } from ⟨World.ownsRow_nil _ _ _ _, World.ownsRow_nil _ _ _ _, fun x hx => (by cases hx), World.ownsRow_nil _ _ _ _⟩)
  have ZO := Lib.hid (show MsgOk ({ mx0 with kind := 3, hav := a1, don := a2 } : MX).z by have := own_ok (k := 3) T4.out (by omega); rw [HR.out] at this; exact this)
  have MY := Lib.hid (fun (W : World) (hW : Below w8.heap.size w8 W) => rmay_any q ((mxok_new NM.out ZO.out).grow hW (Nat.le_refl _)) (Nat.le_refl _) hq)
  have VG8 := Lib.hid (VG3.out.same (P.out.gb.block g VG3.out.lt (fun e => by injection e with e; omega)))
  have B8 := Lib.hid (B3.out.trans (below_of_grown P.out.gb B3.out.size (fun j hj => by injection hj with hj; have := Hg.out; omega)))
  have HPM : Hid (parseM bs = if zv = 0 ∧ q = true then (({ mx0 with kind := 3, hav := a1, don := a2 } : MX).z, 0) else (mz0, 200)) := Lib.hid (by unfold parseM msgR; rw [HB4.out]; show (if endZ (ownR 3 s4).2.1 (ownR 3 s4).2.2 = 0 ∧ mayM (ownR 3 s4).1 = true then ((ownR 3 s4).1, (0 : Int)) else (mz0, 200)) = _; rw [HR.out]; show (if endZ s2.1 s2.2 = 0 ∧ mayM ({ mx0 with kind := 3, hav := a1, don := a2 } : MX).z = true then (({ mx0 with kind := 3, hav := a1, don := a2 } : MX).z, (0 : Int)) else (mz0, 200)) = _; rw [hz, hq])
  clear hz hq
  by_cases hz0 : zv = 0
  · subst hz0
    cases q with
    | false =>
      have HP : Hid (parseM bs = (mz0, 200)) := Lib.hid (by rw [HPM.out]; simp)
      clear HPM
      go_wp2_with (first
        | (go_at_call 55; refine EM.out.mono ?_; rintro e w9 ⟨rfl, m9, rfl⟩; have D9 := Lib.hid (below_drewN (Below.refl w8.heap.size w8) m9); have V9 := Lib.hid (P.out.box.grow D9.out))
        | (with_reducible show wpList _ _ _ (⟨some 75, .load 28 (.tmp 5), _, _, _, _⟩ :: _) _ _; refine wpList_load_guardL (op := ⟨some 75, .load 28 (.tmp 5), _, _, _, some (3, false)⟩) (by first | rfl | go_simp) 28 (.tmp 5) rfl (g5) (0) rfl (mc { mx0 with kind := 3, hav := a1, don := a2 }) _ (V9.out.range) Try.underlying28 rfl (m_size _) ?_)
        | (go_at_call 11; refine (MY.out _ D9.out).mono ?_; rintro e w10 ⟨rfl, hb⟩; have D10 := Lib.hid (D9.out.trans (hb.mono D9.out.size)); have V10 := Lib.hid (P.out.box.grow D10.out); have G10 := Lib.hid (VG8.out.grow D10.out); have VT := Lib.hid (vthere G10.out (us := mc mx0) rfl); clear hb)
        | (with_reducible show wpList _ _ _ (⟨some 79, .build 28 #[], _, _, _, _⟩ :: _) _ _; refine wpList_exec (op := ⟨some 79, .build 28 #[], _, _, _, _⟩) rfl (.agg (mc mx0).toArray) (by exact exec_bm0 rfl (build_m0 _)) ?_)
        | (with_reducible show wpList _ _ _ (⟨none, .store 28 (.tmp 2) (.tmp 79), _, _, _, _⟩ :: _) _ _; refine wpList_store_as (op := ⟨none, .store 28 (.tmp 2) (.tmp 79), _, _, _, _⟩) rfl 28 (.tmp 2) (.tmp 79) rfl (g) 0 (mc mx0).toArray rfl rfl (VT.out) (m_sizeA _) (m_oneA _) ?_; intro w11 hw11))
      obtain ⟨V11, b11⟩ := vstored G10.out rfl hw11 (by rw [Hg.out]; exact Nat.le_refl _) (B8.out.trans (D10.out.mono B8.out.size))
      exact bodyPost_ret (v := .tuple #[.agg (mc mx0).toArray, .int .i64 200]) (results_mid_tmp (p := 2) (u := 3) (ty := 28) rfl _ _ g 0 (mc mx0) _ rfl V11.range Try.underlying28 rfl (m_size _)) rfl (by rw [HP.out]; exact parses0 b11)
    | true =>
      have HP : Hid (parseM bs = (({ mx0 with kind := 3, hav := a1, don := a2 } : MX).z, 0)) := Lib.hid (by rw [HPM.out]; simp)
      clear HPM
      go_wp2_with (first
        | (go_at_call 55; refine EM.out.mono ?_; rintro e w9 ⟨rfl, m9, rfl⟩; have D9 := Lib.hid (below_drewN (Below.refl w8.heap.size w8) m9); have V9 := Lib.hid (P.out.box.grow D9.out))
        | (with_reducible show wpList _ _ _ (⟨some 75, .load 28 (.tmp 5), _, _, _, _⟩ :: _) _ _; refine wpList_load_guardL (op := ⟨some 75, .load 28 (.tmp 5), _, _, _, some (3, false)⟩) (by first | rfl | go_simp) 28 (.tmp 5) rfl (g5) (0) rfl (mc { mx0 with kind := 3, hav := a1, don := a2 }) _ (V9.out.range) Try.underlying28 rfl (m_size _) ?_)
        | (go_at_call 11; refine (MY.out _ D9.out).mono ?_; rintro e w10 ⟨rfl, hb⟩; have D10 := Lib.hid (D9.out.trans (hb.mono D9.out.size)); have V10 := Lib.hid (P.out.box.grow D10.out); have G10 := Lib.hid (VG8.out.grow D10.out); have VT := Lib.hid (vthere G10.out (us := mc { mx0 with kind := 3, hav := a1, don := a2 }) rfl); clear hb)
        | (with_reducible show wpList _ _ _ (⟨some 80, .load 28 (.tmp 5), _, _, _, _⟩ :: _) _ _; refine wpList_load_mid (op := ⟨some 80, .load 28 (.tmp 5), _, _, _, _⟩) rfl 28 (.tmp 5) rfl (g5) (0) rfl (mc { mx0 with kind := 3, hav := a1, don := a2 }) _ (V10.out.range) Try.underlying28 rfl (m_size _) ?_)
        | (with_reducible show wpList _ _ _ (⟨none, .store 28 (.tmp 2) (.tmp 80), _, _, _, _⟩ :: _) _ _; refine wpList_store_as (op := ⟨none, .store 28 (.tmp 2) (.tmp 80), _, _, _, _⟩) rfl 28 (.tmp 2) (.tmp 80) rfl (g) 0 (mc { mx0 with kind := 3, hav := a1, don := a2 }).toArray rfl rfl (VT.out) (m_sizeA _) (m_oneA _) ?_; intro w11 hw11))
      have e11 := hw11.out
      obtain ⟨V11, b11⟩ := vstored G10.out rfl hw11 (by rw [Hg.out]; exact Nat.le_refl _) (B8.out.trans (D10.out.mono B8.out.size))
      have hms := P.out.ms
      have N10 : NewM w10 (g5 + 1) { mx0 with kind := 3, hav := a1, don := a2 } := ⟨own_below NM.out.body D10.out (Nat.le_refl _), own_below NM.out.es D10.out (Nat.le_refl _), fun y hy => own_below (NM.out.bo y hy) D10.out (Nat.le_refl _), own_below NM.out.ms D10.out (Nat.le_refl _)⟩
      have N11 : NewM w11 (g5 + 1) { mx0 with kind := 3, hav := a1, don := a2 } := N10.keepB (fun j h1 h2 => by rw [e11]; exact heap_setCells g j (by omega) _ _ _)
      exact bodyPost_ret (v := .tuple #[.agg (mc { mx0 with kind := 3, hav := a1, don := a2 }).toArray, .int .i64 0]) (results_mid_tmp (p := 2) (u := 3) (ty := 28) rfl _ _ g 0 (mc { mx0 with kind := 3, hav := a1, don := a2 }) _ rfl V11.range Try.underlying28 rfl (m_size _)) rfl (by rw [HP.out]; exact ⟨{ mx0 with kind := 3, hav := a1, don := a2 }, rfl, rfl, mxok_new N11 ZO.out, N11.baseB (by have := Hg.out; omega), b11⟩)
  · have hzb : (zv != 0) = true := by simp [hz0]
    have HP : Hid (parseM bs = (mz0, 200)) := Lib.hid (by rw [HPM.out]; simp [hz0])
    clear HPM
    go_wp2_with (first
        | (go_at_call 55; refine EM.out.mono ?_; rintro e w9 ⟨rfl, m9, rfl⟩; have D9 := Lib.hid (below_drewN (Below.refl w8.heap.size w8) m9); have V9 := Lib.hid (P.out.box.grow D9.out); have G9 := Lib.hid (VG8.out.grow D9.out); have VT := Lib.hid (vthere G9.out (us := mc mx0) rfl))
        | (with_reducible show wpList _ _ _ (⟨some 79, .build 28 #[], _, _, _, _⟩ :: _) _ _; refine wpList_exec (op := ⟨some 79, .build 28 #[], _, _, _, _⟩) rfl (.agg (mc mx0).toArray) (by exact exec_bm0 rfl (build_m0 _)) ?_)
        | (with_reducible show wpList _ _ _ (⟨none, .store 28 (.tmp 2) (.tmp 79), _, _, _, _⟩ :: _) _ _; refine wpList_store_as (op := ⟨none, .store 28 (.tmp 2) (.tmp 79), _, _, _, _⟩) rfl 28 (.tmp 2) (.tmp 79) rfl (g) 0 (mc mx0).toArray rfl rfl (VT.out) (m_sizeA _) (m_oneA _) ?_; intro w11 hw11))
    obtain ⟨V11, b11⟩ := vstored G9.out rfl hw11 (by rw [Hg.out]; exact Nat.le_refl _) (B8.out.trans (D9.out.mono B8.out.size))
    exact bodyPost_ret (v := .tuple #[.agg (mc mx0).toArray, .int .i64 200]) (results_mid_tmp (p := 2) (u := 3) (ty := 28) rfl _ _ g 0 (mc mx0) _ rfl V11.range Try.underlying28 rfl (m_size _)) rfl (by rw [HP.out]; exact parses0 b11)
set_option maxHeartbeats 8000000 in
theorem rparse4_any {w : World} {B n c : Nat} {A : Option Addr} {bs : List Int} (h : Bs w B A n bs) (hB : B ≤ w.heap.size) (hc : n ≤ c) (hn : n ≤ 65536) (hk : (rByte (0, bs)).1 = 4) : Calls Try.prog 17 #[.slice A n c] w (ParsesM w (parseM bs).1 (parseM bs).2) := by
  obtain ⟨W1, hW1⟩ : ∃ W, W = w.alloc (.cells #[.int .u8 0, .int .i64 0, .int .i64 0, .slice none 0 0, .int .i64 0, .int .i64 0, .slice none 0 0, .int .i64 0, .int .i64 0, .int .i64 0, .slice none 0 0, .int .i64 0] 28) := ⟨_, rfl⟩
  obtain ⟨g, hg⟩ : ∃ g, w.heap.size = g := ⟨_, rfl⟩
  have b1 := Lib.hid (show Below w.heap.size w W1 by rw [hW1]; exact below_one _ _)
  have V1 := Lib.hid (show VBox W1 g 12 (mc mx0) by rw [hW1]; exact vbox_new _ (mc mx0) _ _ _ hg rfl (by omega))
  have z1 := Lib.hid (show W1.heap.size = g + 1 by rw [hW1]; simp [hg])
  have Hg := Lib.hid hg
  have HBg : B ≤ g := by omega
  have NR := Lib.hid (new_rr (w := W1) c (h.belowM b1.out hB) (Nat.le_trans hB b1.out.size) hc hn)
  have HW1 := Lib.hid hW1
  obtain ⟨kd, s4, hb4⟩ : ∃ a s', rByte (0, bs) = (a, s') := ⟨_, _, rfl⟩
  have HB4 := Lib.hid hb4
  have T0 : StM (0, bs) := ⟨h.isBytes, by show bs.length ≤ 65536; rw [h.len]; exact hn⟩
  obtain ⟨hkr, t4⟩ := byte_rm T0 hb4
  have T4 := Lib.hid t4
  clear hW1 hg h hb4 T0 t4
  go_enter Try.func17, Try.ntmps17
  go_upto_region 1 with fail
  rw [← HW1.out, Hg.out]
  go_upto_region 2 with (go_at_call 48; refine NR.out.mono ?_; rintro e w3 ⟨rfl, hrd, hb, hlt⟩; have HB3 := Lib.hid hb; have HRD := Lib.hid hrd; have HLT := Lib.hid hlt; clear hb hrd hlt)
  obtain ⟨rb, hrb⟩ : ∃ b, W1.heap.size = b := ⟨_, rfl⟩
  have B3 := Lib.hid (b1.out.trans (HB3.out.mono b1.out.size))
  have VG3 := Lib.hid (V1.out.grow HB3.out)
  rw [hrb] at HRD HLT ⊢
  have HRG := Lib.hid (show rb = g + 1 by rw [← hrb]; exact z1.out)
  have hBr : B ≤ rb := by rw [HRG.out]; omega
  have RD3 := Lib.hid (show RdD rb B w3 (0, bs) from HRD.out)
  clear hrb z1
  go_upto_region 3 with (go_at_call 49; refine (byte_sd RD3.out HB4.out).mono ?_; rintro e v4 ⟨rfl, hr, hg⟩; have R4 := Lib.hid hr; have GW4 := Lib.hid hg; clear hr hg)
  obtain ⟨W5, hW5⟩ : ∃ W, W = v4.alloc (.cells #[.int .u8 kd, .int .i64 0, .int .i64 0, .slice none 0 0, .int .i64 0, .int .i64 0, .slice none 0 0, .int .i64 0, .int .i64 0, .int .i64 0, .slice none 0 0, .int .i64 0] 28) := ⟨_, rfl⟩
  obtain ⟨g5, hg5⟩ : ∃ g, v4.heap.size = g := ⟨_, rfl⟩
  have hg35 : w3.heap.size ≤ g5 := by rw [← hg5]; exact GW4.out.size
  have hgr : g < rb ∧ rb < w3.heap.size := ⟨by rw [HRG.out]; omega, HLT.out⟩
  have Q5 : Hid (QB (RdD rb B) rb w3 W5 g5 12 s4 (mc { mx0 with kind := kd }) (g5 + 1) 91 3 (.slice none 0 0) 0 [] []) := Lib.hid (by
    have RK := rdk_D (m := w3.heap.size) HLT.out hBr
    have g2 : v4.grownBy W5 none := by rw [hW5]; exact grown_alloc v4 _ _
    exact ⟨RK.keep v4 W5 _ none R4.out g2 (fun j hj => by cases hj), grown_new GW4.out g2 (fun j hj => by cases hj), RK, by rw [hW5]; exact vbox_new v4 (mc { mx0 with kind := kd }) _ _ _ hg5 rfl (by omega), hg35, by omega, by rw [hW5]; simp [hg5], World.ownsRow_nil _ _ _ _, fun x hx => (by cases hx), by decide⟩)
  rw [← hW5, hg5]
  clear hW5 hg5 HRD RD3 R4 GW4 NR V1
  obtain ⟨k0, _⟩ := Q5.out.cell 0 rfl
  go_upto_region 4 with fail
  clear k0
  have ek : kd = 4 := by rw [HB4.out] at hk; exact hk
  subst ek
  clear hk
  obtain ⟨a1, s1, e1⟩ : ∃ a s', confR s4 = (a, s') := ⟨_, _, rfl⟩
  have HR : Hid (ownR 4 s4 = ({ mz0 with kind := 4, ep := a1.1, ms := a1.2 }, s1)) := Lib.hid (by unfold ownR; simp [e1])
  have CT := Lib.hid (show Calls Try.prog 54 #[.pointer (some ⟨rb, 0, none⟩)] _ (ReadsC (RdD rb B) rb _ a1.1 a1.2 s1) from by have := rtakeconf_any ⟨Q5.out.rd, Q5.out.on, hBr⟩ T4.out; rw [e1] at this; exact this)
  clear e1
  go_upto_region 24 with (go_at_call 54; refine CT.out.mono ?_; rintro e v1 ⟨AC, cC, he, hr, hg, ho, hm, hep, hc1, hc2⟩; have he : e = .returned (.agg #[.int .i64 a1.1, .slice AC a1.2.length cC]) := he; subst he; have P1 := Lib.hid ((Q5.out.read hr hg).row (own_base ho Q5.out.ms) (by decide)); obtain ⟨x9, y9⟩ := P1.out.cell 9 rfl; obtain ⟨x10, y10⟩ := P1.out.cell 10 rfl; have TT := P1.out.box.thereI (i := 9) (n := 2) (by omega); clear hr hg ho hm hep)
  clear x9 y9 x10 y10 TT
  have M1 : Hid (QB (RdD rb B) rb w3 ((v1.setCell ⟨g5, 9, none⟩ (.int .i64 a1.1)).setCell ⟨g5, 10, none⟩ (.slice AC a1.2.length cC)) g5 12 s1 (mc { mx0 with kind := 4, ep := a1.1, MA := AC, mn := a1.2.length, mcp := cC, ms := a1.2 }) (g5 + 1) 91 3 (.slice AC a1.2.length cC) a1.2.length (a1.2.flatMap bc) []) := Lib.hid ((P1.out.set (i := 9) (by omega) (.int .i64 a1.1)).set (i := 10) (by omega) (.slice AC a1.2.length cC))
  obtain ⟨w8, hw8⟩ : ∃ W, W = (v1.setCell ⟨g5, 9, none⟩ (.int .i64 a1.1)).setCell ⟨g5, 10, none⟩ (.slice AC a1.2.length cC) := ⟨_, rfl⟩
  rw [← hw8]
  rw [← hw8] at M1
  have P := M1
  clear hw8 M1
  obtain ⟨zv, hz⟩ : ∃ z, endZ s1.1 s1.2 = z := ⟨_, rfl⟩
  obtain ⟨q, hq⟩ : ∃ q, mayM ({ mx0 with kind := 4, ep := a1.1, MA := AC, mn := a1.2.length, mcp := cC, ms := a1.2 } : MX).z = q := ⟨_, rfl⟩
  have EM := Lib.hid (end_sd P.out.rd zv hz)
  have NM := Lib.hid (show NewM w8 (g5 + 1) { mx0 with kind := 4, ep := a1.1, MA := AC, mn := a1.2.length, mcp := cC, ms := a1.2 } from ⟨World.ownsRow_nil _ _ _ _, World.ownsRow_nil _ _ _ _, fun x hx => (by cases hx), P.out.ow⟩)
  have ZO := Lib.hid (show MsgOk ({ mx0 with kind := 4, ep := a1.1, MA := AC, mn := a1.2.length, mcp := cC, ms := a1.2 } : MX).z by have := own_ok (k := 4) T4.out (by omega); rw [HR.out] at this; exact this)
  have MY := Lib.hid (fun (W : World) (hW : Below w8.heap.size w8 W) => rmay_any q ((mxok_new NM.out ZO.out).grow hW (Nat.le_refl _)) (Nat.le_refl _) hq)
  have VG8 := Lib.hid (VG3.out.same (P.out.gb.block g VG3.out.lt (fun e => by injection e with e; omega)))
  have B8 := Lib.hid (B3.out.trans (below_of_grown P.out.gb B3.out.size (fun j hj => by injection hj with hj; have := Hg.out; omega)))
  have HPM : Hid (parseM bs = if zv = 0 ∧ q = true then (({ mx0 with kind := 4, ep := a1.1, MA := AC, mn := a1.2.length, mcp := cC, ms := a1.2 } : MX).z, 0) else (mz0, 200)) := Lib.hid (by unfold parseM msgR; rw [HB4.out]; show (if endZ (ownR 4 s4).2.1 (ownR 4 s4).2.2 = 0 ∧ mayM (ownR 4 s4).1 = true then ((ownR 4 s4).1, (0 : Int)) else (mz0, 200)) = _; rw [HR.out]; show (if endZ s1.1 s1.2 = 0 ∧ mayM ({ mx0 with kind := 4, ep := a1.1, MA := AC, mn := a1.2.length, mcp := cC, ms := a1.2 } : MX).z = true then (({ mx0 with kind := 4, ep := a1.1, MA := AC, mn := a1.2.length, mcp := cC, ms := a1.2 } : MX).z, (0 : Int)) else (mz0, 200)) = _; rw [hz, hq])
  clear hz hq
  by_cases hz0 : zv = 0
  · subst hz0
    cases q with
    | false =>
      have HP : Hid (parseM bs = (mz0, 200)) := Lib.hid (by rw [HPM.out]; simp)
      clear HPM
      go_wp2_with (first
        | (go_at_call 55; refine EM.out.mono ?_; rintro e w9 ⟨rfl, m9, rfl⟩; have D9 := Lib.hid (below_drewN (Below.refl w8.heap.size w8) m9); have V9 := Lib.hid (P.out.box.grow D9.out))
        | (with_reducible show wpList _ _ _ (⟨some 75, .load 28 (.tmp 5), _, _, _, _⟩ :: _) _ _; refine wpList_load_guardL (op := ⟨some 75, .load 28 (.tmp 5), _, _, _, some (3, false)⟩) (by first | rfl | go_simp) 28 (.tmp 5) rfl (g5) (0) rfl (mc { mx0 with kind := 4, ep := a1.1, MA := AC, mn := a1.2.length, mcp := cC, ms := a1.2 }) _ (V9.out.range) Try.underlying28 rfl (m_size _) ?_)
        | (go_at_call 11; refine (MY.out _ D9.out).mono ?_; rintro e w10 ⟨rfl, hb⟩; have D10 := Lib.hid (D9.out.trans (hb.mono D9.out.size)); have V10 := Lib.hid (P.out.box.grow D10.out); have G10 := Lib.hid (VG8.out.grow D10.out); have VT := Lib.hid (vthere G10.out (us := mc mx0) rfl); clear hb)
        | (with_reducible show wpList _ _ _ (⟨some 79, .build 28 #[], _, _, _, _⟩ :: _) _ _; refine wpList_exec (op := ⟨some 79, .build 28 #[], _, _, _, _⟩) rfl (.agg (mc mx0).toArray) (by exact exec_bm0 rfl (build_m0 _)) ?_)
        | (with_reducible show wpList _ _ _ (⟨none, .store 28 (.tmp 2) (.tmp 79), _, _, _, _⟩ :: _) _ _; refine wpList_store_as (op := ⟨none, .store 28 (.tmp 2) (.tmp 79), _, _, _, _⟩) rfl 28 (.tmp 2) (.tmp 79) rfl (g) 0 (mc mx0).toArray rfl rfl (VT.out) (m_sizeA _) (m_oneA _) ?_; intro w11 hw11))
      obtain ⟨V11, b11⟩ := vstored G10.out rfl hw11 (by rw [Hg.out]; exact Nat.le_refl _) (B8.out.trans (D10.out.mono B8.out.size))
      exact bodyPost_ret (v := .tuple #[.agg (mc mx0).toArray, .int .i64 200]) (results_mid_tmp (p := 2) (u := 3) (ty := 28) rfl _ _ g 0 (mc mx0) _ rfl V11.range Try.underlying28 rfl (m_size _)) rfl (by rw [HP.out]; exact parses0 b11)
    | true =>
      have HP : Hid (parseM bs = (({ mx0 with kind := 4, ep := a1.1, MA := AC, mn := a1.2.length, mcp := cC, ms := a1.2 } : MX).z, 0)) := Lib.hid (by rw [HPM.out]; simp)
      clear HPM
      go_wp2_with (first
        | (go_at_call 55; refine EM.out.mono ?_; rintro e w9 ⟨rfl, m9, rfl⟩; have D9 := Lib.hid (below_drewN (Below.refl w8.heap.size w8) m9); have V9 := Lib.hid (P.out.box.grow D9.out))
        | (with_reducible show wpList _ _ _ (⟨some 75, .load 28 (.tmp 5), _, _, _, _⟩ :: _) _ _; refine wpList_load_guardL (op := ⟨some 75, .load 28 (.tmp 5), _, _, _, some (3, false)⟩) (by first | rfl | go_simp) 28 (.tmp 5) rfl (g5) (0) rfl (mc { mx0 with kind := 4, ep := a1.1, MA := AC, mn := a1.2.length, mcp := cC, ms := a1.2 }) _ (V9.out.range) Try.underlying28 rfl (m_size _) ?_)
        | (go_at_call 11; refine (MY.out _ D9.out).mono ?_; rintro e w10 ⟨rfl, hb⟩; have D10 := Lib.hid (D9.out.trans (hb.mono D9.out.size)); have V10 := Lib.hid (P.out.box.grow D10.out); have G10 := Lib.hid (VG8.out.grow D10.out); have VT := Lib.hid (vthere G10.out (us := mc { mx0 with kind := 4, ep := a1.1, MA := AC, mn := a1.2.length, mcp := cC, ms := a1.2 }) rfl); clear hb)
        | (with_reducible show wpList _ _ _ (⟨some 80, .load 28 (.tmp 5), _, _, _, _⟩ :: _) _ _; refine wpList_load_mid (op := ⟨some 80, .load 28 (.tmp 5), _, _, _, _⟩) rfl 28 (.tmp 5) rfl (g5) (0) rfl (mc { mx0 with kind := 4, ep := a1.1, MA := AC, mn := a1.2.length, mcp := cC, ms := a1.2 }) _ (V10.out.range) Try.underlying28 rfl (m_size _) ?_)
        | (with_reducible show wpList _ _ _ (⟨none, .store 28 (.tmp 2) (.tmp 80), _, _, _, _⟩ :: _) _ _; refine wpList_store_as (op := ⟨none, .store 28 (.tmp 2) (.tmp 80), _, _, _, _⟩) rfl 28 (.tmp 2) (.tmp 80) rfl (g) 0 (mc { mx0 with kind := 4, ep := a1.1, MA := AC, mn := a1.2.length, mcp := cC, ms := a1.2 }).toArray rfl rfl (VT.out) (m_sizeA _) (m_oneA _) ?_; intro w11 hw11))
      have e11 := hw11.out
      obtain ⟨V11, b11⟩ := vstored G10.out rfl hw11 (by rw [Hg.out]; exact Nat.le_refl _) (B8.out.trans (D10.out.mono B8.out.size))
      have hms := P.out.ms
      have N10 : NewM w10 (g5 + 1) { mx0 with kind := 4, ep := a1.1, MA := AC, mn := a1.2.length, mcp := cC, ms := a1.2 } := ⟨own_below NM.out.body D10.out (Nat.le_refl _), own_below NM.out.es D10.out (Nat.le_refl _), fun y hy => own_below (NM.out.bo y hy) D10.out (Nat.le_refl _), own_below NM.out.ms D10.out (Nat.le_refl _)⟩
      have N11 : NewM w11 (g5 + 1) { mx0 with kind := 4, ep := a1.1, MA := AC, mn := a1.2.length, mcp := cC, ms := a1.2 } := N10.keepB (fun j h1 h2 => by rw [e11]; exact heap_setCells g j (by omega) _ _ _)
      exact bodyPost_ret (v := .tuple #[.agg (mc { mx0 with kind := 4, ep := a1.1, MA := AC, mn := a1.2.length, mcp := cC, ms := a1.2 }).toArray, .int .i64 0]) (results_mid_tmp (p := 2) (u := 3) (ty := 28) rfl _ _ g 0 (mc { mx0 with kind := 4, ep := a1.1, MA := AC, mn := a1.2.length, mcp := cC, ms := a1.2 }) _ rfl V11.range Try.underlying28 rfl (m_size _)) rfl (by rw [HP.out]; exact ⟨{ mx0 with kind := 4, ep := a1.1, MA := AC, mn := a1.2.length, mcp := cC, ms := a1.2 }, rfl, rfl, mxok_new N11 ZO.out, N11.baseB (by have := Hg.out; omega), b11⟩)
  · have hzb : (zv != 0) = true := by simp [hz0]
    have HP : Hid (parseM bs = (mz0, 200)) := Lib.hid (by rw [HPM.out]; simp [hz0])
    clear HPM
    go_wp2_with (first
        | (go_at_call 55; refine EM.out.mono ?_; rintro e w9 ⟨rfl, m9, rfl⟩; have D9 := Lib.hid (below_drewN (Below.refl w8.heap.size w8) m9); have V9 := Lib.hid (P.out.box.grow D9.out); have G9 := Lib.hid (VG8.out.grow D9.out); have VT := Lib.hid (vthere G9.out (us := mc mx0) rfl))
        | (with_reducible show wpList _ _ _ (⟨some 79, .build 28 #[], _, _, _, _⟩ :: _) _ _; refine wpList_exec (op := ⟨some 79, .build 28 #[], _, _, _, _⟩) rfl (.agg (mc mx0).toArray) (by exact exec_bm0 rfl (build_m0 _)) ?_)
        | (with_reducible show wpList _ _ _ (⟨none, .store 28 (.tmp 2) (.tmp 79), _, _, _, _⟩ :: _) _ _; refine wpList_store_as (op := ⟨none, .store 28 (.tmp 2) (.tmp 79), _, _, _, _⟩) rfl 28 (.tmp 2) (.tmp 79) rfl (g) 0 (mc mx0).toArray rfl rfl (VT.out) (m_sizeA _) (m_oneA _) ?_; intro w11 hw11))
    obtain ⟨V11, b11⟩ := vstored G9.out rfl hw11 (by rw [Hg.out]; exact Nat.le_refl _) (B8.out.trans (D9.out.mono B8.out.size))
    exact bodyPost_ret (v := .tuple #[.agg (mc mx0).toArray, .int .i64 200]) (results_mid_tmp (p := 2) (u := 3) (ty := 28) rfl _ _ g 0 (mc mx0) _ rfl V11.range Try.underlying28 rfl (m_size _)) rfl (by rw [HP.out]; exact parses0 b11)
set_option maxHeartbeats 8000000 in
theorem rparse5_any {w : World} {B n c : Nat} {A : Option Addr} {bs : List Int} (h : Bs w B A n bs) (hB : B ≤ w.heap.size) (hc : n ≤ c) (hn : n ≤ 65536) (hk : (rByte (0, bs)).1 = 5) : Calls Try.prog 17 #[.slice A n c] w (ParsesM w (parseM bs).1 (parseM bs).2) := by
  obtain ⟨W1, hW1⟩ : ∃ W, W = w.alloc (.cells #[.int .u8 0, .int .i64 0, .int .i64 0, .slice none 0 0, .int .i64 0, .int .i64 0, .slice none 0 0, .int .i64 0, .int .i64 0, .int .i64 0, .slice none 0 0, .int .i64 0] 28) := ⟨_, rfl⟩
  obtain ⟨g, hg⟩ : ∃ g, w.heap.size = g := ⟨_, rfl⟩
  have b1 := Lib.hid (show Below w.heap.size w W1 by rw [hW1]; exact below_one _ _)
  have V1 := Lib.hid (show VBox W1 g 12 (mc mx0) by rw [hW1]; exact vbox_new _ (mc mx0) _ _ _ hg rfl (by omega))
  have z1 := Lib.hid (show W1.heap.size = g + 1 by rw [hW1]; simp [hg])
  have Hg := Lib.hid hg
  have HBg : B ≤ g := by omega
  have NR := Lib.hid (new_rr (w := W1) c (h.belowM b1.out hB) (Nat.le_trans hB b1.out.size) hc hn)
  have HW1 := Lib.hid hW1
  obtain ⟨kd, s4, hb4⟩ : ∃ a s', rByte (0, bs) = (a, s') := ⟨_, _, rfl⟩
  have HB4 := Lib.hid hb4
  have T0 : StM (0, bs) := ⟨h.isBytes, by show bs.length ≤ 65536; rw [h.len]; exact hn⟩
  obtain ⟨hkr, t4⟩ := byte_rm T0 hb4
  have T4 := Lib.hid t4
  clear hW1 hg h hb4 T0 t4
  go_enter Try.func17, Try.ntmps17
  go_upto_region 1 with fail
  rw [← HW1.out, Hg.out]
  go_upto_region 2 with (go_at_call 48; refine NR.out.mono ?_; rintro e w3 ⟨rfl, hrd, hb, hlt⟩; have HB3 := Lib.hid hb; have HRD := Lib.hid hrd; have HLT := Lib.hid hlt; clear hb hrd hlt)
  obtain ⟨rb, hrb⟩ : ∃ b, W1.heap.size = b := ⟨_, rfl⟩
  have B3 := Lib.hid (b1.out.trans (HB3.out.mono b1.out.size))
  have VG3 := Lib.hid (V1.out.grow HB3.out)
  rw [hrb] at HRD HLT ⊢
  have HRG := Lib.hid (show rb = g + 1 by rw [← hrb]; exact z1.out)
  have hBr : B ≤ rb := by rw [HRG.out]; omega
  have RD3 := Lib.hid (show RdD rb B w3 (0, bs) from HRD.out)
  clear hrb z1
  go_upto_region 3 with (go_at_call 49; refine (byte_sd RD3.out HB4.out).mono ?_; rintro e v4 ⟨rfl, hr, hg⟩; have R4 := Lib.hid hr; have GW4 := Lib.hid hg; clear hr hg)
  obtain ⟨W5, hW5⟩ : ∃ W, W = v4.alloc (.cells #[.int .u8 kd, .int .i64 0, .int .i64 0, .slice none 0 0, .int .i64 0, .int .i64 0, .slice none 0 0, .int .i64 0, .int .i64 0, .int .i64 0, .slice none 0 0, .int .i64 0] 28) := ⟨_, rfl⟩
  obtain ⟨g5, hg5⟩ : ∃ g, v4.heap.size = g := ⟨_, rfl⟩
  have hg35 : w3.heap.size ≤ g5 := by rw [← hg5]; exact GW4.out.size
  have hgr : g < rb ∧ rb < w3.heap.size := ⟨by rw [HRG.out]; omega, HLT.out⟩
  have Q5 : Hid (QB (RdD rb B) rb w3 W5 g5 12 s4 (mc { mx0 with kind := kd }) (g5 + 1) 91 3 (.slice none 0 0) 0 [] []) := Lib.hid (by
    have RK := rdk_D (m := w3.heap.size) HLT.out hBr
    have g2 : v4.grownBy W5 none := by rw [hW5]; exact grown_alloc v4 _ _
    exact ⟨RK.keep v4 W5 _ none R4.out g2 (fun j hj => by cases hj), grown_new GW4.out g2 (fun j hj => by cases hj), RK, by rw [hW5]; exact vbox_new v4 (mc { mx0 with kind := kd }) _ _ _ hg5 rfl (by omega), hg35, by omega, by rw [hW5]; simp [hg5], World.ownsRow_nil _ _ _ _, fun x hx => (by cases hx), by decide⟩)
  rw [← hW5, hg5]
  clear hW5 hg5 HRD RD3 R4 GW4 NR V1
  obtain ⟨k0, _⟩ := Q5.out.cell 0 rfl
  go_upto_region 4 with fail
  clear k0
  have ek : kd = 5 := by rw [HB4.out] at hk; exact hk
  subst ek
  clear hk
  obtain ⟨a1, s1, e1⟩ : ∃ a s', rInt s4 = (a, s') := ⟨_, _, rfl⟩
  have HR : Hid (ownR 5 s4 = ({ mz0 with kind := 5, since := a1 }, s1)) := Lib.hid (by unfold ownR; simp [e1])
  have E1 := Lib.hid e1
  clear e1
  go_upto_region 24 with (go_at_call 50; refine (int_sd Q5.out.rd E1.out).mono ?_; rintro e v1 ⟨rfl, hr, hg⟩; have P1 := Lib.hid (Q5.out.read hr hg); obtain ⟨x1, y1⟩ := P1.out.cell 11 rfl; have N1 := Lib.hid (P1.out.set (i := 11) (by omega) (.int .i64 a1)); clear hr hg)
  have M1 : Hid (QB (RdD rb B) rb w3 _ g5 12 s1 (mc { mx0 with kind := 5, since := a1 }) (g5 + 1) 91 3 (.slice none 0 0) 0 [] []) := Lib.hid N1.out
  clear x1 y1 N1
  obtain ⟨w8, hw8⟩ : ∃ W, W = v1.setCell ⟨g5, 11, none⟩ (.int .i64 a1) := ⟨_, rfl⟩
  rw [← hw8]
  rw [← hw8] at M1
  have P := M1
  clear hw8 M1
  obtain ⟨zv, hz⟩ : ∃ z, endZ s1.1 s1.2 = z := ⟨_, rfl⟩
  obtain ⟨q, hq⟩ : ∃ q, mayM ({ mx0 with kind := 5, since := a1 } : MX).z = q := ⟨_, rfl⟩
  have EM := Lib.hid (end_sd P.out.rd zv hz)
  have NM := Lib.hid (show NewM w8 (g5 + 1) { mx0 with kind := 5, since := a1 } from ⟨World.ownsRow_nil _ _ _ _, World.ownsRow_nil _ _ _ _, fun x hx => (by cases hx), World.ownsRow_nil _ _ _ _⟩)
  have ZO := Lib.hid (show MsgOk ({ mx0 with kind := 5, since := a1 } : MX).z by have := own_ok (k := 5) T4.out (by omega); rw [HR.out] at this; exact this)
  have MY := Lib.hid (fun (W : World) (hW : Below w8.heap.size w8 W) => rmay_any q ((mxok_new NM.out ZO.out).grow hW (Nat.le_refl _)) (Nat.le_refl _) hq)
  have VG8 := Lib.hid (VG3.out.same (P.out.gb.block g VG3.out.lt (fun e => by injection e with e; omega)))
  have B8 := Lib.hid (B3.out.trans (below_of_grown P.out.gb B3.out.size (fun j hj => by injection hj with hj; have := Hg.out; omega)))
  have HPM : Hid (parseM bs = if zv = 0 ∧ q = true then (({ mx0 with kind := 5, since := a1 } : MX).z, 0) else (mz0, 200)) := Lib.hid (by unfold parseM msgR; rw [HB4.out]; show (if endZ (ownR 5 s4).2.1 (ownR 5 s4).2.2 = 0 ∧ mayM (ownR 5 s4).1 = true then ((ownR 5 s4).1, (0 : Int)) else (mz0, 200)) = _; rw [HR.out]; show (if endZ s1.1 s1.2 = 0 ∧ mayM ({ mx0 with kind := 5, since := a1 } : MX).z = true then (({ mx0 with kind := 5, since := a1 } : MX).z, (0 : Int)) else (mz0, 200)) = _; rw [hz, hq])
  clear hz hq
  by_cases hz0 : zv = 0
  · subst hz0
    cases q with
    | false =>
      have HP : Hid (parseM bs = (mz0, 200)) := Lib.hid (by rw [HPM.out]; simp)
      clear HPM
      go_wp2_with (first
        | (go_at_call 55; refine EM.out.mono ?_; rintro e w9 ⟨rfl, m9, rfl⟩; have D9 := Lib.hid (below_drewN (Below.refl w8.heap.size w8) m9); have V9 := Lib.hid (P.out.box.grow D9.out))
        | (with_reducible show wpList _ _ _ (⟨some 75, .load 28 (.tmp 5), _, _, _, _⟩ :: _) _ _; refine wpList_load_guardL (op := ⟨some 75, .load 28 (.tmp 5), _, _, _, some (3, false)⟩) (by first | rfl | go_simp) 28 (.tmp 5) rfl (g5) (0) rfl (mc { mx0 with kind := 5, since := a1 }) _ (V9.out.range) Try.underlying28 rfl (m_size _) ?_)
        | (go_at_call 11; refine (MY.out _ D9.out).mono ?_; rintro e w10 ⟨rfl, hb⟩; have D10 := Lib.hid (D9.out.trans (hb.mono D9.out.size)); have V10 := Lib.hid (P.out.box.grow D10.out); have G10 := Lib.hid (VG8.out.grow D10.out); have VT := Lib.hid (vthere G10.out (us := mc mx0) rfl); clear hb)
        | (with_reducible show wpList _ _ _ (⟨some 79, .build 28 #[], _, _, _, _⟩ :: _) _ _; refine wpList_exec (op := ⟨some 79, .build 28 #[], _, _, _, _⟩) rfl (.agg (mc mx0).toArray) (by exact exec_bm0 rfl (build_m0 _)) ?_)
        | (with_reducible show wpList _ _ _ (⟨none, .store 28 (.tmp 2) (.tmp 79), _, _, _, _⟩ :: _) _ _; refine wpList_store_as (op := ⟨none, .store 28 (.tmp 2) (.tmp 79), _, _, _, _⟩) rfl 28 (.tmp 2) (.tmp 79) rfl (g) 0 (mc mx0).toArray rfl rfl (VT.out) (m_sizeA _) (m_oneA _) ?_; intro w11 hw11))
      obtain ⟨V11, b11⟩ := vstored G10.out rfl hw11 (by rw [Hg.out]; exact Nat.le_refl _) (B8.out.trans (D10.out.mono B8.out.size))
      exact bodyPost_ret (v := .tuple #[.agg (mc mx0).toArray, .int .i64 200]) (results_mid_tmp (p := 2) (u := 3) (ty := 28) rfl _ _ g 0 (mc mx0) _ rfl V11.range Try.underlying28 rfl (m_size _)) rfl (by rw [HP.out]; exact parses0 b11)
    | true =>
      have HP : Hid (parseM bs = (({ mx0 with kind := 5, since := a1 } : MX).z, 0)) := Lib.hid (by rw [HPM.out]; simp)
      clear HPM
      go_wp2_with (first
        | (go_at_call 55; refine EM.out.mono ?_; rintro e w9 ⟨rfl, m9, rfl⟩; have D9 := Lib.hid (below_drewN (Below.refl w8.heap.size w8) m9); have V9 := Lib.hid (P.out.box.grow D9.out))
        | (with_reducible show wpList _ _ _ (⟨some 75, .load 28 (.tmp 5), _, _, _, _⟩ :: _) _ _; refine wpList_load_guardL (op := ⟨some 75, .load 28 (.tmp 5), _, _, _, some (3, false)⟩) (by first | rfl | go_simp) 28 (.tmp 5) rfl (g5) (0) rfl (mc { mx0 with kind := 5, since := a1 }) _ (V9.out.range) Try.underlying28 rfl (m_size _) ?_)
        | (go_at_call 11; refine (MY.out _ D9.out).mono ?_; rintro e w10 ⟨rfl, hb⟩; have D10 := Lib.hid (D9.out.trans (hb.mono D9.out.size)); have V10 := Lib.hid (P.out.box.grow D10.out); have G10 := Lib.hid (VG8.out.grow D10.out); have VT := Lib.hid (vthere G10.out (us := mc { mx0 with kind := 5, since := a1 }) rfl); clear hb)
        | (with_reducible show wpList _ _ _ (⟨some 80, .load 28 (.tmp 5), _, _, _, _⟩ :: _) _ _; refine wpList_load_mid (op := ⟨some 80, .load 28 (.tmp 5), _, _, _, _⟩) rfl 28 (.tmp 5) rfl (g5) (0) rfl (mc { mx0 with kind := 5, since := a1 }) _ (V10.out.range) Try.underlying28 rfl (m_size _) ?_)
        | (with_reducible show wpList _ _ _ (⟨none, .store 28 (.tmp 2) (.tmp 80), _, _, _, _⟩ :: _) _ _; refine wpList_store_as (op := ⟨none, .store 28 (.tmp 2) (.tmp 80), _, _, _, _⟩) rfl 28 (.tmp 2) (.tmp 80) rfl (g) 0 (mc { mx0 with kind := 5, since := a1 }).toArray rfl rfl (VT.out) (m_sizeA _) (m_oneA _) ?_; intro w11 hw11))
      have e11 := hw11.out
      obtain ⟨V11, b11⟩ := vstored G10.out rfl hw11 (by rw [Hg.out]; exact Nat.le_refl _) (B8.out.trans (D10.out.mono B8.out.size))
      have hms := P.out.ms
      have N10 : NewM w10 (g5 + 1) { mx0 with kind := 5, since := a1 } := ⟨own_below NM.out.body D10.out (Nat.le_refl _), own_below NM.out.es D10.out (Nat.le_refl _), fun y hy => own_below (NM.out.bo y hy) D10.out (Nat.le_refl _), own_below NM.out.ms D10.out (Nat.le_refl _)⟩
      have N11 : NewM w11 (g5 + 1) { mx0 with kind := 5, since := a1 } := N10.keepB (fun j h1 h2 => by rw [e11]; exact heap_setCells g j (by omega) _ _ _)
      exact bodyPost_ret (v := .tuple #[.agg (mc { mx0 with kind := 5, since := a1 }).toArray, .int .i64 0]) (results_mid_tmp (p := 2) (u := 3) (ty := 28) rfl _ _ g 0 (mc { mx0 with kind := 5, since := a1 }) _ rfl V11.range Try.underlying28 rfl (m_size _)) rfl (by rw [HP.out]; exact ⟨{ mx0 with kind := 5, since := a1 }, rfl, rfl, mxok_new N11 ZO.out, N11.baseB (by have := Hg.out; omega), b11⟩)
  · have hzb : (zv != 0) = true := by simp [hz0]
    have HP : Hid (parseM bs = (mz0, 200)) := Lib.hid (by rw [HPM.out]; simp [hz0])
    clear HPM
    go_wp2_with (first
        | (go_at_call 55; refine EM.out.mono ?_; rintro e w9 ⟨rfl, m9, rfl⟩; have D9 := Lib.hid (below_drewN (Below.refl w8.heap.size w8) m9); have V9 := Lib.hid (P.out.box.grow D9.out); have G9 := Lib.hid (VG8.out.grow D9.out); have VT := Lib.hid (vthere G9.out (us := mc mx0) rfl))
        | (with_reducible show wpList _ _ _ (⟨some 79, .build 28 #[], _, _, _, _⟩ :: _) _ _; refine wpList_exec (op := ⟨some 79, .build 28 #[], _, _, _, _⟩) rfl (.agg (mc mx0).toArray) (by exact exec_bm0 rfl (build_m0 _)) ?_)
        | (with_reducible show wpList _ _ _ (⟨none, .store 28 (.tmp 2) (.tmp 79), _, _, _, _⟩ :: _) _ _; refine wpList_store_as (op := ⟨none, .store 28 (.tmp 2) (.tmp 79), _, _, _, _⟩) rfl 28 (.tmp 2) (.tmp 79) rfl (g) 0 (mc mx0).toArray rfl rfl (VT.out) (m_sizeA _) (m_oneA _) ?_; intro w11 hw11))
    obtain ⟨V11, b11⟩ := vstored G9.out rfl hw11 (by rw [Hg.out]; exact Nat.le_refl _) (B8.out.trans (D9.out.mono B8.out.size))
    exact bodyPost_ret (v := .tuple #[.agg (mc mx0).toArray, .int .i64 200]) (results_mid_tmp (p := 2) (u := 3) (ty := 28) rfl _ _ g 0 (mc mx0) _ rfl V11.range Try.underlying28 rfl (m_size _)) rfl (by rw [HP.out]; exact parses0 b11)
set_option maxHeartbeats 8000000 in
theorem rparse0_any {w : World} {B n c : Nat} {A : Option Addr} {bs : List Int} (h : Bs w B A n bs) (hB : B ≤ w.heap.size) (hc : n ≤ c) (hn : n ≤ 65536) (e1 : ¬ (rByte (0, bs)).1 = 1) (e6 : ¬ (rByte (0, bs)).1 = 6) (e2 : ¬ (rByte (0, bs)).1 = 2) (e3 : ¬ (rByte (0, bs)).1 = 3) (e4 : ¬ (rByte (0, bs)).1 = 4) (e5 : ¬ (rByte (0, bs)).1 = 5) : Calls Try.prog 17 #[.slice A n c] w (ParsesM w (parseM bs).1 (parseM bs).2) := by
  obtain ⟨W1, hW1⟩ : ∃ W, W = w.alloc (.cells #[.int .u8 0, .int .i64 0, .int .i64 0, .slice none 0 0, .int .i64 0, .int .i64 0, .slice none 0 0, .int .i64 0, .int .i64 0, .int .i64 0, .slice none 0 0, .int .i64 0] 28) := ⟨_, rfl⟩
  obtain ⟨g, hg⟩ : ∃ g, w.heap.size = g := ⟨_, rfl⟩
  have b1 := Lib.hid (show Below w.heap.size w W1 by rw [hW1]; exact below_one _ _)
  have V1 := Lib.hid (show VBox W1 g 12 (mc mx0) by rw [hW1]; exact vbox_new _ (mc mx0) _ _ _ hg rfl (by omega))
  have z1 := Lib.hid (show W1.heap.size = g + 1 by rw [hW1]; simp [hg])
  have Hg := Lib.hid hg
  have HBg : B ≤ g := by omega
  have NR := Lib.hid (new_rr (w := W1) c (h.belowM b1.out hB) (Nat.le_trans hB b1.out.size) hc hn)
  have HW1 := Lib.hid hW1
  obtain ⟨kd, s4, hb4⟩ : ∃ a s', rByte (0, bs) = (a, s') := ⟨_, _, rfl⟩
  have HB4 := Lib.hid hb4
  have T0 : StM (0, bs) := ⟨h.isBytes, by show bs.length ≤ 65536; rw [h.len]; exact hn⟩
  obtain ⟨hkr, t4⟩ := byte_rm T0 hb4
  have T4 := Lib.hid t4
  clear hW1 hg h hb4 T0 t4
  go_enter Try.func17, Try.ntmps17
  go_upto_region 1 with fail
  rw [← HW1.out, Hg.out]
  go_upto_region 2 with (go_at_call 48; refine NR.out.mono ?_; rintro e w3 ⟨rfl, hrd, hb, hlt⟩; have HB3 := Lib.hid hb; have HRD := Lib.hid hrd; have HLT := Lib.hid hlt; clear hb hrd hlt)
  obtain ⟨rb, hrb⟩ : ∃ b, W1.heap.size = b := ⟨_, rfl⟩
  have B3 := Lib.hid (b1.out.trans (HB3.out.mono b1.out.size))
  have VG3 := Lib.hid (V1.out.grow HB3.out)
  rw [hrb] at HRD HLT ⊢
  have HRG := Lib.hid (show rb = g + 1 by rw [← hrb]; exact z1.out)
  have hBr : B ≤ rb := by rw [HRG.out]; omega
  have RD3 := Lib.hid (show RdD rb B w3 (0, bs) from HRD.out)
  clear hrb z1
  go_upto_region 3 with (go_at_call 49; refine (byte_sd RD3.out HB4.out).mono ?_; rintro e v4 ⟨rfl, hr, hg⟩; have R4 := Lib.hid hr; have GW4 := Lib.hid hg; clear hr hg)
  obtain ⟨W5, hW5⟩ : ∃ W, W = v4.alloc (.cells #[.int .u8 kd, .int .i64 0, .int .i64 0, .slice none 0 0, .int .i64 0, .int .i64 0, .slice none 0 0, .int .i64 0, .int .i64 0, .int .i64 0, .slice none 0 0, .int .i64 0] 28) := ⟨_, rfl⟩
  obtain ⟨g5, hg5⟩ : ∃ g, v4.heap.size = g := ⟨_, rfl⟩
  have hg35 : w3.heap.size ≤ g5 := by rw [← hg5]; exact GW4.out.size
  have hgr : g < rb ∧ rb < w3.heap.size := ⟨by rw [HRG.out]; omega, HLT.out⟩
  have Q5 : Hid (QB (RdD rb B) rb w3 W5 g5 12 s4 (mc { mx0 with kind := kd }) (g5 + 1) 91 3 (.slice none 0 0) 0 [] []) := Lib.hid (by
    have RK := rdk_D (m := w3.heap.size) HLT.out hBr
    have g2 : v4.grownBy W5 none := by rw [hW5]; exact grown_alloc v4 _ _
    exact ⟨RK.keep v4 W5 _ none R4.out g2 (fun j hj => by cases hj), grown_new GW4.out g2 (fun j hj => by cases hj), RK, by rw [hW5]; exact vbox_new v4 (mc { mx0 with kind := kd }) _ _ _ hg5 rfl (by omega), hg35, by omega, by rw [hW5]; simp [hg5], World.ownsRow_nil _ _ _ _, fun x hx => (by cases hx), by decide⟩)
  rw [← hW5, hg5]
  clear hW5 hg5 HRD RD3 R4 GW4 NR V1
  obtain ⟨k0, _⟩ := Q5.out.cell 0 rfl
  go_upto_region 4 with fail
  clear k0
  rw [HB4.out] at e1 e6 e2 e3 e4 e5
  have e1 : ¬ kd = 1 := e1
  have e6 : ¬ kd = 6 := e6
  have e2 : ¬ kd = 2 := e2
  have e3 : ¬ kd = 3 := e3
  have e4 : ¬ kd = 4 := e4
  have e5 : ¬ kd = 5 := e5
  have HR : Hid (ownR kd s4 = ({ mz0 with kind := kd }, s4)) := Lib.hid (by unfold ownR; simp [e1, e6, e2, e3, e4, e5])
  go_upto_region 24 with fail
  obtain ⟨w8, hw8⟩ : ∃ W, W = W5 := ⟨_, rfl⟩
  rw [← hw8]
  rw [← hw8] at Q5
  have P := Q5
  clear hw8 Q5
  obtain ⟨zv, hz⟩ : ∃ z, endZ s4.1 s4.2 = z := ⟨_, rfl⟩
  obtain ⟨q, hq⟩ : ∃ q, mayM ({ mx0 with kind := kd } : MX).z = q := ⟨_, rfl⟩
  have EM := Lib.hid (end_sd P.out.rd zv hz)
  have NM := Lib.hid (show NewM w8 (g5 + 1) { mx0 with kind := kd } from ⟨World.ownsRow_nil _ _ _ _, World.ownsRow_nil _ _ _ _, fun x hx => (by cases hx), World.ownsRow_nil _ _ _ _⟩)
  have ZO := Lib.hid (show MsgOk ({ mx0 with kind := kd } : MX).z by have := own_ok (k := kd) T4.out (by omega); rw [HR.out] at this; exact this)
  have MY := Lib.hid (fun (W : World) (hW : Below w8.heap.size w8 W) => rmay_any q ((mxok_new NM.out ZO.out).grow hW (Nat.le_refl _)) (Nat.le_refl _) hq)
  have VG8 := Lib.hid (VG3.out.same (P.out.gb.block g VG3.out.lt (fun e => by injection e with e; omega)))
  have B8 := Lib.hid (B3.out.trans (below_of_grown P.out.gb B3.out.size (fun j hj => by injection hj with hj; have := Hg.out; omega)))
  have HPM : Hid (parseM bs = if zv = 0 ∧ q = true then (({ mx0 with kind := kd } : MX).z, 0) else (mz0, 200)) := Lib.hid (by unfold parseM msgR; rw [HB4.out]; show (if endZ (ownR kd s4).2.1 (ownR kd s4).2.2 = 0 ∧ mayM (ownR kd s4).1 = true then ((ownR kd s4).1, (0 : Int)) else (mz0, 200)) = _; rw [HR.out]; show (if endZ s4.1 s4.2 = 0 ∧ mayM ({ mx0 with kind := kd } : MX).z = true then (({ mx0 with kind := kd } : MX).z, (0 : Int)) else (mz0, 200)) = _; rw [hz, hq])
  clear hz hq
  by_cases hz0 : zv = 0
  · subst hz0
    cases q with
    | false =>
      have HP : Hid (parseM bs = (mz0, 200)) := Lib.hid (by rw [HPM.out]; simp)
      clear HPM
      go_wp2_with (first
        | (go_at_call 55; refine EM.out.mono ?_; rintro e w9 ⟨rfl, m9, rfl⟩; have D9 := Lib.hid (below_drewN (Below.refl w8.heap.size w8) m9); have V9 := Lib.hid (P.out.box.grow D9.out))
        | (with_reducible show wpList _ _ _ (⟨some 75, .load 28 (.tmp 5), _, _, _, _⟩ :: _) _ _; refine wpList_load_guardL (op := ⟨some 75, .load 28 (.tmp 5), _, _, _, some (3, false)⟩) (by first | rfl | go_simp) 28 (.tmp 5) rfl (g5) (0) rfl (mc { mx0 with kind := kd }) _ (V9.out.range) Try.underlying28 rfl (m_size _) ?_)
        | (go_at_call 11; refine (MY.out _ D9.out).mono ?_; rintro e w10 ⟨rfl, hb⟩; have D10 := Lib.hid (D9.out.trans (hb.mono D9.out.size)); have V10 := Lib.hid (P.out.box.grow D10.out); have G10 := Lib.hid (VG8.out.grow D10.out); have VT := Lib.hid (vthere G10.out (us := mc mx0) rfl); clear hb)
        | (with_reducible show wpList _ _ _ (⟨some 79, .build 28 #[], _, _, _, _⟩ :: _) _ _; refine wpList_exec (op := ⟨some 79, .build 28 #[], _, _, _, _⟩) rfl (.agg (mc mx0).toArray) (by exact exec_bm0 rfl (build_m0 _)) ?_)
        | (with_reducible show wpList _ _ _ (⟨none, .store 28 (.tmp 2) (.tmp 79), _, _, _, _⟩ :: _) _ _; refine wpList_store_as (op := ⟨none, .store 28 (.tmp 2) (.tmp 79), _, _, _, _⟩) rfl 28 (.tmp 2) (.tmp 79) rfl (g) 0 (mc mx0).toArray rfl rfl (VT.out) (m_sizeA _) (m_oneA _) ?_; intro w11 hw11))
      obtain ⟨V11, b11⟩ := vstored G10.out rfl hw11 (by rw [Hg.out]; exact Nat.le_refl _) (B8.out.trans (D10.out.mono B8.out.size))
      exact bodyPost_ret (v := .tuple #[.agg (mc mx0).toArray, .int .i64 200]) (results_mid_tmp (p := 2) (u := 3) (ty := 28) rfl _ _ g 0 (mc mx0) _ rfl V11.range Try.underlying28 rfl (m_size _)) rfl (by rw [HP.out]; exact parses0 b11)
    | true =>
      have HP : Hid (parseM bs = (({ mx0 with kind := kd } : MX).z, 0)) := Lib.hid (by rw [HPM.out]; simp)
      clear HPM
      go_wp2_with (first
        | (go_at_call 55; refine EM.out.mono ?_; rintro e w9 ⟨rfl, m9, rfl⟩; have D9 := Lib.hid (below_drewN (Below.refl w8.heap.size w8) m9); have V9 := Lib.hid (P.out.box.grow D9.out))
        | (with_reducible show wpList _ _ _ (⟨some 75, .load 28 (.tmp 5), _, _, _, _⟩ :: _) _ _; refine wpList_load_guardL (op := ⟨some 75, .load 28 (.tmp 5), _, _, _, some (3, false)⟩) (by first | rfl | go_simp) 28 (.tmp 5) rfl (g5) (0) rfl (mc { mx0 with kind := kd }) _ (V9.out.range) Try.underlying28 rfl (m_size _) ?_)
        | (go_at_call 11; refine (MY.out _ D9.out).mono ?_; rintro e w10 ⟨rfl, hb⟩; have D10 := Lib.hid (D9.out.trans (hb.mono D9.out.size)); have V10 := Lib.hid (P.out.box.grow D10.out); have G10 := Lib.hid (VG8.out.grow D10.out); have VT := Lib.hid (vthere G10.out (us := mc { mx0 with kind := kd }) rfl); clear hb)
        | (with_reducible show wpList _ _ _ (⟨some 80, .load 28 (.tmp 5), _, _, _, _⟩ :: _) _ _; refine wpList_load_mid (op := ⟨some 80, .load 28 (.tmp 5), _, _, _, _⟩) rfl 28 (.tmp 5) rfl (g5) (0) rfl (mc { mx0 with kind := kd }) _ (V10.out.range) Try.underlying28 rfl (m_size _) ?_)
        | (with_reducible show wpList _ _ _ (⟨none, .store 28 (.tmp 2) (.tmp 80), _, _, _, _⟩ :: _) _ _; refine wpList_store_as (op := ⟨none, .store 28 (.tmp 2) (.tmp 80), _, _, _, _⟩) rfl 28 (.tmp 2) (.tmp 80) rfl (g) 0 (mc { mx0 with kind := kd }).toArray rfl rfl (VT.out) (m_sizeA _) (m_oneA _) ?_; intro w11 hw11))
      have e11 := hw11.out
      obtain ⟨V11, b11⟩ := vstored G10.out rfl hw11 (by rw [Hg.out]; exact Nat.le_refl _) (B8.out.trans (D10.out.mono B8.out.size))
      have hms := P.out.ms
      have N10 : NewM w10 (g5 + 1) { mx0 with kind := kd } := ⟨own_below NM.out.body D10.out (Nat.le_refl _), own_below NM.out.es D10.out (Nat.le_refl _), fun y hy => own_below (NM.out.bo y hy) D10.out (Nat.le_refl _), own_below NM.out.ms D10.out (Nat.le_refl _)⟩
      have N11 : NewM w11 (g5 + 1) { mx0 with kind := kd } := N10.keepB (fun j h1 h2 => by rw [e11]; exact heap_setCells g j (by omega) _ _ _)
      exact bodyPost_ret (v := .tuple #[.agg (mc { mx0 with kind := kd }).toArray, .int .i64 0]) (results_mid_tmp (p := 2) (u := 3) (ty := 28) rfl _ _ g 0 (mc { mx0 with kind := kd }) _ rfl V11.range Try.underlying28 rfl (m_size _)) rfl (by rw [HP.out]; exact ⟨{ mx0 with kind := kd }, rfl, rfl, mxok_new N11 ZO.out, N11.baseB (by have := Hg.out; omega), b11⟩)
  · have hzb : (zv != 0) = true := by simp [hz0]
    have HP : Hid (parseM bs = (mz0, 200)) := Lib.hid (by rw [HPM.out]; simp [hz0])
    clear HPM
    go_wp2_with (first
        | (go_at_call 55; refine EM.out.mono ?_; rintro e w9 ⟨rfl, m9, rfl⟩; have D9 := Lib.hid (below_drewN (Below.refl w8.heap.size w8) m9); have V9 := Lib.hid (P.out.box.grow D9.out); have G9 := Lib.hid (VG8.out.grow D9.out); have VT := Lib.hid (vthere G9.out (us := mc mx0) rfl))
        | (with_reducible show wpList _ _ _ (⟨some 79, .build 28 #[], _, _, _, _⟩ :: _) _ _; refine wpList_exec (op := ⟨some 79, .build 28 #[], _, _, _, _⟩) rfl (.agg (mc mx0).toArray) (by exact exec_bm0 rfl (build_m0 _)) ?_)
        | (with_reducible show wpList _ _ _ (⟨none, .store 28 (.tmp 2) (.tmp 79), _, _, _, _⟩ :: _) _ _; refine wpList_store_as (op := ⟨none, .store 28 (.tmp 2) (.tmp 79), _, _, _, _⟩) rfl 28 (.tmp 2) (.tmp 79) rfl (g) 0 (mc mx0).toArray rfl rfl (VT.out) (m_sizeA _) (m_oneA _) ?_; intro w11 hw11))
    obtain ⟨V11, b11⟩ := vstored G9.out rfl hw11 (by rw [Hg.out]; exact Nat.le_refl _) (B8.out.trans (D9.out.mono B8.out.size))
    exact bodyPost_ret (v := .tuple #[.agg (mc mx0).toArray, .int .i64 200]) (results_mid_tmp (p := 2) (u := 3) (ty := 28) rfl _ _ g 0 (mc mx0) _ rfl V11.range Try.underlying28 rfl (m_size _)) rfl (by rw [HP.out]; exact parses0 b11)
theorem rparse_any {w : World} {B n c : Nat} {A : Option Addr} {bs : List Int} (h : Bs w B A n bs) (hB : B ≤ w.heap.size) (hc : n ≤ c) (hn : n ≤ 65536) : Calls Try.prog 17 #[.slice A n c] w (ParsesM w (parseM bs).1 (parseM bs).2) := by
  by_cases e1 : (rByte (0, bs)).1 = 1
  · exact rparse1_any h hB hc hn e1
  by_cases e6 : (rByte (0, bs)).1 = 6
  · exact rparse6_any h hB hc hn e6
  by_cases e2 : (rByte (0, bs)).1 = 2
  · exact rparse2_any h hB hc hn e2
  by_cases e3 : (rByte (0, bs)).1 = 3
  · exact rparse3_any h hB hc hn e3
  by_cases e4 : (rByte (0, bs)).1 = 4
  · exact rparse4_any h hB hc hn e4
  by_cases e5 : (rByte (0, bs)).1 = 5
  · exact rparse5_any h hB hc hn e5
  exact rparse0_any h hB hc hn e1 e6 e2 e3 e4 e5
end Go.Proofs.Ytfihiandifnkpaa
