/- Entries, configurations that are read: the document's. Printed by gen_msd1.py. -/
import Derived.Test.YtfihiandifnkpaaMsO
namespace Go.Proofs.Ytfihiandifnkpaa
open Go.ChangeShapes Go.WideShapes Go.ChangeAt Go.RowKit
set_option linter.unusedVariables false
set_option maxRecDepth 100000
set_option linter.unusedSimpArgs false
open Plain Sha Ms
section
variable {R : World → St → Prop} {b : Nat} {w0 w w' : World} {r kr r2 k2 : Nat} {s s' : St} {cs cs2 : List Value} {m : Nat} {T : TypeId} {sz : Nat} {v v' : Value} {n n' : Nat} {vs vs' : List Value} {l : List EX}
/-- A variable of the call's own, made later, turns. -/
theorem QS.other (h : QS R b w0 w r kr r2 k2 s cs cs2 m T sz v n vs []) {q : Nat} (hg : w.grownBy w' (some q)) (hq : m ≤ q) (ho : v.ownBlock ≠ some q) : QS R b w0 w' r kr r2 k2 s cs cs2 m T sz v n vs [] := by
  have h3 := h.ms
  have h4 := h.rm
  have h5 := h.rm2
  have h1 := h.lo
  refine ⟨h.keep.keep w w' s _ h.rd hg (fun j hj => by injection hj with hj; omega), grown_new h.gb hg (fun j hj => by injection hj with hj; omega), h.keep, h.box.same (hg.block r (by omega) (fun e => by injection e with e; omega)), h.box2.same (hg.block r2 (by omega) (fun e => by injection e with e; omega)), h1, h.lo2, h.ne, h4, h5, Nat.le_trans h3 hg.size, own_keepO h.ow (fun j hj => hg.block j (h.ow.lt j hj).2 (fun e => ho (by rw [hj]; exact e))), fun x hx => (by cases hx), h.ty⟩
/-- Another row. -/
theorem QS.row (h : QS R b w0 w r kr r2 k2 s cs cs2 m T sz v n vs l) {T' : TypeId} {sz' n' : Nat} {v' : Value} {vs' : List Value} (ho : w.ownsRow m T' sz' v' n' vs') (ht : T' ≠ 5) : QS R b w0 w r kr r2 k2 s cs cs2 m T' sz' v' n' vs' l :=
  ⟨h.rd, h.gb, h.keep, h.box, h.box2, h.lo, h.lo2, h.ne, h.rm, h.rm2, h.ms, ho, h.bo, ht⟩
end
set_option maxHeartbeats 8000000 in
theorem rtakerest_any {w : World} {b B : Nat} {s : St} (h : RdD b B w s ∧ b < w.heap.size ∧ B ≤ b) (pos : Int) (hp : InM pos) (t : StM s) : Calls Try.prog 53 #[.pointer (some ⟨b, 0, none⟩), .int .i64 pos] w (ReadsE (RdD b B) b w (restR pos s).1 (restR pos s).2) := by
  have HE := Lib.hid (rest_rm t hp)
  obtain ⟨a1, s1, e1⟩ : ∃ a s', rInt s = (a, s') := ⟨_, _, rfl⟩
  obtain ⟨a2, s2, e2⟩ : ∃ a s', rInt s1 = (a, s') := ⟨_, _, rfl⟩
  obtain ⟨a3, s3, e3⟩ : ∃ a s', rInt s2 = (a, s') := ⟨_, _, rfl⟩
  obtain ⟨a4, s4, e4⟩ : ∃ a s', rBytes s3 = (a, s') := ⟨_, _, rfl⟩
  have HR : Hid (restR pos s = (⟨pos, a1, a2, a3, a4⟩, s4)) := Lib.hid (by unfold restR; simp only [e1, e2, e3, e4])
  rw [HR.out]
  rw [HR.out] at HE
  have E1 := Lib.hid e1
  have E2 := Lib.hid e2
  have E3 := Lib.hid e3
  have E4 := Lib.hid e4
  clear e1 e2 e3 e4
  obtain ⟨W2, hW2⟩ : ∃ W, W = (w.alloc (.cells #[.int .i64 0, .int .i64 0, .int .i64 0, .int .i64 0, .slice none 0 0] 42)).alloc (.cells #[.int .i64 pos, .int .i64 0, .int .i64 0, .int .i64 0, .slice none 0 0] 42) := ⟨_, rfl⟩
  obtain ⟨g, hg⟩ : ∃ g, w.heap.size = g := ⟨_, rfl⟩
  have Hg := Lib.hid hg
  have Q2 : Hid (QS (RdD b B) b w W2 (g + 1) 5 g 5 s [.int .i64 pos, .int .i64 0, .int .i64 0, .int .i64 0, .slice none 0 0] (ec ex0) (g + 1 + 1) 91 3 (.slice none 0 0) 0 [] []) := Lib.hid (by
    have RK := rdk_D h.2.1 h.2.2
    have gr : w.grownBy W2 none := by rw [hW2]; exact grown_trans (grown_alloc w _ _) (grown_alloc _ _ _)
    exact ⟨RK.keep w W2 _ none h.1 gr (fun j hj => by cases hj), by rw [hW2]; exact grown_trans (grown_alloc w _ _) (grown_alloc _ _ _), RK, by rw [hW2]; exact vbox_new _ [.int .i64 pos, .int .i64 0, .int .i64 0, .int .i64 0, .slice none 0 0] _ _ _ (by simp [hg]) rfl (by omega), by rw [hW2]; exact (vbox_new w (ec ex0) _ _ 5 hg rfl (by omega)).grow (below_one _ _), by omega, by omega, by omega, by omega, by omega, by rw [hW2]; simp [hg], World.ownsRow_nil _ _ _ _, fun x hx => (by cases hx), by decide⟩)
  have HW2 := Lib.hid hW2
  clear hW2 hg h
  go_enter Try.func53, Try.ntmps53
  go_upto_region 2 with fail
  rw [← HW2.out, Hg.out]
  go_upto_region 3 with (go_at_call 50; refine (int_sd Q2.out.rd E1.out).mono ?_; rintro e v1 ⟨rfl, hr, hg⟩; have P1 := Lib.hid (Q2.out.read hr hg); obtain ⟨x1, y1⟩ := P1.out.cell 1 rfl; have N1 := Lib.hid (P1.out.set (i := 1) (by omega) (.int .i64 a1)); clear hr hg)
  have M1 : Hid (QS (RdD b B) b w _ (g + 1) 5 g 5 s1 [.int .i64 pos, .int .i64 a1, .int .i64 0, .int .i64 0, .slice none 0 0] (ec ex0) (g + 1 + 1) 91 3 (.slice none 0 0) 0 [] []) := Lib.hid N1.out
  clear x1 y1 N1
  go_upto_region 4 with (go_at_call 50; refine (int_sd M1.out.rd E2.out).mono ?_; rintro e v2 ⟨rfl, hr, hg⟩; have P2 := Lib.hid (M1.out.read hr hg); obtain ⟨x2, y2⟩ := P2.out.cell 2 rfl; have N2 := Lib.hid (P2.out.set (i := 2) (by omega) (.int .i64 a2)); clear hr hg)
  have M2 : Hid (QS (RdD b B) b w _ (g + 1) 5 g 5 s2 [.int .i64 pos, .int .i64 a1, .int .i64 a2, .int .i64 0, .slice none 0 0] (ec ex0) (g + 1 + 1) 91 3 (.slice none 0 0) 0 [] []) := Lib.hid N2.out
  clear x2 y2 N2
  go_upto_region 5 with (go_at_call 50; refine (int_sd M2.out.rd E3.out).mono ?_; rintro e v3 ⟨rfl, hr, hg⟩; have P3 := Lib.hid (M2.out.read hr hg); obtain ⟨x3, y3⟩ := P3.out.cell 3 rfl; have N3 := Lib.hid (P3.out.set (i := 3) (by omega) (.int .i64 a3)); clear hr hg)
  have M3 : Hid (QS (RdD b B) b w _ (g + 1) 5 g 5 s3 [.int .i64 pos, .int .i64 a1, .int .i64 a2, .int .i64 a3, .slice none 0 0] (ec ex0) (g + 1 + 1) 91 3 (.slice none 0 0) 0 [] []) := Lib.hid N3.out
  clear x3 y3 N3
  go_upto_region 6 with (go_at_call 51; refine (bytes_sd M3.out.rd E4.out).mono ?_; rintro e v4 ⟨TT, rfl, hr, hg, hl⟩; obtain ⟨AT, cT, rfl, hoT, hn1, hn2⟩ := hl; have P4 := Lib.hid ((M3.out.read hr hg).body (x := ⟨pos, a1, a2, a3, AT, a4.length, cT, a4⟩) (own_base hoT M3.out.ms)); obtain ⟨x4, y4⟩ := P4.out.cell 4 rfl; have N4 := Lib.hid (P4.out.set (i := 4) (by omega) (.slice AT a4.length cT)); clear hr hg)
  obtain ⟨w8, hw8⟩ : ∃ W, W = v4.setCell ⟨g + 1, 4, none⟩ (.slice AT a4.length cT) := ⟨_, rfl⟩
  rw [← hw8]
  have M4 : Hid (QS (RdD b B) b w w8 (g + 1) 5 g 5 s4 (ec ⟨pos, a1, a2, a3, AT, a4.length, cT, a4⟩) (ec ex0) (g + 1 + 1) 91 3 (.slice none 0 0) 0 [] [⟨pos, a1, a2, a3, AT, a4.length, cT, a4⟩]) := Lib.hid (by rw [hw8]; exact N4.out)
  clear x4 y4 hw8 hoT
  have VT := Lib.hid (vthere M4.out.box2 (us := ec ⟨pos, a1, a2, a3, AT, a4.length, cT, a4⟩) rfl)
  go_wp2_with (first
        | (with_reducible show wpList _ _ _ (⟨some 20, .load 42 (.tmp 5), _, _, _, _⟩ :: _) _ _; refine wpList_load_mid (op := ⟨some 20, .load 42 (.tmp 5), _, _, _, _⟩) rfl 42 (.tmp 5) rfl (g + 1) (0) rfl (ec ⟨pos, a1, a2, a3, AT, a4.length, cT, a4⟩) _ (M4.out.box.range) Try.underlying42 rfl (e_size _) ?_)
        | (with_reducible show wpList _ _ _ (⟨none, .store 42 (.tmp 4) (.tmp 20), _, _, _, _⟩ :: _) _ _; refine wpList_store_as (op := ⟨none, .store 42 (.tmp 4) (.tmp 20), _, _, _, _⟩) rfl 42 (.tmp 4) (.tmp 20) rfl (g) 0 (ec ⟨pos, a1, a2, a3, AT, a4.length, cT, a4⟩).toArray rfl rfl (VT.out) (e_sizeA _) (e_oneA _) ?_; intro w9 hw9))
  have e9 := hw9.out
  have V9 := M4.out.box2.store (us := ec ⟨pos, a1, a2, a3, AT, a4.length, cT, a4⟩) rfl hw9
  have g9 : w8.grownBy w9 (some g) := by rw [e9]; exact grown_cells g _ _ _
  have O9 : w9.ownsRow w.heap.size 5 1 (.slice AT a4.length cT) a4.length (vals a4) := own_base (own_keepB (M4.out.bo _ (List.mem_singleton.2 rfl)) (fun k h1 h2 => g9.block k h2 (fun e => by injection e with e; omega))) (by have := Hg.out; omega)
  obtain ⟨z1, z2⟩ := HE.out
  exact bodyPost_ret (v := .agg (ec ⟨pos, a1, a2, a3, AT, a4.length, cT, a4⟩).toArray) (results_mid (p := 4) (ty := 42) rfl _ _ g 0 _ _ rfl V9.range Try.underlying42 rfl (e_size _)) rfl
    ⟨⟨pos, a1, a2, a3, AT, a4.length, cT, a4⟩, rfl, rfl, M4.out.keep.keep w8 w9 _ (some g) M4.out.rd g9 (fun j hj => by injection hj with hj; have := Hg.out; omega), grown_new M4.out.gb g9 (fun j hj => by injection hj with hj; have := Hg.out; omega), O9, ⟨hp, z1.stamp, z1.client, z1.id, hn1, hn2, bs_of_own O9 z1.body⟩, z1.len⟩
set_option maxHeartbeats 8000000 in
theorem rtakeconf_any {w : World} {b B : Nat} {s : St} (h : RdD b B w s ∧ b < w.heap.size ∧ B ≤ b) (t : StM s) : Calls Try.prog 54 #[.pointer (some ⟨b, 0, none⟩)] w (ReadsC (RdD b B) b w (confR s).1.1 (confR s).1.2 (confR s).2) := by
  obtain ⟨a1, s1, e1⟩ : ∃ a s', rInt s = (a, s') := ⟨_, _, rfl⟩
  obtain ⟨a2, s2, e2⟩ : ∃ a s', rCount 5 s1 = (a, s') := ⟨_, _, rfl⟩
  obtain ⟨g1, t1⟩ := int_rm t e1
  have t2 := count_rm t1 e2
  obtain ⟨c20, c21⟩ := count_le (by decide) e2
  obtain ⟨cnt, hcnt⟩ : ∃ c : Nat, a2 = (c : Int) := ⟨a2.toNat, by omega⟩
  subst hcnt
  have c22 : cnt ≤ 5 := by omega
  obtain ⟨M, s3, e3⟩ : ∃ l s', memsR cnt s2 = (l, s') := ⟨_, _, rfl⟩
  have HR : Hid (confR s = ((a1, M), s3)) := Lib.hid (by unfold confR; simp only [e1, e2, Int.toNat_natCast, e3])
  rw [HR.out]
  have HMR := Lib.hid (mems_rm cnt t2)
  rw [e3] at HMR
  have E1 := Lib.hid e1
  have E2 := Lib.hid e2
  have E3 := Lib.hid e3
  have G1 := Lib.hid g1
  clear e1 e2 e3 c20 c21
  have RK := Lib.hid (rdk_D h.2.1 h.2.2)
  obtain ⟨W1, hW1⟩ : ∃ W, W = w.alloc (.cells #[.int .i64 0, .slice none 0 0] 26) := ⟨_, rfl⟩
  obtain ⟨g, hg⟩ : ∃ g, w.heap.size = g := ⟨_, rfl⟩
  have Hg := Lib.hid hg
  have V1 := Lib.hid (show VBox W1 g 2 (gc 0 none 0 0) by rw [hW1]; exact vbox_new _ (gc 0 none 0 0) _ _ _ hg rfl (by omega))
  have G0 := Lib.hid (show w.grownBy W1 (some b) by rw [hW1]; exact grown_alloc w _ _)
  have R0 := Lib.hid (show RdD b B W1 s from RK.out.keep w W1 s none h.1 (by rw [hW1]; exact grown_alloc w _ _) (fun j hj => by cases hj))
  have HW1 := Lib.hid hW1
  clear hW1 hg h
  go_enter Try.func54, Try.ntmps54
  go_upto_region 1 with fail
  rw [← HW1.out, Hg.out]
  go_upto_region 2 with (go_at_call 50; refine (int_sd R0.out E1.out).mono ?_; rintro e v1 ⟨rfl, hr, hg⟩; have R1 := Lib.hid hr; have GW1 := Lib.hid hg; clear hr hg)
  obtain ⟨W2, hW2⟩ : ∃ W, W = v1.alloc (.cells #[.int .i64 a1, .slice none 0 0] 26) := ⟨_, rfl⟩
  obtain ⟨g3, hg3⟩ : ∃ g, v1.heap.size = g := ⟨_, rfl⟩
  have hg13 : g < g3 := by rw [← hg3]; exact Nat.lt_of_lt_of_le V1.out.lt GW1.out.size
  have Q2 : Hid (QS (RdD b B) b w W2 g3 2 g 2 s1 (gc a1 none 0 0) (gc 0 none 0 0) (g3 + 1) 91 3 (.slice none 0 0) 0 [] []) := Lib.hid (by
    have g2 : v1.grownBy W2 none := by rw [hW2]; exact grown_alloc v1 _ _
    have v3 : VBox W2 g3 2 (gc a1 none 0 0) := by rw [hW2]; exact vbox_new v1 (gc a1 none 0 0) _ _ _ hg3 rfl (by omega)
    have v2 : VBox W2 g 2 (gc 0 none 0 0) := V1.out.same ((g2.block g (by omega) (by simp)).trans (GW1.out.block g V1.out.lt (fun e => by injection e with e; have := RK.out.lt; have := Hg.out; omega)))
    exact ⟨RK.out.keep v1 W2 _ none R1.out g2 (fun j hj => by cases hj), grown_new (grown_trans G0.out GW1.out) g2 (fun j hj => by cases hj), RK.out, v3, v2, by have := Hg.out; omega, by have := Hg.out; omega, by omega, by omega, by omega, by rw [hW2]; simp [hg3], World.ownsRow_nil _ _ _ _, fun x hx => (by cases hx), by decide⟩)
  rw [← hW2, hg3]
  clear hW2 hg3 V1 G0 R0 R1 GW1
  go_wp2_with (go_at_call 52; refine (count_sd 5 Q2.out.rd E2.out).mono ?_; rintro e v2 ⟨rfl, hr, hg⟩; have Q3 := Lib.hid (Q2.out.read hr hg); clear hr hg)
  go_loopw [5] (fun i wr => ∃ (k : Nat) (A : Option Addr) (c : Nat), k ≤ cnt ∧ i = .int .i64 k ∧ Hid (QS (RdD b B) b w wr g3 2 g 2 (memsR k s2).2 (gc a1 A k c) (gc 0 none 0 0) (g3 + 1) 91 3 (.slice A k c) k ((memsR k s2).1.flatMap bc) [])) (fun i _ => cnt - (intOf i).toNat)
  case atStart => exact ⟨0, none, 0, by omega, rfl, Q3⟩
  case round =>
    obtain ⟨k, A, c, hk, rfl, PR⟩ := hrel
    by_cases hlt : k < cnt
    · have hki : (k : Int) < (cnt : Int) := by omega
      obtain ⟨L, hL⟩ : ∃ L, (memsR k s2).1 = L := ⟨_, rfl⟩
      obtain ⟨z, hz⟩ : ∃ z, (memsR k s2).2 = z := ⟨_, rfl⟩
      obtain ⟨b1, u1, f1⟩ : ∃ a s', rInt z = (a, s') := ⟨_, _, rfl⟩
      obtain ⟨b2, u2, f2⟩ : ∃ a s', rInt u1 = (a, s') := ⟨_, _, rfl⟩
      obtain ⟨b3, u3, f3⟩ : ∃ a s', rFlag u2 = (a, s') := ⟨_, _, rfl⟩
      have HS : Hid (memsR (k + 1) s2 = (L ++ [⟨b1, b2, b3⟩], u3)) := Lib.hid (by
        show ((memsR k s2).1 ++ [(memR (memsR k s2).2).1], (memR (memsR k s2).2).2) = _
        rw [hL, hz]
        have : memR z = (⟨b1, b2, b3⟩, u3) := by unfold memR; simp only [f1, f2, f3]
        rw [this])
      rw [hL, hz] at PR
      have F1 := Lib.hid f1
      have F2 := Lib.hid f2
      have F3 := Lib.hid f3
      clear hL hz f1 f2 f3
      go_upto_region 7 with fail
      obtain ⟨W6, hW6⟩ : ∃ W, W = wr.alloc (.cells #[.int .i64 0, .int .i64 0, .bool false] 91) := ⟨_, rfl⟩
      obtain ⟨gx, hgx⟩ : ∃ g, wr.heap.size = g := ⟨_, rfl⟩
      have P6 := Lib.hid (PR.out.grow (show wr.grownBy W6 none by rw [hW6]; exact grown_alloc wr _ _))
      have X6 := Lib.hid (show VBox W6 gx 3 (bc mm0) by rw [hW6]; exact vbox_new wr (bc mm0) _ _ _ hgx rfl (by omega))
      have hmx : g3 + 1 ≤ gx := by rw [← hgx]; exact PR.out.ms
      have HNO : Hid ((Value.slice A k c).ownBlock ≠ some gx) := Lib.hid (fun e => absurd (PR.out.ow.lt gx e).2 (by omega))
      have hbg : b < gx := by have := RK.out.lt; have := PR.out.gb.size; omega
      rw [← hW6, hgx]
      clear hW6 hgx
      go_upto_region 8 with (go_at_call 50; refine (int_sd P6.out.rd F1.out).mono ?_; rintro e y0 ⟨rfl, hr, hg⟩; have R0 := Lib.hid (P6.out.read hr hg); have Y0 := Lib.hid (X6.out.same (hg.block gx X6.out.lt (fun e => by injection e with e; omega))); clear hr hg; have k0 := Y0.out.at1 (i := 0) rfl; have l0 := Y0.out.fr1 (i := 0) (by omega))
      clear k0 l0
      have T0 := Lib.hid (R0.out.other (grown_cell y0 ⟨gx, 0, none⟩ (.int .i64 b1)) hmx HNO.out)
      have Z0 := Lib.hid (show VBox _ gx 3 [.int .i64 b1, .int .i64 0, .bool false] from Y0.out.set1 (i := 0) (by omega) (.int .i64 b1))
      go_upto_region 9 with (go_at_call 50; refine (int_sd T0.out.rd F2.out).mono ?_; rintro e y1 ⟨rfl, hr, hg⟩; have R1 := Lib.hid (T0.out.read hr hg); have Y1 := Lib.hid (Z0.out.same (hg.block gx Z0.out.lt (fun e => by injection e with e; omega))); clear hr hg; have k1 := Y1.out.at1 (i := 1) rfl; have l1 := Y1.out.fr1 (i := 1) (by omega))
      clear k1 l1
      have T1 := Lib.hid (R1.out.other (grown_cell y1 ⟨gx, 1, none⟩ (.int .i64 b2)) hmx HNO.out)
      have Z1 := Lib.hid (show VBox _ gx 3 [.int .i64 b1, .int .i64 b2, .bool false] from Y1.out.set1 (i := 1) (by omega) (.int .i64 b2))
      go_upto_region 10 with (go_at_call 78; refine (flag_sd T1.out.rd F3.out).mono ?_; rintro e y2 ⟨rfl, hr, hg⟩; have R2 := Lib.hid (T1.out.read hr hg); have Y2 := Lib.hid (Z1.out.same (hg.block gx Z1.out.lt (fun e => by injection e with e; omega))); clear hr hg; have k2 := Y2.out.at1 (i := 2) rfl; have l2 := Y2.out.fr1 (i := 2) (by omega))
      clear k2 l2
      have T2 := Lib.hid (R2.out.other (grown_cell y2 ⟨gx, 2, none⟩ (.bool b3)) hmx HNO.out)
      have Z2 := Lib.hid (show VBox _ gx 3 [.int .i64 b1, .int .i64 b2, .bool b3] from Y2.out.set1 (i := 2) (by omega) (.bool b3))
      obtain ⟨w7, hw7⟩ : ∃ W, W = y2.setCell ⟨gx, 2, none⟩ (.bool b3) := ⟨_, rfl⟩
      rw [← hw7] at T2 Z2 ⊢
      clear hw7
      obtain ⟨m0, m1, m2⟩ := (show VBox w7 gx 3 (bc ⟨b1, b2, b3⟩) from Z2.out).mb
      obtain ⟨x1, y1⟩ := T2.out.cell 1 rfl
      have PA := Lib.hid (T2.out.grow (grown_alloc w7 (.cells #[.int .i64 b1, .int .i64 b2, .bool b3] 91) none))
      obtain ⟨x1a, y1a⟩ := PA.out.cell 1 rfl
      have LN := Lib.hid ((rws_new (f := bc) w7 ⟨b1, b2, b3⟩ 91).lies bc_len (by omega))
      go_wp2_with (at_builtin; refine wpList_app _ rfl (.tmp 27) (.tmp 29) 24 rfl (g3 + 1) 91 3 24 Try.underlying24 b_info (by omega) (.slice A k c) k (L.flatMap bc) rfl PA.out.ow (some ⟨w7.heap.size, 0, none⟩) 1 1 ([(⟨b1, b2, b3⟩ : MemZ)].flatMap bc) rfl LN.out.1 LN.out.2 (flat_one bc_one _) (by unfold maxLen; omega) (by omega) PA.out.ms ?_; intro v1 w9 ho1 hg1; obtain ⟨A9, c9, rfl, _, _⟩ := own_shapeM ho1; rw [← List.flatMap_append] at ho1; have P9 := Lib.hid (PA.out.app ho1 hg1); obtain ⟨x1', y1'⟩ := P9.out.cell 1 rfl; have P10 := Lib.hid (P9.out.set (i := 1) (by omega) (.slice A9 ((k + 1 : Nat)) c9)); clear ho1 hg1)
      go_roundw
      case rel => exact ⟨k + 1, A9, c9, by omega, by go_num, Lib.hid (by rw [HS.out]; exact P10.out)⟩
      case measure => simp [intOf]; omega
    · have hki : ¬ (k : Int) < (cnt : Int) := by omega
      obtain rfl : k = cnt := by omega
      rw [E3.out] at PR
      have hlM : M.length = k := HMR.out.2.1
      have VT := Lib.hid (vthere PR.out.box2 (us := gc a1 A k c) rfl)
      go_wp2_with (first
        | (with_reducible show wpList _ _ _ (⟨some 32, .load 26 (.tmp 3), _, _, _, _⟩ :: _) _ _; refine wpList_load_mid (op := ⟨some 32, .load 26 (.tmp 3), _, _, _, _⟩) rfl 26 (.tmp 3) rfl (g3) (0) rfl (gc a1 A k c) _ (PR.out.box.range) Try.underlying26 rfl (g_size _ _ _ _) ?_)
        | (with_reducible show wpList _ _ _ (⟨none, .store 26 (.tmp 2) (.tmp 32), _, _, _, _⟩ :: _) _ _; refine wpList_store_as (op := ⟨none, .store 26 (.tmp 2) (.tmp 32), _, _, _, _⟩) rfl 26 (.tmp 2) (.tmp 32) rfl (g) 0 (gc a1 A k c).toArray rfl rfl (VT.out) (g_sizeA _ _ _ _) (g_oneA _ _ _ _) ?_; intro w9 hw9))
      have e9 := hw9.out
      have V9 := PR.out.box2.store (us := gc a1 A k c) rfl hw9
      have g9 : wr.grownBy w9 (some g) := by rw [e9]; exact grown_cells g _ _ _
      have R9 := RK.out.keep wr w9 _ (some g) PR.out.rd g9 (fun j hj => by injection hj with hj; have := Hg.out; omega)
      have G9 := grown_new PR.out.gb g9 (fun j hj => by injection hj with hj; have := Hg.out; omega)
      have O9 : w9.ownsRow w.heap.size 91 3 (.slice A k c) k (M.flatMap bc) := own_base (own_keepB PR.out.ow (fun j h1 h2 => g9.block j h2 (fun e => by injection e with e; omega))) (by have := Hg.out; omega)
      have hcap : k ≤ c ∧ c ≤ maxLen := by
        obtain ⟨A', c', e, h1, h2⟩ := own_shapeM PR.out.ow
        injection e with _ _ e
        subst e
        exact ⟨h1, h2⟩
      exact bodyPost_ret (v := .agg (gc a1 A k c).toArray) (results_mid (p := 2) (ty := 26) rfl _ _ g 0 _ _ rfl V9.range Try.underlying26 rfl (g_size _ _ _ _)) rfl ⟨A, c, by rw [hlM], R9, G9, by rw [hlM]; exact O9, HMR.out.1, G1.out, by rw [hlM]; exact hcap.1, hcap.2⟩
end Go.Proofs.Ytfihiandifnkpaa
