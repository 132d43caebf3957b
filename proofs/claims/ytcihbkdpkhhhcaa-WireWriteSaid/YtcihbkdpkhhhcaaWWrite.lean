/- The statement WireWrite: the walk. -/
import Derived.Test.YtcihbkdpkhhhcaaWForm
namespace Go.Proofs.Ytcihbkdpkhhhcaa
open Go.ChangeShapes Go.WideShapes Go.ChangeAt Go.RowKit
set_option linter.unusedVariables false
open Plain
theorem range_set {w : World} {b k : Nat} {cs : List Value} (v : Value) (h : w.rangeAt b 0 cs) (hk : k < cs.length) : (w.setCell ⟨b, k, none⟩ v).rangeAt b 0 (cs.set k v) := by
  intro j u hu
  rw [Nat.zero_add]
  rw [List.getElem?_set] at hu
  split at hu
  · next e =>
    subst e
    injection hu with hu
    subst hu
    have h2 := h k _ (List.getElem?_eq_getElem hk)
    rw [Nat.zero_add] at h2
    exact World.cell?_setCell_same _ _ _ h2
  · next e =>
    rw [World.cell?_setCell_other _ _ _ _ (fun e2 => by injection e2 with _ e3; exact e e3)]
    have := h j u hu
    rwa [Nat.zero_add] at this
theorem own_keepW {w w' : World} {base n size : Nat} {t : TypeId} {v : Value} {xs : List Value} (h : w.ownsRow base t size v n xs) (hk : ∀ g, base ≤ g → g < w.heap.size → w'.heap[g]? = w.heap[g]?) : w'.ownsRow base t size v n xs := by
  have hlt := h.lt
  obtain ⟨h1, h2 | ⟨g, cap, cur, rfl, hg, hh, h3⟩⟩ := h
  · exact ⟨h1, .inl h2⟩
  · have := hlt g rfl
    exact ⟨h1, .inr ⟨g, cap, cur, rfl, hg, (hk g this.1 this.2).trans hh, h3⟩⟩
theorem heap_setCell (w : World) (b k j : Nat) (v : Value) (h : j ≠ b) : (w.setCell ⟨b, k, none⟩ v).heap[j]? = w.heap[j]? := heap_setCells b j h [v] k w
set_option maxRecDepth 100000 in
set_option maxHeartbeats 4000000 in
theorem wireWrite_in (A : Option Addr) (n c : Nat) (F : Nat → FieldZ) (w : World) (hf : Fields w w.heap.size A n F) (hn : n ≤ maxLen) :
    Calls Try.prog 3 #[.slice A n c] w fun e w' => e = .returned (.bool true) ∧ Below w.heap.size w w' := by
  by_cases hg : 4000 < gsum F n
  · have HG := Lib.hid (great_any c hf hn)
    rw [show decide (4000 < gsum F n) = true from decide_eq_true hg] at HG
    clear hg hf
    go_enter Try.func3, Try.ntmps3
    go_wp2_with (go_at_call 7; refine HG.out.mono ?_; rintro e w2 ⟨rfl, rfl⟩)
    go_ret
    exact ⟨rfl, Below.refl _ _⟩
  have HG := Lib.hid (great_any c hf hn)
  rw [show decide (4000 < gsum F n) = false from decide_eq_false hg] at HG
  have HS : Hid (formN F n ≤ 4000) := Lib.hid (by
    have := form_small n (fun j hj => ⟨(hf.ok j hj).tag, (hf.ok j hj).bs.len⟩)
    omega)
  have HGs : Hid (gsum F n ≤ 4000) := Lib.hid (by omega)
  have HLn : Hid (∀ j, j < n → (F j).len ≤ 4000) := Lib.hid (fun j hj => by have := len_le_gsum F hj; omega)
  have hn4 : n ≤ 4000 := by
    have : ∀ k, 40 * k ≤ gsum F k := fun k => by
      induction k with
      | zero => exact Nat.zero_le _
      | succ k ih => show 40 * (k + 1) ≤ gsum F k + (F k).len + 40; omega
    have := this n
    omega
  have HBy : Hid (IsBytes (formB F n)) := Lib.hid (catTo_bytes _ n (fun j hj => fieldB_bytes (hf.ok j hj)))
  have HLe : Hid (∀ k, k ≤ n → formN F k ≤ formN F n) := Lib.hid (fun k hk => formN_le F hk)
  have HF := Lib.hid hf
  clear hg hf hn
  go_enter Try.func3, Try.ntmps3
  go_wp2_with (go_at_call 7; refine HG.out.mono ?_; rintro e w2 ⟨rfl, rfl⟩)
  refine (newwriter_any w).mono ?_
  rintro e w2 ⟨rfl, r2, b2, _⟩
  have Q2 := Lib.hid b2
  have R2 := Lib.hid r2
  obtain ⟨bw, hbw⟩ : ∃ bw, w.heap.size = bw := ⟨_, rfl⟩
  have HBW : Hid (w.heap.size = bw) := Lib.hid hbw
  rw [hbw] at R2
  simp only [hbw]
  clear r2 b2 HG hbw
  go_wp2
  go_loopw [4] (fun i wr => ∃ k : Nat, k ≤ n ∧ i = .int .i64 (k : Int) ∧ ∃ g, Hid (Wr wr bw g (some (formB F k))) ∧ Hid (Below w.heap.size w wr)) (fun i _ => n - (intOf i).toNat)
  case atStart => exact ⟨0, by omega, rfl, none, R2, Lib.hid (by rw [HBW.out]; have := Q2.out; rwa [HBW.out] at this)⟩
  case round =>
    obtain ⟨k, hk, rfl, g, RR, QQ⟩ := hrel
    by_cases hlt : k < n
    · have FF := HF.out.below QQ.out
      obtain ⟨fb, off, rfl, hfb, hr, _, _⟩ := FF.at_ hlt
      have FO := Lib.hid (FF.ok k hlt)
      have FR := Lib.hid hr
      have FI := Lib.hid (field_info FO.out.tag)
      have hltI : (k : Int) < (n : Int) := by omega
      have hln := HLn.out k hlt
      have HPut := Lib.hid (wPut_form (F := F) (k := k) (by have := HLe.out (k + 1) (by omega); have := HS.out; omega))
      obtain ⟨f, hfk⟩ : ∃ f, F k = f := ⟨_, rfl⟩
      rw [hfk] at FO FR FI hln HPut
      have HI := Lib.hid (show (Try.prog.info? 30).map (·.size) = some (fCells f).toArray.size by rw [List.size_toArray]; exact FI.out)
      have TH := Lib.hid (field_there wr FO.out.tag)
      have A1 := Lib.hid (all_oneCell_toArray (fCells_one f))
      have sr := QQ.out.size
      clear FF hr hfk
      have G := FI
      have G2 := FI
      go_upto_region 8 with (first
        | (have g := G; refine wpList_load_mid (op := ⟨some 24, .load 30 (.tmp 23), _, _, _, _⟩) rfl 30 (.tmp 23) rfl fb (off + k * 35) rfl (fCells f) _ FR.out Try.underlying30 rfl FI.out ?_; clear g G)
        | (have g := G2; refine wpList_store_as (op := ⟨none, .store 30 (.tmp 5) (.tmp 24), _, _, _, _⟩) rfl 30 (.tmp 5) (.tmp 24) rfl wr.heap.size 0 (fCells f).toArray rfl rfl TH.out HI.out A1.out ?_; intro w1 hw1; clear g G2))
      obtain ⟨r1, t1, b1, s1⟩ := stored_field FO.out.tag hw1
      have hbwr := RR.out.lt
      have hgwr := Lib.hid RR.out.own
      obtain ⟨gb, hgb⟩ : ∃ gb, wr.heap.size = gb := ⟨_, rfl⟩
      have HGB : Hid (wr.heap.size = gb) := Lib.hid hgb
      have B1 : Hid (Below gb wr w1) := Lib.hid (by rw [← hgb]; exact b1)
      rw [hgb] at r1 t1 s1 hbwr sr
      simp only [hgb]
      obtain ⟨kind, nn, fA, len, cap, zs, T⟩ := f
      have hln : len ≤ 4000 := hln
      have c2 : w1.cell? ⟨gb, 2, none⟩ = some (.slice fA len cap) := r1 2 _ rfl
      have R1 := Lib.hid r1
      have T1 := Lib.hid t1
      have z1 : Hid (Bs w1 w.heap.size fA len zs) := Lib.hid (FO.out.bs.below (B1.out.mono sr))
      have FO' := FO
      have C1 := Lib.hid (refcopy_any cap z1.out (by omega) (by omega))
      have hlz : Hid (zs.length = len) := Lib.hid z1.out.len
      have hbz : Hid (IsBytes zs) := Lib.hid z1.out.isBytes
      clear hw1 r1 t1 b1 TH A1 HI hgb FR
      go_upto_region 9 with (go_at_call 9; refine C1.out.mono ?_; intro e w2' hm2; obtain ⟨D, d, rfl, o2, b2, hd, hd2⟩ := hm2.n hlz.out; have B2 : Hid (Below w1.heap.size w1 w2') := Lib.hid b2; have O2 := Lib.hid o2; have c2' : w2'.cell? ⟨gb, 2, none⟩ = some (.slice fA len cap) := (b2.cell (p := ⟨gb, 2, none⟩) s1).trans c2; have f2' : w2'.frozen? ⟨gb, 2, none⟩ = false := (World.frozen?_of_block (a := ⟨gb, 2, none⟩) (b2.block gb s1)).trans (by have := (T1.out 2 (by omega)).2; rwa [Nat.zero_add] at this); clear hm2 o2 b2)
      obtain ⟨w3, hw3⟩ : ∃ w3, w2'.setCell ⟨gb, 2, none⟩ (.slice D len d) = w3 := ⟨_, rfl⟩
      rw [hw3]
      have s12 := B2.out.size
      have s3 : w3.heap.size = w2'.heap.size := by rw [← hw3]; simp
      have B13 : Hid (Below gb wr w3) := Lib.hid (by rw [← hw3]; exact (B1.out.trans (B2.out.mono (by omega))).setCell (Nat.le_refl _) _)
      have O3 : Hid (w3.ownsRow w1.heap.size 5 1 (.slice D len d) len (vals zs)) := Lib.hid (by rw [← hw3]; exact ownsRow_setCell_below O2.out (by show gb < _; exact s1) _)
      have R3 : Hid (w3.rangeAt gb 0 (fCells ⟨kind, nn, D, len, d, zs, T⟩)) := Lib.hid (by
        rw [← hw3]
        exact range_set (k := 2) (.slice D len d) (rangeAt_same R1.out (B2.out.block gb s1)) (by rw [fCells_len FO.out.tag]; omega))
      have W3 : Hid (Wr w3 bw g (some (formB F k))) := Lib.hid (RR.out.keep (B13.out.block bw hbwr) (fun j hj => B13.out.block j (by rw [← HGB.out]; exact (hgwr.out j hj).2)))
      have hDlo : Hid (∀ a, D = some a → w1.heap.size ≤ a.block ∧ a.block < w3.heap.size) := Lib.hid (fun a ha => by subst ha; exact O3.out.lt a.block rfl)
      have FO3 : Hid (FieldOk w3 w3.heap.size ⟨kind, nn, D, len, d, zs, T⟩) := Lib.hid ⟨FO.out.kind, FO.out.n, bs_of_own O3.out hbz.out, hd, hd2, by show len ≤ _; omega, FO.out.tag, FO.out.bytes⟩
      have hgl : Hid (∀ j, g = some j → j < gb) := Lib.hid (fun j hj => by rw [← HGB.out]; exact (hgwr.out j hj).2)
      have WC := Lib.hid (write_any W3.out ⟨kind, nn, D, len, d, zs, T⟩ FO3.out (Nat.le_refl _) (fun _ a ha => ⟨fun e => by have := (hDlo.out a ha).1; omega, fun e => by have := (hDlo.out a ha).1; have := hgl.out _ e.symm; omega⟩))
      rw [show fieldB ⟨kind, nn, D, len, d, zs, T⟩ = fieldB ⟨kind, nn, fA, len, cap, zs, T⟩ from rfl, HPut.out] at WC
      have FI3 : Hid ((Try.prog.info? 30).map (·.size) = some (fCells ⟨kind, nn, D, len, d, zs, T⟩).length) := Lib.hid (field_info (f := ⟨kind, nn, D, len, d, zs, T⟩) FO.out.tag)
      have Q3 := Lib.hid (QQ.out.trans (B13.out.mono sr))
      have B13s := B13.out.size
      clear c2 c2' f2' R1 T1 z1 C1 O2 B1 B2 HPut RR QQ W3 FO' FI hw3 hd hd2
      have G3 := FI3
      go_wp2_with (first
        | (have g := G3; refine wpList_load_mid (op := ⟨some 30, .load 30 (.tmp 5), _, _, _, _⟩) rfl 30 (.tmp 5) rfl gb 0 rfl (fCells ⟨kind, nn, D, len, d, zs, T⟩) _ R3.out Try.underlying30 rfl FI3.out ?_; clear g G3)
        | (go_at_call 10; refine WC.out.mono ?_; rintro e w4 ⟨rfl, g', r4, o4, fr4⟩; have R4 := Lib.hid r4; have O4' := Lib.hid o4; have F4 := Lib.hid fr4; clear r4 o4 fr4))
      have Q4 : Hid (Below w.heap.size w w4) := Lib.hid (Q3.out.trans (O4'.out.below Q3.out.size (by have := HBW.out; omega) (fun i hi => by have := (hgwr.out i hi).1; have := HBW.out; omega)))
      have cx : Hid (w4.cell? ⟨gb, 2, none⟩ = some (.slice D len d)) := Lib.hid ((World.cell?_of_block (a := ⟨gb, 2, none⟩) (O4'.out.block gb (by omega) (by omega) (fun e => by have := hgl.out gb e.symm; omega))).trans (R3.out 2 _ rfl))
      have OW4 : Hid (Own w4 w1.heap.size D len d) := Lib.hid (Own.of (own_keepW O3.out (fun j h1 h2 => O4'.out.block j h2 (by omega) (fun e => by have := hgl.out j e.symm; omega))) hbz.out)
      have hgn : Hid (∀ j, g' = some j → ∀ a, D = some a → j ≠ a.block) := Lib.hid (fun j hj a ha => by
        have h1 := hDlo.out a ha
        rcases F4.out with h | h
        · have := hgl.out j (by rw [← h]; exact hj); omega
        · have := h j hj; omega)
      obtain ⟨base, hbase⟩ : ∃ base, w1.heap.size = base := ⟨_, rfl⟩
      rw [hbase] at OW4 hDlo s1
      have hDlo2 : Hid (∀ a, D = some a → base ≤ a.block) := Lib.hid (fun a ha => (hDlo.out a ha).1)
      have hbwg : bw < gb := hbwr
      clear O4' F4 Q3 O3 R3 FO3 WC hbase hDlo FI3 FO HF B13s s3 s12 B13
      have HK := Lib.hid hk
      go_loopw [6] (fun i wx => ∃ j : Nat, j ≤ len ∧ i = .int .i64 (j : Int) ∧ Hid (Wr wx bw g' (some (formB F (k + 1)))) ∧ Hid (Own wx base D len d) ∧ Hid (wx.cell? ⟨gb, 2, none⟩ = some (.slice D len d)) ∧ Hid (Below w.heap.size w wx)) (fun i _ => len - (intOf i).toNat)
      case atStart => exact ⟨0, by omega, rfl, R4, OW4, cx, Q4⟩
      case round =>
        clear R4 OW4 cx Q4
        obtain ⟨j, hj, rfl, R4, OW4, cx, Q4⟩ := hrel
        have cxv := cx.out
        by_cases hltj : j < len
        · obtain ⟨g2, u, rfl, hg1, hg2, hu0, hu1, hcc, hff, HSS⟩ := OW4.out.at_ hltj
          have hjI : (j : Int) < (len : Int) := by omega
          have hng := hDlo2.out ⟨g2, 0, none⟩ rfl
          have HX : Hid (∀ z : Int, 0 ≤ z → z < 256 → Wr (wr.setCell ⟨g2, j, none⟩ (.int .u8 z)) bw g' (some (formB F (k + 1))) ∧ Own (wr.setCell ⟨g2, j, none⟩ (.int .u8 z)) base (some ⟨g2, 0, none⟩) len d ∧ (wr.setCell ⟨g2, j, none⟩ (.int .u8 z)).cell? ⟨gb, 2, none⟩ = some (.slice (some ⟨g2, 0, none⟩) len d) ∧ Below w.heap.size w (wr.setCell ⟨g2, j, none⟩ (.int .u8 z))) := Lib.hid (fun z h0 h1 =>
            ⟨R4.out.keep (heap_setCell wr g2 j bw _ (by omega)) (fun q hq => heap_setCell wr g2 j q _ (hgn.out q hq _ rfl)), HSS.out z h0 h1,
              (World.cell?_setCell_other _ _ _ _ (fun e => by injection e with e1 _; omega)).trans cx.out, Q4.out.setCell (by have := HBW.out; show w.heap.size ≤ g2; omega) _⟩)
          clear HSS
          go_wp2
          go_roundw
          case rel => exact ⟨j + 1, by omega, by go_num, Lib.hid (HX.out _ (by omega) (by omega)).1, Lib.hid (HX.out _ (by omega) (by omega)).2.1, Lib.hid (HX.out _ (by omega) (by omega)).2.2.1, Lib.hid (HX.out _ (by omega) (by omega)).2.2.2⟩
          case measure => simp [intOf]; omega
        · obtain rfl : j = len := by omega
          go_wp2
          go_roundw
          case rel => exact ⟨k + 1, by omega, by go_num, g', R4, Q4⟩
          case measure => simp [intOf]; omega
    · obtain rfl : k = n := by omega
      have C5 := Lib.hid (form_any A k c F wr (HF.out.below QQ.out) QQ.out.size HGs.out)
      have LF : Hid ((formB F k).length = formN F k) := Lib.hid (formB_len F k)
      obtain ⟨L, hL⟩ : ∃ L, formN F k = L := ⟨_, rfl⟩
      have hL4 : L ≤ 4000 := by rw [← hL]; exact HS.out
      have LF2 : Hid ((formB F k).length = L) := Lib.hid (by rw [← hL]; exact LF.out)
      have HM : Hid (L ≤ maxLen) := Lib.hid (by unfold maxLen; omega)
      clear hL LF
      go_wp2_with fail
      refine C5.out.mono ?_
      intro e w5 hm5
      obtain ⟨A5, c5, rfl, o5, b5, _, _⟩ := hm5.n LF2.out
      have Q5 := Lib.hid (QQ.out.trans (b5.mono QQ.out.size))
      have z5 : Hid (Bs w5 w5.heap.size A5 L (formB F k)) := Lib.hid (bs_of_own o5 HBy.out)
      have W5 : Hid (Wr w5 bw g (some (formB F k))) := Lib.hid (RR.out.keep (b5.block bw RR.out.lt) (fun j hj => b5.block j (RR.out.own j hj).2))
      have hb5 := W5.out.lt
      clear hm5 o5 b5 C5 RR QQ
      go_wp2
      go_loopw [8] (fun t wr => ∃ y : Nat, y ≤ 2 ∧ t = .int .i64 (y : Int) ∧ Hid (Below w5.heap.size w5 wr)) (fun t _ => 2 - (intOf t).toNat)
      case atStart => exact ⟨0, by omega, rfl, Lib.hid (Below.refl _ _)⟩
      case round =>
        obtain ⟨y, hy, rfl, HB⟩ := hrel
        by_cases hlty : y < 2
        · have hyI : (y : Int) < 2 := by omega
          have sr := HB.out.size
          have W6 : Hid (Wr wr bw g (some (formB F k))) := Lib.hid (W5.out.keep (HB.out.block bw hb5) (fun j hj => HB.out.block j (W5.out.own j hj).2))
          have DC := Lib.hid (done_ok W6.out)
          go_wp2_with fail
          refine DC.out.mono ?_
          rintro e w7 ⟨x7, rfl, l7, b7⟩
          obtain ⟨A7, c7, e7, o7, _, _⟩ := l7
          rw [LF2.out] at e7 o7
          subst e7
          have B7 := Lib.hid (HB.out.trans (b7.mono sr))
          have z7 : Hid (Bs w7 w7.heap.size A7 L (formB F k)) := Lib.hid (bs_of_own o7 HBy.out)
          have S1 := Lib.hid (refsame_any c7 c5 z7.out (z5.out.belowM B7.out (Nat.le_refl _)) HM.out HM.out)
          rw [eqB_self] at S1
          have O7 : Hid (Own w7 wr.heap.size A7 L c7) := Lib.hid (Own.of o7 HBy.out)
          obtain ⟨base, hbase⟩ : ∃ base, wr.heap.size = base := ⟨_, rfl⟩
          rw [hbase] at O7 sr
          clear o7 b7 DC W6 z7 hbase
          go_wp2_with (go_at_call 13; refine S1.out.mono ?_; rintro e w8 ⟨rfl, m8, rfl⟩)
          have B8 : Hid (Below w5.heap.size w5 (w7.drewN m8)) := Lib.hid (below_drewN B7.out _)
          have O8 : Hid (Own (w7.drewN m8) base A7 L c7) := Lib.hid O7.out
          clear B7 O7 S1
          go_loopw [11] (fun i wx => ∃ j : Nat, j ≤ L ∧ i = .int .i64 (j : Int) ∧ Hid (Own wx base A7 L c7) ∧ Hid (Below w5.heap.size w5 wx)) (fun i _ => L - (intOf i).toNat)
          case atStart => exact ⟨0, by omega, rfl, O8, B8⟩
          case round =>
            clear O8 B8
            obtain ⟨j, hj, rfl, O1, hbx⟩ := hrel
            by_cases hltj : j < L
            · obtain ⟨g2, u, rfl, hg1, hg2, hu0, hu1, hc, hf, HSS⟩ := O1.out.at_ hltj
              have hjI : (j : Int) < (L : Int) := by omega
              go_wp2
              go_roundw
              case rel => exact ⟨j + 1, by omega, by go_num, Lib.hid (HSS.out _ (by omega) (by omega)), Lib.hid (hbx.out.setCell (by simp; omega) _)⟩
              case measure => simp [intOf]; omega
            · obtain rfl : j = L := by omega
              go_wp2
              go_roundw
              case rel => exact ⟨y + 1, by omega, by go_num, hbx⟩
              case measure => simp [intOf]; omega
        · obtain rfl : y = 2 := by omega
          have qr := Lib.hid (Q5.out.trans (HB.out.mono Q5.out.size))
          go_wp2
          go_ret
          exact ⟨rfl, qr.out⟩
end Go.Proofs.Ytcihbkdpkhhhcaa
