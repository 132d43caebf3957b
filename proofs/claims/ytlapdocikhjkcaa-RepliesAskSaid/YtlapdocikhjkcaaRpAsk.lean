/- The statement RepliesAsk: the walk. -/
import Derived.Test.YtlapdocikhjkcaaRpU
namespace Go.Proofs.Ytlapdocikhjkcaa
open Go.ChangeShapes Go.WideShapes Go.ChangeAt Go.RowKit
set_option linter.unusedVariables false
set_option linter.unusedSimpArgs false
open Plain Sha Au Rp
set_option maxRecDepth 100000 in
set_option maxHeartbeats 16000000 in
theorem rpask_in (A : Option Addr) (n c : Nat) (l : List LX) (t id : Int) (w : World) (h : Las w w.heap.size A n l) (hn : n ≤ 140737488355328) (hk : ∀ x, x ∈ l → x.r.kn ≤ 140737488355328) (ht : -9223372036854775808 ≤ t ∧ t ≤ 9223372036854775807) (hid : -9223372036854775808 ≤ id ∧ id ≤ 9223372036854775807) :
    Calls Try.prog 3 #[.slice A n c, .int .i64 t, .int .i64 id] w (fun e w' => e = .returned (.bool true) ∧ Below w.heap.size w w') := by
  obtain ⟨q, hq⟩ : ∃ q, greatB n l = q := ⟨_, rfl⟩
  have GM := Lib.hid (great_val c q h hn hk hq)
  cases q with
  | true =>
    clear h hn hk hq ht hid
    go_enter Try.func3, Try.ntmps3
    go_wp2_with (go_at_call 8; refine GM.out.mono ?_; rintro e1 w1 ⟨rfl, rfl⟩)
    go_ret
    exact ⟨rfl, Below.refl _ _⟩
  | false =>
  obtain ⟨hn20, hk4⟩ := great_no hq
  have TM := Lib.hid (to_any c h (Nat.le_refl _) (by omega) (fun x hx => Nat.le_trans (hk4 x hx) (by omega)))
  have HK4 := Lib.hid (fun (w' : World) (B' : Nat) (l' : List LX) (h' : ∀ x, x ∈ l' → XOk w' B' x) (e : l'.map LX.z = l.map LX.z) => kn_map h.ok h' e hk4)
  have HLL0 := Lib.hid (fun (V : World) (hV : Below w.heap.size w V) => h.below hV (Nat.le_refl _))
  have hnx : n ≤ 9223372036854775807 := by omega
  clear h hn hk hq hk4 ht hid
  go_enter Try.func3, Try.ntmps3
  go_upto_region 4 with (first
    | (go_at_call 8; refine GM.out.mono ?_; rintro e1 w1 ⟨rfl, hw1⟩; obtain rfl : w = w1 := hw1.symm)
    | (go_at_call 9; refine TM.out.mono ?_; rintro e2 w2 ⟨D, d, l', rfl, hz, _, hl2, hd1, hd2, b2⟩; have B2 := Lib.hid b2; have L2 := Lib.hid hl2; have HZ := Lib.hid hz; clear b2 hl2 hd1 hd2 hz))
  clear TM GM
  obtain ⟨⟨z, kb, er⟩, hask⟩ : ∃ p, askQ l t id = p := ⟨_, rfl⟩
  have AM := Lib.hid (ask_all (w := w2) d t id z kb er L2.out (Nat.le_refl _) hnx (fun x hx => Nat.le_trans (HK4.out w2 _ l' L2.out.ok HZ.out x hx) (by omega)) (by rw [askQ_same HZ.out]; exact hask))
  have RM := Lib.hid (fun (V : World) (hV : Below w2.heap.size w2 V) => rask_all (w := V) c t id z kb er (HLL0.out V (B2.out.trans (hV.mono B2.out.size))) (Nat.le_trans B2.out.size hV.size) hnx hask)
  clear hask
  have zk := zRk
  have zs := zR_size
  have zn := zR_ne
  have G1 := B2
  have G2 := B2
  go_upto_region 5 with (first
          | (have g0 := G1; clear g0; go_at_call 10; refine AM.out.mono ?_; rintro e3 w3 ⟨RP, rfl, hzp, ow, rpo, b3⟩; have B3 := Lib.hid b3; have HZP := Lib.hid hzp; have OW := Lib.hid ow; have RPO := Lib.hid rpo; have TT := Lib.hid (rthere_new w3 RP 33 _ rfl); clear b3 hzp ow rpo G1)
          | (have g := G2; clear g; refine wpList_store_as (op := ⟨none, .store 33 (.tmp 8) (.tmp 27), _, _, _, _⟩) rfl 33 (.tmp 8) (.tmp 27) rfl (w3.heap.size) 0 (rc RP).toArray rfl rfl (TT.out) (r_sizeA RP) (r_oneA RP) ?_; intro w4 hw4; clear G2))
  obtain ⟨V4, b4⟩ := rbox_stored rfl hw4
  have V4 := Lib.hid V4
  have B4 := Lib.hid (B3.out.trans (b4.mono B3.out.size))
  have b4 := Lib.hid b4
  clear hw4
  have G1 := B2
  have G2 := B2
  go_upto_region 6 with (first
          | (have g0 := G1; clear g0; go_at_call 11; refine (RM.out _ B4.out).mono ?_; rintro e5 w5 ⟨RS, rfl, hzs, rso, b5⟩; have b5 := Lib.hid b5; have HZS := Lib.hid hzs; have RSO := Lib.hid rso; have TT := Lib.hid (rthere_new w5 RS 33 _ rfl); clear hzs rso G1)
          | (have g := G2; clear g; refine wpList_store_as (op := ⟨none, .store 33 (.tmp 11) (.tmp 35), _, _, _, _⟩) rfl 33 (.tmp 11) (.tmp 35) rfl (w5.heap.size) 0 (rc RS).toArray rfl rfl (TT.out) (r_sizeA RS) (r_oneA RS) ?_; intro w6 hw6; clear G2))
  obtain ⟨V6, b6⟩ := rbox_stored rfl hw6
  have V46 := Lib.hid (V4.out.grow (b5.out.trans (b6.mono b5.out.size)))
  have V6 := Lib.hid V6
  have B6 := Lib.hid (B4.out.trans ((b5.out.trans (b6.mono b5.out.size)).mono B4.out.size))
  have S46 := Lib.hid ((b5.out.trans (b6.mono b5.out.size)))
  have RSO6 := Lib.hid (RSO.out.grow b6 (Nat.le_refl _))
  clear hw6 b6 zk zs zn
  have RPO6 := Lib.hid ((RPO.out.grow b4.out (Nat.le_refl _)).grow S46.out (Nat.le_refl _))
  have OWN6 := Lib.hid (own_below (own_below OW.out b4.out (Nat.le_refl _)) S46.out (Nat.le_refl _))
  have HW34 := Lib.hid b4.out.size
  have SM := Lib.hid (rsrep_any (w := w6) true RPO6.out RSO6.out (Nat.le_refl _) (Nat.le_refl _) (by rw [HZP.out, HZS.out]; exact repB_refl _))
  have G1 := B2
  have G2 := B2
  have G3 := B2
  go_upto_region 7 with (first
          | (have g := G1; clear g; refine wpList_load_guard (op := ⟨some 47, .load 33 (.tmp 8), _, _, _, some (8, true)⟩) (by rfl) 33 (.tmp 8) rfl (w3.heap.size) (0) rfl (rc RP) _ (V46.out.range) Try.underlying33 rfl (r_size RP) ?_; clear G1)
          | (have g := G2; clear g; refine wpList_load_guard (op := ⟨some 48, .load 33 (.tmp 11), _, _, _, some (8, true)⟩) (by rfl) 33 (.tmp 11) rfl (w5.heap.size) (0) rfl (rc RS) _ (V6.out.range) Try.underlying33 rfl (r_size RS) ?_; clear G2)
          | (have g0 := G3; clear g0; go_at_call 12; refine SM.out.mono ?_; rintro e8 w8 ⟨rfl, b8⟩; have b8 := Lib.hid b8; clear G3))
  have V48 := Lib.hid (V46.out.grow b8.out)
  have OWN8 := Lib.hid (own_below OWN6.out b8.out (Nat.le_refl _))
  have hkb3 : Hid (∀ b, RP.A = some ⟨b, 0, none⟩ → 0 < RP.kn → w2.heap.size ≤ b ∧ b < w3.heap.size) := Lib.hid (fun b hA h0 => by
    have := OW.out.lt b (by rw [hA]; rfl)
    exact this)
  have hth : Hid (∀ b, RP.A = some ⟨b, 0, none⟩ → w8.there b 0 RP.kn) := Lib.hid (fun b hA => by
    have := OWN8.out
    rw [hA] at this
    exact own_thereX this (by omega))
  have hform : Hid (0 < RP.kn → ∃ b, RP.A = some ⟨b, 0, none⟩) := Lib.hid (fun h0 => by
    obtain ⟨b, cap, hv, _, _⟩ := OW.out.form h0
    exact ⟨b, by injection hv⟩)
  have hknm : RP.kn ≤ 9223372036854775807 := by have h1 := RPO.out.kc; have h2 := RPO.out.km; unfold maxLen at h2; omega
  clear V46 V6 RSO6 RPO6 OWN6 OWN8 SM
  have c48 : w8.cell? ⟨w3.heap.size, 2, none⟩ = some (.slice RP.A RP.kn RP.kc) := by
    obtain ⟨_, _, c, _, _⟩ := rng_r V48.out.range
    simpa using c
  have HC48 := Lib.hid c48
  have HB28 := Lib.hid (B6.out.trans (b8.out.mono B6.out.size))
  clear c48
  go_wp2
  go_loopw [15] (fun i wr => ∃ k : Nat, k ≤ RP.kn ∧ i = .int .i64 k ∧ Hid (Below w2.heap.size w2 wr) ∧ Hid (wr.cell? ⟨w3.heap.size, 2, none⟩ = some (.slice RP.A RP.kn RP.kc)) ∧ Hid (∀ b, RP.A = some ⟨b, 0, none⟩ → wr.there b 0 RP.kn)) (fun i _ => RP.kn - (intOf i).toNat)
  case atStart => exact ⟨0, by omega, rfl, HB28, HC48, hth⟩
  case round =>
    obtain ⟨k, hkk, rfl, HW, HC, HT⟩ := hrel
    by_cases hlt : k < RP.kn
    · obtain ⟨b, hA⟩ := hform.out (by omega)
      have hc := HC.out
      rw [hA] at hc
      have hth2 := HT.out b hA
      have hb2 := hkb3.out b hA (by omega)
      have hkI : (k : Int) < (RP.kn : Int) := by omega
      have hf := (hth2 k hlt).2
      obtain ⟨v0, hv0⟩ : ∃ v, wr.cell? ⟨b, 0 + k, none⟩ = some v := Option.isSome_iff_exists.1 (hth2 k hlt).1
      rw [Nat.zero_add] at hf hv0
      have HT2 := Lib.hid hth2
      have HB2 := Lib.hid hb2
      have HA := Lib.hid hA
      clear hth2 hb2 hA
      go_wp2
      go_roundw
      case rel =>
        refine ⟨k + 1, by omega, by go_num, Lib.hid (HW.out.setCell (p := ⟨b, k, none⟩) HB2.out.1 _), Lib.hid ?_, Lib.hid (fun b' hb' => ?_)⟩
        · have e : (wr.setCell ⟨b, k, none⟩ (.string ⟨#[63]⟩)).heap[w3.heap.size]? = wr.heap[w3.heap.size]? := heap_setCell _ _ _ _ _ (by have := HB2.out.2; omega)
          exact (World.cell?_of_block (a := ⟨w3.heap.size, 2, none⟩) e).trans HC.out
        · exact World.there_setCells (HT.out b' hb') b k [.string ⟨#[63]⟩]
      case measure => simp [intOf]; omega
    · have hkI : ¬ (k : Int) < (RP.kn : Int) := by omega
      have hc := HC.out
      obtain ⟨o, ho⟩ : ∃ o, findG LX.c l t = o := ⟨_, rfl⟩
      have FM := Lib.hid (find_any (w := wr) c t o (HLL0.out wr (B2.out.trans (HW.out.mono B2.out.size))) (Nat.le_trans B2.out.size HW.out.size) hnx ho)
      obtain ⟨x, hx⟩ : ∃ x, o.getD x0 = x := ⟨_, rfl⟩
      have HXL : Hid (lastX l t = x) := Lib.hid (by unfold lastX; rw [ho]; exact hx)
      rw [hx] at FM
      clear ho hx
      have zk := zDk
      have zs := zX_size
      have zn := zX_ne
      have G1 := B2
      have G2 := B2
      clear hkk hlt
      go_upto_region 12 with (first
              | (have g0 := G1; clear g0; go_at_call 13; refine FM.out.mono ?_; rintro e9 w9 ⟨rfl, b9⟩; have b9 := Lib.hid b9; have TT := Lib.hid (pthere_new w9 x 40 _ rfl); clear G1)
              | (have g := G2; clear g; refine wpList_store_as (op := ⟨none, .store 40 (.tmp 16) (.tmp 66), _, _, _, _⟩) rfl 40 (.tmp 16) (.tmp 66) rfl (w9.heap.size) 0 (xc x).toArray rfl rfl (TT.out) (d_sizeA x) (x_oneA x) ?_; intro w7 hw7; clear G2))
      obtain ⟨V7, b7⟩ := pbox_stored rfl hw7
      have B7 := Lib.hid (HW.out.trans ((b9.out.trans (b7.mono b9.out.size)).mono HW.out.size))
      have HXI : Hid (∀ V, Below w7.heap.size w7 V → V.cell? ⟨w9.heap.size, 1, none⟩ = some (.int .i64 x.id)) := Lib.hid (fun V hV => by
        have := (rng_x (V7.grow hV).range).2.1
        simpa using this)
      clear hw7 zk zs zn V7 b7 hc HC HT FM
      have HIN := Lib.hid (fun (V : World) (hV : Below w7.heap.size w7 V) => L2.out.below (B7.out.trans (hV.mono B7.out.size)) (Nat.le_refl _))
      have HBI := Lib.hid (fun (V : World) (hV : Below w7.heap.size w7 V) => Nat.le_trans B7.out.size hV.size)
      have HLL := Lib.hid (fun (V : World) (hV : Below w7.heap.size w7 V) => HLL0.out V ((B2.out.trans (B7.out.mono B2.out.size)).trans (hV.mono (Nat.le_trans B2.out.size B7.out.size))))
      have HBL := Lib.hid (fun (V : World) (hV : Below w7.heap.size w7 V) => Nat.le_trans (Nat.le_trans B2.out.size B7.out.size) hV.size)
      obtain ⟨mq, hmq⟩ : ∃ q, mayG LX.c LX.id l = q := ⟨_, rfl⟩
      have HM := Lib.hid hmq
      have HM2 := Lib.hid ((may_same HZ.out).trans hmq)
      obtain ⟨y, hy⟩ : ∃ y, lastX l' t = y := ⟨_, rfl⟩
      have HYI : Hid (y.id = x.id) := Lib.hid (by
        have := congrArg LastZ.id (last_same HZ.out t)
        rw [hy, HXL.out] at this
        exact this)
      have HX2 := Lib.hid hy
      have OFM := Lib.hid (fun (V : World) (hV : Below w7.heap.size w7 V) => (show Calls Try.prog 14 #[.slice D n d, .int .i64 t] V (fun e w' => e = .returned (.int .i64 x.id) ∧ Below V.heap.size V w') by
        rw [← HYI.out]
        exact of_any d t y (HIN.out V hV) (HBI.out V hV) hnx HX2.out))
      clear hmq hy
      refine Late.region (fun w' => Below w7.heap.size w7 w') [] (by kernel_rfl) (Below.refl _ _).drew (fun hHeld => ?_)
      refine Late.take (i := 0) (oi := ⟨some 68, Op.move (Operand.tmp 14), _, _, _, _⟩) (v := ?_) rfl (by kernel_rfl) (by kernel_rfl) (by kernel_rfl) (by kernel_rfl) (fun _ _ _ h => h) (Or.inl ⟨by rfl, fun w hSw => ?_⟩) (by assumption) ?_
      rotate_left
      · (have s1 := hSw; go_simp; try with_reducible rfl)
      try simp only [Act.put, List.setIfInBounds_toArray, List.set_cons_zero, List.set_cons_succ]
      refine Late.take (i := 1) (oi := ⟨some 69, Op.move (Operand.tmp 68), _, _, _, _⟩) (v := ?_) rfl (by kernel_rfl) (by kernel_rfl) (by kernel_rfl) (by kernel_rfl) (fun _ _ _ h => h) (Or.inl ⟨by rfl, fun w hSw => ?_⟩) (by assumption) ?_
      rotate_left
      · (have s1 := hSw; go_simp; try with_reducible rfl)
      try simp only [Act.put, List.setIfInBounds_toArray, List.set_cons_zero, List.set_cons_succ]
      refine Late.take (i := 2) (oi := ⟨some 70, Op.move (Operand.tmp 7), _, _, _, _⟩) (v := ?_) rfl (by kernel_rfl) (by kernel_rfl) (by kernel_rfl) (by kernel_rfl) (fun _ _ _ h => h) (Or.inl ⟨by rfl, fun w hSw => ?_⟩) (by assumption) ?_
      rotate_left
      · (have s1 := hSw; go_simp; try with_reducible rfl)
      try simp only [Act.put, List.setIfInBounds_toArray, List.set_cons_zero, List.set_cons_succ]
      refine Late.take (i := 3) (oi := ⟨some 71, Op.move (Operand.tmp 1), _, _, _, _⟩) (v := ?_) rfl (by kernel_rfl) (by kernel_rfl) (by kernel_rfl) (by kernel_rfl) (fun _ _ _ h => h) (Or.inl ⟨by rfl, fun w hSw => ?_⟩) (by assumption) ?_
      rotate_left
      · (have s1 := hSw; go_simp; try with_reducible rfl)
      try simp only [Act.put, List.setIfInBounds_toArray, List.set_cons_zero, List.set_cons_succ]
      refine Late.take (i := 5) (oi := ⟨some 73, Op.fieldAddr 40 (Operand.tmp 16) 1, _, _, _, _⟩) (v := ?_) rfl (by kernel_rfl) (by kernel_rfl) (by kernel_rfl) (by kernel_rfl) (fun _ _ _ h => h) (Or.inl ⟨by rfl, fun w hSw => ?_⟩) (by assumption) ?_
      rotate_left
      · (have s1 := hSw; go_simp; try with_reducible rfl)
      try simp only [Act.put, List.setIfInBounds_toArray, List.set_cons_zero, List.set_cons_succ]
      refine Late.take (i := 6) (oi := ⟨some 74, Op.load 3 (Operand.tmp 73), _, _, _, _⟩) (v := ?_) rfl (by kernel_rfl) (by kernel_rfl) (by kernel_rfl) (by kernel_rfl) (fun _ _ _ h => h) (Or.inl ⟨by rfl, fun w hSw => ?_⟩) (by assumption) ?_
      rotate_left
      · (have s1 := hSw; have dx := HXI.out _ hSw; go_simp; try with_reducible rfl)
      try simp only [Act.put, List.setIfInBounds_toArray, List.set_cons_zero, List.set_cons_succ]
      refine Late.one (i := 4) (o := ⟨some 72, Op.call { callee := Callee.value (Operand.func 14), args := #[Operand.tmp 70, Operand.tmp 71], argTypes := #[24, 3] }, _, _, _, _⟩) (by kernel_rfl) rfl (fun K hK => ?_)
      go_simp
      refine (OFM.out _ hHeld).mono ?_
      rintro e4 v4 ⟨rfl, b4⟩
      have S4 := Lib.hid (hHeld.trans (b4.mono hHeld.size))
      clear b4
      refine hK.out _ _ (S4.out) (fun hHeld2 => ?_)
      clear hK K hHeld
      have hHeld := hHeld2
      clear hHeld2
      try simp only [Act.put, List.setIfInBounds_toArray, List.set_cons_zero, List.set_cons_succ]
      refine Late.take (i := 7) (oi := ⟨some 75, Op.binOp BinOp.eql 3 (Operand.tmp 72) (Operand.tmp 74) 3, _, _, _, _⟩) (v := ?_) rfl (by kernel_rfl) (by kernel_rfl) (by kernel_rfl) (by kernel_rfl) (fun _ _ _ h => h) (Or.inl ⟨by rfl, fun w hSw => ?_⟩) (by assumption) ?_
      rotate_left
      · (have s1 := hSw; go_simp; try with_reducible rfl)
      try simp only [Act.put, List.setIfInBounds_toArray, List.set_cons_zero, List.set_cons_succ]
      refine Late.take (i := 8) (oi := ⟨some 76, Op.pick (Operand.tmp 69) (Operand.tmp 75) (Operand.const (Value.bool false)), _, _, _, _⟩) (v := ?_) rfl (by kernel_rfl) (by kernel_rfl) (by kernel_rfl) (by kernel_rfl) (fun _ _ _ h => h) (Or.inl ⟨by rfl, fun w hSw => ?_⟩) (by assumption) ?_
      rotate_left
      · (have s1 := hSw; go_simp; try with_reducible rfl)
      try simp only [Act.put, List.setIfInBounds_toArray, List.set_cons_zero, List.set_cons_succ]
      refine Late.take (i := 9) (oi := ⟨some 77, Op.move (Operand.tmp 76), _, _, _, _⟩) (v := ?_) rfl (by kernel_rfl) (by kernel_rfl) (by kernel_rfl) (by kernel_rfl) (fun _ _ _ h => h) (Or.inl ⟨by rfl, fun w hSw => ?_⟩) (by assumption) ?_
      rotate_left
      · (have s1 := hSw; go_simp; try with_reducible rfl)
      try simp only [Act.put, List.setIfInBounds_toArray, List.set_cons_zero, List.set_cons_succ]
      refine Late.take (i := 10) (oi := ⟨some 78, Op.move (Operand.tmp 7), _, _, _, _⟩) (v := ?_) rfl (by kernel_rfl) (by kernel_rfl) (by kernel_rfl) (by kernel_rfl) (fun _ _ _ h => h) (Or.inl ⟨by rfl, fun w hSw => ?_⟩) (by assumption) ?_
      rotate_left
      · (have s1 := hSw; go_simp; try with_reducible rfl)
      try simp only [Act.put, List.setIfInBounds_toArray, List.set_cons_zero, List.set_cons_succ]
      refine Late.take (i := 12) (oi := ⟨some 80, Op.move (Operand.tmp 0), _, _, _, _⟩) (v := ?_) rfl (by kernel_rfl) (by kernel_rfl) (by kernel_rfl) (by kernel_rfl) (fun _ _ _ h => h) (Or.inl ⟨by rfl, fun w hSw => ?_⟩) (by assumption) ?_
      rotate_left
      · (have s1 := hSw; go_simp; try with_reducible rfl)
      try simp only [Act.put, List.setIfInBounds_toArray, List.set_cons_zero, List.set_cons_succ]
      refine Late.one (i := 11) (o := ⟨some 79, Op.call { callee := Callee.value (Operand.func 15), args := #[Operand.tmp 78], argTypes := #[24] }, _, _, _, _⟩) (by kernel_rfl) rfl (fun K hK => ?_)
      go_simp
      refine (pmay_any d mq (HIN.out _ hHeld) (HBI.out _ hHeld) hnx HM2.out).mono ?_
      rintro e11 v11 ⟨rfl, b11⟩
      have S11 := Lib.hid (hHeld.trans (b11.mono hHeld.size))
      clear b11
      refine hK.out _ _ (S11.out) (fun hHeld2 => ?_)
      clear hK K hHeld
      have hHeld := hHeld2
      clear hHeld2
      try simp only [Act.put, List.setIfInBounds_toArray, List.set_cons_zero, List.set_cons_succ]
      refine Late.one (i := 13) (o := ⟨some 81, Op.call { callee := Callee.value (Operand.func 16), args := #[Operand.tmp 80], argTypes := #[22] }, _, _, _, _⟩) (by kernel_rfl) rfl (fun K hK => ?_)
      go_simp
      refine (rmay_any c mq (HLL.out _ hHeld) hnx HM.out).mono ?_
      intro e13 v13 q13
      obtain ⟨rfl, b13⟩ := q13.belowQ
      have S13 := Lib.hid (hHeld.trans (b13.mono hHeld.size))
      clear b13 q13
      refine hK.out _ _ (S13.out) (fun hHeld2 => ?_)
      clear hK K hHeld
      have hHeld := hHeld2
      clear hHeld2
      try simp only [Act.put, List.setIfInBounds_toArray, List.set_cons_zero, List.set_cons_succ]
      refine Late.take (i := 14) (oi := ⟨some 82, Op.binOp BinOp.eql 4 (Operand.tmp 79) (Operand.tmp 81) 4, _, _, _, _⟩) (v := ?_) rfl (by kernel_rfl) (by kernel_rfl) (by kernel_rfl) (by kernel_rfl) (fun _ _ _ h => h) (Or.inl ⟨by rfl, fun w hSw => ?_⟩) (by assumption) ?_
      rotate_left
      · (have s1 := hSw; go_simp; try with_reducible rfl)
      try simp only [Act.put, List.setIfInBounds_toArray, List.set_cons_zero, List.set_cons_succ]
      refine Late.take (i := 15) (oi := ⟨some 83, Op.pick (Operand.tmp 77) (Operand.tmp 82) (Operand.const (Value.bool false)), _, _, _, _⟩) (v := ?_) rfl (by kernel_rfl) (by kernel_rfl) (by kernel_rfl) (by kernel_rfl) (fun _ _ _ h => h) (Or.inl ⟨by rfl, fun w hSw => ?_⟩) (by assumption) ?_
      rotate_left
      · (have s1 := hSw; go_simp; try with_reducible rfl)
      try simp only [Act.put, List.setIfInBounds_toArray, List.set_cons_zero, List.set_cons_succ]
      refine Late.take (i := 16) (oi := ⟨some 84, Op.move (Operand.tmp 83), _, _, _, _⟩) (v := ?_) rfl (by kernel_rfl) (by kernel_rfl) (by kernel_rfl) (by kernel_rfl) (fun _ _ _ h => h) (Or.inl ⟨by rfl, fun w hSw => ?_⟩) (by assumption) ?_
      rotate_left
      · (have s1 := hSw; go_simp; try with_reducible rfl)
      try simp only [Act.put, List.setIfInBounds_toArray, List.set_cons_zero, List.set_cons_succ]
      refine Late.take (i := 17) (oi := ⟨some 85, Op.move (Operand.tmp 7), _, _, _, _⟩) (v := ?_) rfl (by kernel_rfl) (by kernel_rfl) (by kernel_rfl) (by kernel_rfl) (fun _ _ _ h => h) (Or.inl ⟨by rfl, fun w hSw => ?_⟩) (by assumption) ?_
      rotate_left
      · (have s1 := hSw; go_simp; try with_reducible rfl)
      try simp only [Act.put, List.setIfInBounds_toArray, List.set_cons_zero, List.set_cons_succ]
      refine Late.take (i := 19) (oi := ⟨some 87, Op.move (Operand.tmp 0), _, _, _, _⟩) (v := ?_) rfl (by kernel_rfl) (by kernel_rfl) (by kernel_rfl) (by kernel_rfl) (fun _ _ _ h => h) (Or.inl ⟨by rfl, fun w hSw => ?_⟩) (by assumption) ?_
      rotate_left
      · (have s1 := hSw; go_simp; try with_reducible rfl)
      try simp only [Act.put, List.setIfInBounds_toArray, List.set_cons_zero, List.set_cons_succ]
      refine Late.one (i := 18) (o := ⟨some 86, Op.call { callee := Callee.value (Operand.func 18), args := #[Operand.tmp 85], argTypes := #[24] }, _, _, _, _⟩) (by kernel_rfl) rfl (fun K hK => ?_)
      go_simp
      refine (from_any d (HIN.out _ hHeld) (HBI.out _ hHeld) (by omega)).mono ?_
      rintro e18 v18 ⟨D18, d18, rfl, o18, b18⟩
      have S18 := Lib.hid (hHeld.trans (b18.mono hHeld.size))
      have L18 := Lib.hid (las_of_own o18 (fun x hx => ((HIN.out _ hHeld).ok x hx).grow b18 (HBI.out _ hHeld)))
      clear b18 o18
      refine hK.out _ _ (S18.out) (fun hHeld2 => ?_)
      clear hK K hHeld
      have hHeld := hHeld2
      clear hHeld2
      try simp only [Act.put, List.setIfInBounds_toArray, List.set_cons_zero, List.set_cons_succ]
      refine Late.one (i := 20) (o := ⟨some 88, Op.call { callee := Callee.value (Operand.func 17), args := #[Operand.tmp 86, Operand.tmp 87], argTypes := #[22, 22] }, _, _, _, _⟩) (by kernel_rfl) rfl (fun K hK => ?_)
      go_simp
      refine (rsame_any (w := v18) d18 c true L18.out (HLL.out _ hHeld) (Nat.le_refl _) (HBL.out _ hHeld) hnx (by rw [HZ.out]; exact tabB_refl _)).mono ?_
      rintro e20 v20 ⟨rfl, b20⟩
      have S20 := Lib.hid (hHeld.trans (b20.mono hHeld.size))
      clear b20
      refine hK.out _ _ (S20.out) (fun hHeld2 => ?_)
      clear hK K hHeld
      have hHeld := hHeld2
      clear hHeld2
      try simp only [Act.put, List.setIfInBounds_toArray, List.set_cons_zero, List.set_cons_succ]
      refine Late.take (i := 21) (oi := ⟨some 89, Op.pick (Operand.tmp 84) (Operand.tmp 88) (Operand.const (Value.bool false)), _, _, _, _⟩) (v := ?_) rfl (by kernel_rfl) (by kernel_rfl) (by kernel_rfl) (by kernel_rfl) (fun _ _ _ h => h) (Or.inl ⟨by rfl, fun w hSw => ?_⟩) (by assumption) ?_
      rotate_left
      · (have s1 := hSw; go_simp; try with_reducible rfl)
      try simp only [Act.put, List.setIfInBounds_toArray, List.set_cons_zero, List.set_cons_succ]
      refine Late.take (i := 22) (oi := ⟨some 90, Op.move (Operand.tmp 89), _, _, _, _⟩) (v := ?_) rfl (by kernel_rfl) (by kernel_rfl) (by kernel_rfl) (by kernel_rfl) (fun _ _ _ h => h) (Or.inl ⟨by rfl, fun w hSw => ?_⟩) (by assumption) ?_
      rotate_left
      · (have s1 := hSw; go_simp; try with_reducible rfl)
      try simp only [Act.put, List.setIfInBounds_toArray, List.set_cons_zero, List.set_cons_succ]
      refine Late.one (i := 23) (o := ⟨some 91, Op.call { callee := Callee.value (Operand.func 19), args := #[], argTypes := #[] }, _, _, _, _⟩) (by kernel_rfl) rfl (fun K hK => ?_)
      go_simp
      refine (awake_any v20).mono ?_
      rintro e23 v23 ⟨rfl, b23⟩
      have S23 := Lib.hid (hHeld.trans (b23.mono hHeld.size))
      clear b23
      refine hK.out _ _ (S23.out) (fun hHeld2 => ?_)
      clear hK K hHeld
      have hHeld := hHeld2
      clear hHeld2
      try simp only [Act.put, List.setIfInBounds_toArray, List.set_cons_zero, List.set_cons_succ]
      refine Late.take (i := 24) (oi := ⟨some 92, Op.pick (Operand.tmp 90) (Operand.tmp 91) (Operand.const (Value.bool false)), _, _, _, _⟩) (v := ?_) rfl (by kernel_rfl) (by kernel_rfl) (by kernel_rfl) (by kernel_rfl) (fun _ _ _ h => h) (Or.inl ⟨by rfl, fun w hSw => ?_⟩) (by assumption) ?_
      rotate_left
      · (have s1 := hSw; go_simp; try with_reducible rfl)
      try simp only [Act.put, List.setIfInBounds_toArray, List.set_cons_zero, List.set_cons_succ]
      refine Late.take (i := 25) (oi := ⟨some 6, Op.assign (Operand.tmp 92), _, _, _, _⟩) (v := ?_) rfl (by kernel_rfl) (by kernel_rfl) (by kernel_rfl) (by kernel_rfl) (fun _ _ _ h => h) (Or.inl ⟨by rfl, fun w hSw => ?_⟩) (by assumption) ?_
      rotate_left
      · (have s1 := hSw; go_simp; try with_reducible rfl)
      try simp only [Act.put, List.setIfInBounds_toArray, List.set_cons_zero, List.set_cons_succ]
      refine Late.done (by kernel_rfl) ?_ _
      refine NoPanic.normal ?_
      have hq := Lib.hid ((B2.out.trans (B7.out.mono B2.out.size)).trans (hHeld.mono (Nat.le_trans B2.out.size B7.out.size)))
      go_wp2
      go_ret
      exact ⟨rfl, hq.out⟩
end Go.Proofs.Ytlapdocikhjkcaa
