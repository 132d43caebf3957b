/- A token that is minted, and attenuated, grant by grant. -/
import Derived.Test.YtpamgeenknkjcaaDoorTkW
import Derived.Test.YtpamgeenknkjcaaDoorB6
namespace Go.Proofs.YtpamgeenknkjcaaDoor
open Go.ChangeShapes Go.WideShapes Go.ChangeAt Go.RowKit
set_option linter.unusedVariables false
set_option linter.unusedSimpArgs false
open Plain Sha
theorem tokTag_snoc (ks : List Int) (tn : Int) (l : List GrantZ) (g : GrantZ) (h : 0 < l.length) : tokTag ks tn (l ++ [g]) = nextZ (tokTag ks tn l) g := by
  cases l with
  | nil => simp at h
  | cons a r =>
    show (r ++ [g]).foldl nextZ _ = nextZ (r.foldl nextZ _) g
    rw [List.foldl_append]; rfl
theorem may_take {tn : Int} {l : List GrantZ} (h : mayT tn l = true) (k : Nat) (h0 : 0 < k) (hk : k ≤ l.length) : mayT tn (l.take k) = true := by
  simp only [mayT, lineB, Bool.and_eq_true, decide_eq_true_eq, List.length_take, List.all_eq_true] at h ⊢
  obtain ⟨h1, ⟨h2, h3⟩, h4⟩ := h
  exact ⟨h1, ⟨by omega, by omega⟩, fun g hg => h4 g (List.mem_of_mem_take hg)⟩
theorem may_at {tn : Int} {l : List GrantZ} (h : mayT tn l = true) {k : Nat} {g : GrantZ} (hg : l[k]? = some g) : mayB g = true := by
  simp only [mayT, lineB, Bool.and_eq_true, List.all_eq_true] at h
  exact h.2.2 g (List.mem_of_getElem? hg)
theorem att_step (ks : List Int) (tn : Int) (l : List GrantZ) (h : mayT tn l = true) (k : Nat) (g : GrantZ) (h0 : 0 < k) (hg : l[k]? = some g) :
    attP ⟨tn, l.take k, tokTag ks tn (l.take k)⟩ g = (⟨tn, l.take (k + 1), tokTag ks tn (l.take (k + 1))⟩, 0) := by
  have hk : k < l.length := (List.getElem?_eq_some_iff.1 hg).1
  have h4 := may_len' h
  unfold attP
  simp only [may_take h k h0 (by omega), may_at h hg, Bool.and_self, if_true, List.length_take]
  rw [if_neg (by omega), take_snocG l k g hg, tokTag_snoc _ _ _ _ (by rw [List.length_take]; omega)]
theorem mint_first (ks : List Int) (tn : Int) (l : List GrantZ) (h : mayT tn l = true) (g : GrantZ) (hg : l[0]? = some g) : mintP ks tn g = (⟨tn, l.take 1, tokTag ks tn (l.take 1)⟩, 0) := by
  have e : l.take 1 = [g] := by rw [take_snocG l 0 g hg]; rfl
  have hm := may_take h 1 (by omega) (by have := may_len' h; omega)
  unfold mintP
  rw [e] at hm ⊢
  rw [hm]; rfl
/-- A token with this line, its tag under the key, is handed back. -/
def MadeT (w : World) (tn : Int) (l : List GrantZ) (T : List Int) (e : Ending) (w' : World) : Prop :=
  ∃ t, e = .returned (.tuple #[.agg (tv t).toArray, .bool true]) ∧ Tok w' w'.heap.size t l ∧ pt t l = ⟨tn, l, T⟩ ∧ Below w.heap.size w w'
theorem Grants.blk {w w' : World} {B m b o : Nat} {A : Option Addr} {l : List GrantZ} {vs : List Value} (h : Grants w B A m l) (hA : ∀ b' off, A = some ⟨b', off, none⟩ → b < b') (e : Hid (w' = w.setCells b o vs)) : Grants w' B A m l :=
  h.otherH (fun b' off hq => by have := hA b' off hq; omega) e
set_option maxRecDepth 100000 in
set_option maxHeartbeats 8000000 in
theorem made_any {w : World} {B1 B2 n1 m : Nat} {A1 A : Option Addr} (c1 c : Nat) {ks : List Int} {l : List GrantZ} (tn : Int) (hk : Bs w B1 A1 n1 ks) (hl : Grants w B2 A m l) (hB1 : B1 ≤ w.heap.size) (hB2 : B2 ≤ w.heap.size) (hn1 : n1 ≤ 10000) (htn : InR tn) (hmay : mayT tn l = true) (hF : LaidF w) (hK : LaidK w) :
    Calls Tryd.prog 26 #[.slice A1 n1 c1, .int .i64 tn, .slice A m c] w (MadeT w tn l (tokTag ks tn l)) := by
  have hlen := hl.len
  have h14 := may_len' hmay
  obtain ⟨W1, hW1⟩ : ∃ W, W = w.alloc (.cells (tv tok0).toArray 28) := ⟨_, rfl⟩
  have b1 : Below w.heap.size w W1 := by rw [hW1]; exact (Below.refl _ _).alloc (Nat.le_refl _) _
  have s1 : W1.heap.size = w.heap.size + 1 := by rw [hW1]; simp
  have R1 : Hid (Box W1 w.heap.size tok0) := Lib.hid (by rw [hW1]; exact box_new w tok0 rep32 _ _ rfl)
  have HB1 := Lib.hid b1
  have KEY := Lib.hid (hk.belowM b1 hB1)
  have LIN := Lib.hid (hl.belowM b1 hB2)
  have LW := Lib.hid hl
  have HFw := Lib.hid hF
  have HKw := Lib.hid hK
  have HF1 := Lib.hid (hF.below b1 hF.lt)
  have HK1 := Lib.hid (hK.below b1 hK.lt)
  have HMAY := Lib.hid hmay
  have HLEN := Lib.hid hlen
  have HTN := Lib.hid htn
  have HW1 := Lib.hid hW1
  have hm0 : 0 < m := by omega
  have hm4 : m ≤ 4 := by omega
  have hmI : ((m : Int) == 0) = false := by simp; omega
  have hB1' : B1 ≤ W1.heap.size := by omega
  have hB2' : B2 ≤ W1.heap.size := by omega
  obtain ⟨lb, lo, g, rfl, hlb, HG, hgo, d0, d1, d2⟩ := LIN.out.at_ (k := 0) hm0
  rw [Nat.zero_mul, Nat.add_zero] at d0 d1 d2
  have HGO := Lib.hid hgo
  have MN := Lib.hid (mint_val c1 (⟨tn, l.take 1, tokTag ks tn (l.take 1)⟩, 0) KEY.out hB1' hn1 tn htn g hgo HF1.out HK1.out (mint_first ks tn l hmay g HG.out))
  clear hk hl hmay hF hK hW1 b1 htn hlen h14 hgo
  go_enter Tryd.func26, Tryd.ntmps26
  go_upto_region 1 with fail
  simp only [zTok]
  rw [← HW1.out]
  go_upto_region 5 with (first
    | (go_at_call 9; refine MN.out.mono ?_; rintro e w2 ⟨t2, l2, rfl, k2, p2, b2, n2⟩; have T2 := Lib.hid (box_thereN w2 k2.len 28 _ rfl); have F2 := T2)
    | (have g := F2; clear g; refine wpList_store_as (op := ⟨none, .store 28 (.tmp 8) (.tmp 22), _, _, _, _⟩) rfl 28 (.tmp 8) (.tmp 22) rfl (w2.heap.size) 0 (tv t2).toArray rfl rfl T2.out (tok_sizeA k2.len) (tok_one _) ?_; intro w3 hw3; clear F2))
  obtain ⟨t3, b3⟩ := held_new k2 p2 rfl hw3
  obtain ⟨vb, hvb⟩ : ∃ g, w2.heap.size = g := ⟨_, rfl⟩
  rw [hvb] at t3
  simp only [hvb]
  have S2 : Hid (w.heap.size + 1 ≤ vb) := Lib.hid (by have := b2.size; omega)
  obtain rfl : l2 = l.take 1 := by have := p2; unfold pt at this; injection this
  have HX3 := Lib.hid t3
  have Q3 : Hid (Below w.heap.size w w3) := Lib.hid (HB1.out.trans ((b2.trans (b3.mono b2.size)).mono HB1.out.size))
  have R3 : Hid (Box w3 w.heap.size tok0) := Lib.hid ((R1.out.grow b2).below b3 (by have := S2.out; omega))
  have N3 : Hid (∀ b' off, t2.A = some ⟨b', off, none⟩ → w.heap.size < b' ∧ b' ≠ vb) := Lib.hid (fun b' off hq => ⟨by have := n2 b' off hq; omega, by
    have h1 := k2.line.row (by have := k2.line.len; rw [List.length_take] at this; have := HLEN.out; omega)
    obtain ⟨bb, oo, he, hlt, _⟩ := h1
    rw [hq] at he; injection he with he; injection he with he; omega⟩)
  clear hw3 t3 b3 hvb k2 p2 b2 n2 T2 d0 d1 d2 MN R1
  go_loopw [9, 10] (fun er i wr => ∃ k : Nat, 0 < k ∧ k ≤ m ∧ er = .int .i64 0 ∧ i = .int .i64 k ∧ ∃ t, Hid (Held wr vb t (l.take k) ⟨tn, l.take k, tokTag ks tn (l.take k)⟩) ∧ Hid (Below w.heap.size w wr) ∧ Hid (Box wr w.heap.size tok0) ∧ Hid (∀ b' off, t.A = some ⟨b', off, none⟩ → w.heap.size < b' ∧ b' ≠ vb)) (fun _ i _ => m - (intOf i).toNat)
  case atStart => exact ⟨1, by omega, by omega, rfl, rfl, t2, HX3, Q3, R3, N3⟩
  case round =>
    obtain ⟨k, hk0, hk, rfl, rfl, t, HX, HQ, HR, HNW⟩ := hrel
    clear HX3 Q3 R3 N3
    by_cases hlt : k < m
    · have hltI : (k : Int) < (m : Int) := by omega
      obtain ⟨b2, o2, x, e2, hb2, HXK, hxo, e0, e1, e3⟩ := (LW.out.belowM HQ.out hB2).at_ hlt
      obtain ⟨rfl, rfl⟩ : lb = b2 ∧ lo = o2 := by simpa using e2
      have hbw : lb < wr.heap.size := Nat.lt_of_lt_of_le (Nat.lt_of_lt_of_le hb2 hB2) HQ.out.size
      have CX : Hid (∀ W, Below wr.heap.size wr W → W.cell? ⟨lb, lo + k * 3, none⟩ = some (.int .u8 x.r) ∧ W.cell? ⟨lb, lo + k * 3 + 1, none⟩ = some (.int .i64 x.x) ∧ W.cell? ⟨lb, lo + k * 3 + 2, none⟩ = some (.int .i64 x.s)) := Lib.hid (fun W hW =>
        ⟨(hW.cell (p := ⟨lb, lo + k * 3, none⟩) hbw).trans e0, (hW.cell (p := ⟨lb, lo + k * 3 + 1, none⟩) hbw).trans e1, (hW.cell (p := ⟨lb, lo + k * 3 + 2, none⟩) hbw).trans e3⟩)
      have AT : Hid (∀ W, Below wr.heap.size wr W → Calls Tryd.prog 14 #[.agg (tv t).toArray, .agg #[.int .u8 x.r, .int .i64 x.x, .int .i64 x.s]] W (Gives W (⟨tn, l.take (k + 1), tokTag ks tn (l.take (k + 1))⟩, 0))) := Lib.hid (fun W hW => by
        have hbel := HQ.out.trans (hW.mono HQ.out.size)
        exact att_val _ (HX.out.tok.below hW) hW.size x hxo (HFw.out.below hbel HFw.out.lt) (HKw.out.below hbel HKw.out.lt) (by rw [HX.out.is]; exact att_step ks tn l HMAY.out k x hk0 HXK.out))
      have HLX := Lib.hid HX.out.tok.len
      clear e2 e0 e1 e3 hxo
      go_upto_region 7 with fail
      refine Late.region (fun w' => Below wr.heap.size wr w') [7, 8, 9, 10] (by kernel_rfl) (Below.refl _ _).drew (fun hHeld => ?_)
      refine Late.takeT 4 (i := 0) (oi := ⟨some 35, Op.load 28 (Operand.tmp 8), _, _, _, _⟩) (v := _) rfl (by kernel_rfl) (by kernel_rfl) (by kernel_rfl) (by kernel_rfl) (by kernel_rfl) (fun _ _ _ h => h) (yieldsIf_load_mid (by rfl) _ _ rfl _ _ rfl (tv t) _ (fun _ h => (HX.out.grow h).box.range) Tryd.underlying28 rfl (tok_size HLX.out)) (by assumption) ?_
      try simp only [Act.put, List.setIfInBounds_toArray, List.set_cons_zero, List.set_cons_succ]
      refine Late.takeT 4 (i := 1) (oi := ⟨some 36, Op.move (Operand.tmp 2), _, _, _, _⟩) (v := ?_) rfl (by kernel_rfl) (by kernel_rfl) (by kernel_rfl) (by kernel_rfl) (by kernel_rfl) (fun _ _ _ h => h) (Or.inl ⟨by rfl, fun w hSw => ?_⟩) (by assumption) ?_
      rotate_left
      · (have s1 := hSw; go_simp; try with_reducible rfl)
      try simp only [Act.put, List.setIfInBounds_toArray, List.set_cons_zero, List.set_cons_succ]
      refine Late.takeT 4 (i := 2) (oi := ⟨some 37, Op.move (Operand.tmp 10), _, _, _, _⟩) (v := ?_) rfl (by kernel_rfl) (by kernel_rfl) (by kernel_rfl) (by kernel_rfl) (by kernel_rfl) (fun _ _ _ h => h) (Or.inl ⟨by rfl, fun w hSw => ?_⟩) (by assumption) ?_
      rotate_left
      · (have s1 := hSw; go_simp; try with_reducible rfl)
      try simp only [Act.put, List.setIfInBounds_toArray, List.set_cons_zero, List.set_cons_succ]
      refine Late.takeT 4 (i := 3) (oi := ⟨some 38, Op.indexAddr 23 (Operand.tmp 36) (Operand.tmp 37), _, _, _, _⟩) (v := ?_) rfl (by kernel_rfl) (by kernel_rfl) (by kernel_rfl) (by kernel_rfl) (by kernel_rfl) (fun _ _ _ h => h) (Or.inl ⟨by rfl, fun w hSw => ?_⟩) (by assumption) ?_
      rotate_left
      · (have s1 := hSw; go_simp; try with_reducible rfl)
      try simp only [Act.put, List.setIfInBounds_toArray, List.set_cons_zero, List.set_cons_succ]
      refine Late.takeT 4 (i := 4) (oi := ⟨some 39, Op.load 33 (Operand.tmp 38), _, _, _, _⟩) (v := ?_) rfl (by kernel_rfl) (by kernel_rfl) (by kernel_rfl) (by kernel_rfl) (by kernel_rfl) (fun _ _ _ h => h) (Or.inl ⟨by rfl, fun w hSw => ?_⟩) (by assumption) ?_
      rotate_left
      · (have s1 := hSw; obtain ⟨q0, q1, q2⟩ := CX.out _ hSw; go_simp; try with_reducible rfl)
      try simp only [Act.put, List.setIfInBounds_toArray, List.set_cons_zero, List.set_cons_succ]
      refine Late.one (i := 5) (o := ⟨some 40, Op.call { callee := Callee.value (Operand.func 14), args := #[Operand.tmp 35, Operand.tmp 39], argTypes := #[28, 33] }, _, _, _, _⟩) (by kernel_rfl) rfl (fun K hK => ?_)
      go_simp
      refine (AT.out _ hHeld).mono ?_
      rintro e w5 ⟨u, lu, rfl, k5, p5, b5, n5⟩
      have h5 := hHeld.trans (b5.mono hHeld.size)
      have hz5 : wr.heap.size ≤ w5.heap.size := h5.size
      have nz5 : ∀ b' off, u.A = some ⟨b', off, none⟩ → wr.heap.size ≤ b' := fun b' off hq => Nat.le_trans hHeld.size (n5 b' off hq)
      refine hK.out _ _ (h5) (fun hHeld2 => ?_)
      clear hK K hHeld
      have hHeld := hHeld2
      clear hHeld2
      try simp only [Act.put, List.setIfInBounds_toArray, List.set_cons_zero, List.set_cons_succ]
      refine Late.takeT 4 (i := 6) (oi := ⟨some 34, Op.move (Operand.tmp 40), _, _, _, _⟩) (v := ?_) rfl (by kernel_rfl) (by kernel_rfl) (by kernel_rfl) (by kernel_rfl) (by kernel_rfl) (fun _ _ _ h => h) (Or.inl ⟨by rfl, fun w hSw => ?_⟩) (by assumption) ?_
      rotate_left
      · (have s1 := hSw; go_simp; try with_reducible rfl)
      try simp only [Act.put, List.setIfInBounds_toArray, List.set_cons_zero, List.set_cons_succ]
      refine Late.pull (i := 7) (oi := ⟨some 41, Op.extract (Operand.tmp 34) 0, _, _, _, _⟩) (v := ?_) rfl (by kernel_rfl) (by kernel_rfl) (by kernel_rfl) (by kernel_rfl) (fun _ _ _ h => h) (Or.inl ⟨by rfl, fun w _ => ?_⟩) ?_
      rotate_left
      · (go_simp; try with_reducible rfl)
      try simp only [Act.put, List.setIfInBounds_toArray, List.set_cons_zero, List.set_cons_succ]
      refine Late.pull (i := 8) (oi := ⟨some 42, Op.extract (Operand.tmp 34) 1, _, _, _, _⟩) (v := ?_) rfl (by kernel_rfl) (by kernel_rfl) (by kernel_rfl) (by kernel_rfl) (fun _ _ _ h => h) (Or.inl ⟨by rfl, fun w _ => ?_⟩) ?_
      rotate_left
      · (go_simp; try with_reducible rfl)
      try simp only [Act.put, List.setIfInBounds_toArray, List.set_cons_zero, List.set_cons_succ]
      refine Late.end_ (i := 9) (o := ⟨none, Op.store 28 (Operand.tmp 8) (Operand.tmp 41), _, _, _, _⟩) (by kernel_rfl) rfl rfl (fun K hK => ?_)
      rw [if_pos (by rfl)]
      refine wp_store_mid 28 (.tmp 8) (.tmp 41) rfl vb 0 (tv u).toArray rfl rfl ((HX.out.grow h5).box.thereA k5.len) (tok_sizeA k5.len) (tok_one _) ?_
      refine hK.out _ _ ?_
      clear hK K
      try simp only [Act.put]
      refine Late.end_ (i := 10) (o := ⟨some 9, Op.assign (Operand.tmp 42), _, _, _, _⟩) (by kernel_rfl) rfl rfl (fun K hK => ?_)
      go_simp
      refine hK.out _ _ ?_
      clear hK K
      try simp only [Act.put, List.setIfInBounds_toArray, List.set_cons_zero, List.set_cons_succ]
      refine Late.done (by kernel_rfl) ?_ _
      refine NoPanic.normal ?_
      have he : Hid (w5.setCells vb 0 (tv u) = w5.setCells vb 0 (tv u).toArray.toList) := Lib.hid rfl
      have hvl := HX.out.box.lt
      have X9 := (HX.out.grow h5).box.storeH k5.len he
      have Q9 := Lib.hid (below_storeH (HQ.out.trans (h5.mono HQ.out.size)) (by have := S2.out; omega) he)
      have R9 := Lib.hid (((HR.out.grow h5).farH (by have := S2.out; omega) he))
      have z9 := size_storeH he
      have K9 : Tok (w5.setCells vb 0 (tv u)) (w5.setCells vb 0 (tv u)).heap.size u lu := ⟨k5.len, k5.bytes, k5.tn, (k5.line.blk (fun b' off hq => by have := nz5 b' off hq; omega) he).more z9, k5.mc, k5.cm⟩
      obtain rfl : lu = l.take (k + 1) := by have := p5; unfold pt at this; injection this
      have H9 : Hid (Held (w5.setCells vb 0 (tv u)) vb u (l.take (k + 1)) ⟨tn, l.take (k + 1), tokTag ks tn (l.take (k + 1))⟩) := Lib.hid ⟨X9, K9, p5⟩
      have N9 : Hid (∀ b' off, u.A = some ⟨b', off, none⟩ → w.heap.size < b' ∧ b' ≠ vb) := Lib.hid (fun b' off hq => by have := nz5 b' off hq; have := HQ.out.size; have := S2.out; omega)
      generalize w5.setCells vb 0 (tv u) = w9 at *
      clear he X9 z9 K9 hHeld h5 hz5 nz5 k5 p5 b5 n5 hvl
      go_wp2
      go_roundw
      case rel => exact ⟨k + 1, by omega, by omega, rfl, by go_num, u, H9, Q9, R9, N9⟩
      case measure => simp [intOf]; omega
    · have hkm : k = m := by omega
      have HE : Hid (Held wr vb t l ⟨tn, l, tokTag ks tn l⟩) := Lib.hid (by
        have := HX.out
        rwa [List.take_of_length_le (by have := HLEN.out; omega)] at this)
      have hge : ¬ (k : Int) < (m : Int) := by omega
      have HEB : Hid (Box wr vb t) := Lib.hid HE.out.box
      have TH := Lib.hid (HR.out.thereA HE.out.tok.len)
      have L1 := HEB
      have F1 := TH
      clear hkm HX
      go_wp2_with (first
        | (have g := L1; clear g; refine wpList_load_mid (op := ⟨some 43, .load 28 (.tmp 8), _, _, _, _⟩) rfl 28 (.tmp 8) rfl (vb) 0 rfl (tv t) _ HEB.out.range Tryd.underlying28 rfl (tok_size HEB.out.len) ?_; clear L1)
        | (have g := F1; clear g; refine wpList_store_as (op := ⟨none, .store 28 (.tmp 6) (.tmp 43), _, _, _, _⟩) rfl 28 (.tmp 6) (.tmp 43) rfl (w.heap.size) 0 (tv t).toArray rfl rfl TH.out (tok_sizeA HE.out.tok.len) (tok_one _) ?_; intro w6 hw6; clear F1))
      have R6 := HR.out.storeH HE.out.tok.len hw6
      have q6 := below_storeH HQ.out (Nat.le_refl _) hw6
      have z6 := size_storeH hw6
      have k := HE.out.tok
      have K6 : Tok w6 w6.heap.size t l := ⟨k.len, k.bytes, k.tn, (k.line.blk (fun b' off hq => (HNW.out b' off hq).1) hw6).more z6, k.mc, k.cm⟩
      exact bodyPost_ret (v := .tuple #[.agg (tv t).toArray, .bool true]) (results_mid_tmp (p := 6) (u := 7) (ty := 28) rfl _ _ w.heap.size 0 (tv t) _ rfl R6.range Tryd.underlying28 rfl (tok_size k.len)) rfl ⟨t, rfl, K6, HE.out.is, q6⟩
end Go.Proofs.YtpamgeenknkjcaaDoor
