/- The law TokenMints. -/
import Derived.Test.YtpamgeenknkjcaaDoorTkRa
import Derived.Test.YtpamgeenknkjcaaDoorTkMr
import Derived.Test.YtpamgeenknkjcaaDoorTkLw
import Derived.Test.YtpamgeenknkjcaaDoorTkW
import Derived.Test.YtpamgeenknkjcaaDoorOrd4
import Derived.Test.YtpamgeenknkjcaaDoorTied
namespace Go.Proofs.YtpamgeenknkjcaaDoor
open Go.ChangeShapes Go.WideShapes Go.ChangeAt Go.RowKit
set_option linter.unusedVariables false
set_option linter.unusedSimpArgs false
open Plain Sha
def sfIs (x : Value) : SF := ⟨fun v w => v = x, fun _ _ _ h _ => h⟩
def sfGives (base : Nat) (p : PTok) (k : Int) : SF := ⟨fun v w => ∃ t l, v = .tuple #[.agg (tv t).toArray, .int .i64 k] ∧ Tok w w.heap.size t l ∧ pt t l = p ∧ (∀ b off, t.A = some ⟨b, off, none⟩ → base ≤ b), fun v w w' ⟨t, l, e, h, hp, hn⟩ hb => ⟨t, l, e, (h.below hb).more hb.size, hp, hn⟩⟩
def sfTup (k : Int) : SF := ⟨fun v w => ∃ x, v = .tuple #[x, .int .i64 k], fun _ _ _ h _ => h⟩
def sfTokV (base : Nat) (p : PTok) : SF := ⟨fun v w => ∃ t l, v = .agg (tv t).toArray ∧ Tok w w.heap.size t l ∧ pt t l = p ∧ (∀ b off, t.A = some ⟨b, off, none⟩ → base ≤ b), fun v w w' ⟨t, l, e, h, hp, hn⟩ hb => ⟨t, l, e, (h.below hb).more hb.size, hp, hn⟩⟩
def sfHeld (base : Nat) (p : PTok) : SF := ⟨fun v w => ∃ b, v = .pointer (some ⟨b, 0, none⟩) ∧ base ≤ b ∧ ∃ t l, Held w b t l p ∧ (∀ b' off, t.A = some ⟨b', off, none⟩ → base ≤ b'), fun v w w' ⟨b, e, hB, t, l, h, hn⟩ hb => ⟨b, e, hB, t, l, h.grow hb, hn⟩⟩
def sfStd (x : Value) (b : Nat) (t : TokZ) (l : List GrantZ) (p : PTok) : SF := ⟨fun v w => v = x ∧ Held w b t l p, fun v w w' ⟨e, h⟩ hb => ⟨e, h.grow hb⟩⟩
theorem mintP_four (ks : List Int) (tn : Int) (g : GrantZ) : (mintP ks tn g).1.l.length ≤ 4 := by
  unfold mintP
  split <;> simp [pt0]
theorem attP_four (p : PTok) (g : GrantZ) : (attP p g).1.l.length ≤ 4 := by
  unfold attP
  split
  · next h =>
    rw [Bool.and_eq_true] at h
    have := may_len h.1
    split
    · simp [pt0]
    · simp; omega
  · simp [pt0]
theorem tok0_no_int (j : Nat) (x : Int) : (tv tok0).toArray[j + 1]? ≠ some (.int .i64 x) := by
  intro h
  rw [List.getElem?_toArray] at h
  match j, h with
  | 0, h => injection h with h; cases h
  | j + 1, h =>
    have h' : (vals (List.replicate 32 0))[j]? = some (.int .i64 x) := h
    simp only [vals, List.getElem?_map, List.getElem?_replicate] at h'
    split at h'
    · injection h' with h'; cases h'
    · cases h'
theorem Grants.offNew {w w' : World} {B m b o : Nat} {A : Option Addr} {l : List GrantZ} {vs : List Value} {y : TypeId} (h : Grants w B A m l) (hh : w.heap[b]? = some (.cells (tv tok0).toArray y)) (e : Hid (w' = w.setCells b o vs)) : Grants w' B A m l := by
  refine ⟨h.len, fun hn => ?_, h.ok⟩
  obtain ⟨b', off, hq, hb, hc⟩ := h.row hn
  have hne : b' ≠ b := by
    intro e
    subst e
    obtain ⟨g, r, rfl⟩ : ∃ g r, l = g :: r := by
      cases l with
      | nil => have := h.len; simp at this; omega
      | cons g r => exact ⟨g, r, rfl⟩
    have c1 := hc 1 (.int .i64 g.x) rfl
    rw [cell_of_row _ _ _ _ _ _ hh] at c1
    exact tok0_no_int off g.x c1
  exact ⟨b', off, hq, hb, fun i u hu => by
    rw [e.out]
    exact (World.cell?_of_block (a := ⟨b', off + i, none⟩) (heap_setCells b b' hne vs o w)).trans (hc i u hu)⟩
theorem Held.rscall {W V : World} {b b' : Nat} {t t' : TokZ} {l l' : List GrantZ} {p : PTok} (h : Held W b t l p) (h' : Held W b' t' l' p) (hV : Below W.heap.size W V) :
    Calls Tryd.prog 11 #[.agg (tv t).toArray, .agg (tv t').toArray] V (fun e w' => e = .returned (.bool true) ∧ Below V.heap.size V w') := by
  have := refsameT_any (h.tok.below hV) (h'.tok.below hV) hV.size hV.size
  rw [h.is, h'.is, show sameP p p = true by simp [sameP, eqL, eqB]] at this
  exact this
/-- The worlds of the last region: the two new tokens stand, the two old variables are there. -/
structure SW (w0 : World) (base b1 b2 b3 b4 : Nat) (t3 t4 : TokZ) (l3 l4 : List GrantZ) (p : PTok) (W : World) : Prop where
  h3 : Held W b3 t3 l3 p
  h4 : Held W b4 t4 l4 p
  x1 : ∃ t, Box W b1 t
  x2 : ∃ t, Box W b2 t
  below : Below base w0 W
theorem SW.grow {w0 W W' : World} {base b1 b2 b3 b4 : Nat} {t3 t4 : TokZ} {l3 l4 : List GrantZ} {p : PTok} (h : SW w0 base b1 b2 b3 b4 t3 t4 l3 l4 p W) (hB : base ≤ W.heap.size) (hb : Below W.heap.size W W') : SW w0 base b1 b2 b3 b4 t3 t4 l3 l4 p W' :=
  ⟨h.h3.grow hb, h.h4.grow hb, h.x1.elim fun t ht => ⟨t, ht.grow hb⟩, h.x2.elim fun t ht => ⟨t, ht.grow hb⟩, h.below.trans (hb.mono hB)⟩
/-- A store into another variable, in which no line lies. -/
theorem Held.put {W W' : World} {b b' o : Nat} {t : TokZ} {l : List GrantZ} {p : PTok} {vs : List Value} (h : Held W b t l p) (hb : b' ≠ b) (hA : ∀ c off, t.A = some ⟨c, off, none⟩ → c ≠ b') (e : Hid (W' = W.setCells b' o vs)) : Held W' b t l p :=
  ⟨h.box.farH hb e, ⟨h.tok.len, h.tok.bytes, h.tok.tn, (h.tok.line.otherH hA e).more (size_storeH e), h.tok.mc, h.tok.cm⟩, h.is⟩
theorem Held.copy {W W' : World} {b b' : Nat} {t u : TokZ} {l : List GrantZ} {p : PTok} (h : Held W b t l p) (hx : Box W b' u) (hA : ∀ c off, t.A = some ⟨c, off, none⟩ → c ≠ b') (e : Hid (W' = W.setCells b' 0 (tv t).toArray.toList)) : Held W' b' t l p :=
  ⟨hx.storeH h.tok.len e, ⟨h.tok.len, h.tok.bytes, h.tok.tn, (h.tok.line.otherH hA e).more (size_storeH e), h.tok.mc, h.tok.cm⟩, h.is⟩
set_option maxRecDepth 100000 in
set_option maxHeartbeats 8000000 in
theorem mints_any (A1 : Option Addr) (n c1 : Nat) (ks : List Int) (tn : Int) (A : Option Addr) (m c : Nat) (l : List GrantZ) (w : World) (hk : Bs w w.heap.size A1 n ks) (hn : n ≤ maxLen) (htn : -9223372036854775808 ≤ tn ∧ tn ≤ 9223372036854775807) (hl : Grants w w.heap.size A m l) (hm : m ≤ maxLen) (hF : LaidF w) (hK : LaidK w) :
    Calls Tryd.prog 3 #[.slice A1 n c1, .int .i64 tn, .slice A m c] w (fun e w' => e = .returned (.bool true) ∧ Below w.heap.size w w') := by
  have HF := Lib.hid hF
  have HK := Lib.hid hK
  have KEY := Lib.hid hk
  have LIN := Lib.hid hl
  have HTN : Hid (InR tn) := Lib.hid (by unfold InR; omega)
  unfold maxLen at hn hm
  clear hk hl hF hK htn
  by_cases h200 : 200 < n
  · have nI : 200 < (n : Int) := by omega
    go_enter Tryd.func3, Tryd.ntmps3
    go_wp2_with (go_at_call 8; refine (tawake_any _ HF.out HK.out).mono ?_; rintro e w20 ⟨rfl, hb20⟩; have B20 := Lib.hid hb20; clear hb20)
    go_ret
    exact ⟨rfl, B20.out⟩
  have nI : ¬ (200 < (n : Int)) := by omega
  by_cases hm0 : m = 0
  · have mI : ((m : Int) == 0) = true := by simp; omega
    clear hm0
    go_enter Tryd.func3, Tryd.ntmps3
    go_wp2_with (go_at_call 8; refine (tawake_any _ HF.out HK.out).mono ?_; rintro e w20 ⟨rfl, hb20⟩; have B20 := Lib.hid hb20; clear hb20)
    go_ret
    exact ⟨rfl, B20.out⟩
  have mI : ((m : Int) == 0) = false := by simp; omega
  by_cases hm10 : 10 < m
  · have mJ : 10 < (m : Int) := by omega
    clear hm0
    go_enter Tryd.func3, Tryd.ntmps3
    go_wp2_with (go_at_call 8; refine (tawake_any _ HF.out HK.out).mono ?_; rintro e w20 ⟨rfl, hb20⟩; have B20 := Lib.hid hb20; clear hb20)
    go_ret
    exact ⟨rfl, B20.out⟩
  have mJ : ¬ (10 < (m : Int)) := by omega
  have hm1 : 0 < m := by omega
  clear hm0
  obtain ⟨lb, lo, g, rfl, hlb, HG, hgo, d0, d1, d2⟩ := LIN.out.at_ (k := 0) hm1
  rw [Nat.zero_mul, Nat.add_zero] at d0 d1 d2
  have HGO := Lib.hid hgo
  have O1 := Lib.hid (own_nil8 w w.heap.size (Nat.le_refl _))
  have BA : Hid (Below w.heap.size w (w.alloc (.cells #[] 5))) := Lib.hid ((Below.refl _ _).alloc (Nat.le_refl _) _)
  have HL1 := Lib.hid ((KEY.out.below BA.out).lies)
  clear hgo
  go_enter Tryd.func3, Tryd.ntmps3
  go_upto_region 4 with (at_builtin; refine wpList_app _ rfl (.tmp 32) (.tmp 33) 22 rfl w.heap.size 5 1 1 Tryd.underlying22 u8_info (by omega) _ 0 (vals []) rfl O1.out A1 n c1 (vals ks) rfl HL1.out.1 HL1.out.2 (vals_one _) (by unfold maxLen; omega) (by omega) BA.out.size ?_; intro v1 w1 ho1 hg1; have b1 := (BA.out.grown hg1 BA.out.size (fun k hk => (O1.out.lt k hk).1)); rw [Nat.zero_add] at ho1; obtain ⟨D1, q1, rfl, hd1, hd2⟩ := own_shape ho1)
  have Z1 : Hid (Bs w1 w1.heap.size D1 n ks) := Lib.hid (bs_of_own (by rw [show vals ks = vals [] ++ vals ks from rfl]; exact ho1) KEY.out.isBytes)
  have B1 := Lib.hid b1
  have F1 := Lib.hid (HF.out.below b1 HF.out.lt)
  have K1 := Lib.hid (HK.out.below b1 HK.out.lt)
  have e0 := (b1.cell (p := ⟨lb, lo, none⟩) hlb).trans d0
  have e1 := (b1.cell (p := ⟨lb, lo + 1, none⟩) hlb).trans d1
  have e2 := (b1.cell (p := ⟨lb, lo + 2, none⟩) hlb).trans d2
  obtain ⟨p, hp⟩ : ∃ x, (mintP ks tn g).1 = x := ⟨_, rfl⟩
  obtain ⟨k, hk⟩ : ∃ x, (mintP ks tn g).2 = x := ⟨_, rfl⟩
  have hpk : mintP ks tn g = (p, k) := Prod.ext hp hk
  have HPK := Lib.hid hpk
  have hnek : (k != k) = false := bne_self_eq_false k
  have HPL0 : Hid (p.l.length ≤ 4) := Lib.hid (by rw [← hp]; exact mintP_four ks tn g)
  have MN := Lib.hid (mint_val q1 (p, k) Z1.out (Nat.le_refl _) (by omega) tn HTN.out g HGO.out F1.out K1.out hpk)
  clear d0 d1 d2 ho1 hg1 b1 hp hk hpk hd1 hd2
  go_upto_region 5 with (first
    | (go_at_call 9; refine MN.out.mono ?_; rintro e w2 ⟨t2, l2, rfl, k2, p2, b2, n2⟩; have T2 := Lib.hid (box_thereN w2 k2.len 28 _ rfl); have F2 := T2)
    | (have g := F2; clear g; refine wpList_store_as (op := ⟨none, .store 28 (.tmp 8) (.tmp 42), _, _, _, _⟩) rfl 28 (.tmp 8) (.tmp 42) rfl (w2.heap.size) 0 (tv t2).toArray rfl rfl T2.out (tok_sizeA k2.len) (tok_one _) ?_; intro w3 hw3; clear F2))
  obtain ⟨t3, b3⟩ := held_new k2 p2 rfl hw3
  obtain ⟨vt, hvt⟩ : ∃ g, w2.heap.size = g := ⟨_, rfl⟩
  rw [hvt] at t3
  simp only [hvt]
  have B13 := Lib.hid (b2.trans (b3.mono b2.size))
  have V3 : Hid (w.heap.size ≤ vt) := Lib.hid (by have := b2.size; have := B1.out.size; omega)
  have H3 := Lib.hid t3
  have B3 := Lib.hid (B1.out.trans (B13.out.mono B1.out.size))
  have KEY3 := Lib.hid (KEY.out.below B3.out)
  have f0 := (B13.out.cell (p := ⟨lb, lo, none⟩) (Nat.lt_of_lt_of_le hlb B1.out.size)).trans e0
  have f1 := (B13.out.cell (p := ⟨lb, lo + 1, none⟩) (Nat.lt_of_lt_of_le hlb B1.out.size)).trans e1
  have f2 := (B13.out.cell (p := ⟨lb, lo + 2, none⟩) (Nat.lt_of_lt_of_le hlb B1.out.size)).trans e2
  have RM := Lib.hid (refmint_any c1 KEY3.out B3.out.size (by omega) tn HTN.out g HGO.out)
  rw [HPK.out] at RM
  clear e0 e1 e2 hw3 t3 b3 hvt k2 p2 b2 n2 T2 MN
  go_upto_region 6 with (first
    | (go_at_call 10; refine RM.out.mono ?_; rintro e w4 ⟨u4, l4, rfl, k4, p4, b4, n4⟩; have T4 := Lib.hid (box_thereN w4 k4.len 28 _ rfl); have F4 := T4)
    | (have g := F4; clear g; refine wpList_store_as (op := ⟨none, .store 28 (.tmp 10) (.tmp 51), _, _, _, _⟩) rfl 28 (.tmp 10) (.tmp 51) rfl (w4.heap.size) 0 (tv u4).toArray rfl rfl T4.out (tok_sizeA k4.len) (tok_one _) ?_; intro w5 hw5; clear F4))
  obtain ⟨t5, b5⟩ := held_new k4 p4 rfl hw5
  obtain ⟨vu, hvu⟩ : ∃ g, w4.heap.size = g := ⟨_, rfl⟩
  rw [hvu] at t5
  simp only [hvu]
  have B35 := Lib.hid (b4.trans (b5.mono b4.size))
  have V5 : Hid (w.heap.size ≤ vu ∧ vt < vu ∧ w.heap.size ≤ vt) := Lib.hid (by have := b4.size; have := V3.out; have := H3.out.box.lt; omega)
  have HU5 := Lib.hid t5
  have HT5 := Lib.hid (H3.out.grow B35.out)
  have B5 := Lib.hid (B3.out.trans (B35.out.mono B3.out.size))
  have B15 := Lib.hid (B13.out.trans (B35.out.mono B13.out.size))
  have Z5 := Lib.hid (Z1.out.below B15.out)
  have KEY5 := Lib.hid (KEY.out.below B5.out)
  have X5 := Lib.hid HT5.out.box
  have Y5 := Lib.hid HU5.out.box
  have M5 := X5
  have N5 := Y5
  have SM := Lib.hid (HT5.out.rscall HU5.out (Below.refl _ _))
  clear f0 f1 f2 hw5 t5 b5 hvu k4 p4 b4 n4 T4 RM
  have EK := Lib.hid (show eqB ks ks = true by simp [eqB])
  go_upto_region 8 with (first
    | (have g := M5; clear g; refine wpList_load_guard (op := ⟨some 57, .load 28 (.tmp 8), _, _, _, some (3, false)⟩) (by rfl) 28 (.tmp 8) rfl (vt) 0 rfl (tv t2) _ X5.out.range Tryd.underlying28 rfl (tok_size X5.out.len) ?_; clear M5)
    | (have g := N5; clear g; refine wpList_load_guard (op := ⟨some 58, .load 28 (.tmp 10), _, _, _, some (3, false)⟩) (by rfl) 28 (.tmp 10) rfl (vu) 0 rfl (tv u4) _ Y5.out.range Tryd.underlying28 rfl (tok_size Y5.out.len) ?_; clear N5)
    | (go_at_call 11; refine SM.out.mono ?_; rintro e w6 ⟨rfl, hb6⟩; have B6 := Lib.hid hb6; have ZK := Lib.hid (lsame_any q1 c1 true (Z5.out.below (hb6.mono B15.out.size)) (KEY5.out.below (hb6.mono B5.out.size)) EK.out); clear hb6)
    | (go_at_call 12; refine ZK.out.mono ?_; rintro e w7 ⟨rfl, rfl⟩))
  have HT6 := Lib.hid (HT5.out.grow B6.out)
  have HU6 := Lib.hid (HU5.out.grow B6.out)
  have B06 := Lib.hid (B5.out.trans (B6.out.mono B5.out.size))
  clear HT5 HU5 X5 Y5 Z5 KEY5 B5 B15 SM ZK EK Z1 B1 F1 K1 H3 B13 B3 KEY3 O1 BA HL1 B35 V3
  go_upto_region 9 with fail
  go_loopw [12] (fun i wr => ∃ j : Nat, 0 < j ∧ j ≤ m ∧ i = .int .i64 j ∧ ∃ p t lt u lu, Hid (p.l.length ≤ 4) ∧ Hid (Held wr vt t lt p) ∧ Hid (Held wr vu u lu p) ∧ Hid (Below w.heap.size w wr)) (fun i _ => m - (intOf i).toNat)
  case atStart => exact ⟨1, by omega, by omega, rfl, p, t2, l2, u4, l4, HPL0, HT6, HU6, B06⟩
  case round =>
    obtain ⟨j, hj0, hj, rfl, p, t, lt, u, lu, HPL, HT, HU, HB⟩ := hrel
    clear HT6 HU6 B06 HPK HPL0
    by_cases hlt : j < m
    · have hltI : (j : Int) < (m : Int) := by omega
      obtain ⟨b2, o2, x, e2, hb2, HXK, hxo, d0, d1, d2⟩ := (LIN.out.below HB.out).at_ hlt
      obtain ⟨rfl, rfl⟩ : lb = b2 ∧ lo = o2 := by simpa using e2
      have hbw : lb < wr.heap.size := Nat.lt_of_lt_of_le hb2 HB.out.size
      have CX : Hid (∀ W, Below wr.heap.size wr W → W.cell? ⟨lb, lo + j * 3, none⟩ = some (.int .u8 x.r) ∧ W.cell? ⟨lb, lo + j * 3 + 1, none⟩ = some (.int .i64 x.x) ∧ W.cell? ⟨lb, lo + j * 3 + 2, none⟩ = some (.int .i64 x.s)) := Lib.hid (fun W hW =>
        ⟨(hW.cell (p := ⟨lb, lo + j * 3, none⟩) hbw).trans d0, (hW.cell (p := ⟨lb, lo + j * 3 + 1, none⟩) hbw).trans d1, (hW.cell (p := ⟨lb, lo + j * 3 + 2, none⟩) hbw).trans d2⟩)
      have HXO := Lib.hid hxo
      have HSV : Hid (vt < wr.heap.size ∧ vu < wr.heap.size) := Lib.hid ⟨HT.out.box.lt, HU.out.box.lt⟩
      obtain ⟨p', hp⟩ : ∃ y, (attP p x).1 = y := ⟨_, rfl⟩
      obtain ⟨k', hk⟩ : ∃ y, (attP p x).2 = y := ⟨_, rfl⟩
      have HPK : Hid (attP p x = (p', k')) := Lib.hid (Prod.ext hp hk)
      have hnek' : (k' != k') = false := bne_self_eq_false k'
      have HPL2 : Hid (p'.l.length ≤ 4) := Lib.hid (by rw [← hp]; exact attP_four p x)
      have CP := Lib.hid (copied_any HT.out.tok (Nat.le_refl _) (by have h1 := HT.out.tok.line.len; have h2 := HPL.out; rw [← HT.out.is] at h2; have h3 : lt.length ≤ 4 := h2; omega))
      have XT := Lib.hid HT.out.box
      have M1 := XT
      clear e2 d0 d1 d2 hxo hp hk hnek
      go_upto_region 12 with (first
        | (have g := M1; clear g; refine wpList_load_mid (op := ⟨some 74, .load 28 (.tmp 8), _, _, _, _⟩) rfl 28 (.tmp 8) rfl (vt) 0 rfl (tv t) _ XT.out.range Tryd.underlying28 rfl (tok_size XT.out.len) ?_; clear M1)
        | (go_at_call 13; refine CP.out.mono ?_; rintro e w7 ⟨v, rfl, k7, p7, m7, b7⟩; have T7 := Lib.hid (box_thereN w7 k7.len 28 _ rfl); have F7 := T7)
        | (have g := F7; clear g; refine wpList_store_as (op := ⟨none, .store 28 (.tmp 13) (.tmp 75), _, _, _, _⟩) rfl 28 (.tmp 13) (.tmp 75) rfl (w7.heap.size) 0 (tv v).toArray rfl rfl T7.out (tok_sizeA k7.len) (tok_one _) ?_; intro w8 hw8; clear F7))
      obtain ⟨t8, b8⟩ := held_new k7 (p7.trans HT.out.is) rfl hw8
      obtain ⟨vi, hvi⟩ : ∃ g, w7.heap.size = g := ⟨_, rfl⟩
      rw [hvi] at t8
      simp only [hvi]
      have R8 := Lib.hid (b7.trans (b8.mono b7.size))
      have HI := Lib.hid t8
      have HU8 := Lib.hid (HU.out.grow R8.out)
      have HT8 := Lib.hid (HT.out.grow R8.out)
      have B8 := Lib.hid (HB.out.trans (R8.out.mono HB.out.size))
      clear hw8 t8 b8 hvi k7 p7 b7 T7 CP XT
      have AT : Hid (∀ W, Below w8.heap.size w8 W → Calls Tryd.prog 14 #[.agg (tv v).toArray, .agg #[.int .u8 x.r, .int .i64 x.x, .int .i64 x.s]] W (Gives W (p', k'))) := Lib.hid (fun W hW => by
        have hbel := B8.out.trans (hW.mono B8.out.size)
        exact att_val _ (HI.out.tok.below hW) hW.size x HXO.out (HF.out.below hbel HF.out.lt) (HK.out.below hbel HK.out.lt) (by rw [HI.out.is]; exact HPK.out))
      have LI := Lib.hid HI.out.tok.len
      have CX8 : Hid (∀ W, Below w8.heap.size w8 W → W.cell? ⟨lb, lo + j * 3, none⟩ = some (.int .u8 x.r) ∧ W.cell? ⟨lb, lo + j * 3 + 1, none⟩ = some (.int .i64 x.x) ∧ W.cell? ⟨lb, lo + j * 3 + 2, none⟩ = some (.int .i64 x.s)) := Lib.hid (fun W hW => CX.out W (R8.out.trans (hW.mono R8.out.size)))
      refine Late.region (fun w' => Below w8.heap.size w8 w') [11] (by kernel_rfl) ((Below.refl _ _).drew) (fun hHeld => ?_)
      refine Late.take (i := 0) (oi := ⟨some 77, Op.load 28 (Operand.tmp 13), _, _, _, _⟩) (v := _) rfl (by kernel_rfl) (by kernel_rfl) (by kernel_rfl) (by kernel_rfl) (fun _ _ _ h => h) (yieldsIf_load_mid (by rfl) _ _ rfl _ _ rfl (tv v) _ (fun _ h => (HI.out.grow h).box.range) Tryd.underlying28 rfl (tok_size LI.out)) (by assumption) ?_
      try simp only [Act.put, List.setIfInBounds_toArray, List.set_cons_zero, List.set_cons_succ]
      refine Late.take (i := 1) (oi := ⟨some 78, Op.move (Operand.tmp 2), _, _, _, _⟩) (v := ?_) rfl (by kernel_rfl) (by kernel_rfl) (by kernel_rfl) (by kernel_rfl) (fun _ _ _ h => h) (Or.inl ⟨by rfl, fun w hSw => ?_⟩) (by assumption) ?_
      rotate_left
      · (have s1 := hSw; go_simp; try with_reducible rfl)
      try simp only [Act.put, List.setIfInBounds_toArray, List.set_cons_zero, List.set_cons_succ]
      refine Late.take (i := 2) (oi := ⟨some 79, Op.move (Operand.tmp 12), _, _, _, _⟩) (v := ?_) rfl (by kernel_rfl) (by kernel_rfl) (by kernel_rfl) (by kernel_rfl) (fun _ _ _ h => h) (Or.inl ⟨by rfl, fun w hSw => ?_⟩) (by assumption) ?_
      rotate_left
      · (have s1 := hSw; go_simp; try with_reducible rfl)
      try simp only [Act.put, List.setIfInBounds_toArray, List.set_cons_zero, List.set_cons_succ]
      refine Late.take (i := 3) (oi := ⟨some 80, Op.indexAddr 23 (Operand.tmp 78) (Operand.tmp 79), _, _, _, _⟩) (v := ?_) rfl (by kernel_rfl) (by kernel_rfl) (by kernel_rfl) (by kernel_rfl) (fun _ _ _ h => h) (Or.inl ⟨by rfl, fun w hSw => ?_⟩) (by assumption) ?_
      rotate_left
      · (have s1 := hSw; go_simp; try with_reducible rfl)
      try simp only [Act.put, List.setIfInBounds_toArray, List.set_cons_zero, List.set_cons_succ]
      refine Late.take (i := 4) (oi := ⟨some 81, Op.load 33 (Operand.tmp 80), _, _, _, _⟩) (v := ?_) rfl (by kernel_rfl) (by kernel_rfl) (by kernel_rfl) (by kernel_rfl) (fun _ _ _ h => h) (Or.inl ⟨by rfl, fun w hSw => ?_⟩) (by assumption) ?_
      rotate_left
      · (have s1 := hSw; obtain ⟨q0, q1, q2⟩ := CX8.out _ s1; go_simp; try with_reducible rfl)
      try simp only [Act.put, List.setIfInBounds_toArray, List.set_cons_zero, List.set_cons_succ]
      refine Late.ordersS (fun zb i => match i with | 5 => if zb then sfTrue else sfGives w8.heap.size p' k' | 6 => if zb then sfTup k' else sfGives w8.heap.size p' k' | 7 => if zb then sfTrue else sfTokV w8.heap.size p' | 8 => sfIs (.int .i64 k') | 9 => if zb then sfHeld w8.heap.size p' else sfBoxT w8.heap.size | _ => sfTrue) [5, 6, 7, 8, 9] [8] 10 [82, 76, 83, 84, 14] (f0 := 1) (by kernel_rfl) rfl rfl (by kernel_rfl) (by kernel_rfl) rfl (by kernel_rfl) hHeld (fun w w' h hb => h.trans (hb.mono h.size)) ?_ ?_ ?_
      · intro i hi
        simp only [List.mem_cons, List.not_mem_nil, or_false] at hi
        rcases hi with rfl | rfl | rfl | rfl | rfl
        · refine StepS.of (o := ⟨some 82, Op.call { callee := Callee.value (Operand.func 14), args := #[Operand.tmp 77, Operand.tmp 81], argTypes := #[28, 33] }, _, _, _, _⟩) rfl (fun zb a w K hz hS hA hD hK => ?_)
          cases zb
          case true => exact absurd (hz rfl) (by decide)
          have e77 : a.tmps[77]?.getD undef = .agg (tv v).toArray := hA.get 77 rfl
          have e81 : a.tmps[81]?.getD undef = .agg #[.int .u8 x.r, .int .i64 x.x, .int .i64 x.s] := hA.get 81 rfl
          rw [if_pos (by rfl)]
          go_simp
          refine (AT.out _ hS).mono ?_
          rintro e w5 ⟨t5, l5, rfl, k5, p5, b5, n5⟩
          exact hK.out _ _ b5 ⟨t5, l5, rfl, k5, p5, fun b' off hq => Nat.le_trans hS.size (n5 b' off hq)⟩
        · refine StepS.of (o := ⟨some 76, Op.move (Operand.tmp 82), _, _, _, _⟩) rfl (fun zb a w K hz hS hA hD hK => ?_)
          cases zb
          case true => exact absurd (hz rfl) (by decide)
          obtain ⟨t5, l5, e5, k5, p5, n5⟩ : (sfGives w8.heap.size p' k').F (a.tmps[82]?.getD undef) w := hD 5 82 rfl (by kernel_rfl) (by kernel_rfl)
          rw [if_pos (by rfl)]
          refine wp_exec (.tuple #[.agg (tv t5).toArray, .int .i64 k']) (by simp [execOp, Act.eval, e5]) ?_
          exact hK.out _ _ (Below.refl _ _) ⟨t5, l5, rfl, k5, p5, n5⟩
        · refine StepS.of (o := ⟨some 83, Op.extract (Operand.tmp 76) 0, _, _, _, _⟩) rfl (fun zb a w K hz hS hA hD hK => ?_)
          cases zb
          case true => exact absurd (hz rfl) (by decide)
          obtain ⟨t5, l5, e5, k5, p5, n5⟩ : (sfGives w8.heap.size p' k').F (a.tmps[76]?.getD undef) w := hD 6 76 rfl (by kernel_rfl) (by kernel_rfl)
          rw [if_pos (by rfl)]
          go_simp
          exact hK.out _ _ (Below.refl _ _) ⟨t5, l5, rfl, k5, p5, n5⟩
        · refine StepS.of (o := ⟨some 84, Op.extract (Operand.tmp 76) 1, _, _, _, _⟩) rfl (fun zb a w K hz hS hA hD hK => ?_)
          have e5 : ∃ y, a.tmps[76]?.getD undef = .tuple #[y, .int .i64 k'] := by
            cases zb
            · obtain ⟨t5, l5, e5, _⟩ : (sfGives w8.heap.size p' k').F (a.tmps[76]?.getD undef) w := hD 6 76 rfl (by kernel_rfl) (by kernel_rfl)
              exact ⟨_, e5⟩
            · exact (show (sfTup k').F (a.tmps[76]?.getD undef) w from hD 6 76 rfl (by kernel_rfl) (by kernel_rfl))
          obtain ⟨y, e5⟩ := e5
          rw [if_pos (by rfl)]
          go_simp
          exact hK.out _ _ (Below.refl _ _) rfl
        · refine StepS.of (o := ⟨some 14, Op.alloc 28, _, _, _, _⟩) rfl (fun zb a w K hz hS hA hD hK => ?_)
          cases zb
          case true => exact absurd (hz rfl) (by decide)
          rw [if_pos (by rfl)]
          go_simp
          simp only [zTok]
          exact hK.out _ _ ((Below.refl _ _).alloc (Nat.le_refl _) _) ⟨_, rfl, hS.size, box_new w tok0 rep32 _ _ rfl, heap_alloc_new w _⟩
      · refine TurnS.of (o := ⟨none, Op.store 28 (Operand.tmp 14) (Operand.tmp 83), _, _, _, _⟩) rfl (fun a w K hS hA hD hK => ?_)
        obtain ⟨t5, l5, e5, k5, p5, n5⟩ : (sfTokV w8.heap.size p').F (a.tmps[83]?.getD undef) w := hD 7 83 rfl (by kernel_rfl) (by kernel_rfl)
        obtain ⟨b, eb, hb0, hx, hh⟩ : (sfBoxT w8.heap.size).F (a.tmps[14]?.getD undef) w := hD 9 14 rfl (by kernel_rfl) (by kernel_rfl)
        rw [if_pos (by rfl)]
        refine wp_store_mid 28 (.tmp 14) (.tmp 83) rfl b 0 (tv t5).toArray (ev_tmp eb) (ev_tmp e5) (hx.thereA k5.len) (tok_sizeA k5.len) (tok_one _) ?_
        have he : Hid (w.setCells b 0 (tv t5) = w.setCells b 0 (tv t5).toArray.toList) := Lib.hid rfl
        refine hK.out _ (below_storeH hS hb0 he) (fun j s hj hs hf => ?_)
        simp only [List.contains_iff_mem, List.mem_cons, List.not_mem_nil, or_false] at hj
        rcases hj with rfl | rfl | rfl | rfl | rfl
        · trivial
        · obtain ⟨t6, l6, e6, _⟩ := hf
          exact ⟨_, e6⟩
        · trivial
        · exact hf
        · subst hs
          exact ⟨b, eb, hb0, t5, l5, ⟨hx.storeH k5.len he, ⟨k5.len, k5.bytes, k5.tn, (k5.line.offNew hh he).more (size_storeH he), k5.mc, k5.cm⟩, p5⟩, n5⟩
      intro a w9 hS hA hV
      have e84 : a.tmps[84]?.getD undef = .int .i64 k' := hV 8 84 rfl (by kernel_rfl)
      obtain ⟨ba, e14, hheld⟩ : (sfHeld w8.heap.size p').F (a.tmps[14]?.getD undef) w9 := hV 9 14 rfl (by kernel_rfl)
      have eA := hA.eq
      simp only [List.foldl_cons, List.foldl_nil] at eA
      rw [e84, e14] at eA
      generalize a.tmps[82]?.getD undef = v82 at eA
      generalize a.tmps[76]?.getD undef = v76 at eA
      generalize a.tmps[83]?.getD undef = v83 at eA
      clear hHeld hA hV e84 e14
      subst eA
      try simp only [Act.put, List.setIfInBounds_toArray, List.set_cons_zero, List.set_cons_succ]
      refine Late.end_ (i := 11) (o := ⟨some 15, Op.assign (Operand.tmp 84), _, _, _, _⟩) (by kernel_rfl) rfl rfl (fun K hK => ?_)
      go_simp
      refine hK.out _ _ ?_
      clear hK K
      try simp only [Act.put, List.setIfInBounds_toArray, List.set_cons_zero, List.set_cons_succ]
      refine Late.done (by kernel_rfl) ?_ _
      refine NoPanic.normal ?_
      obtain ⟨hba, ta, la, ha, na⟩ := hheld
      have HA := Lib.hid ha
      have NA := Lib.hid (And.intro hba na)
      have R9 := Lib.hid hS
      clear ha hba na hS AT CX
      have HI9 := Lib.hid (HI.out.grow R9.out)
      have HU9 := Lib.hid (HU8.out.grow R9.out)
      have HT9 := Lib.hid (HT8.out.grow R9.out)
      have B9 := Lib.hid (B8.out.trans (R9.out.mono B8.out.size))
      have AT : Hid (∀ W, Below w9.heap.size w9 W → Calls Tryd.prog 15 #[.agg (tv u).toArray, .agg #[.int .u8 x.r, .int .i64 x.x, .int .i64 x.s]] W (Gives W (p', k'))) := Lib.hid (fun W hW => by
        have := refatt_any (HU9.out.tok.below hW) hW.size x HXO.out
        rw [HU9.out.is, HPK.out] at this
        exact this)
      have LU := Lib.hid HU9.out.tok.len
      have CX9 : Hid (∀ W, Below w9.heap.size w9 W → W.cell? ⟨lb, lo + j * 3, none⟩ = some (.int .u8 x.r) ∧ W.cell? ⟨lb, lo + j * 3 + 1, none⟩ = some (.int .i64 x.x) ∧ W.cell? ⟨lb, lo + j * 3 + 2, none⟩ = some (.int .i64 x.s)) := Lib.hid (fun W hW => CX8.out W (R9.out.trans (hW.mono R9.out.size)))
      go_upto_region 13 with fail
      refine Late.region (fun w' => Below w9.heap.size w9 w') [11] (by kernel_rfl) ((Below.refl _ _).drew) (fun hHeld => ?_)
      refine Late.take (i := 0) (oi := ⟨some 86, Op.load 28 (Operand.tmp 10), _, _, _, _⟩) (v := _) rfl (by kernel_rfl) (by kernel_rfl) (by kernel_rfl) (by kernel_rfl) (fun _ _ _ h => h) (yieldsIf_load_mid (by rfl) _ _ rfl _ _ rfl (tv u) _ (fun _ h => (HU9.out.grow h).box.range) Tryd.underlying28 rfl (tok_size LU.out)) (by assumption) ?_
      try simp only [Act.put, List.setIfInBounds_toArray, List.set_cons_zero, List.set_cons_succ]
      refine Late.take (i := 1) (oi := ⟨some 87, Op.move (Operand.tmp 2), _, _, _, _⟩) (v := ?_) rfl (by kernel_rfl) (by kernel_rfl) (by kernel_rfl) (by kernel_rfl) (fun _ _ _ h => h) (Or.inl ⟨by rfl, fun w hSw => ?_⟩) (by assumption) ?_
      rotate_left
      · (have s1 := hSw; go_simp; try with_reducible rfl)
      try simp only [Act.put, List.setIfInBounds_toArray, List.set_cons_zero, List.set_cons_succ]
      refine Late.take (i := 2) (oi := ⟨some 88, Op.move (Operand.tmp 12), _, _, _, _⟩) (v := ?_) rfl (by kernel_rfl) (by kernel_rfl) (by kernel_rfl) (by kernel_rfl) (fun _ _ _ h => h) (Or.inl ⟨by rfl, fun w hSw => ?_⟩) (by assumption) ?_
      rotate_left
      · (have s1 := hSw; go_simp; try with_reducible rfl)
      try simp only [Act.put, List.setIfInBounds_toArray, List.set_cons_zero, List.set_cons_succ]
      refine Late.take (i := 3) (oi := ⟨some 89, Op.indexAddr 23 (Operand.tmp 87) (Operand.tmp 88), _, _, _, _⟩) (v := ?_) rfl (by kernel_rfl) (by kernel_rfl) (by kernel_rfl) (by kernel_rfl) (fun _ _ _ h => h) (Or.inl ⟨by rfl, fun w hSw => ?_⟩) (by assumption) ?_
      rotate_left
      · (have s1 := hSw; go_simp; try with_reducible rfl)
      try simp only [Act.put, List.setIfInBounds_toArray, List.set_cons_zero, List.set_cons_succ]
      refine Late.take (i := 4) (oi := ⟨some 90, Op.load 33 (Operand.tmp 89), _, _, _, _⟩) (v := ?_) rfl (by kernel_rfl) (by kernel_rfl) (by kernel_rfl) (by kernel_rfl) (fun _ _ _ h => h) (Or.inl ⟨by rfl, fun w hSw => ?_⟩) (by assumption) ?_
      rotate_left
      · (have s1 := hSw; obtain ⟨q0, q1, q2⟩ := CX9.out _ s1; go_simp; try with_reducible rfl)
      try simp only [Act.put, List.setIfInBounds_toArray, List.set_cons_zero, List.set_cons_succ]
      refine Late.ordersS (fun zb i => match i with | 5 => if zb then sfTrue else sfGives w9.heap.size p' k' | 6 => if zb then sfTup k' else sfGives w9.heap.size p' k' | 7 => if zb then sfTrue else sfTokV w9.heap.size p' | 8 => sfIs (.int .i64 k') | 9 => if zb then sfHeld w9.heap.size p' else sfBoxT w9.heap.size | _ => sfTrue) [5, 6, 7, 8, 9] [8] 10 [91, 85, 92, 93, 16] (f0 := 1) (by kernel_rfl) rfl rfl (by kernel_rfl) (by kernel_rfl) rfl (by kernel_rfl) hHeld (fun w w' h hb => h.trans (hb.mono h.size)) ?_ ?_ ?_
      · intro i hi
        simp only [List.mem_cons, List.not_mem_nil, or_false] at hi
        rcases hi with rfl | rfl | rfl | rfl | rfl
        · refine StepS.of (o := ⟨some 91, Op.call { callee := Callee.value (Operand.func 15), args := #[Operand.tmp 86, Operand.tmp 90], argTypes := #[28, 33] }, _, _, _, _⟩) rfl (fun zb a w K hz hS hA hD hK => ?_)
          cases zb
          case true => exact absurd (hz rfl) (by decide)
          have e86 : a.tmps[86]?.getD undef = .agg (tv u).toArray := hA.get 86 rfl
          have e90 : a.tmps[90]?.getD undef = .agg #[.int .u8 x.r, .int .i64 x.x, .int .i64 x.s] := hA.get 90 rfl
          rw [if_pos (by rfl)]
          go_simp
          refine (AT.out _ hS).mono ?_
          rintro e w5 ⟨t5, l5, rfl, k5, p5, b5, n5⟩
          exact hK.out _ _ b5 ⟨t5, l5, rfl, k5, p5, fun b' off hq => Nat.le_trans hS.size (n5 b' off hq)⟩
        · refine StepS.of (o := ⟨some 85, Op.move (Operand.tmp 91), _, _, _, _⟩) rfl (fun zb a w K hz hS hA hD hK => ?_)
          cases zb
          case true => exact absurd (hz rfl) (by decide)
          obtain ⟨t5, l5, e5, k5, p5, n5⟩ : (sfGives w9.heap.size p' k').F (a.tmps[91]?.getD undef) w := hD 5 91 rfl (by kernel_rfl) (by kernel_rfl)
          rw [if_pos (by rfl)]
          refine wp_exec (.tuple #[.agg (tv t5).toArray, .int .i64 k']) (by simp [execOp, Act.eval, e5]) ?_
          exact hK.out _ _ (Below.refl _ _) ⟨t5, l5, rfl, k5, p5, n5⟩
        · refine StepS.of (o := ⟨some 92, Op.extract (Operand.tmp 85) 0, _, _, _, _⟩) rfl (fun zb a w K hz hS hA hD hK => ?_)
          cases zb
          case true => exact absurd (hz rfl) (by decide)
          obtain ⟨t5, l5, e5, k5, p5, n5⟩ : (sfGives w9.heap.size p' k').F (a.tmps[85]?.getD undef) w := hD 6 85 rfl (by kernel_rfl) (by kernel_rfl)
          rw [if_pos (by rfl)]
          go_simp
          exact hK.out _ _ (Below.refl _ _) ⟨t5, l5, rfl, k5, p5, n5⟩
        · refine StepS.of (o := ⟨some 93, Op.extract (Operand.tmp 85) 1, _, _, _, _⟩) rfl (fun zb a w K hz hS hA hD hK => ?_)
          have e5 : ∃ y, a.tmps[85]?.getD undef = .tuple #[y, .int .i64 k'] := by
            cases zb
            · obtain ⟨t5, l5, e5, _⟩ : (sfGives w9.heap.size p' k').F (a.tmps[85]?.getD undef) w := hD 6 85 rfl (by kernel_rfl) (by kernel_rfl)
              exact ⟨_, e5⟩
            · exact (show (sfTup k').F (a.tmps[85]?.getD undef) w from hD 6 85 rfl (by kernel_rfl) (by kernel_rfl))
          obtain ⟨y, e5⟩ := e5
          rw [if_pos (by rfl)]
          go_simp
          exact hK.out _ _ (Below.refl _ _) rfl
        · refine StepS.of (o := ⟨some 16, Op.alloc 28, _, _, _, _⟩) rfl (fun zb a w K hz hS hA hD hK => ?_)
          cases zb
          case true => exact absurd (hz rfl) (by decide)
          rw [if_pos (by rfl)]
          go_simp
          simp only [zTok]
          exact hK.out _ _ ((Below.refl _ _).alloc (Nat.le_refl _) _) ⟨_, rfl, hS.size, box_new w tok0 rep32 _ _ rfl, heap_alloc_new w _⟩
      · refine TurnS.of (o := ⟨none, Op.store 28 (Operand.tmp 16) (Operand.tmp 92), _, _, _, _⟩) rfl (fun a w K hS hA hD hK => ?_)
        obtain ⟨t5, l5, e5, k5, p5, n5⟩ : (sfTokV w9.heap.size p').F (a.tmps[92]?.getD undef) w := hD 7 92 rfl (by kernel_rfl) (by kernel_rfl)
        obtain ⟨b, eb, hb0, hx, hh⟩ : (sfBoxT w9.heap.size).F (a.tmps[16]?.getD undef) w := hD 9 16 rfl (by kernel_rfl) (by kernel_rfl)
        rw [if_pos (by rfl)]
        refine wp_store_mid 28 (.tmp 16) (.tmp 92) rfl b 0 (tv t5).toArray (ev_tmp eb) (ev_tmp e5) (hx.thereA k5.len) (tok_sizeA k5.len) (tok_one _) ?_
        have he : Hid (w.setCells b 0 (tv t5) = w.setCells b 0 (tv t5).toArray.toList) := Lib.hid rfl
        refine hK.out _ (below_storeH hS hb0 he) (fun j s hj hs hf => ?_)
        simp only [List.contains_iff_mem, List.mem_cons, List.not_mem_nil, or_false] at hj
        rcases hj with rfl | rfl | rfl | rfl | rfl
        · trivial
        · obtain ⟨t6, l6, e6, _⟩ := hf
          exact ⟨_, e6⟩
        · trivial
        · exact hf
        · subst hs
          exact ⟨b, eb, hb0, t5, l5, ⟨hx.storeH k5.len he, ⟨k5.len, k5.bytes, k5.tn, (k5.line.offNew hh he).more (size_storeH he), k5.mc, k5.cm⟩, p5⟩, n5⟩
      intro a w10 hS hA hV
      have e93 : a.tmps[93]?.getD undef = .int .i64 k' := hV 8 93 rfl (by kernel_rfl)
      obtain ⟨bc, e16, hheld⟩ : (sfHeld w9.heap.size p').F (a.tmps[16]?.getD undef) w10 := hV 9 16 rfl (by kernel_rfl)
      have eA := hA.eq
      simp only [List.foldl_cons, List.foldl_nil] at eA
      rw [e93, e16] at eA
      generalize a.tmps[91]?.getD undef = v91 at eA
      generalize a.tmps[85]?.getD undef = v85 at eA
      generalize a.tmps[92]?.getD undef = v92 at eA
      clear hHeld hA hV e93 e16
      subst eA
      try simp only [Act.put, List.setIfInBounds_toArray, List.set_cons_zero, List.set_cons_succ]
      refine Late.end_ (i := 11) (o := ⟨some 17, Op.assign (Operand.tmp 93), _, _, _, _⟩) (by kernel_rfl) rfl rfl (fun K hK => ?_)
      go_simp
      refine hK.out _ _ ?_
      clear hK K
      try simp only [Act.put, List.setIfInBounds_toArray, List.set_cons_zero, List.set_cons_succ]
      refine Late.done (by kernel_rfl) ?_ _
      refine NoPanic.normal ?_
      obtain ⟨hbc, tc, lc, hc, nc⟩ := hheld
      have HC := Lib.hid hc
      have NC := Lib.hid (And.intro hbc nc)
      have R10 := Lib.hid hS
      clear hc hbc nc hS AT CX8 CX9
      have HI10 := Lib.hid (HI9.out.grow R10.out)
      have HU10 := Lib.hid (HU9.out.grow R10.out)
      have HT10 := Lib.hid (HT9.out.grow R10.out)
      have HA10 := Lib.hid (HA.out.grow R10.out)
      have B10 := Lib.hid (B9.out.trans (R10.out.mono B9.out.size))
      have P1 := Lib.hid HA10.out.box
      have P2 := Lib.hid HC.out.box
      have L1 := P1
      have L2 := P2
      have L3 := P2
      have L4 := P2
      have SM1 := Lib.hid (HA10.out.rscall HC.out (Below.refl _ _))
      go_upto_region 16 with (first
        | (have g := L1; clear g; refine wpList_load_guard (op := ⟨some 98, .load 28 (.tmp 14), _, _, _, some (3, false)⟩) (by rfl) 28 (.tmp 14) rfl (ba) 0 rfl (tv ta) _ P1.out.range Tryd.underlying28 rfl (tok_size P1.out.len) ?_; clear L1)
        | (have g := L2; clear g; refine wpList_load_guard (op := ⟨some 99, .load 28 (.tmp 16), _, _, _, some (3, false)⟩) (by rfl) 28 (.tmp 16) rfl (bc) 0 rfl (tv tc) _ P2.out.range Tryd.underlying28 rfl (tok_size P2.out.len) ?_; clear L2)
        | (have gg := SM1; clear gg; go_at_call 11; refine SM1.out.mono ?_; rintro e w11 ⟨rfl, hb11⟩; clear SM1; have R11 := Lib.hid hb11; have P3 := Lib.hid (HI10.out.grow hb11).box; have P4 := Lib.hid (HU10.out.grow hb11).box; have SM2 := Lib.hid (HI10.out.rscall HU10.out hb11); clear hb11)
        | (have g := L3; clear g; refine wpList_load_guard (op := ⟨some 104, .load 28 (.tmp 13), _, _, _, some (9, false)⟩) (by rfl) 28 (.tmp 13) rfl (vi) 0 rfl (tv v) _ P3.out.range Tryd.underlying28 rfl (tok_size P3.out.len) ?_; clear L3)
        | (have g := L4; clear g; refine wpList_load_guard (op := ⟨some 105, .load 28 (.tmp 10), _, _, _, some (9, false)⟩) (by rfl) 28 (.tmp 10) rfl (vu) 0 rfl (tv u) _ P4.out.range Tryd.underlying28 rfl (tok_size P4.out.len) ?_; clear L4)
        | (go_at_call 11; refine SM2.out.mono ?_; rintro e w12 ⟨rfl, hb12⟩; have R12 := Lib.hid (R11.out.trans (hb12.mono R11.out.size)); clear hb12))
      have HA12 := Lib.hid (HA10.out.grow R12.out)
      have HC12 := Lib.hid (HC.out.grow R12.out)
      have HT12 := Lib.hid (HT10.out.grow R12.out)
      have HU12 := Lib.hid (HU10.out.grow R12.out)
      have B12 := Lib.hid (B10.out.trans (R12.out.mono B10.out.size))
      have NE : Hid (vt ≠ ba ∧ vu ≠ ba ∧ vt ≠ bc ∧ vu ≠ bc ∧ vt ≠ vu) := Lib.hid (by
        have h1 := NA.out.1; have h2 := NC.out.1; have h3 := HSV.out; have h4 := R8.out.size; have h5 := R9.out.size; have h6 := V5.out
        omega)
      have NL : Hid ((∀ b' off, ta.A = some ⟨b', off, none⟩ → b' ≠ vt ∧ b' ≠ vu) ∧ (∀ b' off, tc.A = some ⟨b', off, none⟩ → b' ≠ vt ∧ b' ≠ vu)) := Lib.hid ⟨fun b' off hq => by
        have h1 := NA.out.2 b' off hq; have h3 := HSV.out; have h4 := R8.out.size
        omega, fun b' off hq => by
        have h1 := NC.out.2 b' off hq; have h3 := HSV.out; have h4 := R8.out.size; have h5 := R9.out.size
        omega⟩
      have LA := Lib.hid HA12.out.tok.len
      have LC := Lib.hid HC12.out.tok.len
      clear P1 P2 P3 P4 SM2 HA10 HC HT10 HU10 HI10 HI9 HU9 HT9 HA HI HU8 HT8 R8 R9 R10 R11 R12 B8 B9 B10 NA NC
      have V5' := Lib.hid (And.intro V5.out.2.2 V5.out.1)
      go_upto_region 16 with fail
      refine Late.region (fun w' => SW w w.heap.size vt vu ba bc ta tc la lc p' w') [3] (by kernel_rfl) ((show SW w w.heap.size vt vu ba bc ta tc la lc p' w12 from ⟨HA12.out, HC12.out, ⟨_, HT12.out.box⟩, ⟨_, HU12.out.box⟩, B12.out⟩).grow B12.out.size (Below.refl _ _).drew) (fun hHeld => ?_)
      refine Late.ordersS (fun zb i => match i with | 0 => if zb then sfStd (.agg (tv ta).toArray) vt ta la p' else sfIs (.agg (tv ta).toArray) | 1 => sfIs (.agg (tv tc).toArray) | _ => sfTrue) [0, 1] [1] 2 [109, 110] (f0 := 1) (by kernel_rfl) rfl rfl (by kernel_rfl) (by kernel_rfl) rfl (by kernel_rfl) hHeld (fun w w' h hb => h.grow h.below.size hb) ?_ ?_ ?_
      · intro i hi
        simp only [List.mem_cons, List.not_mem_nil, or_false] at hi
        rcases hi with rfl | rfl
        · refine StepS.of (o := ⟨some 109, Op.load 28 (Operand.tmp 14), _, _, _, _⟩) rfl (fun zb a w K hz hS hA hD hK => ?_)
          cases zb
          case true => exact absurd (hz rfl) (by decide)
          rw [if_pos (by rfl)]
          refine wp_load_mid 28 (.tmp 14) rfl ba 0 (ev_tmp (hA.get 14 rfl)) (tv ta) _ hS.h3.box.range Tryd.underlying28 rfl (tok_size LA.out) ?_
          exact hK.out _ _ (Below.refl _ _) rfl
        · refine StepS.of (o := ⟨some 110, Op.load 28 (Operand.tmp 16), _, _, _, _⟩) rfl (fun zb a w K hz hS hA hD hK => ?_)
          rw [if_pos (by rfl)]
          refine wp_load_mid 28 (.tmp 16) rfl bc 0 (ev_tmp (hA.get 16 rfl)) (tv tc) _ hS.h4.box.range Tryd.underlying28 rfl (tok_size LC.out) ?_
          exact hK.out _ _ (Below.refl _ _) rfl
      · refine TurnS.of (o := ⟨none, Op.store 28 (Operand.tmp 8) (Operand.tmp 109), _, _, _, _⟩) rfl (fun a w K hS hA hD hK => ?_)
        have e109 : a.tmps[109]?.getD undef = .agg (tv ta).toArray := hD 0 109 rfl (by kernel_rfl) (by kernel_rfl)
        obtain ⟨tx, hx⟩ := hS.x1
        rw [if_pos (by rfl)]
        refine wp_store_mid 28 (.tmp 8) (.tmp 109) rfl vt 0 (tv ta).toArray (ev_tmp (hA.get 8 rfl)) (ev_tmp e109) (hx.thereA LA.out) (tok_sizeA LA.out) (tok_one _) ?_
        have he : Hid (w.setCells vt 0 (tv ta) = w.setCells vt 0 (tv ta).toArray.toList) := Lib.hid rfl
        have hne := NE.out
        refine hK.out _ ⟨hS.h3.put hne.1 (fun b' off hq => (NL.out.1 b' off hq).1) he, hS.h4.put hne.2.2.1 (fun b' off hq => (NL.out.2 b' off hq).1) he, ⟨_, hx.storeH LA.out he⟩, hS.x2.elim fun t ht => ⟨t, ht.farH hne.2.2.2.2 he⟩, below_storeH hS.below V5'.out.1 he⟩ (fun j s hj hs hf => ?_)
        simp only [List.contains_iff_mem, List.mem_cons, List.not_mem_nil, or_false] at hj
        rcases hj with rfl | rfl
        · exact ⟨hf, hS.h3.copy hx (fun b' off hq => (NL.out.1 b' off hq).1) he⟩
        · exact hf
      intro a w13 hS hA hV
      obtain ⟨e109, hvt⟩ : (sfStd (.agg (tv ta).toArray) vt ta la p').F (a.tmps[109]?.getD undef) w13 := hV 0 109 rfl (by kernel_rfl)
      have e110 : a.tmps[110]?.getD undef = .agg (tv tc).toArray := hV 1 110 rfl (by kernel_rfl)
      have eA := hA.eq
      simp only [List.foldl_cons, List.foldl_nil] at eA
      rw [e109, e110] at eA
      clear hHeld hA hV e109 e110
      subst eA
      obtain ⟨tx, hx⟩ := hS.x2
      try simp only [Act.put, List.setIfInBounds_toArray, List.set_cons_zero, List.set_cons_succ]
      refine Late.end_ (i := 3) (o := ⟨none, Op.store 28 (Operand.tmp 10) (Operand.tmp 110), _, _, _, _⟩) (by kernel_rfl) rfl rfl (fun K hK => ?_)
      rw [if_pos (by rfl)]
      refine wp_store_mid 28 (.tmp 10) (.tmp 110) rfl vu 0 (tv tc).toArray rfl rfl (hx.thereA LC.out) (tok_sizeA LC.out) (tok_one _) ?_
      refine hK.out _ _ ?_
      clear hK K
      try simp only [Act.put]
      refine Late.done (by kernel_rfl) ?_ _
      refine NoPanic.normal ?_
      have he : Hid (w13.setCells vu 0 (tv tc) = w13.setCells vu 0 (tv tc).toArray.toList) := Lib.hid rfl
      have HUN2 := Lib.hid (hS.h4.copy hx (fun b' off hq => (NL.out.2 b' off hq).2) he)
      have HTN2 := Lib.hid (hvt.put (fun e => NE.out.2.2.2.2 e.symm) (fun b' off hq => (NL.out.1 b' off hq).2) he)
      have BN2 := Lib.hid (below_storeH hS.below V5'.out.2 he)
      generalize w13.setCells vu 0 (tv tc) = w14 at *
      clear he hS hvt hx HA12 HC12 HT12 HU12 B12 NE NL
      by_cases hk0 : k' = 0
      · have hkb : (k' != 0) = false := by simp [hk0]
        clear hk0
        go_wp2
        go_roundw
        case rel => exact ⟨j + 1, by omega, by omega, by go_num, p', ta, la, tc, lc, HPL2, HTN2, HUN2, BN2⟩
        case measure => simp [intOf]; omega
      · have hkb : (k' != 0) = true := by simp [hk0]
        clear hk0
        have wB := BN2.out.size
        go_wp2_with (go_at_call 8; refine (tawake_any _ (HF.out.below BN2.out HF.out.lt) (HK.out.below BN2.out HK.out.lt)).mono ?_; rintro e w20 ⟨rfl, hb20⟩; have B20 := Lib.hid hb20; clear hb20)
        go_ret
        exact ⟨rfl, BN2.out.trans (B20.out.mono wB)⟩
    · have hge : ¬ (j : Int) < (m : Int) := by omega
      have wB := HB.out.size
      go_wp2_with (go_at_call 8; refine (tawake_any _ (HF.out.below HB.out HF.out.lt) (HK.out.below HB.out HK.out.lt)).mono ?_; rintro e w20 ⟨rfl, hb20⟩; have B20 := Lib.hid hb20; clear hb20)
      go_ret
      exact ⟨rfl, HB.out.trans (B20.out.mono wB)⟩
end Go.Proofs.YtpamgeenknkjcaaDoor
