/- Calls on three ends at once; variables that stand apart from them. -/
import Derived.Test.YtlknjaoamkcmjaaDoorLkJ
import Derived.Test.YtlknjaoamkcmjaaDoorOrd6
import Derived.Test.YtlknjaoamkcmjaaDoorB6
namespace Go.Proofs.YtlknjaoamkcmjaaDoor
open Go.ChangeShapes Go.WideShapes Go.ChangeAt Go.RowKit
set_option linter.unusedVariables false
set_option linter.unusedSimpArgs false
set_option maxRecDepth 100000
open Plain Sha Wn Lk
section
variable {B : Nat} {w w' : World} {K1 K2 K3 K : Nat → Prop} {b1 b2 b3 : Nat} {x1 x2 x3 x : EdZ}
theorem T3.swap (h : T3 B w K1 K2 K3 b1 b2 b3 x1 x2 x3) : T3 B w K2 K1 K3 b2 b1 b3 x2 x1 x3 := ⟨h.e2, h.e1, h.e3, fun k h2 h1 => h.d12 k h1 h2, h.d23, h.d13, h.l2, h.l1, h.l3⟩
theorem T3.swap3 (h : T3 B w K1 K2 K3 b1 b2 b3 x1 x2 x3) : T3 B w K3 K2 K1 b3 b2 b1 x3 x2 x1 := ⟨h.e3, h.e2, h.e1, fun k h2 h1 => h.d23 k h1 h2, fun k h2 h1 => h.d13 k h1 h2, fun k h2 h1 => h.d12 k h1 h2, h.l3, h.l2, h.l1⟩
/-- A variable that stands in no blocks of K. -/
structure KVar (w : World) (K1 K2 K3 : Nat → Prop) (b k : Nat) (cs : List Value) : Prop where
  box : VBox w b k cs
  ap : ¬ K1 b ∧ ¬ K2 b ∧ ¬ K3 b
variable {b k : Nat} {cs : List Value}
theorem KVar.s1 (h : KVar w K1 K2 K3 b k cs) (hm : Moved K1 w w') (hn : Newer w K1 K) : KVar w' K K2 K3 b k cs :=
  ⟨h.box.same (hm.block b h.box.lt h.ap.1), fun hk => (hn b hk).elim h.ap.1 (fun h1 => by have := h.box.lt; omega), h.ap.2⟩
theorem KVar.turn (h : KVar w K1 K2 K3 b k cs) : KVar w K2 K1 K3 b k cs := ⟨h.box, h.ap.2.1, h.ap.1, h.ap.2.2⟩
theorem KVar.turn3 (h : KVar w K1 K2 K3 b k cs) : KVar w K3 K2 K1 b k cs := ⟨h.box, h.ap.2.2, h.ap.2.1, h.ap.1⟩
theorem KVar.s2 (h : KVar w K1 K2 K3 b k cs) (hm : Moved K2 w w') (hn : Newer w K2 K) : KVar w' K1 K K3 b k cs := (h.turn.s1 hm hn).turn
theorem KVar.s3 (h : KVar w K1 K2 K3 b k cs) (hm : Moved K3 w w') (hn : Newer w K3 K) : KVar w' K1 K2 K b k cs := (h.turn3.s1 hm hn).turn3
theorem KVar.grow (h : KVar w K1 K2 K3 b k cs) (hb : Below w.heap.size w w') : KVar w' K1 K2 K3 b k cs := ⟨h.box.grow hb, h.ap⟩
theorem T3.lt1 (h : T3 B w K1 K2 K3 b1 b2 b3 x1 x2 x3) : ∀ k, K1 k → k < w.heap.size := h.e1.lt
theorem T3.lt2 (h : T3 B w K1 K2 K3 b1 b2 b3 x1 x2 x3) : ∀ k, K2 k → k < w.heap.size := h.e2.lt
theorem T3.lt3 (h : T3 B w K1 K2 K3 b1 b2 b3 x1 x2 x3) : ∀ k, K3 k → k < w.heap.size := h.e3.lt
/-- A packet goes into a new variable. -/
theorem kvar_new (h : T3 B w K1 K2 K3 b1 b2 b3 x1 x2 x3) (y : PX) (ht : y.z.tag.length = 32) (g : Nat) (hg : w.heap.size = g) (hw : Hid (w' = (w.alloc (.cells zPc 26)).setCells g 0 (pc y).toArray.toList)) :
    KVar w' K1 K2 K3 g 38 (pc y) ∧ T3 B w' K1 K2 K3 b1 b2 b3 x1 x2 x3 ∧ Below w.heap.size w w' := by
  obtain ⟨V, hb⟩ := vstored (zbox_new w 26 g hg) (us := pc y) (pc_len ht) hw (by omega) (below_one w _)
  exact ⟨⟨V, fun h1 => by have := h.lt1 g h1; omega, fun h1 => by have := h.lt2 g h1; omega, fun h1 => by have := h.lt3 g h1; omega⟩, h.grow hb, hb⟩
/-- What a send tells. -/
def T3S (B : Nat) (w : World) (K1 K2 K3 : Nat → Prop) (b1 b2 b3 : Nat) (L : List Int) (er : Int) (x1 x2 x3 : EdZ) (e : Ending) (w' : World) : Prop :=
  ∃ A c, e = .returned (.tuple #[.slice A L.length c, .int .i64 er]) ∧ T3 B w' K1 K2 K3 b1 b2 b3 x1 x2 x3 ∧ KBs w' K1 K2 K3 A L.length L ∧ L.length ≤ c ∧ c ≤ maxLen ∧ Moved K1 w w'
theorem t3_send (h : T3 B w K1 K2 K3 b1 b2 b3 x1 x2 x3) (hB : B ≤ w.heap.size) {dd ep : Int} (hd : InL dd) (hep : InL ep) {Bz n : Nat} (c : Nat) {A : Option Addr} {body : List Int} (hz : Bs w Bz A n body) (hBz : Bz ≤ w.heap.size) (hn : n ≤ 3000) (hc : n ≤ c ∧ c ≤ maxLen)
    (hs0 : 0 ≤ x1.sent dd ep ∧ x1.sent dd ep ≤ 1000000) (hF : LaidF w) (hK : LaidK w) {L : List Int} {er : Int} {x' : EdZ} (he : sendZ x1 dd ep body = (L, er, x')) (hL : IsBytes L) :
    Calls Tryd.prog 18 #[.pointer (some ⟨b1, 0, none⟩), .int .i64 dd, .int .i64 ep, .slice A n c] w (T3S B w K1 K2 K3 b1 b2 b3 L er x' x2 x3) := by
  refine (send_any h.e1 hd hep c hz hBz hn hc (by unfold InL; omega) (by unfold InL; omega) hF hK).mono ?_
  rw [he]
  rintro e w' ⟨u, rfl, hu, hE, hm⟩
  obtain ⟨A', c', rfl, hk, h1, h2⟩ := kbs_new hu hL h.lt1 h.lt2 h.lt3
  exact ⟨A', c', rfl, h.s1 hB hE hm (Newer.refl _ _), hk, h1, h2, hm⟩
/-- What a get tells. -/
def T3G (B : Nat) (w : World) (K1 K2 K3 : Nat → Prop) (b1 b2 b3 : Nat) (p : PkZ) (er : Int) (x1 x2 x3 : EdZ) (e : Ending) (w' : World) : Prop :=
  ∃ y : PX, e = .returned (.tuple #[.agg (pc y).toArray, .int .i64 er]) ∧ y.z = p ∧ PXOk w' w'.heap.size y ∧ ∃ K, T3 B w' K K2 K3 b1 b2 b3 x1 x2 x3 ∧ Moved K1 w w' ∧ Newer w K1 K ∧ KBs w' K K2 K3 y.A y.n y.z.body
theorem t3_get (h : T3 B w K1 K2 K3 b1 b2 b3 x1 x2 x3) (hB : B ≤ w.heap.size) {Bz n : Nat} (c : Nat) {A : Option Addr} {bs : List Int} (hz : Bs w Bz A n bs) (hBz : Bz ≤ w.heap.size) (hn : n ≤ 65000) (hF : LaidF w) (hK : LaidK w) {p : PkZ} {er : Int} {x' : EdZ} (he : getZ x1 bs = (p, er, x')) :
    Calls Tryd.prog 19 #[.pointer (some ⟨b1, 0, none⟩), .slice A n c] w (T3G B w K1 K2 K3 b1 b2 b3 p er x' x2 x3) := by
  refine (get_any h.e1 c hz hBz hn hF hK).mono ?_
  rw [he]
  rintro e w' ⟨y, rfl, hy, hok, ho, K, hE, hm, hn, ha⟩
  refine ⟨y, rfl, hy, hok, K, h.s1 hB hE hm hn, hm, hn, ⟨hok.body, fun h0 a hA => ⟨ha a hA, fun h2 => ?_, fun h3 => ?_⟩⟩⟩
  · have h4 := ho.lt a.block (by rw [hA]; rfl); have := h.lt2 _ h2; omega
  · have h4 := ho.lt a.block (by rw [hA]; rfl); have := h.lt3 _ h3; omega
end
/-- A pointer to a new packet of zeros. -/
def sfZ (nb : Nat) : SF := ⟨fun v w => ∃ b, v = .pointer (some ⟨b, 0, none⟩) ∧ nb ≤ b ∧ VBox w b 38 (pc px0), fun v w w' ⟨b, e, h, hV⟩ hb => ⟨b, e, h, hV.grow hb⟩⟩
theorem exec_bld5 {P : Program} {a : Act} {op : Oper} {t : TypeId} {x0 x1 x2 x3 x4 : Operand} {v0 v1 v2 v3 v4 v : Value} {w : World} (ho : op.op = .build t #[(0, x0), (1, x1), (2, x2), (3, x3), (4, x4)]) (h0 : a.eval x0 = v0) (h1 : a.eval x1 = v1) (h2 : a.eval x2 = v2) (h3 : a.eval x3 = v3) (h4 : a.eval x4 = v4) (h : (Instr.build t #[(0, v0), (1, v1), (2, v2), (3, v3), (4, v4)]).run P w = .ok v w) : (execOp a.eval op).run P w = .ok (.value v) w := by
  subst h0 h1 h2 h3 h4
  unfold execOp
  simp only [ho]
  simp [h]
/-- A packet's variable of which a cell is set. -/
theorem set_fr (x : PX) (v : Int) : (pc x).set 0 (.int .i64 v) = pc { x with z := { x.z with fr := v } } := rfl
theorem set_tw (x : PX) (v : Int) : (pc x).set 1 (.int .i64 v) = pc { x with z := { x.z with tw := v } } := rfl
theorem set_sq (x : PX) (v : Int) : (pc x).set 4 (.int .i64 v) = pc { x with z := { x.z with sq := v } } := rfl
namespace Lk
/-- The chapter's examples. -/
def rootX : List Int := [114, 111, 111, 116]
def pA : PX := ⟨⟨0, 1, 1, 0, 1, [], List.replicate 32 0⟩, none, 0, 0⟩
theorem pA_tl : pA.z.tag.length = 32 := rfl
theorem may_A : mayP pA.z = true := by decide
def pB : PX := { pA with z := { pA.z with fr := 1 } }
def pC : PX := { pA with z := { pA.z with tw := 5 } }
def pD : PX := { pA with z := { pA.z with sq := 0 } }
theorem may_B : mayP pB.z = false := by decide
theorem may_C : mayP pC.z = false := by decide
theorem may_D : mayP pD.z = false := by decide
def xa0 : EdZ := newZ rootX 0 0
def xb0 : EdZ := newZ rootX 1 0
def xc0 : EdZ := newZ rootX 2 0
def b1Z : PkZ := ⟨0, 1, 1, 0, 1, [97], List.replicate 32 0⟩
def b2Z : PkZ := ⟨0, 1, 1, 0, 2, [97], List.replicate 32 0⟩
def P1 : PkZ := sealZ rootX b1Z
def P2 : PkZ := sealZ rootX b2Z
def xa1 : EdZ := incS xa0 1 1
def xa2 : EdZ := incS xa1 1 1
theorem one_bytes : IsBytes [97] := one_byte 97 (by omega) (by omega)
theorem b1_ok : POk b1Z := ⟨by unfold InL b1Z; decide, by unfold InL b1Z; decide, by unfold InL b1Z; decide, by unfold InL b1Z; decide, by unfold InL b1Z; decide, one_bytes, by decide, by unfold b1Z; exact rep_bytes 32 0 (by omega) (by omega), rfl⟩
theorem b2_ok : POk b2Z := ⟨by unfold InL b2Z; decide, by unfold InL b2Z; decide, by unfold InL b2Z; decide, by unfold InL b2Z; decide, by unfold InL b2Z; decide, one_bytes, by decide, by unfold b2Z; exact rep_bytes 32 0 (by omega) (by omega), rfl⟩
theorem s_1 : sendZ xa0 1 1 [97] = (bytesP P1, 0, xa1) := sendZ_ok (by decide)
theorem sent_1 : xa1.sent 1 1 = 1 := by
  show upd xa0.sent 1 1 (xa0.sent 1 1 + 1) 1 1 = 1
  rw [upd_same]; rfl
theorem s_2 : sendZ xa1 1 1 [97] = (bytesP P2, 0, xa2) := by
  have hb : bareZ xa1 1 1 [97] = b2Z := by unfold bareZ; rw [sent_1]; rfl
  have := sendZ_ok (x := xa1) (dd := 1) (ep := 1) (body := [97]) (by rw [hb]; decide)
  rw [this]
  have : nextP xa1 1 1 [97] = P2 := by unfold nextP; rw [hb]; rfl
  rw [this]; rfl
def xb1 : EdZ := setW xb0 0 1 0 [1]
def xb2 : EdZ := setW xb1 0 1 0 [1]
def xb3 : EdZ := setW xb2 0 1 0 [1, 2]
theorem g_1 : getZ xb0 (bytesP P1) = (P1, 0, xb1) := getZ_take (x := xb0) (p := b1Z) b1_ok (by decide) (by decide) rfl (er := 0) (b := 0) (S := [1]) (by decide)
theorem w1_b : xb1.wb 0 1 = 0 := setW_wb _ _ _ _ _
theorem w1_s : xb1.ws 0 1 = [1] := setW_ws _ _ _ _ _
theorem w2_b : xb2.wb 0 1 = 0 := setW_wb _ _ _ _ _
theorem w2_s : xb2.ws 0 1 = [1] := setW_ws _ _ _ _ _
theorem g_2 : getZ xb1 (bytesP P1) = (p0, 180, xb2) := getZ_take (x := xb1) (p := b1Z) b1_ok (by decide) (by decide) rfl (er := 180) (b := 0) (S := [1]) (by show takeZ (xb1.wb 0 1) (xb1.ws 0 1) 0 1 = _; rw [w1_b, w1_s]; decide)
theorem g_3 : getZ xb2 (bytesP P2) = (P2, 0, xb3) := getZ_take (x := xb2) (p := b2Z) b2_ok (by decide) (by decide) rfl (er := 0) (b := 0) (S := [1, 2]) (by show takeZ (xb2.wb 0 1) (xb2.ws 0 1) 0 2 = _; rw [w2_b, w2_s]; decide)
theorem g_4 : getZ xc0 (bytesP P1) = (p0, 190, xc0) := getZ_other (seal_ok b1_ok) (by decide) (by decide) (by decide)
theorem g_6 (x : EdZ) : getZ x [120] = (p0, 190, x) := getZ_none rfl
theorem P1_len : (bytesP P1).length = 77 := bytesP_len (seal_ok b1_ok)
theorem P2_len : (bytesP P2).length = 77 := bytesP_len (seal_ok b2_ok)
theorem P1_bytes : IsBytes (bytesP P1) := bytesP_bytes (seal_ok b1_ok)
theorem P2_bytes : IsBytes (bytesP P2) := bytesP_bytes (seal_ok b2_ok)
/-- The last byte is otherwise. -/
theorem g_5 (z : Int) (hz : 0 ≤ z ∧ z < 256) (hne : z ≠ (bytesP P1).getD 76 0) : getZ xb3 ((bytesP P1).set 76 z) = (p0, 91, xb3) := by
  have ht : P1.tag.length = 32 := tagR_len _ _
  have hl : (headF P1).length = 45 := headF_len P1
  have he : (bytesP P1).set 76 z = bytesP { P1 with tag := P1.tag.set 31 z } := by
    unfold bytesP
    show (headF P1 ++ P1.tag).set 76 z = headF P1 ++ P1.tag.set 31 z
    rw [List.set_append_right _ _ (by rw [hl]; omega), hl]
  have ok : POk { P1 with tag := P1.tag.set 31 z } := by
    have o := seal_ok (root := rootX) b1_ok
    refine ⟨o.fr, o.tw, o.ep, o.bo, o.sq, o.body, o.bl, fun j hj => ?_, by show (P1.tag.set 31 z).length = 32; rw [List.length_set]; exact ht⟩
    have hj' : j < 32 := by rw [show ({ P1 with tag := P1.tag.set 31 z } : PkZ).tag.length = (P1.tag.set 31 z).length from rfl, List.length_set, ht] at hj; exact hj
    show 0 ≤ (P1.tag.set 31 z).getD j 0 ∧ (P1.tag.set 31 z).getD j 0 < 256
    by_cases e : j = 31
    · subst e
      rw [List.getD_eq_getElem?_getD, List.getElem?_set_self (by omega)]; exact hz
    · rw [List.getD_eq_getElem?_getD, List.getElem?_set_ne (fun h => e h.symm), ← List.getD_eq_getElem?_getD]
      exact o.tag j (by rw [show (sealZ rootX b1Z).tag.length = 32 from ht]; exact hj')
  rw [he]
  have hm : mayP { P1 with tag := P1.tag.set 31 z } = mayP b1Z := rfl
  refine getZ_tag ok (by show [97].length ≤ 65000; decide) (by rw [hm]; decide) rfl (fun h => hne ?_)
  have h1 : P1.tag.set 31 z = P1.tag := h
  have h2 : (P1.tag.set 31 z).getD 31 0 = P1.tag.getD 31 0 := by rw [h1]
  rw [List.getD_eq_getElem?_getD, List.getElem?_set_self (by omega)] at h2
  have h3 : z = P1.tag.getD 31 0 := h2
  rw [h3]
  unfold bytesP
  rw [List.getD_eq_getElem?_getD, List.getD_eq_getElem?_getD, List.getElem?_append_right (by rw [hl]; omega), hl]
end Lk
end Go.Proofs.YtlknjaoamkcmjaaDoor
