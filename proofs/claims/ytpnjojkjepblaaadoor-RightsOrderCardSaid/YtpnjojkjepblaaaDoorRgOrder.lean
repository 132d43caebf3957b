/- The walk of RightsOrder. -/
import Derived.Test.YtpnjojkjepblaaaDoorRgD
import Derived.Deep.Cut
namespace Go.Proofs.YtpnjojkjepblaaaDoor
open Go.ChangeShapes Go.WideShapes Go.ChangeAt Go.RowKit
set_option linter.unusedVariables false
set_option linter.unusedSimpArgs false
open Plain
theorem idx_of (a : Int) (m : Nat) (h0 : 0 < m) (hm : m ≤ 4) : ∃ k : Nat, k < m ∧ wrap64 ((IntKind.u64.wrap a).tmod (m : Int)) = (k : Int) := by
  have e : IntKind.u64.wrap a = a % 18446744073709551616 := IntKind.wrap_u64 a
  have h1 : 0 ≤ a % 18446744073709551616 := Int.emod_nonneg _ (by omega)
  refine ⟨((a % 18446744073709551616) % (m : Int)).toNat, ?_, ?_⟩
  · have h2 := Int.emod_lt_of_pos (a % 18446744073709551616) (show (0 : Int) < m by omega)
    have h3 := Int.emod_nonneg (a % 18446744073709551616) (show (m : Int) ≠ 0 by omega)
    omega
  · rw [e, Int.tmod_eq_emod_of_nonneg h1]
    have h2 := Int.emod_lt_of_pos (a % 18446744073709551616) (show (0 : Int) < m by omega)
    have h3 := Int.emod_nonneg (a % 18446744073709551616) (show (m : Int) ≠ 0 by omega)
    unfold wrap64
    omega
/-- Two grants change their places. -/
theorem swap_perm {l : List GrantZ} {i j : Nat} {x y : GrantZ} (hi : l[i]? = some x) (hj : l[j]? = some y) : List.Perm ((l.set i y).set j x) l := by
  obtain ⟨h1, e1⟩ := List.getElem?_eq_some_iff.1 hi
  obtain ⟨h2, e2⟩ := List.getElem?_eq_some_iff.1 hj
  have := @List.set_set_perm _ l i j h1 h2
  rw [e1, e2] at this
  exact this
theorem swap_at {l : List GrantZ} {i j : Nat} {x y : GrantZ} (hi : l[i]? = some x) (hj : l[j]? = some y) : ((l.set i y).set j x)[i]? = some y ∧ ((l.set i y).set j x)[j]? = some x := by
  obtain ⟨h1, e1⟩ := List.getElem?_eq_some_iff.1 hi
  obtain ⟨h2, e2⟩ := List.getElem?_eq_some_iff.1 hj
  by_cases e : i = j
  · subst e
    have : x = y := by rw [← e1, ← e2]
    subst this
    simp [h1]
  · rw [List.getElem?_set_ne (Ne.symm e), List.getElem?_set_self h1, List.getElem?_set_self (by simpa using h2)]
    exact ⟨rfl, rfl⟩
theorem perm_le {l l' : List GrantZ} (h : List.Perm l' l) : leR l' = leR l ∧ leX l' = leX l ∧ leE l' = leE l := by
  have e1 : lineB l' = lineB l := by simp only [lineB, h.length_eq, h.all_eq]
  have e2 : lvR l' = lvR l := h.foldl_eq' (fun x _ y _ z => by
    unfold andZ
    rw [Int.toNat_natCast, Int.toNat_natCast, Nat.and_assoc, Nat.and_comm x.r.toNat, ← Nat.and_assoc]) _
  have e3 : lvX l' = lvX l := h.foldl_eq' (fun x _ y _ z => by omega) _
  refine ⟨?_, ?_, ?_⟩ <;> simp only [leR, leX, leE, e1, e2, e3]
theorem gv_set : ∀ (l : List GrantZ) (k : Nat) (g : GrantZ), k < l.length → (((gv l).set (k * 3) (.int .u8 g.r)).set (k * 3 + 1) (.int .i64 g.x)).set (k * 3 + 2) (.int .i64 g.s) = gv (l.set k g)
  | [], k, g, h => by simp at h
  | a :: l, 0, g, h => by simp [gv]
  | a :: l, k + 1, g, h => by
    have e : (k + 1) * 3 = k * 3 + 1 + 1 + 1 := by omega
    have := gv_set l k g (by simpa using h)
    rw [e]
    simp only [gv, List.set_cons_succ]
    rw [← this]
/-- A grant is stored into a row of the call's own. -/
theorem own_put {w : World} {base n c b : Nat} {t : TypeId} {l : List GrantZ} (h : w.ownsRow base t 3 (.slice (some ⟨b, 0, none⟩) n c) n (gv l)) (k : Nat) (hk : k < n) (g : GrantZ) :
    (((w.setCell ⟨b, k * 3, none⟩ (.int .u8 g.r)).setCell ⟨b, k * 3 + 1, none⟩ (.int .i64 g.x)).setCell ⟨b, k * 3 + 2, none⟩ (.int .i64 g.s)).ownsRow base t 3 (.slice (some ⟨b, 0, none⟩) n c) n (gv (l.set k g)) := by
  have hl : l.length = n := by have := h.1; rw [gv_len] at this; omega
  have := (((h.stored (k * 3) (.int .u8 g.r)).1.stored (k * 3 + 1) (.int .i64 g.x)).1.stored (k * 3 + 2) (.int .i64 g.s)).1
  rwa [gv_set l k g (by omega)] at this
theorem own_there {w : World} {base n c b k : Nat} {t : TypeId} {l : List GrantZ} (h : w.ownsRow base t 3 (.slice (some ⟨b, 0, none⟩) n c) n (gv l)) (hk : k < n) : w.there b (k * 3) 3 := fun j hj => by
  have hl : l.length = n := by have := h.1; rw [gv_len] at this; omega
  have hg : l[k]? = some l[k] := List.getElem?_eq_getElem (by omega)
  rw [h.cellAt (k * 3 + j) (by omega), gv_at l k _ hg j hj]
  refine ⟨?_, h.frozenAt _⟩
  match j, hj with
  | 0, _ => rfl
  | 1, _ => rfl
  | 2, _ => rfl
theorem own_putS {w : World} {base n c b : Nat} {t : TypeId} {l : List GrantZ} (h : w.ownsRow base t 3 (.slice (some ⟨b, 0, none⟩) n c) n (gv l)) (k : Nat) (hk : k < n) (g : GrantZ) :
    (w.setCells b (k * 3) [.int .u8 g.r, .int .i64 g.x, .int .i64 g.s]).ownsRow base t 3 (.slice (some ⟨b, 0, none⟩) n c) n (gv (l.set k g)) := own_put h k hk g
theorem below_putS {a w : World} {B b : Nat} (h : Below B a w) (hb : B ≤ b) (o : Nat) (u v x : Value) : Below B a (w.setCells b o [u, v, x]) := ((h.setCell hb _).setCell hb _).setCell hb _
set_option maxRecDepth 100000 in
set_option maxHeartbeats 4000000 in
theorem rightsOrder_in {A : Option Addr} {m : Nat} (c : Nat) {l : List GrantZ} (a b : Int) (w : World) (g1 : Grants w w.heap.size A m l) (h0 : 0 < m) (hm : m ≤ 4) (hL : LaidL w) :
    Calls Tryd.prog 7 #[.slice A m c, .int .i64 a, .int .i64 b] w (fun e w' => e = .returned (.bool true) ∧ Below w.heap.size w w') := by
  have HL := Lib.hid hL
  have HG := Lib.hid g1
  have HM : Hid (m ≤ maxLen) := Lib.hid (by unfold maxLen; omega)
  have ho := Lib.hid (own_empty w)
  have hI1 : ((m : Int) == 0) = false := by simp; omega
  have hI2 : ¬ 4 < (m : Int) := by omega
  obtain ⟨i, hi, ei⟩ := idx_of a m h0 hm
  obtain ⟨j, hj, ej⟩ := idx_of b m h0 hm
  have hij : i < m := hi
  have hjj : j < m := hj
  clear g1 hL
  go_enter Tryd.func7, Tryd.ntmps7
  go_upto_region 5 with fail
  simp only [ei, ej]
  clear ei ej
  go_upto_region 6 with (at_builtin; refine wpList_app _ rfl (.tmp 38) (.tmp 39) 27 rfl w.heap.size 35 3 24 Tryd.underlying27 grant_info (by omega) _ 0 (gv []) rfl ho.out A m c (gv l) rfl (HG.out.below ((Below.refl _ _).alloc (Nat.le_refl _) _)).lies.1 HG.out.lies.2 (gv_one l) (by unfold maxLen; omega) (by omega) (by simp) ?_; intro v1 w1 ho1 hg1; have Hw1 : Hid (Below w.heap.size w w1) := Lib.hid (((Below.refl _ _).alloc (Nat.le_refl _) _).grown hg1 (by simp) (fun k hk => (ho.out.lt k hk).1)); rw [Nat.zero_add] at ho1; change w1.ownsRow w.heap.size 35 3 v1 m (gv l) at ho1; obtain ⟨A2, c2, rfl, hc2, hc3⟩ := own_shapeG ho1; have HO := Lib.hid ho1; clear ho1 hg1)
  clear ho
  obtain ⟨b1, o1, x, rfl, hb1, HX, hx, c0, c1, c2'⟩ := (HG.out.below Hw1.out).at_ hi
  obtain ⟨b2, o2, y, e2, hb2, HY, hy, d0, d1, d2⟩ := (HG.out.below Hw1.out).at_ hj
  obtain ⟨rfl, rfl⟩ : b1 = b2 ∧ o1 = o2 := by simpa using e2
  obtain ⟨b3, c4, hv, hb3, hb3'⟩ := HO.out.form h0
  obtain ⟨rfl, rfl⟩ : A2 = some ⟨b3, 0, none⟩ ∧ c2 = c4 := by
    injection hv with q1 q2 q3
    exact ⟨q1, q3⟩
  have hb4 : b1 + 1 ≤ b3 := by omega
  have HC : Hid (∀ w', Below (b1 + 1) w1 w' → w'.cell? ⟨b1, o1 + i * 3, none⟩ = some (.int .u8 x.r) ∧ w'.cell? ⟨b1, o1 + i * 3 + 1, none⟩ = some (.int .i64 x.x) ∧ w'.cell? ⟨b1, o1 + i * 3 + 2, none⟩ = some (.int .i64 x.s) ∧ w'.cell? ⟨b1, o1 + j * 3, none⟩ = some (.int .u8 y.r) ∧ w'.cell? ⟨b1, o1 + j * 3 + 1, none⟩ = some (.int .i64 y.x) ∧ w'.cell? ⟨b1, o1 + j * 3 + 2, none⟩ = some (.int .i64 y.s)) := Lib.hid (fun W' hW =>
    ⟨(hW.cell (p := ⟨b1, _, none⟩) (Nat.lt_succ_self _)).trans c0, (hW.cell (p := ⟨b1, _, none⟩) (Nat.lt_succ_self _)).trans c1, (hW.cell (p := ⟨b1, _, none⟩) (Nat.lt_succ_self _)).trans c2', (hW.cell (p := ⟨b1, _, none⟩) (Nat.lt_succ_self _)).trans d0, (hW.cell (p := ⟨b1, _, none⟩) (Nat.lt_succ_self _)).trans d1, (hW.cell (p := ⟨b1, _, none⟩) (Nat.lt_succ_self _)).trans d2⟩)
  have HO1 := Lib.hid (own_putS HO.out.drew i hij y)
  have HO2 := Lib.hid (own_putS HO1.out j hjj x)
  have HB1 : Hid (Below (b1 + 1) w1 (w1.drew.setCells b3 (i * 3) [.int .u8 y.r, .int .i64 y.x, .int .i64 y.s])) := Lib.hid (below_putS (Below.refl _ _).drew hb4 _ _ _ _)
  have HB2 := Lib.hid (below_putS HB1.out hb4 (j * 3) (.int .u8 x.r) (.int .i64 x.x) (.int .i64 x.s))
  have HB3 : Hid (Below w.heap.size w ((w1.drew.setCells b3 (i * 3) [.int .u8 y.r, .int .i64 y.x, .int .i64 y.s]).setCells b3 (j * 3) [.int .u8 x.r, .int .i64 x.x, .int .i64 x.s])) := Lib.hid (below_putS (below_putS Hw1.out.drew hb3 _ _ _ _) hb3 _ _ _ _)
  clear e2 hv c0 c1 c2' d0 d1 d2
  refine Late.region (fun w' => w'.cell? ⟨b1, o1 + i * 3, none⟩ = some (.int .u8 x.r) ∧ w'.cell? ⟨b1, o1 + i * 3 + 1, none⟩ = some (.int .i64 x.x) ∧ w'.cell? ⟨b1, o1 + i * 3 + 2, none⟩ = some (.int .i64 x.s) ∧ w'.cell? ⟨b1, o1 + j * 3, none⟩ = some (.int .u8 y.r) ∧ w'.cell? ⟨b1, o1 + j * 3 + 1, none⟩ = some (.int .i64 y.x) ∧ w'.cell? ⟨b1, o1 + j * 3 + 2, none⟩ = some (.int .i64 y.s)) [] (by kernel_rfl) (HC.out _ (Below.refl _ _).drew) (fun hHeld => ?_)
  refine Late.take (i := 0) (oi := ⟨some 41, Op.move (Operand.tmp 7), _, _, _, _⟩) (v := ?_) rfl (by kernel_rfl) (by kernel_rfl) (by kernel_rfl) (by kernel_rfl) (fun _ _ _ h => h) (Or.inl ⟨by rfl, fun w hSw => ?_⟩) (by assumption) ?_
  rotate_left
  · (obtain ⟨s1, s2, s3, s4, s5, s6⟩ := hSw; go_simp; try with_reducible rfl)
  try simp only [Act.put, List.setIfInBounds_toArray, List.set_cons_zero, List.set_cons_succ]
  refine Late.take (i := 1) (oi := ⟨some 42, Op.move (Operand.tmp 1), _, _, _, _⟩) (v := ?_) rfl (by kernel_rfl) (by kernel_rfl) (by kernel_rfl) (by kernel_rfl) (fun _ _ _ h => h) (Or.inl ⟨by rfl, fun w hSw => ?_⟩) (by assumption) ?_
  rotate_left
  · (obtain ⟨s1, s2, s3, s4, s5, s6⟩ := hSw; go_simp; try with_reducible rfl)
  try simp only [Act.put, List.setIfInBounds_toArray, List.set_cons_zero, List.set_cons_succ]
  refine Late.take (i := 2) (oi := ⟨some 43, Op.move (Operand.tmp 7), _, _, _, _⟩) (v := ?_) rfl (by kernel_rfl) (by kernel_rfl) (by kernel_rfl) (by kernel_rfl) (fun _ _ _ h => h) (Or.inl ⟨by rfl, fun w hSw => ?_⟩) (by assumption) ?_
  rotate_left
  · (obtain ⟨s1, s2, s3, s4, s5, s6⟩ := hSw; go_simp; try with_reducible rfl)
  try simp only [Act.put, List.setIfInBounds_toArray, List.set_cons_zero, List.set_cons_succ]
  refine Late.take (i := 3) (oi := ⟨some 44, Op.move (Operand.tmp 2), _, _, _, _⟩) (v := ?_) rfl (by kernel_rfl) (by kernel_rfl) (by kernel_rfl) (by kernel_rfl) (fun _ _ _ h => h) (Or.inl ⟨by rfl, fun w hSw => ?_⟩) (by assumption) ?_
  rotate_left
  · (obtain ⟨s1, s2, s3, s4, s5, s6⟩ := hSw; go_simp; try with_reducible rfl)
  try simp only [Act.put, List.setIfInBounds_toArray, List.set_cons_zero, List.set_cons_succ]
  refine Late.take (i := 4) (oi := ⟨some 45, Op.move (Operand.tmp 0), _, _, _, _⟩) (v := ?_) rfl (by kernel_rfl) (by kernel_rfl) (by kernel_rfl) (by kernel_rfl) (fun _ _ _ h => h) (Or.inl ⟨by rfl, fun w hSw => ?_⟩) (by assumption) ?_
  rotate_left
  · (obtain ⟨s1, s2, s3, s4, s5, s6⟩ := hSw; go_simp; try with_reducible rfl)
  try simp only [Act.put, List.setIfInBounds_toArray, List.set_cons_zero, List.set_cons_succ]
  refine Late.take (i := 5) (oi := ⟨some 46, Op.move (Operand.tmp 2), _, _, _, _⟩) (v := ?_) rfl (by kernel_rfl) (by kernel_rfl) (by kernel_rfl) (by kernel_rfl) (fun _ _ _ h => h) (Or.inl ⟨by rfl, fun w hSw => ?_⟩) (by assumption) ?_
  rotate_left
  · (obtain ⟨s1, s2, s3, s4, s5, s6⟩ := hSw; go_simp; try with_reducible rfl)
  try simp only [Act.put, List.setIfInBounds_toArray, List.set_cons_zero, List.set_cons_succ]
  refine Late.take (i := 6) (oi := ⟨some 47, Op.indexAddr 27 (Operand.tmp 45) (Operand.tmp 46), _, _, _, _⟩) (v := ?_) rfl (by kernel_rfl) (by kernel_rfl) (by kernel_rfl) (by kernel_rfl) (fun _ _ _ h => h) (Or.inl ⟨by rfl, fun w hSw => ?_⟩) (by assumption) ?_
  rotate_left
  · (obtain ⟨s1, s2, s3, s4, s5, s6⟩ := hSw; go_simp; try with_reducible rfl)
  try simp only [Act.put, List.setIfInBounds_toArray, List.set_cons_zero, List.set_cons_succ]
  refine Late.take (i := 7) (oi := ⟨some 48, Op.load 35 (Operand.tmp 47), _, _, _, _⟩) (v := ?_) rfl (by kernel_rfl) (by kernel_rfl) (by kernel_rfl) (by kernel_rfl) (fun _ _ _ h => h) (Or.inl ⟨by rfl, fun w hSw => ?_⟩) (by assumption) ?_
  rotate_left
  · (obtain ⟨s1, s2, s3, s4, s5, s6⟩ := hSw; go_simp; try with_reducible rfl)
  try simp only [Act.put, List.setIfInBounds_toArray, List.set_cons_zero, List.set_cons_succ]
  refine Late.take (i := 8) (oi := ⟨some 49, Op.move (Operand.tmp 0), _, _, _, _⟩) (v := ?_) rfl (by kernel_rfl) (by kernel_rfl) (by kernel_rfl) (by kernel_rfl) (fun _ _ _ h => h) (Or.inl ⟨by rfl, fun w hSw => ?_⟩) (by assumption) ?_
  rotate_left
  · (obtain ⟨s1, s2, s3, s4, s5, s6⟩ := hSw; go_simp; try with_reducible rfl)
  try simp only [Act.put, List.setIfInBounds_toArray, List.set_cons_zero, List.set_cons_succ]
  refine Late.take (i := 9) (oi := ⟨some 50, Op.move (Operand.tmp 1), _, _, _, _⟩) (v := ?_) rfl (by kernel_rfl) (by kernel_rfl) (by kernel_rfl) (by kernel_rfl) (fun _ _ _ h => h) (Or.inl ⟨by rfl, fun w hSw => ?_⟩) (by assumption) ?_
  rotate_left
  · (obtain ⟨s1, s2, s3, s4, s5, s6⟩ := hSw; go_simp; try with_reducible rfl)
  try simp only [Act.put, List.setIfInBounds_toArray, List.set_cons_zero, List.set_cons_succ]
  refine Late.take (i := 10) (oi := ⟨some 51, Op.indexAddr 27 (Operand.tmp 49) (Operand.tmp 50), _, _, _, _⟩) (v := ?_) rfl (by kernel_rfl) (by kernel_rfl) (by kernel_rfl) (by kernel_rfl) (fun _ _ _ h => h) (Or.inl ⟨by rfl, fun w hSw => ?_⟩) (by assumption) ?_
  rotate_left
  · (obtain ⟨s1, s2, s3, s4, s5, s6⟩ := hSw; go_simp; try with_reducible rfl)
  try simp only [Act.put, List.setIfInBounds_toArray, List.set_cons_zero, List.set_cons_succ]
  refine Late.take (i := 11) (oi := ⟨some 52, Op.load 35 (Operand.tmp 51), _, _, _, _⟩) (v := ?_) rfl (by kernel_rfl) (by kernel_rfl) (by kernel_rfl) (by kernel_rfl) (fun _ _ _ h => h) (Or.inl ⟨by rfl, fun w hSw => ?_⟩) (by assumption) ?_
  rotate_left
  · (obtain ⟨s1, s2, s3, s4, s5, s6⟩ := hSw; go_simp; try with_reducible rfl)
  try simp only [Act.put, List.setIfInBounds_toArray, List.set_cons_zero, List.set_cons_succ]
  refine Late.take (i := 12) (oi := ⟨some 53, Op.indexAddr 27 (Operand.tmp 41) (Operand.tmp 42), _, _, _, _⟩) (v := ?_) rfl (by kernel_rfl) (by kernel_rfl) (by kernel_rfl) (by kernel_rfl) (fun _ _ _ h => h) (Or.inl ⟨by rfl, fun w hSw => ?_⟩) (by assumption) ?_
  rotate_left
  · (obtain ⟨s1, s2, s3, s4, s5, s6⟩ := hSw; go_simp; try with_reducible rfl)
  try simp only [Act.put, List.setIfInBounds_toArray, List.set_cons_zero, List.set_cons_succ]
  refine Late.one (i := 13) (o := ⟨none, Op.store 35 (Operand.tmp 53) (Operand.tmp 48), _, _, _, _⟩) (by kernel_rfl) rfl (fun K hK => ?_)
  rw [if_pos (by rfl)]
  refine wp_store_mid 35 (.tmp 53) (.tmp 48) rfl b3 (i * 3) #[.int .u8 y.r, .int .i64 y.x, .int .i64 y.s] rfl rfl (own_there HO.out hij) (by kernel_rfl) (by simp [Value.oneCell']) ?_
  refine hK.out _ _ (HC.out _ HB1.out) (fun hHeld2 => ?_)
  clear hK K hHeld
  have hHeld := hHeld2
  clear hHeld2
  try simp only [Act.put, List.setIfInBounds_toArray, List.set_cons_zero, List.set_cons_succ]
  refine Late.take (i := 14) (oi := ⟨some 54, Op.indexAddr 27 (Operand.tmp 43) (Operand.tmp 44), _, _, _, _⟩) (v := ?_) rfl (by kernel_rfl) (by kernel_rfl) (by kernel_rfl) (by kernel_rfl) (fun _ _ _ h => h) (Or.inl ⟨by rfl, fun w hSw => ?_⟩) (by assumption) ?_
  rotate_left
  · (obtain ⟨s1, s2, s3, s4, s5, s6⟩ := hSw; go_simp; try with_reducible rfl)
  try simp only [Act.put, List.setIfInBounds_toArray, List.set_cons_zero, List.set_cons_succ]
  refine Late.one (i := 15) (o := ⟨none, Op.store 35 (Operand.tmp 54) (Operand.tmp 52), _, _, _, _⟩) (by kernel_rfl) rfl (fun K hK => ?_)
  rw [if_pos (by rfl)]
  refine wp_store_mid 35 (.tmp 54) (.tmp 52) rfl b3 (j * 3) #[.int .u8 x.r, .int .i64 x.x, .int .i64 x.s] rfl rfl (own_there HO1.out hjj) (by kernel_rfl) (by simp [Value.oneCell']) ?_
  refine hK.out _ _ (HC.out _ HB2.out) (fun hHeld2 => ?_)
  clear hK K hHeld
  have hHeld := hHeld2
  clear hHeld2
  try simp only [Act.put, List.setIfInBounds_toArray, List.set_cons_zero, List.set_cons_succ]
  refine Late.done (by kernel_rfl) ?_ _
  refine NoPanic.normal ?_
  generalize (w1.drew.setCells b3 (i * 3) [.int .u8 y.r, .int .i64 y.x, .int .i64 y.s]).setCells b3 (j * 3) [.int .u8 x.r, .int .i64 x.x, .int .i64 x.s] = w2 at HO2 HB2 HB3 ⊢
  clear HB1 HO1 HO hHeld
  have hperm := swap_perm HX.out HY.out
  have hat := swap_at HX.out HY.out
  generalize (l.set i y).set j x = l' at *
  have HI : Hid (Grants w2 w2.heap.size (some ⟨b3, 0, none⟩) m l') := Lib.hid (grants_of_own HO2.out (fun g hg => HG.out.ok g (hperm.mem_iff.1 hg)))
  have HPL := Lib.hid (perm_le hperm)
  have HAT := Lib.hid hat
  obtain ⟨R, hR⟩ : ∃ q, leR l = q := ⟨_, rfl⟩
  obtain ⟨X, hX⟩ : ∃ q, leX l = q := ⟨_, rfl⟩
  obtain ⟨E, hE⟩ : ∃ q, leE l = q := ⟨_, rfl⟩
  have HR := Lib.hid hR
  have HX1 := Lib.hid hX
  have HE := Lib.hid hE
  clear hR hX hE HO2 hperm hat Hw1
  go_wp2_with fail
  refine (leaves_val c R X E (HG.out.below HB3.out) HB3.out.size HM.out HR.out HX1.out HE.out).mono ?_
  rintro e w3 ⟨rfl, hb⟩
  have H23 : Hid (Below w2.heap.size w2 w3) := Lib.hid hb
  clear hb
  go_wp2_with fail
  refine (leaves_val c2 R X E (HI.out.below H23.out) H23.out.size HM.out (HPL.out.1.trans HR.out) (HPL.out.2.1.trans HX1.out) (HPL.out.2.2.trans HE.out)).mono ?_
  rintro e w4 ⟨rfl, hb⟩
  have H24 : Hid (Below w2.heap.size w2 w4) := Lib.hid (H23.out.trans (hb.mono H23.out.size))
  clear hb H23
  go_wp2_with fail
  refine (serials_any c2 (HI.out.below H24.out) H24.out.size (by omega)).mono ?_
  rintro e w5 ⟨A5, c5, rfl, hb, hs⟩
  have H25 : Hid (Below w2.heap.size w2 w5) := Lib.hid (H24.out.trans (hb.mono H24.out.size))
  clear hb H24
  obtain ⟨b6, o6, rfl, hb6, s0⟩ := hs.at_ hij
  obtain ⟨b7, o7, e7, hb7, s1⟩ := hs.at_ hjj
  obtain ⟨rfl, rfl⟩ : b6 = b7 ∧ o6 = o7 := by simpa using e7
  rw [sv_at HAT.out.1] at s0
  rw [sv_at HAT.out.2] at s1
  have hb1w : b1 + 1 ≤ w2.heap.size := by have := HB3.out.size; omega
  have hb1z : b1 < w5.heap.size := by have := H25.out.size; omega
  have q := HC.out w5 (HB2.out.trans (H25.out.mono hb1w))
  have q2 := q.2.2.1
  have q5 := q.2.2.2.2.2
  have H5 : Hid (Below w.heap.size w w5) := Lib.hid (HB3.out.trans (H25.out.mono HB3.out.size))
  have HST : Hid (∀ W', Below w5.heap.size w5 W' → W'.cell? ⟨b6, o6 + i, none⟩ = some (.int .i64 y.s) ∧ W'.cell? ⟨b6, o6 + j, none⟩ = some (.int .i64 x.s) ∧ W'.cell? ⟨b1, o1 + i * 3 + 2, none⟩ = some (.int .i64 x.s) ∧ W'.cell? ⟨b1, o1 + j * 3 + 2, none⟩ = some (.int .i64 y.s)) := Lib.hid (fun W' hW =>
    ⟨(hW.cell (p := ⟨b6, o6 + i, none⟩) hb6).trans s0, (hW.cell (p := ⟨b6, o6 + j, none⟩) hb6).trans s1, (hW.cell (p := ⟨b1, o1 + i * 3 + 2, none⟩) hb1z).trans q2, (hW.cell (p := ⟨b1, o1 + j * 3 + 2, none⟩) hb1z).trans q5⟩)
  clear s0 s1 q q2 q5 e7 hs HB2 H25 HI HC
  go_wp2
  go_region_held3 (fun W' => W'.cell? ⟨b6, o6 + i, none⟩ = some (.int .i64 y.s) ∧ W'.cell? ⟨b6, o6 + j, none⟩ = some (.int .i64 x.s) ∧ W'.cell? ⟨b1, o1 + i * 3 + 2, none⟩ = some (.int .i64 x.s) ∧ W'.cell? ⟨b1, o1 + j * 3 + 2, none⟩ = some (.int .i64 y.s))
    (first
      | (exact HST.out _ (Below.refl _ _))
      | (exact HST.out _ (Below.refl _ _).drew)
      | (exact HST.out _ Hb9.out))
    ((first
      | (go_at_call 12; refine (awake_any _ (HL.out.grown H5.out.drew)).mono ?_; rintro e w9 ⟨rfl, hb9⟩; have Hb9 : Hid (Below w5.heap.size w5 w9) := Lib.hid ((Below.refl _ _).drew.trans hb9); clear hb9)))
  go_wp2
  go_ret
  exact ⟨rfl, H5.out.trans (Hb9.out.mono H5.out.size)⟩
theorem rightsOrder_any (A : Option Addr) (m c : Nat) (l : List GrantZ) (a b : Int) (w : World) (g1 : Grants w w.heap.size A m l) (hm : m ≤ maxLen) (_ : -9223372036854775808 ≤ a ∧ a ≤ 9223372036854775807) (_ : -9223372036854775808 ≤ b ∧ b ≤ 9223372036854775807) (hL : LaidL w) :
    Calls Tryd.prog 7 #[.slice A m c, .int .i64 a, .int .i64 b] w (fun e w' => e = .returned (.bool true) ∧ Below w.heap.size w w') := by
  have HL := Lib.hid hL
  unfold maxLen at hm
  by_cases h0 : m = 0
  · subst h0
    clear g1 hL
    go_enter Tryd.func7, Tryd.ntmps7
    go_wp2_with (go_at_call 12; refine (awake_any _ HL.out).mono ?_; rintro e w9 ⟨rfl, hb9⟩)
    go_ret
    exact ⟨rfl, hb9⟩
  by_cases h4 : 4 < m
  · have h0I : ((m : Int) == 0) = false := by simp; omega
    have h4I : 4 < (m : Int) := by omega
    clear g1 hL h0
    go_enter Tryd.func7, Tryd.ntmps7
    go_wp2_with (go_at_call 12; refine (awake_any _ HL.out).mono ?_; rintro e w9 ⟨rfl, hb9⟩)
    go_ret
    exact ⟨rfl, hb9⟩
  exact rightsOrder_in c a b w g1 (by omega) (by omega) hL
end Go.Proofs.YtpnjojkjepblaaaDoor
