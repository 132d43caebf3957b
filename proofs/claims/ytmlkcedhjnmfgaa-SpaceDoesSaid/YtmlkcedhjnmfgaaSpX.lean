/- The document's own Get; pairs without a key. -/
import Derived.Test.YtmlkcedhjnmfgaaSpUa
import Derived.Test.YtmlkcedhjnmfgaaSpL
namespace Go.Proofs.Ytmlkcedhjnmfgaa
open Go.ChangeShapes Go.WideShapes Go.ChangeAt Go.RowKit
set_option linter.unusedVariables false
set_option linter.unusedSimpArgs false
open Plain Sp
theorem q_belowX {B : Nat} {a w w' : World} (h : Below B a w) (hq : ∃ m, w' = w.drewN m) : Below B a w' := by
  obtain ⟨m, rfl⟩ := hq
  exact below_drewN h m
theorem getP_drop {l : List PairZ} {j : Nat} {p : PairZ} (k : ByteArray) (h : l[j]? = some p) : getP (l.drop j) k = if p.k = k then some p.v else getP (l.drop (j + 1)) k := by
  rw [drop_atP h]
  unfold getP
  rw [List.find?_cons]
  by_cases e : p.k = k
  · rw [if_pos e, decide_eq_true e]; rfl
  · rw [if_neg e, decide_eq_false e]
theorem delP_snoc {l : List PairZ} {j : Nat} {p : PairZ} (k : ByteArray) (h : l[j]? = some p) : delP (l.take (j + 1)) k = if p.k = k then delP (l.take j) k else delP (l.take j) k ++ [p] := by
  rw [take_snocP l j p h]
  unfold delP
  rw [List.filter_append]
  by_cases e : p.k = k
  · rw [if_pos e]; simp [List.filter_cons, e]
  · rw [if_neg e]; simp [List.filter_cons, e]
set_option maxRecDepth 100000 in
set_option maxHeartbeats 4000000 in
theorem rget_any {w : World} {n c : Nat} {A : Option Addr} {l : List PairZ} (K Y : Int) (k v : ByteArray) (e : Int) (h : Prs w w.heap.size A n l) (hn : n ≤ 1000) (hr : getR ⟨K, Y, l⟩ k = (v, e)) :
    Calls Try.prog 18 #[.agg #[.int .i64 K, .int .i64 Y, .slice A n c], .string k] w (fun e' w' => e' = .returned (.tuple #[.string v, .int .i64 e]) ∧ Below w.heap.size w w') := by
  obtain ⟨W1, hW1⟩ : ∃ W, W = w.alloc (.cells #[.int .i64 K, .int .i64 Y, .slice A n c] 24) := ⟨_, rfl⟩
  have b1 := Lib.hid (show Below w.heap.size w W1 by rw [hW1]; exact below_one _ _)
  have X1 := Lib.hid (show SBox W1 w.heap.size K Y A n c by rw [hW1]; exact sbox_new _ _ _ _ _ _ _ _ rfl)
  have HG := Lib.hid ((h.below b1.out (Nat.le_refl _)).more b1.out.size)
  have L := Lib.hid h.len
  have HW1 := Lib.hid hW1
  clear hW1 h
  cases hm : mayB ⟨K, Y, l⟩ with
  | false =>
    have e1 : getR ⟨K, Y, l⟩ k = (⟨#[]⟩, 2) := by simp [getR, hm]
    rw [e1] at hr
    obtain ⟨rfl, rfl⟩ := Prod.mk.inj hr
    have MM := Lib.hid (rmay_any K Y c false HG.out (Nat.le_refl _) hn hm)
    clear hr e1 hm HG
    go_enter Try.func18, Try.ntmps18
    go_upto_region 1 with fail
    rw [← HW1.out]
    obtain ⟨h1, h2, h3⟩ := X1.out
    go_wp2_with (go_at_call 25; refine MM.out.mono ?_; rintro e w5 ⟨rfl, b5⟩; have B5 := Lib.hid (b1.out.trans (b5.mono b1.out.size)); clear b5)
    go_ret2
    exact ⟨rfl, B5.out⟩
  | true =>
  have MM := Lib.hid (rmay_any K Y c true HG.out (Nat.le_refl _) hn hm)
  cases hk : keyB k with
  | false =>
    have e1 : getR ⟨K, Y, l⟩ k = (⟨#[]⟩, 2) := by simp [getR, hk]
    rw [e1] at hr
    obtain ⟨rfl, rfl⟩ := Prod.mk.inj hr
    have KM := Lib.hid (rkey_any k false hk)
    clear hr e1 hm hk HG
    go_enter Try.func18, Try.ntmps18
    go_upto_region 1 with fail
    rw [← HW1.out]
    obtain ⟨h1, h2, h3⟩ := X1.out
    go_wp2_with (first
      | (go_at_call 25; refine MM.out.mono ?_; rintro e w5 ⟨rfl, b5⟩; have B5 := Lib.hid (b1.out.trans (b5.mono b1.out.size)); clear b5)
      | (go_at_call 39; refine (KM.out _).mono ?_; rintro e w6 ⟨rfl, hq6⟩; have B6 := Lib.hid (q_belowX B5.out hq6); clear hq6)
      | fail)
    go_ret2
    exact ⟨rfl, B6.out⟩
  | true =>
  have KM := Lib.hid (rkey_any k true hk)
  have HR := Lib.hid (show (getP l k = some v ∧ e = 0) ∨ (getP l k = none ∧ v = ⟨#[]⟩ ∧ e = 110) from by
    unfold getR at hr
    rw [hm, hk] at hr
    simp only [Bool.and_self, if_true] at hr
    cases hg : getP l k with
    | none => rw [hg] at hr; obtain ⟨rfl, rfl⟩ := Prod.mk.inj hr; exact .inr ⟨rfl, rfl, rfl⟩
    | some z => rw [hg] at hr; obtain ⟨rfl, rfl⟩ := Prod.mk.inj hr; exact .inl ⟨rfl, rfl⟩)
  clear hr hm hk
  go_enter Try.func18, Try.ntmps18
  go_upto_region 1 with fail
  rw [← HW1.out]
  obtain ⟨h1, h2, h3⟩ := X1.out
  go_upto_region 3 with (first
    | (go_at_call 25; refine MM.out.mono ?_; rintro e' w5 ⟨rfl, b5⟩; have B5 := Lib.hid b5; clear b5)
    | (go_at_call 39; refine (KM.out _).mono ?_; rintro e' w6 ⟨rfl, hq6⟩; have B6 := Lib.hid (q_belowX B5.out hq6); clear hq6)
    | fail)
  have X6 := Lib.hid (X1.out.grow B6.out)
  have HG6 := Lib.hid (HG.out.grow B6.out)
  have BW := Lib.hid (b1.out.trans (B6.out.mono b1.out.size))
  clear h1 h2 h3 B5 B6 HG X1 MM KM HW1 b1
  obtain ⟨h1, h2, h3⟩ := X6.out
  go_wp2
  go_loopw [6] (fun i wr => ∃ j : Nat, j ≤ n ∧ i = .int .i64 j ∧ wr = w6 ∧ Hid (getP (l.drop j) k = getP l k)) (fun i _ => n - (intOf i).toNat)
  case atStart => exact ⟨0, by omega, rfl, by trivial, Lib.hid (by rw [List.drop_zero])⟩
  case round =>
    obtain ⟨j, hj, rfl, hwr, HY⟩ := hrel
    subst hwr
    by_cases hlt : j < n
    · have hltI : (j : Int) < (n : Int) := by omega
      obtain ⟨b, off, p, rfl, hb, HK, hpo, c0, c1⟩ := HG6.out.at_ hlt
      have HD := Lib.hid (getP_drop k HK.out)
      clear hpo
      by_cases hk : p.k = k
      · have SK := seq_of p.k k
        rw [decide_eq_true hk] at SK
        have e1 : getP l k = some p.v := by rw [← HY.out, HD.out, if_pos hk]
        rcases HR.out with ⟨f1, f2⟩ | ⟨f1, _⟩
        · have f3 : v = p.v := Option.some.inj (f1.symm.trans e1)
          subst f2 f3
          clear e1 f1 hk
          go_wp2
          go_ret2
          exact ⟨rfl, BW.out⟩
        · rw [e1] at f1; cases f1
      · have SK := seq_of p.k k
        rw [decide_eq_false hk] at SK
        have HN := Lib.hid (show getP (l.drop (j + 1)) k = getP l k by rw [← HY.out, HD.out, if_neg hk])
        clear hk
        go_wp2
        go_roundw
        case rel => exact ⟨j + 1, by omega, by go_num, by trivial, HN⟩
        case measure => simp [intOf]; omega
    · have e1 : getP l k = none := by rw [← HY.out, List.drop_eq_nil_of_le (by rw [L.out]; omega)]; rfl
      rcases HR.out with ⟨f1, _⟩ | ⟨_, f2, f3⟩
      · rw [e1] at f1; cases f1
      · subst f2 f3
        clear e1
        go_wp2
        go_ret2
        exact ⟨rfl, BW.out⟩
theorem lies_newR (w : World) (p : PairZ) (t : TypeId) (g : Nat) (hg : w.heap.size = g) : Lies (w.alloc (.cells #[.string p.k, .string p.v] t)) 2 (some ⟨g, 0, none⟩) 1 (pvs [p]) ∧ Sourced (some ⟨g, 0, none⟩) 1 := by
  subst hg
  refine ⟨⟨rfl, fun ad hA => ?_⟩, fun h => by cases h⟩
  injection hA with hA
  subst hA
  exact World.news_of_block (cs := #[.string p.k, .string p.v]) (t := t) (fr := (0, 0)) (heap_alloc_new w _)
/-- The row's block is not one of those that were there at the base. -/
def FarR (base : Nat) (D : Option Addr) (n : Nat) : Prop := 0 < n → ∃ g, D = some ⟨g, 0, none⟩ ∧ base ≤ g
theorem FarR.mono {base base' n : Nat} {D : Option Addr} (h : FarR base D n) (hb : base' ≤ base) : FarR base' D n := fun hn => by
  obtain ⟨g, rfl, h1⟩ := h hn
  exact ⟨g, rfl, Nat.le_trans hb h1⟩
theorem far_nil (base : Nat) (D : Option Addr) : FarR base D 0 := fun h => absurd h (by omega)
theorem far_of_own {w : World} {base n c size : Nat} {t : TypeId} {A : Option Addr} {xs : List Value} (h : w.ownsRow base t size (.slice A n c) n xs) : FarR base A n := fun hn => by
  obtain ⟨g, cap, hv, hb, _⟩ := h.form hn
  have hA : A = some ⟨g, 0, none⟩ := by injection hv
  exact ⟨g, hA, hb⟩
theorem sp_cell {b : Nat} {p : Addr} (hp : p.block ≠ b) (vs : List Value) (o : Nat) (w : World) : (w.setCells b o vs).cell? p = w.cell? p := by
  unfold World.cell?
  rw [sp_heap hp]
theorem Prs.farX {w : World} {B n base b : Nat} {A : Option Addr} {l : List PairZ} (h : Prs w B A n l) (hf : FarR base A n) (hb : b < base) (o : Nat) (vs : List Value) : Prs (w.setCells b o vs) B A n l :=
  ⟨h.len, fun hn => by
    obtain ⟨b', off, rfl, hlt, hc⟩ := h.row hn
    obtain ⟨g, hg, hge⟩ := hf hn
    have hbg : b' = g := by injection hg with hg; injection hg
    exact ⟨b', off, rfl, hlt, fun i u hu => (sp_cell (by show b' ≠ b; omega) _ _ _).trans (hc i u hu)⟩, h.ok⟩
/-- A list of pairs that the document's call makes. -/
def MadeR (w : World) (n : Nat) (l : List PairZ) (e : Ending) (w' : World) : Prop :=
  ∃ D d, e = .returned (.slice D n d) ∧ Prs w' w'.heap.size D n l ∧ FarR w.heap.size D n ∧ Below w.heap.size w w'
set_option maxRecDepth 100000 in
set_option maxHeartbeats 4000000 in
theorem without_any {w : World} {B n : Nat} {A : Option Addr} {l : List PairZ} (c : Nat) (k : ByteArray) (N : Nat) (m : List PairZ) (h : Prs w B A n l) (hB : B ≤ w.heap.size) (hn : n ≤ 1000) (hm : delP l k = m) (hN : m.length = N) :
    Calls Try.prog 41 #[.slice A n c, .string k] w (MadeR w N m) := by
  have HP := Lib.hid (h.more hB)
  have L := Lib.hid h.len
  have own0 := Lib.hid (World.ownsRow_nil w w.heap.size 66 2)
  have HM := Lib.hid hm
  have HN := Lib.hid hN
  clear h hm hN
  go_enter Try.func41, Try.ntmps41
  go_wp2
  go_loopw [5, 6] (fun v i wr => ∃ j x : Nat, j ≤ n ∧ x ≤ j ∧ i = .int .i64 j ∧ Hid (Below w.heap.size w wr) ∧ Hid (wr.ownsRow w.heap.size 66 2 v x (pvs (delP (l.take j) k)))) (fun _ i _ => n - (intOf i).toNat)
  case atStart => exact ⟨0, 0, by omega, by omega, rfl, Lib.hid (Below.refl _ _), Lib.hid (by simpa [delP, pvs] using own0.out)⟩
  case round =>
    obtain ⟨j, x, hj, hx, rfl, HW, HO⟩ := hrel
    by_cases hlt : j < n
    · have hltI : (j : Int) < (n : Int) := by omega
      obtain ⟨b, off, p, rfl, hb, HK, hpo, c0, c1⟩ := (HP.out.below HW.out (Nat.le_refl _)).at_ hlt
      have HD := Lib.hid (delP_snoc k HK.out)
      clear hpo
      by_cases hk : p.k = k
      · have SK := seq_of p.k k
        rw [decide_eq_true hk] at SK
        have HO2 := Lib.hid (show wr.ownsRow w.heap.size 66 2 u5 x (pvs (delP (l.take (j + 1)) k)) by rw [HD.out, if_pos hk]; exact HO.out)
        clear hk
        go_wp2
        go_roundw
        case rel => exact ⟨j + 1, x, by omega, by omega, by go_num, HW, HO2⟩
        case measure => simp [intOf]; omega
      · have SK := seq_of p.k k
        rw [decide_eq_false hk] at SK
        have HD2 := Lib.hid (show delP (l.take (j + 1)) k = delP (l.take j) k ++ [p] by rw [HD.out, if_neg hk])
        have hsz := HW.out.size
        have LN := Lib.hid (lies_newR wr p 66 wr.heap.size rfl)
        have OW := Lib.hid (HO.out.alloc (.cells #[.string p.k, .string p.v] 66))
        have BW := Lib.hid (HW.out.alloc hsz (.cells #[.string p.k, .string p.v] 66))
        clear hk
        go_wp2_with (at_builtin; refine wpList_appA _ rfl (.tmp 20) (.tmp 25) 22 rfl w.heap.size 66 2 32 Try.underlying22 rpair_info (by omega) _ x (pvs (delP (l.take j) k)) rfl OW.out _ 1 1 (pvs [p]) rfl LN.out.1 LN.out.2 (pvs_one _) (by unfold maxLen; omega) (by omega) (by simp; omega) ?_; intro v1 w1 ho1 hg1 _; have B1 := Lib.hid (BW.out.grown hg1 (Nat.le_trans hsz (by simp)) (fun q hq => (OW.out.lt q hq).1)); have HO1 := Lib.hid ho1; clear ho1 hg1)
        go_roundw
        case rel => exact ⟨j + 1, x + 1, by omega, by omega, by go_num, B1, Lib.hid (by rw [HD2.out, pvs_app]; exact HO1.out)⟩
        case measure => simp [intOf]; omega
    · have e : j = n := by omega
      subst e
      go_wp2
      go_ret
      have ho := HO.out
      rw [List.take_of_length_le (by rw [L.out]; exact Nat.le_refl _), HM.out] at ho
      have hxN : x = N := by
        have := ho.1
        rw [pvs_len, HN.out] at this
        omega
      subst hxN
      obtain ⟨D, d, rfl, _, _⟩ := own_shapeP ho
      exact ⟨D, d, rfl, prs_of_own ho (fun p hp => HP.out.ok p (List.mem_filter.1 (show p ∈ delP l k from HM.out ▸ hp)).1), far_of_own ho, HW.out⟩
end Go.Proofs.Ytmlkcedhjnmfgaa
