/- What is in either of two sets: the program's loop, Union, Add. -/
import Derived.Test.YtmeafjehcckibaaRvC
import Derived.Deep.OwnRows
import Derived.WalkMore
import Derived.ScopeJumps
namespace Go.Proofs.Ytmeafjehcckibaa
open Go.ChangeShapes Go.WideShapes Go.ChangeAt Go.RowKit
set_option linter.unusedVariables false
set_option linter.unusedSimpArgs false
open Plain
def lenV : Value → Nat
  | .slice _ n _ => n
  | _ => 0
/-- A row, one ahead. -/
theorem Ir.tail {w : World} {B n off b : Nat} {x : Int} {zs : List Int} (h : Ir w B (some ⟨b, off, none⟩) n (x :: zs)) : Ir w B (some ⟨b, off + 1, none⟩) (n - 1) zs := by
  have hl := h.len
  simp only [List.length_cons] at hl
  refine ⟨by omega, fun hn => ?_⟩
  obtain ⟨b', off', e, hb, hc⟩ := h.row (by omega)
  injection e with e; injection e with e1 e2 e3
  subst e1 e2
  refine ⟨_, _, rfl, hb, fun j hj => ?_⟩
  have := hc (j + 1) (by omega)
  rw [List.getD_cons_succ] at this
  rw [show off + 1 + j = off + (j + 1) by omega]
  exact this
theorem Ir.head {w : World} {B n : Nat} {A : Option Addr} {zs : List Int} (h : Ir w B A n zs) (hn : 0 < n) : ∃ b off x l, A = some ⟨b, off, none⟩ ∧ b < B ∧ zs = x :: l ∧ w.cell? ⟨b, off, none⟩ = some (.int .i64 x) := by
  obtain ⟨b, off, rfl, hb, hc⟩ := h.row hn
  have hl := h.len
  cases zs with
  | nil => simp at hl; omega
  | cons x l => exact ⟨b, off, x, l, rfl, hb, rfl, by simpa using hc 0 hn⟩
theorem Ir.tail1 {w : World} {B n d off b : Nat} {x : Int} {zs : List Int} (h : Ir w B (some ⟨b, off, none⟩) n (x :: zs)) (hd : n ≤ d) : Ir w B (if d = 1 then some ⟨b, off, none⟩ else some ⟨b, off + 1, none⟩) (n - 1) zs := by
  have ht := h.tail
  split
  · next e =>
    have h0 : n - 1 = 0 := by omega
    have hl := ht.len
    rw [h0] at hl ⊢
    rw [List.eq_nil_of_length_eq_zero hl]
    exact Ir.nil
  · exact ht
theorem ivs_snoc (X : List Int) (x : Int) : ivs (X ++ [x]) = ivs X ++ [.int .i64 x] := by simp [ivs]
/-- What holds at the loop's beginning: what is taken, and what is left of both. -/
def MergeSt (w : World) (B1 B2 : Nat) (M : List Int) (va vb v : Value) (wr : World) : Prop := ∃ p1 d1 p2 d2 j : Nat, ∃ D1 D2 : Option Addr, ∃ X xa xb : List Int, va = .slice D1 p1 d1 ∧ vb = .slice D2 p2 d2 ∧ p1 ≤ d1 ∧ p2 ≤ d2 ∧ d1 ≤ 9223372036854775807 ∧ d2 ≤ 9223372036854775807 ∧ j + p1 + p2 ≤ 2000 ∧ Hid (Ir wr B1 D1 p1 xa) ∧ Hid (Ir wr B2 D2 p2 xb) ∧ Hid (X ++ mrg xa xb = M) ∧ wr.ownsRow w.heap.size 3 1 v j (ivs X) ∧ Below w.heap.size w wr
set_option maxRecDepth 100000 in
set_option maxHeartbeats 4000000 in
theorem merged_any {w : World} {B1 B2 n1 n2 c1 c2 : Nat} {A1 A2 : Option Addr} {za zb : List Int} (h1 : Ir w B1 A1 n1 za) (h2 : Ir w B2 A2 n2 zb) (hB1 : B1 ≤ w.heap.size) (hB2 : B2 ≤ w.heap.size) (hn1 : n1 ≤ 1000) (hn2 : n2 ≤ 1000) (hc1 : n1 ≤ c1) (hc2 : n2 ≤ c2) (hm1 : c1 ≤ maxLen) (hm2 : c2 ≤ maxLen) :
    Calls Try.prog 26 #[.slice A1 n1 c1, .slice A2 n2 c2] w (MadeI w (mrg za zb)) := by
  have H1 := Lib.hid h1
  have H2 := Lib.hid h2
  have own0 := World.ownsRow_nil w w.heap.size 3 1
  obtain ⟨M, hM⟩ : ∃ M, mrg za zb = M := ⟨_, rfl⟩
  have HM := Lib.hid hM
  obtain ⟨i0, hi0, hz0, hz1, hz2⟩ := info_parts (show (Try.prog.info? 3).map (fun i => (i.zero, i.size, i.bytes)) = some (some (.int .i64 0), 1, 8) by kernel_rfl)
  have I0 := Lib.hid hi0
  have I1 := Lib.hid hz0
  have I2 := Lib.hid hz1
  have I3 := Lib.hid hz2
  unfold maxLen at hm1 hm2
  rw [hM]
  clear h1 h2 hM hi0 hz0 hz1 hz2
  go_enter Try.func26, Try.ntmps26
  go_wp2
  go_step3
  go_wp2
  go_step3
  go_wp2
  go_loopw [0, 1, 5] (fun va vb v wr => MergeSt w B1 B2 M va vb v wr) (fun va vb _ _ => lenV va + lenV vb)
  case atStart => exact ⟨n1, c1, n2, c2, 0, A1, A2, [], za, zb, rfl, rfl, hc1, hc2, hm1, hm2, by omega, H1, H2, HM, own0, Below.refl _ _⟩
  case round =>
    obtain ⟨p1, d1, p2, d2, j, D1, D2, X, xa, xb, rfl, rfl, hp1, hp2, hd1, hd2, hj, HX, HY, HE, hown, hbel⟩ := hrel
    by_cases h01 : p1 = 0
    · have HE1 : Hid (X ++ xa ++ xb = M) := Lib.hid (by
        have hl := HX.out.len
        rw [h01] at hl
        rw [← HE.out, List.eq_nil_of_length_eq_zero hl, mrg_l]; simp)
      have HLX := Lib.hid HX.out.lies
      have HOW := Lib.hid hown
      have HB := Lib.hid hbel
      have hsz := hbel.size
      clear hown hbel
      have k5 : ((p1 : Int) == 0) = true := by simp; omega
      go_wp2_with (first
        | (at_builtin; refine wpList_app _ rfl (.tmp 25) (.tmp 26) 22 rfl w.heap.size 3 1 8 Try.underlying22 int_info (by omega) u5 j (ivs X) rfl HOW.out D1 p1 d1 (ivs xa) rfl HLX.out.1 HLX.out.2 (iv_one _) (by unfold maxLen; omega) (by omega) hsz ?_; intro v1 w1 ho1 hg1; have Bq1 := Lib.hid ((Below.refl w.heap.size wr).grown hg1 hsz (fun q hq => (HOW.out.lt q hq).1)); have HO1 := Lib.hid ho1; have HY1 := Lib.hid ((HY.out.below Bq1.out hB2).lies); have B1q := Lib.hid (HB.out.trans Bq1.out); clear ho1 hg1)
        | (at_builtin; refine wpList_app _ rfl (.tmp 27) (.tmp 28) 22 rfl w.heap.size 3 1 8 Try.underlying22 int_info (by omega) v1 (j + p1) (ivs X ++ ivs xa) rfl HO1.out D2 p2 d2 (ivs xb) rfl HY1.out.1 HY1.out.2 (iv_one _) (by unfold maxLen; omega) (by omega) B1q.out.size ?_; intro v2 w2 ho2 hg2; have B2q := Lib.hid (B1q.out.grown hg2 B1q.out.size (fun q hq => (HO1.out.lt q hq).1)); have HO2 := Lib.hid ho2; clear ho2 hg2))
      try rw [Exit.noGoto_ret]
      go_ret
      exact madeI_of (n := j + p1 + p2) (by rw [← HE1.out, iv_app, iv_app]; exact HO2.out) B2q.out
    by_cases h02 : p2 = 0
    · have HE1 : Hid (X ++ xa ++ xb = M) := Lib.hid (by
        have hl := HY.out.len
        rw [h02] at hl
        rw [← HE.out, List.eq_nil_of_length_eq_zero hl, mrg_r]; simp)
      subst h02
      have HLX := Lib.hid HX.out.lies
      have HOW := Lib.hid hown
      have HB := Lib.hid hbel
      have hsz := hbel.size
      clear hown hbel
      have k5 : ((p1 : Int) == 0) = false := by simp; omega
      go_wp2_with (first
        | (at_builtin; refine wpList_app _ rfl (.tmp 25) (.tmp 26) 22 rfl w.heap.size 3 1 8 Try.underlying22 int_info (by omega) u5 j (ivs X) rfl HOW.out D1 p1 d1 (ivs xa) rfl HLX.out.1 HLX.out.2 (iv_one _) (by unfold maxLen; omega) (by omega) hsz ?_; intro v1 w1 ho1 hg1; have Bq1 := Lib.hid ((Below.refl w.heap.size wr).grown hg1 hsz (fun q hq => (HOW.out.lt q hq).1)); have HO1 := Lib.hid ho1; have HY1 := Lib.hid ((HY.out.below Bq1.out hB2).lies); have B1q := Lib.hid (HB.out.trans Bq1.out); clear ho1 hg1)
        | (at_builtin; refine wpList_app _ rfl (.tmp 27) (.tmp 28) 22 rfl w.heap.size 3 1 8 Try.underlying22 int_info (by omega) v1 (j + p1) (ivs X ++ ivs xa) rfl HO1.out D2 0 d2 (ivs xb) rfl HY1.out.1 HY1.out.2 (iv_one _) (by unfold maxLen; omega) (by omega) B1q.out.size ?_; intro v2 w2 ho2 hg2; have B2q := Lib.hid (B1q.out.grown hg2 B1q.out.size (fun q hq => (HO1.out.lt q hq).1)); have HO2 := Lib.hid ho2; clear ho2 hg2))
      try rw [Exit.noGoto_ret]
      go_ret
      exact madeI_of (n := j + p1 + 0) (by rw [← HE1.out, iv_app, iv_app]; exact HO2.out) B2q.out
    obtain ⟨b, off, x, la, rfl, hb, rfl, hc⟩ := HX.out.head (by omega)
    obtain ⟨b', off', y, lb, rfl, hb', rfl, hc'⟩ := HY.out.head (by omega)
    have k1 : (0 : Int) < (p1 : Int) := by omega
    have k2 : (0 : Int) < (p2 : Int) := by omega
    have k3 : (1 : Int) ≤ (p1 : Int) := by omega
    have k4 : (1 : Int) ≤ (p2 : Int) := by omega
    have k7 : 0 < p1 := by omega
    have k8 : 0 < p2 := by omega
    have k5 : ((p1 : Int) == 0) = false := by simp; omega
    have k6 : ((p2 : Int) == 0) = false := by simp; omega
    by_cases hlt : x < y
    · have HE1 : Hid (X ++ [x] ++ mrg la (y :: lb) = M) := Lib.hid (by rw [← HE.out, mrg_lt _ _ hlt]; simp)
      have HOW := Lib.hid hown
      have HB := Lib.hid hbel
      clear hown hbel
      go_wp2
      go_quiet (fail)
      go_wp2
      have OW : (wr.drewN nq).ownsRow w.heap.size 3 1 u5 j (ivs X) := HOW.out
      have OB := below_drewN HB.out nq
      have OX : Hid (Ir (wr.drewN nq) B1 (some ⟨b, off, none⟩) p1 (x :: la)) := Lib.hid (HX.out.drewN nq)
      have OY : Hid (Ir (wr.drewN nq) B2 (some ⟨b', off', none⟩) p2 (y :: lb)) := Lib.hid (HY.out.drewN nq)
      have oc : (wr.drewN nq).cell? ⟨b, off, none⟩ = some (.int .i64 x) := hc
      have oc' : (wr.drewN nq).cell? ⟨b', off', none⟩ = some (.int .i64 y) := hc'
      clear HX HY HOW HB hc hc'
      generalize wr.drewN nq = wq at *
      go_region_law ((refine step_append_lies _ (by rfl) _ _ _ (by rfl) w.heap.size 3 i0 _ 1 8 Try.underlying22 I0.out I1.out I2.out I3.out rfl (by omega) u5 j _ (by rfl) ((OW.alloc _).drew) ⟨wq.heap.size, 0, none⟩ 1 1 [.int .i64 x] (by rfl) (by rfl) (World.news_of_block (cs := #[.int .i64 x]) (t := 3) (fr := (0, 0)) (heap_alloc_new wq _)) (by simp [Value.oneCell']) (by omega) (by unfold maxLen; omega) (by omega) (by have := OB.size; simp; omega) (wq.heap.size + 1) (by simp) ?_; intro gg cap w1 hown1 hgrow hat hlt1))
      all_goals
        have Bq : Hid (Below w.heap.size wq w1) := Lib.hid ((((Below.refl _ _).alloc OB.size _).drew).grown hgrow (by have := OB.size; simp; omega) (fun q hq => (OW.lt q hq).1))
        have OB1 := OB.trans Bq.out
        have OX1 := Lib.hid (OX.out.below Bq.out hB1)
        have OY1 := Lib.hid (OY.out.below Bq.out hB2)
        clear hgrow hat hlt1 OW OB oc oc'
        have T1 := Lib.hid (OX1.out.tail1 hp1)
        generalize (if d1 = 1 then (some ⟨b, off, none⟩ : Option Addr) else some ⟨b, off + 1, none⟩) = E1 at T1 ⊢
        have ST : MergeSt w B1 B2 M (.slice E1 (p1 - 1) (d1 - 1)) (.slice (some ⟨b', off', none⟩) p2 d2) (.slice (some ⟨gg, 0, none⟩) (j + 1) cap) w1 := ⟨p1 - 1, d1 - 1, p2, d2, j + 1, _, _, X ++ [x], la, y :: lb, rfl, rfl, by omega, by omega, by omega, by omega, by omega, T1, OY1, HE1, by rw [ivs_snoc]; exact hown1, OB1⟩
        clear hown1 OB1 OX1 OY1
        go_simp
        go_wp2
        go_roundw
        case rel => exact ST
        case measure => simp [lenV]; omega
    by_cases hgt : y < x
    · have HE1 : Hid (X ++ [y] ++ mrg (x :: la) lb = M) := Lib.hid (by rw [← HE.out, mrg_gt _ _ hgt]; simp)
      have HOW := Lib.hid hown
      have HB := Lib.hid hbel
      clear hown hbel
      go_wp2
      go_quiet (fail)
      go_wp2
      have OW : (wr.drewN nq).ownsRow w.heap.size 3 1 u5 j (ivs X) := HOW.out
      have OB := below_drewN HB.out nq
      have OX : Hid (Ir (wr.drewN nq) B1 (some ⟨b, off, none⟩) p1 (x :: la)) := Lib.hid (HX.out.drewN nq)
      have OY : Hid (Ir (wr.drewN nq) B2 (some ⟨b', off', none⟩) p2 (y :: lb)) := Lib.hid (HY.out.drewN nq)
      have oc : (wr.drewN nq).cell? ⟨b, off, none⟩ = some (.int .i64 x) := hc
      have oc' : (wr.drewN nq).cell? ⟨b', off', none⟩ = some (.int .i64 y) := hc'
      clear HX HY HOW HB hc hc'
      generalize wr.drewN nq = wq at *
      have HX := OX
      have HY := OY
      have HOW := Lib.hid OW
      have HB := Lib.hid OB
      have hc := oc
      have hc' := oc'
      clear OX OY OW OB oc oc'
      obtain ⟨wr, hwr⟩ : ∃ wr, wr = wq := ⟨_, rfl⟩
      subst hwr
      go_quiet (fail)
      go_wp2
      have OW : (wr.drewN nq).ownsRow w.heap.size 3 1 u5 j (ivs X) := HOW.out
      have OB := below_drewN HB.out nq
      have OX : Hid (Ir (wr.drewN nq) B1 (some ⟨b, off, none⟩) p1 (x :: la)) := Lib.hid (HX.out.drewN nq)
      have OY : Hid (Ir (wr.drewN nq) B2 (some ⟨b', off', none⟩) p2 (y :: lb)) := Lib.hid (HY.out.drewN nq)
      have oc : (wr.drewN nq).cell? ⟨b, off, none⟩ = some (.int .i64 x) := hc
      have oc' : (wr.drewN nq).cell? ⟨b', off', none⟩ = some (.int .i64 y) := hc'
      clear HX HY HOW HB hc hc'
      generalize wr.drewN nq = wq at *
      go_region_law ((refine step_append_lies _ (by rfl) _ _ _ (by rfl) w.heap.size 3 i0 _ 1 8 Try.underlying22 I0.out I1.out I2.out I3.out rfl (by omega) u5 j _ (by rfl) ((OW.alloc _).drew) ⟨wq.heap.size, 0, none⟩ 1 1 [.int .i64 y] (by rfl) (by rfl) (World.news_of_block (cs := #[.int .i64 y]) (t := 3) (fr := (0, 0)) (heap_alloc_new wq _)) (by simp [Value.oneCell']) (by omega) (by unfold maxLen; omega) (by omega) (by have := OB.size; simp; omega) (wq.heap.size + 1) (by simp) ?_; intro gg cap w1 hown1 hgrow hat hlt1))
      all_goals
        have Bq : Hid (Below w.heap.size wq w1) := Lib.hid ((((Below.refl _ _).alloc OB.size _).drew).grown hgrow (by have := OB.size; simp; omega) (fun q hq => (OW.lt q hq).1))
        have OB1 := OB.trans Bq.out
        have OX1 := Lib.hid (OX.out.below Bq.out hB1)
        have OY1 := Lib.hid (OY.out.below Bq.out hB2)
        clear hgrow hat hlt1 OW OB oc oc'
        have T2 := Lib.hid (OY1.out.tail1 hp2)
        generalize (if d2 = 1 then (some ⟨b', off', none⟩ : Option Addr) else some ⟨b', off' + 1, none⟩) = E2 at T2 ⊢
        have ST : MergeSt w B1 B2 M (.slice (some ⟨b, off, none⟩) p1 d1) (.slice E2 (p2 - 1) (d2 - 1)) (.slice (some ⟨gg, 0, none⟩) (j + 1) cap) w1 := ⟨p1, d1, p2 - 1, d2 - 1, j + 1, _, _, X ++ [y], x :: la, lb, rfl, rfl, by omega, by omega, by omega, by omega, by omega, OX1, T2, HE1, by rw [ivs_snoc]; exact hown1, OB1⟩
        clear hown1 OB1 OX1 OY1
        go_simp
        go_wp2
        go_roundw
        case rel => exact ST
        case measure => simp [lenV]; omega
    have exy : x = y := by omega
    have HE1 : Hid (X ++ [x] ++ mrg la lb = M) := Lib.hid (by rw [← HE.out, mrg_eq _ _ exy]; simp)
    have HOW := Lib.hid hown
    have HB := Lib.hid hbel
    clear hown hbel exy
    go_wp2
    go_quiet (fail)
    go_wp2
    have OW : (wr.drewN nq).ownsRow w.heap.size 3 1 u5 j (ivs X) := HOW.out
    have OB := below_drewN HB.out nq
    have OX : Hid (Ir (wr.drewN nq) B1 (some ⟨b, off, none⟩) p1 (x :: la)) := Lib.hid (HX.out.drewN nq)
    have OY : Hid (Ir (wr.drewN nq) B2 (some ⟨b', off', none⟩) p2 (y :: lb)) := Lib.hid (HY.out.drewN nq)
    have oc : (wr.drewN nq).cell? ⟨b, off, none⟩ = some (.int .i64 x) := hc
    have oc' : (wr.drewN nq).cell? ⟨b', off', none⟩ = some (.int .i64 y) := hc'
    clear HX HY HOW HB hc hc'
    generalize wr.drewN nq = wq at *
    have HX := OX
    have HY := OY
    have HOW := Lib.hid OW
    have HB := Lib.hid OB
    have hc := oc
    have hc' := oc'
    clear OX OY OW OB oc oc'
    obtain ⟨wr, hwr⟩ : ∃ wr, wr = wq := ⟨_, rfl⟩
    subst hwr
    go_quiet (fail)
    go_wp2
    have OW : (wr.drewN nq).ownsRow w.heap.size 3 1 u5 j (ivs X) := HOW.out
    have OB := below_drewN HB.out nq
    have OX : Hid (Ir (wr.drewN nq) B1 (some ⟨b, off, none⟩) p1 (x :: la)) := Lib.hid (HX.out.drewN nq)
    have OY : Hid (Ir (wr.drewN nq) B2 (some ⟨b', off', none⟩) p2 (y :: lb)) := Lib.hid (HY.out.drewN nq)
    have oc : (wr.drewN nq).cell? ⟨b, off, none⟩ = some (.int .i64 x) := hc
    have oc' : (wr.drewN nq).cell? ⟨b', off', none⟩ = some (.int .i64 y) := hc'
    clear HX HY HOW HB hc hc'
    generalize wr.drewN nq = wq at *
    go_region_law ((refine step_append_lies _ (by rfl) _ _ _ (by rfl) w.heap.size 3 i0 _ 1 8 Try.underlying22 I0.out I1.out I2.out I3.out rfl (by omega) u5 j _ (by rfl) ((OW.alloc _).drew) ⟨wq.heap.size, 0, none⟩ 1 1 [.int .i64 x] (by rfl) (by rfl) (World.news_of_block (cs := #[.int .i64 x]) (t := 3) (fr := (0, 0)) (heap_alloc_new wq _)) (by simp [Value.oneCell']) (by omega) (by unfold maxLen; omega) (by omega) (by have := OB.size; simp; omega) (wq.heap.size + 1) (by simp) ?_; intro gg cap w1 hown1 hgrow hat hlt1))
    all_goals
      have Bq : Hid (Below w.heap.size wq w1) := Lib.hid ((((Below.refl _ _).alloc OB.size _).drew).grown hgrow (by have := OB.size; simp; omega) (fun q hq => (OW.lt q hq).1))
      have OB1 := OB.trans Bq.out
      have OX1 := Lib.hid (OX.out.below Bq.out hB1)
      have OY1 := Lib.hid (OY.out.below Bq.out hB2)
      clear hgrow hat hlt1 OW OB oc oc'
      have T1 := Lib.hid (OX1.out.tail1 hp1)
      generalize (if d1 = 1 then (some ⟨b, off, none⟩ : Option Addr) else some ⟨b, off + 1, none⟩) = E1 at T1 ⊢
      have T2 := Lib.hid (OY1.out.tail1 hp2)
      generalize (if d2 = 1 then (some ⟨b', off', none⟩ : Option Addr) else some ⟨b', off' + 1, none⟩) = E2 at T2 ⊢
      have ST : MergeSt w B1 B2 M (.slice E1 (p1 - 1) (d1 - 1)) (.slice E2 (p2 - 1) (d2 - 1)) (.slice (some ⟨gg, 0, none⟩) (j + 1) cap) w1 := ⟨p1 - 1, d1 - 1, p2 - 1, d2 - 1, j + 1, _, _, X ++ [x], la, lb, rfl, rfl, by omega, by omega, by omega, by omega, by omega, T1, T2, HE1, by rw [ivs_snoc]; exact hown1, OB1⟩
      clear hown1 OB1 OX1 OY1
      go_simp
      go_wp2
      go_roundw
      case rel => exact ST
      case measure => simp [lenV]; omega
end Go.Proofs.Ytmeafjehcckibaa
