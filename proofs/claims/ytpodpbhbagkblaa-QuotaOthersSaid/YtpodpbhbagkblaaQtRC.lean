/- The pool with a share: the document's put. -/
import Derived.Test.YtpodpbhbagkblaaQtRB
import Derived.Test.YtpodpbhbagkblaaQtF
namespace Go.Proofs.Ytpodpbhbagkblaa
open Go.ChangeShapes Go.WideShapes Go.ChangeAt Go.RowKit
set_option linter.unusedVariables false
set_option linter.unusedSimpArgs false
open Plain Qt
def GivesR (w : World) (r : List ShZ × Int) (e : Ending) (w' : World) : Prop :=
  ∃ N D d, e = .returned (.tuple #[.slice D N d, .int .i64 r.2]) ∧ w'.ownsRow w.heap.size 24 3 (.slice D N d) N (svs r.1) ∧ Below w.heap.size w w'
theorem givesR_err {w w' : World} {r : List ShZ × Int} {e : Int} (hr : r = ([], e)) (hb : Below w.heap.size w w') : GivesR w r (.returned (.tuple #[.slice none 0 0, .int .i64 e])) w' := by
  subst hr
  exact ⟨0, none, 0, rfl, World.ownsRow_nil _ _ _ _, hb⟩
theorem one_liesR (w : World) (g : ShZ) : Lies (w.alloc (.cells #[.int .i64 g.t, .int .i64 g.k, .int .i64 g.s] 24)) 3 (some ⟨w.heap.size, 0, none⟩) 1 (svs [g]) ∧ Sourced (some (⟨w.heap.size, 0, none⟩ : Addr)) 1 := by
  refine ⟨⟨by rw [svs_len]; rfl, fun ad hA j u hu => ?_⟩, fun h => by cases h⟩
  injection hA with hA; subst hA
  rw [Go.WideShapes.add_plain, cell_of_row _ _ _ _ _ _ (heap_alloc_new w _), Nat.zero_add]
  rw [← hu]
  simp [svs]
theorem doc_here {l : List ShZ} {x : ShZ} {j : Nat} (h : x.t = (j : Int) + 1) : docR l x (j + 1) = docR l x j ++ [x] := by rw [docR, if_pos h]
theorem doc_some {l : List ShZ} {x g : ShZ} {j : Nat} (h : ¬ x.t = (j : Int) + 1) (ho : ofR l ((j : Int) + 1) = some g) : docR l x (j + 1) = docR l x j ++ [g] := by rw [docR, if_neg h, ho]; rfl
theorem doc_none {l : List ShZ} {x : ShZ} {j : Nat} (h : ¬ x.t = (j : Int) + 1) (ho : ofR l ((j : Int) + 1) = none) : docR l x (j + 1) = docR l x j := by rw [docR, if_neg h, ho]; simp
set_option maxRecDepth 100000 in
set_option maxHeartbeats 8000000 in
theorem rput_any {w : World} {B n c : Nat} {A : Option Addr} {l : List ShZ} (t k s : Int) (r : List ShZ × Int) (h : Shs w B A n l) (hB : B ≤ w.heap.size) (hn : n ≤ maxLen) (hm : mayB l = true) (hx : shB ⟨t, k, s⟩ = true) (hr : toldR (insR l ⟨t, k, s⟩) = r) :
    Calls Try.prog 27 #[.slice A n c, .agg #[.int .i64 t, .int .i64 k, .int .i64 s]] w (GivesR w r) := by
  have hri := (may_parts hm).1
  have hri2 := Lib.hid (show riseQ 0 (insR l ⟨t, k, s⟩) = true from ins_rise hri hx (by have := (shB_in hx).t1; omega))
  have hok := Lib.hid (show ∀ g, g ∈ insR l ⟨t, k, s⟩ → SOk g from fun g hg => sok_in (rise_in hri2.out g hg).1)
  have hdoc := Lib.hid (doc_ins hri hx)
  have HR := Lib.hid hr
  obtain ⟨W1, hW1⟩ : ∃ W, W = w.alloc (.cells #[.int .i64 t, .int .i64 k, .int .i64 s] 24) := ⟨_, rfl⟩
  have b1 := Lib.hid (show Below w.heap.size w W1 by rw [hW1]; exact below_oneQ _ _)
  have X1 := Lib.hid (show QBox W1 w.heap.size t k s by rw [hW1]; exact qbox_new _ _ _ _ _ _ rfl)
  have HW1 := Lib.hid hW1
  have h1 : Shs W1 B A n l := h.below b1.out hB
  have hB1 : B ≤ W1.heap.size := Nat.le_trans hB b1.out.size
  have HC := Lib.hid (fun (V : World) (hV : Below W1.heap.size W1 V) => X1.out.grow hV)
  have OM := Lib.hid (fun (V : World) (hV : Below W1.heap.size W1 V) (T : Int) => rof_any (w := V) c T (ofR l T) (h1.below hV hB1) (Nat.le_trans hB1 hV.size) hn rfl)
  clear hW1 h h1 hB1 hr hm hx hri
  go_enter Try.func27, Try.ntmps27
  go_upto_region 1 with fail
  rw [← HW1.out]
  go_wp2
  go_loopw [6, 7] (fun a i wr => ∃ (j : Nat) (T : Int), i = .int .i64 T ∧ j ≤ 8 ∧ Hid (T = (j : Int) + 1) ∧ Hid (Below W1.heap.size W1 wr) ∧ ∃ N D d, a = .slice D N d ∧ N ≤ j ∧ Hid (wr.ownsRow W1.heap.size 24 3 (.slice D N d) N (svs (docR l ⟨t, k, s⟩ j)))) (fun _ i _ => (9 - intOf i).toNat)
  case atStart => exact ⟨0, 1, rfl, by omega, Lib.hid (by simp), Lib.hid (Below.refl _ _), 0, none, 0, rfl, Nat.le_refl _, Lib.hid (World.ownsRow_nil _ _ _ _)⟩
  case round =>
    obtain ⟨j, T, rfl, hj8, HT, HW, N, D, d, rfl, hN, HO⟩ := hrel
    by_cases hlt : j < 8
    · have hT8 : T ≤ 8 := by have := HT.out; omega
      have eT : IntKind.i64.wrap (T + 1) = T + 1 := by have := HT.out; rw [IntKind.wrap_i64]; omega
      have OV := Lib.hid (OM.out wr HW.out T)
      obtain ⟨o, ho⟩ : ∃ o, ofR l T = o := ⟨_, rfl⟩
      rw [ho] at OV
      have HOF := Lib.hid (show ofR l ((j : Int) + 1) = o by rw [← HT.out]; exact ho)
      clear ho
      obtain ⟨yt, yk, ys, ok, hoV⟩ : ∃ yt yk ys ok, ofV o = .tuple #[.agg #[.int .i64 yt, .int .i64 yk, .int .i64 ys], .bool ok] := ⟨_, _, _, _, rfl⟩
      rw [hoV] at OV
      have HOV := Lib.hid hoV
      clear hoV
      by_cases hE : T = t
      · have HE := Lib.hid (show t = (j : Int) + 1 by rw [← HT.out]; exact hE.symm)
        have hB : (T == t) = true := by simpa using hE
        clear hE
        go_upto_region 6 with (go_at_call 16; refine OV.out.mono ?_; rintro e w5 ⟨rfl, b5⟩; have B5 := Lib.hid (HW.out.trans (b5.mono HW.out.size)); have O5 := Lib.hid (own_below HO.out b5 (Nat.le_refl _)); clear b5)
        obtain ⟨g5, hg5⟩ : ∃ g, w5.heap.size = g := ⟨_, rfl⟩
        obtain ⟨w6, hw6⟩ : ∃ W, W = w5.alloc (.cells #[.int .i64 yt, .int .i64 yk, .int .i64 ys] 24) := ⟨_, rfl⟩
        rw [hg5, ← hw6]
        have B6 := Lib.hid (show Below W1.heap.size W1 w6 by rw [hw6]; exact B5.out.alloc B5.out.size _)
        have O6 := Lib.hid (show w6.ownsRow W1.heap.size 24 3 (.slice D N d) N (svs (docR l ⟨t, k, s⟩ j)) by rw [hw6]; exact O5.out.alloc _)
        have HG5 := Lib.hid hg5
        have HW6 := Lib.hid hw6
        clear hg5 hw6 O5 B5
        obtain ⟨c0, c1, c2⟩ := HC.out _ B6.out
        go_wp2_with (first
          | (at_builtin; refine wpList_app _ rfl (.tmp 24) (.tmp 26) 22 rfl W1.heap.size 24 3 24 Try.underlying22 rshare_info (by omega) _ N (svs (docR l ⟨t, k, s⟩ j)) rfl (own_below O6.out (below_oneQ _ _) (Nat.le_refl _)) _ 1 1 (svs [(⟨t, k, s⟩ : ShZ)]) rfl (one_liesR _ (⟨t, k, s⟩ : ShZ)).1 (one_liesR _ (⟨t, k, s⟩ : ShZ)).2 (svs_one _) (by unfold maxLen; omega) (by omega) (Nat.le_trans B6.out.size (below_oneQ _ _).size) ?_; intro v1 w7 ho7 hg7; have B7 := Lib.hid ((B6.out.alloc B6.out.size _).grown hg7 (Nat.le_trans B6.out.size (below_oneQ _ _).size) (fun q hq => (O6.out.lt q hq).1)); obtain ⟨D7, d7, rfl, _, _⟩ := own_shapeQ ho7; have O7 := Lib.hid ho7; clear ho7 hg7)
          | fail)
        refine ⟨⟨j + 1, T + 1, by trivial, by omega, Lib.hid (by rw [HT.out]; omega), Lib.hid B7.out, N + 1, D7, d7, by trivial, by omega, Lib.hid (by rw [doc_here (x := ⟨t, k, s⟩) HE.out, svs_app]; exact O7.out)⟩, ?_⟩
        simp [intOf]; omega
      · have HE := Lib.hid (show ¬ t = (j : Int) + 1 by rw [← HT.out]; exact fun e => hE e.symm)
        have hB : (T == t) = false := by simpa using hE
        clear hE
        cases o with
        | none =>
          obtain rfl : ok = false := by have := HOV.out; simp [ofV] at this; exact this.2
          go_upto_region 6 with (go_at_call 16; refine OV.out.mono ?_; rintro e w5 ⟨rfl, b5⟩; have B5 := Lib.hid (HW.out.trans (b5.mono HW.out.size)); have O5 := Lib.hid (own_below HO.out b5 (Nat.le_refl _)); clear b5)
          obtain ⟨g5, hg5⟩ : ∃ g, w5.heap.size = g := ⟨_, rfl⟩
          obtain ⟨w6, hw6⟩ : ∃ W, W = w5.alloc (.cells #[.int .i64 yt, .int .i64 yk, .int .i64 ys] 24) := ⟨_, rfl⟩
          rw [hg5, ← hw6]
          have B6 := Lib.hid (show Below W1.heap.size W1 w6 by rw [hw6]; exact B5.out.alloc B5.out.size _)
          have O6 := Lib.hid (show w6.ownsRow W1.heap.size 24 3 (.slice D N d) N (svs (docR l ⟨t, k, s⟩ j)) by rw [hw6]; exact O5.out.alloc _)
          have HG5 := Lib.hid hg5
          have HW6 := Lib.hid hw6
          clear hg5 hw6 O5 B5
          obtain ⟨c0, c1, c2⟩ := HC.out _ B6.out
          go_wp2
          go_roundw
          case rel => exact ⟨j + 1, T + 1, by trivial, by omega, Lib.hid (by rw [HT.out]; omega), B6, N, D, d, by trivial, by omega, Lib.hid (by rw [doc_none (x := ⟨t, k, s⟩) HE.out HOF.out]; exact O6.out)⟩
          case measure => simp [intOf]; omega
        | some g =>
          obtain ⟨rfl, rfl, rfl, rfl⟩ : g.t = yt ∧ g.k = yk ∧ g.s = ys ∧ true = ok := by have := HOV.out; simp [ofV] at this; exact ⟨this.1.1, this.1.2.1, this.1.2.2, this.2.symm⟩
          go_upto_region 6 with (go_at_call 16; refine OV.out.mono ?_; rintro e w5 ⟨rfl, b5⟩; have B5 := Lib.hid (HW.out.trans (b5.mono HW.out.size)); have O5 := Lib.hid (own_below HO.out b5 (Nat.le_refl _)); clear b5)
          obtain ⟨g5, hg5⟩ : ∃ g, w5.heap.size = g := ⟨_, rfl⟩
          obtain ⟨w6, hw6⟩ : ∃ W, W = w5.alloc (.cells #[.int .i64 g.t, .int .i64 g.k, .int .i64 g.s] 24) := ⟨_, rfl⟩
          rw [hg5, ← hw6]
          have B6 := Lib.hid (show Below W1.heap.size W1 w6 by rw [hw6]; exact B5.out.alloc B5.out.size _)
          have O6 := Lib.hid (show w6.ownsRow W1.heap.size 24 3 (.slice D N d) N (svs (docR l ⟨t, k, s⟩ j)) by rw [hw6]; exact O5.out.alloc _)
          have HG5 := Lib.hid hg5
          have HW6 := Lib.hid hw6
          clear hg5 hw6 O5 B5
          obtain ⟨c0, c1, c2⟩ := HC.out _ B6.out
          have Y6 := qbox_new w5 g.t g.k g.s 24 g5 HG5.out
          rw [← HW6.out] at Y6
          obtain ⟨y1, y2, y3⟩ := Y6
          go_wp2_with (first
            | (at_builtin; refine wpList_app _ rfl (.tmp 29) (.tmp 31) 22 rfl W1.heap.size 24 3 24 Try.underlying22 rshare_info (by omega) _ N (svs (docR l ⟨t, k, s⟩ j)) rfl (own_below O6.out (below_oneQ _ _) (Nat.le_refl _)) _ 1 1 (svs [g]) rfl (one_liesR _ g).1 (one_liesR _ g).2 (svs_one _) (by unfold maxLen; omega) (by omega) (Nat.le_trans B6.out.size (below_oneQ _ _).size) ?_; intro v1 w7 ho7 hg7; have B7 := Lib.hid ((B6.out.alloc B6.out.size _).grown hg7 (Nat.le_trans B6.out.size (below_oneQ _ _).size) (fun q hq => (O6.out.lt q hq).1)); obtain ⟨D7, d7, rfl, _, _⟩ := own_shapeQ ho7; have O7 := Lib.hid ho7; clear ho7 hg7)
            | fail)
          refine ⟨⟨j + 1, T + 1, by trivial, by omega, Lib.hid (by rw [HT.out]; omega), Lib.hid B7.out, N + 1, D7, d7, by trivial, by omega, Lib.hid (by rw [doc_some (x := ⟨t, k, s⟩) HE.out HOF.out, svs_app]; exact O7.out)⟩, ?_⟩
          simp [intOf]; omega
    · have e8 : j = 8 := by omega
      subst e8
      have hT8 : ¬ T ≤ 8 := by have := HT.out; omega
      have HO2 := Lib.hid (show wr.ownsRow W1.heap.size 24 3 (.slice D N d) N (svs (insR l ⟨t, k, s⟩)) by rw [← hdoc.out]; exact HO.out)
      have HSS := Lib.hid (shs_of_own HO2.out hok.out)
      cases hf : fitB (insR l ⟨t, k, s⟩) with
      | true =>
        have E1 : Hid (r = (insR l ⟨t, k, s⟩, 0)) := Lib.hid (by rw [← HR.out]; unfold toldR; rw [hf]; rfl)
        have MM := Lib.hid (rmay_any d true HSS.out (Nat.le_refl _) (by unfold maxLen; omega) (by unfold mayB; rw [hri2.out, hf]; rfl))
        clear hf HO
        go_wp2_with (first
          | (go_at_call 20; refine MM.out.mono ?_; rintro e w5 ⟨rfl, b5⟩; have O5 := Lib.hid (own_below HO2.out b5 (Nat.le_refl _)); have B5 := Lib.hid (HW.out.trans (b5.mono HW.out.size)); clear b5)
          | fail)
        go_ret2
        have e0 := E1.out
        subst e0
        exact ⟨N, D, d, rfl, own_base O5.out b1.out.size, b1.out.trans (B5.out.mono b1.out.size)⟩
      | false =>
        have E1 : Hid (r = ([], 120)) := Lib.hid (by rw [← HR.out]; unfold toldR; rw [hf]; rfl)
        have MM := Lib.hid (rmay_any d false HSS.out (Nat.le_refl _) (by unfold maxLen; omega) (by unfold mayB; rw [hri2.out, hf]; rfl))
        clear hf HO
        go_wp2_with (first
          | (go_at_call 20; refine MM.out.mono ?_; rintro e w5 ⟨rfl, b5⟩; have B5 := Lib.hid (HW.out.trans (b5.mono HW.out.size)); clear b5)
          | fail)
        go_ret2
        exact givesR_err E1.out (b1.out.trans (B5.out.mono b1.out.size))
end Go.Proofs.Ytpodpbhbagkblaa
