/- A share more: the program's Reserve, where it may. -/
import Derived.Test.YtpodpbhbagkblaaQtI
namespace Go.Proofs.Ytpodpbhbagkblaa
open Go.ChangeShapes Go.WideShapes Go.ChangeAt Go.RowKit
set_option linter.unusedVariables false
set_option linter.unusedSimpArgs false
open Plain Qt
/-- Insert, of a share that is written out behind the copy. -/
theorem ins_A {b0 b1 : Nat} {w6 : World} {n d : Nat} {D : Option Addr} {l : List ShZ} (i : Nat) (x : ShZ) (ho : w6.ownsRow b1 27 3 (.slice D n d) n (svs l)) (h01 : b0 ≤ b1) (hs : b1 ≤ w6.heap.size) (hi : i ≤ n) (hn : n ≤ 8) {L : List ShZ} (hL : l.take i ++ x :: l.drop i = L) :
    Calls Try.prog 29 #[.slice D n d, .int .i64 i, .slice (some ⟨w6.heap.size, 0, none⟩) 1 1] (w6.alloc (.cells #[.int .i64 x.t, .int .i64 x.k, .int .i64 x.s] 27)) (InsQ b0 (n + 1) L w6) := by
  refine (insert_anyQ i x (ho.alloc _) (Nat.le_trans hs (below_oneQ w6 _).size) hi hn (heap_alloc_new w6 _) (fun g hg => by have := (ho.lt g hg).2; omega) hL).mono ?_
  rintro e w' ⟨D', d', rfl, h1, h2⟩
  exact ⟨D', d', rfl, own_base h1 h01, (((below_oneQ w6 _).mono hs).trans h2).mono h01⟩
/-- The same, ahead of it. -/
theorem ins_B {b0 vb : Nat} {V w6 : World} {n d : Nat} {D : Option Addr} {l : List ShZ} (i : Nat) (x : ShZ) (hv : V.heap[vb]? = some (.cells #[.int .i64 x.t, .int .i64 x.k, .int .i64 x.s] 27 (0, 0))) (ho : w6.ownsRow V.heap.size 27 3 (.slice D n d) n (svs l)) (h01 : b0 ≤ V.heap.size) (hb : Below V.heap.size V w6) (hi : i ≤ n) (hn : n ≤ 8) {L : List ShZ} (hL : l.take i ++ x :: l.drop i = L) :
    Calls Try.prog 29 #[.slice D n d, .int .i64 i, .slice (some ⟨vb, 0, none⟩) 1 1] w6 (InsQ b0 (n + 1) L w6) := by
  have hlt : vb < V.heap.size := (Array.getElem?_eq_some_iff.1 hv).1
  refine (insert_anyQ i x ho hb.size hi hn ((hb.block vb hlt).trans hv) (fun g hg => by have := (ho.lt g hg).1; omega) hL).mono ?_
  rintro e w' ⟨D', d', rfl, h1, h2⟩
  exact ⟨D', d', rfl, own_base h1 h01, h2.mono h01⟩
set_option maxRecDepth 100000 in
set_option maxHeartbeats 8000000 in
theorem reserve_yes {w : World} {B n c : Nat} {A : Option Addr} {l : List ShZ} (x : ShZ) (r : List ShZ × Int) (h : Shs w B A n l) (hB : B ≤ w.heap.size) (hn : n ≤ maxLen) (hm : mayB l = true) (hx : shB x = true) (ho : ofR l x.t = none) (hr : resR l x = r) :
    Calls Try.prog 11 #[.slice A n c, .agg #[.int .i64 x.t, .int .i64 x.k, .int .i64 x.s]] w (GivesQ w r) := by
  have hri := (may_parts hm).1
  have HR := Lib.hid (show toldR (insR l x) = r by rw [← hr]; unfold resR; rw [hm, hx, ho]; rfl)
  have hri2 := Lib.hid (show riseQ 0 (insR l x) = true from ins_rise hri hx (by have := (shB_in hx).t1; omega))
  have hok := Lib.hid (show ∀ g, g ∈ insR l x → SOk g from fun g hg => sok_in (rise_in hri2.out g hg).1)
  have hn8 : n ≤ 8 := by rw [← h.len]; exact rise_len8 hri
  obtain ⟨t, k, s⟩ := x
  show Calls Try.prog 11 #[.slice A n c, .agg #[.int .i64 t, .int .i64 k, .int .i64 s]] w (GivesQ w r)
  have hcut0 := cut_ins (x := ⟨t, k, s⟩) hri (by rw [ho]; rfl)
  obtain ⟨pos, hpos⟩ : ∃ z, posR l t = z := ⟨_, rfl⟩
  have hpn : pos ≤ n := by rw [← hpos, ← h.len]; exact pos_le _ _
  have hcut := Lib.hid (show l.take pos ++ (⟨t, k, s⟩ : ShZ) :: l.drop pos = insR l ⟨t, k, s⟩ by rw [← hpos]; exact hcut0)
  obtain ⟨W1, hW1⟩ : ∃ W, W = w.alloc (.cells #[.int .i64 t, .int .i64 k, .int .i64 s] 27) := ⟨_, rfl⟩
  have b1 := Lib.hid (show Below w.heap.size w W1 by rw [hW1]; exact below_oneQ _ _)
  have X1 := Lib.hid (show QBox W1 w.heap.size t k s by rw [hW1]; exact qbox_new _ _ _ _ _ _ rfl)
  have HW1 := Lib.hid hW1
  have h1 : Shs W1 B A n l := h.below b1.out hB
  have hB1 : B ≤ W1.heap.size := Nat.le_trans hB b1.out.size
  have MM := Lib.hid (may_anyQ c true h1 hB1 hn hm)
  have SM := Lib.hid (isshare_val t k s true hx)
  have OM := Lib.hid (fun (V : World) (hV : Below W1.heap.size W1 V) => of_anyQ (w := V) c t none (h1.below hV hB1) (Nat.le_trans hB1 hV.size) hn ho)
  have HC := Lib.hid (fun (V : World) (hV : Below W1.heap.size W1 V) => X1.out.grow hV)
  have PG := Lib.hid (fun (V : World) (hV : Below W1.heap.size W1 V) => place_gr (w := V) (b := w.heap.size) c t pos (h1.below hV hB1) (Nat.le_trans hB1 hV.size) hn (HC.out V hV).1 hpos)
  have CM := Lib.hid (fun (V : World) (hV : Below W1.heap.size W1 V) => clone_anyQ (w := V) (c := c) (h1.below hV hB1) (Nat.le_trans hB1 hV.size) hn8)
  unfold ofV at OM
  simp only [Option.getD_none, Option.isSome_none, sh0] at OM
  unfold MadeQ at CM
  clear hW1 h h1 hB1 hr hm hx ho hcut0 hpos hri
  cases hf : fitB (insR l ⟨t, k, s⟩) with
  | true =>
    have E1 : Hid (r = (insR l ⟨t, k, s⟩, 0)) := Lib.hid (by rw [← HR.out]; unfold toldR; rw [hf]; rfl)
    have FM := Lib.hid (fun (V : World) (b : Nat) (D : Option Addr) (d : Nat) (hV : V.ownsRow b 27 3 (.slice D (n + 1) d) (n + 1) (svs (insR l ⟨t, k, s⟩))) => iffits_yesQ d (shs_of_own hV hok.out) hri2.out hf)
    clear HR hf
    go_enter Try.func11, Try.ntmps11
    go_upto_region 1 with fail
    rw [← HW1.out]
    go_upto_region 7 with (first
      | (go_at_call 19; refine MM.out.mono ?_; rintro e w5 ⟨rfl, b5⟩; have B5 := Lib.hid b5; obtain ⟨h4, h5, h6⟩ := HC.out _ b5; clear b5)
      | (go_at_call 21; refine (SM.out _).mono ?_; rintro e w6 ⟨rfl, b6⟩; have b6' := B5.out.trans (b6.mono B5.out.size); have B6 := Lib.hid b6'; obtain ⟨h7, h8, h9⟩ := HC.out _ b6'; clear b6 b6')
      | (go_at_call 15; refine (OM.out _ B6.out).mono ?_; rintro e w7 ⟨rfl, b7⟩; have B7 := Lib.hid (B6.out.trans (b7.mono B6.out.size)); clear b7)
      | (go_at_call 22; refine (PG.out _ (B7.out.alloc B7.out.size _)).mono ?_; rintro e w8 ⟨rfl, b8⟩; have B8 := Lib.hid ((B7.out.alloc B7.out.size _).trans (b8.mono (B7.out.alloc B7.out.size _).size)); obtain ⟨j1, j2, j3⟩ := HC.out _ B8.out; clear b8)
      | fail)
    clear h4 h5 h6 h7 h8 h9
    go_region_held3 (fun V => V.cell? ⟨w.heap.size, 0, none⟩ = some (.int .i64 t) ∧ V.cell? ⟨w.heap.size, 1, none⟩ = some (.int .i64 k) ∧ V.cell? ⟨w.heap.size, 2, none⟩ = some (.int .i64 s))
      (first
        | (exact HC.out _ B9.out)
        | (exact HC.out _ BC.out)
        | (exact HC.out _ (BC.out.alloc BC.out.size _))
        | (exact HC.out _ B8.out.drew)
        | (exact HC.out _ (B8.out.drew.alloc B8.out.size _))
        | (exact HC.out _ (B8.out.alloc B8.out.size _).drew))
      ((first
        | (go_at_call 24; refine (CM.out _ B8.out.drew).mono ?_; rintro e w6 ⟨D6, d6, rfl, o6, b6⟩; have BC : Hid (Below W1.heap.size W1 w6) := Lib.hid (B8.out.drew.trans (b6.mono B8.out.size)); have IM := Lib.hid (ins_A pos ⟨t, k, s⟩ o6 B8.out.size b6.size hpn hn8 hcut.out); clear o6 b6)
        | (go_at_call 24; refine (CM.out _ (B8.out.drew.alloc B8.out.size _)).mono ?_; rintro e w6 ⟨D6, d6, rfl, o6, b6⟩; have BC : Hid (Below W1.heap.size W1 w6) := Lib.hid ((B8.out.drew.alloc B8.out.size _).trans (b6.mono (B8.out.drew.alloc B8.out.size _).size)); have IM := Lib.hid (ins_B pos ⟨t, k, s⟩ (heap_alloc_new w8.drew _) o6 (B8.out.drew.alloc B8.out.size _).size b6 hpn hn8 hcut.out); clear o6 b6)
        | (go_at_call 24; refine (CM.out _ (B8.out.alloc B8.out.size _).drew).mono ?_; rintro e w6 ⟨D6, d6, rfl, o6, b6⟩; have BC : Hid (Below W1.heap.size W1 w6) := Lib.hid ((B8.out.alloc B8.out.size _).drew.trans (b6.mono (B8.out.alloc B8.out.size _).size)); have IM := Lib.hid (ins_B pos ⟨t, k, s⟩ (heap_alloc_new w8 _) o6 (B8.out.alloc B8.out.size _).size b6 hpn hn8 hcut.out); clear o6 b6)
        | (go_at_call 29; refine IM.out.mono ?_; rintro e w9 ⟨D7, d7, rfl, o7, b7⟩; have O7 := Lib.hid o7; have B9 : Hid (Below W1.heap.size W1 w9) := Lib.hid (BC.out.trans b7); clear o7 b7)
        | (go_at_call 25; refine (FM.out _ _ _ _ O7.out).mono ?_; rintro e w8 ⟨rfl, rfl⟩)))
    all_goals
      go_wp2
      go_ret2
      have e0 := E1.out
      subst e0
      exact ⟨n + 1, D7, d7, rfl, own_base O7.out b1.out.size, b1.out.trans (B9.out.mono b1.out.size)⟩
  | false =>
    have E1 : Hid (r = ([], 120)) := Lib.hid (by rw [← HR.out]; unfold toldR; rw [hf]; rfl)
    have FM := Lib.hid (fun (V : World) (b : Nat) (D : Option Addr) (d : Nat) (hV : V.ownsRow b 27 3 (.slice D (n + 1) d) (n + 1) (svs (insR l ⟨t, k, s⟩))) => iffits_noQ d (shs_of_own hV hok.out) hri2.out hf)
    clear HR hf
    go_enter Try.func11, Try.ntmps11
    go_upto_region 1 with fail
    rw [← HW1.out]
    go_upto_region 7 with (first
      | (go_at_call 19; refine MM.out.mono ?_; rintro e w5 ⟨rfl, b5⟩; have B5 := Lib.hid b5; obtain ⟨h4, h5, h6⟩ := HC.out _ b5; clear b5)
      | (go_at_call 21; refine (SM.out _).mono ?_; rintro e w6 ⟨rfl, b6⟩; have b6' := B5.out.trans (b6.mono B5.out.size); have B6 := Lib.hid b6'; obtain ⟨h7, h8, h9⟩ := HC.out _ b6'; clear b6 b6')
      | (go_at_call 15; refine (OM.out _ B6.out).mono ?_; rintro e w7 ⟨rfl, b7⟩; have B7 := Lib.hid (B6.out.trans (b7.mono B6.out.size)); clear b7)
      | (go_at_call 22; refine (PG.out _ (B7.out.alloc B7.out.size _)).mono ?_; rintro e w8 ⟨rfl, b8⟩; have B8 := Lib.hid ((B7.out.alloc B7.out.size _).trans (b8.mono (B7.out.alloc B7.out.size _).size)); obtain ⟨j1, j2, j3⟩ := HC.out _ B8.out; clear b8)
      | fail)
    clear h4 h5 h6 h7 h8 h9
    go_region_held3 (fun V => V.cell? ⟨w.heap.size, 0, none⟩ = some (.int .i64 t) ∧ V.cell? ⟨w.heap.size, 1, none⟩ = some (.int .i64 k) ∧ V.cell? ⟨w.heap.size, 2, none⟩ = some (.int .i64 s))
      (first
        | (exact HC.out _ B9.out)
        | (exact HC.out _ BC.out)
        | (exact HC.out _ (BC.out.alloc BC.out.size _))
        | (exact HC.out _ B8.out.drew)
        | (exact HC.out _ (B8.out.drew.alloc B8.out.size _))
        | (exact HC.out _ (B8.out.alloc B8.out.size _).drew))
      ((first
        | (go_at_call 24; refine (CM.out _ B8.out.drew).mono ?_; rintro e w6 ⟨D6, d6, rfl, o6, b6⟩; have BC : Hid (Below W1.heap.size W1 w6) := Lib.hid (B8.out.drew.trans (b6.mono B8.out.size)); have IM := Lib.hid (ins_A pos ⟨t, k, s⟩ o6 B8.out.size b6.size hpn hn8 hcut.out); clear o6 b6)
        | (go_at_call 24; refine (CM.out _ (B8.out.drew.alloc B8.out.size _)).mono ?_; rintro e w6 ⟨D6, d6, rfl, o6, b6⟩; have BC : Hid (Below W1.heap.size W1 w6) := Lib.hid ((B8.out.drew.alloc B8.out.size _).trans (b6.mono (B8.out.drew.alloc B8.out.size _).size)); have IM := Lib.hid (ins_B pos ⟨t, k, s⟩ (heap_alloc_new w8.drew _) o6 (B8.out.drew.alloc B8.out.size _).size b6 hpn hn8 hcut.out); clear o6 b6)
        | (go_at_call 24; refine (CM.out _ (B8.out.alloc B8.out.size _).drew).mono ?_; rintro e w6 ⟨D6, d6, rfl, o6, b6⟩; have BC : Hid (Below W1.heap.size W1 w6) := Lib.hid ((B8.out.alloc B8.out.size _).drew.trans (b6.mono (B8.out.alloc B8.out.size _).size)); have IM := Lib.hid (ins_B pos ⟨t, k, s⟩ (heap_alloc_new w8 _) o6 (B8.out.alloc B8.out.size _).size b6 hpn hn8 hcut.out); clear o6 b6)
        | (go_at_call 29; refine IM.out.mono ?_; rintro e w9 ⟨D7, d7, rfl, o7, b7⟩; have O7 := Lib.hid o7; have B9 : Hid (Below W1.heap.size W1 w9) := Lib.hid (BC.out.trans b7); clear o7 b7)
        | (go_at_call 25; refine (FM.out _ _ _ _ O7.out).mono ?_; rintro e w8 ⟨rfl, rfl⟩)))
    all_goals
      go_wp2
      go_ret2
      exact givesQ_err E1.out (b1.out.trans (B9.out.mono b1.out.size))
end Go.Proofs.Ytpodpbhbagkblaa
