/- Another share: the program's Resize; Reserve and Resize whole. -/
import Derived.Test.YtpodpbhbagkblaaQtJ
namespace Go.Proofs.Ytpodpbhbagkblaa
open Go.ChangeShapes Go.WideShapes Go.ChangeAt Go.RowKit
set_option linter.unusedVariables false
set_option linter.unusedSimpArgs false
open Plain Qt
theorem own_thereQ {w : World} {base n c g k : Nat} {t : TypeId} {xs : List Value} (h : w.ownsRow base t 3 (.slice (some ⟨g, 0, none⟩) n c) n xs) (hk : k < n) : w.there g (k * 3) 3 := fun j hj =>
  ⟨own_isSome h _ (by omega), h.frozenAt _⟩
theorem own_putQ {w : World} {base n c g : Nat} {t : TypeId} {l : List ShZ} (h : w.ownsRow base t 3 (.slice (some ⟨g, 0, none⟩) n c) n (svs l)) (k : Nat) (hk : k < n) (x : ShZ) :
    (w.setCells g (k * 3) [.int .i64 x.t, .int .i64 x.k, .int .i64 x.s]).ownsRow base t 3 (.slice (some ⟨g, 0, none⟩) n c) n (svs (l.set k x)) := by
  have hl : l.length = n := by have := h.1; rw [svs_len] at this; omega
  rw [← svs_set l k x (by omega)]
  exact own_setCells _ _ _ _ h
set_option maxRecDepth 100000 in
set_option maxHeartbeats 2000000 in
theorem resize_bad {w : World} {B n c : Nat} {A : Option Addr} {l : List ShZ} (x : ShZ) (r : List ShZ × Int) (h : Shs w B A n l) (hB : B ≤ w.heap.size) (hn : n ≤ maxLen) (hb : (mayB l && shB x) = false) (hr : sizR l x = r) :
    Calls Try.prog 9 #[.slice A n c, .agg #[.int .i64 x.t, .int .i64 x.k, .int .i64 x.s]] w (GivesQ w r) := by
  have E1 : Hid (r = ([], 2)) := Lib.hid (by rw [← hr]; unfold sizR; rw [hb]; rfl)
  obtain ⟨t, k, s⟩ := x
  show Calls Try.prog 9 #[.slice A n c, .agg #[.int .i64 t, .int .i64 k, .int .i64 s]] w (GivesQ w r)
  obtain ⟨W1, hW1⟩ : ∃ W, W = w.alloc (.cells #[.int .i64 t, .int .i64 k, .int .i64 s] 27) := ⟨_, rfl⟩
  have b1 := Lib.hid (show Below w.heap.size w W1 by rw [hW1]; exact below_oneQ _ _)
  have X1 := Lib.hid (show QBox W1 w.heap.size t k s by rw [hW1]; exact qbox_new _ _ _ _ _ _ rfl)
  have HW1 := Lib.hid hW1
  obtain ⟨m, hm⟩ : ∃ m, mayB l = m := ⟨_, rfl⟩
  have MM := Lib.hid (may_anyQ c m (h.below b1.out hB) (Nat.le_trans hB b1.out.size) hn hm)
  rw [hm] at hb
  clear hW1 h hr hm
  cases m with
  | false =>
    clear hb
    go_enter Try.func9, Try.ntmps9
    go_upto_region 1 with fail
    rw [← HW1.out]
    go_wp2_with (go_at_call 19; refine MM.out.mono ?_; rintro e w5 ⟨rfl, b5⟩; have B5 := Lib.hid (b1.out.trans (b5.mono b1.out.size)); clear b5)
    go_ret2
    exact givesQ_err E1.out B5.out
  | true =>
    have SM := Lib.hid (isshare_val t k s false (by simpa using hb))
    clear hb
    go_enter Try.func9, Try.ntmps9
    go_upto_region 1 with fail
    rw [← HW1.out]
    go_wp2_with (first
      | (go_at_call 19; refine MM.out.mono ?_; rintro e w5 ⟨rfl, b5⟩; have B5 := Lib.hid (b1.out.trans (b5.mono b1.out.size)); obtain ⟨h4, h5, h6⟩ := X1.out.grow b5; clear b5)
      | (go_at_call 21; refine (SM.out _).mono ?_; rintro e w6 ⟨rfl, b6⟩; have B6 := Lib.hid (B5.out.trans (b6.mono B5.out.size)); clear b6)
      | fail)
    go_ret2
    exact givesQ_err E1.out B6.out
set_option maxRecDepth 100000 in
set_option maxHeartbeats 2000000 in
theorem resize_no {w : World} {B n c : Nat} {A : Option Addr} {l : List ShZ} (x : ShZ) (r : List ShZ × Int) (h : Shs w B A n l) (hB : B ≤ w.heap.size) (hn : n ≤ maxLen) (hm : mayB l = true) (hx : shB x = true) (ho : ofR l x.t = none) (hr : sizR l x = r) :
    Calls Try.prog 9 #[.slice A n c, .agg #[.int .i64 x.t, .int .i64 x.k, .int .i64 x.s]] w (GivesQ w r) := by
  have E1 : Hid (r = ([], 160)) := Lib.hid (by rw [← hr]; unfold sizR; rw [hm, hx, ho]; rfl)
  have hp : idxR l x.t = n := by
    have h1 := idx_lt (l := l) (t := x.t)
    rw [ho, h.len] at h1
    have h2 := idx_le l x.t
    rw [h.len] at h2
    have : ¬ idxR l x.t < n := by simpa using h1.symm
    omega
  obtain ⟨t, k, s⟩ := x
  show Calls Try.prog 9 #[.slice A n c, .agg #[.int .i64 t, .int .i64 k, .int .i64 s]] w (GivesQ w r)
  obtain ⟨W1, hW1⟩ : ∃ W, W = w.alloc (.cells #[.int .i64 t, .int .i64 k, .int .i64 s] 27) := ⟨_, rfl⟩
  have b1 := Lib.hid (show Below w.heap.size w W1 by rw [hW1]; exact below_oneQ _ _)
  have X1 := Lib.hid (show QBox W1 w.heap.size t k s by rw [hW1]; exact qbox_new _ _ _ _ _ _ rfl)
  have HW1 := Lib.hid hW1
  have h1 : Shs W1 B A n l := h.below b1.out hB
  have hB1 : B ≤ W1.heap.size := Nat.le_trans hB b1.out.size
  have MM := Lib.hid (may_anyQ c true h1 hB1 hn hm)
  have SM := Lib.hid (isshare_val t k s true hx)
  have HC := Lib.hid (fun (V : World) (hV : Below W1.heap.size W1 V) => X1.out.grow hV)
  have PM := Lib.hid (fun (V : World) (hV : Below W1.heap.size W1 V) => isof_place (V := V) c t n (h1.below hV hB1) (Nat.le_trans hB1 hV.size) hn hp)
  have hI : (n : Int) = (n : Int) := rfl
  clear hW1 h h1 hB1 hr hm hx ho hp
  go_enter Try.func9, Try.ntmps9
  go_upto_region 1 with fail
  rw [← HW1.out]
  go_wp2_with (first
    | (go_at_call 19; refine MM.out.mono ?_; rintro e w5 ⟨rfl, b5⟩; have B5 := Lib.hid b5; obtain ⟨h4, h5, h6⟩ := HC.out _ b5; clear b5)
    | (go_at_call 21; refine (SM.out _).mono ?_; rintro e w6 ⟨rfl, b6⟩; have b6' := B5.out.trans (b6.mono B5.out.size); have B6 := Lib.hid b6'; obtain ⟨h7, h8, h9⟩ := HC.out _ b6'; clear b6 b6')
    | (go_at_call 23; refine (isof_any t).mono ?_; rintro e v ⟨rfl, rfl⟩)
    | (go_at_call 22; refine (PM.out _ B6.out).mono ?_; rintro e w7 ⟨rfl, b7⟩; have B7 := Lib.hid (b1.out.trans ((B6.out.trans (b7.mono B6.out.size)).mono b1.out.size)); clear b7)
    | fail)
  go_ret2
  exact givesQ_err E1.out B7.out
set_option maxRecDepth 100000 in
set_option maxHeartbeats 8000000 in
theorem resize_yes {w : World} {B n c : Nat} {A : Option Addr} {l : List ShZ} (x : ShZ) (r : List ShZ × Int) (h : Shs w B A n l) (hB : B ≤ w.heap.size) (hn : n ≤ maxLen) (hm : mayB l = true) (hx : shB x = true) (y : ShZ) (ho : ofR l x.t = some y) (hr : sizR l x = r) :
    Calls Try.prog 9 #[.slice A n c, .agg #[.int .i64 x.t, .int .i64 x.k, .int .i64 x.s]] w (GivesQ w r) := by
  have hri := (may_parts hm).1
  have HR := Lib.hid (show toldR (insR l x) = r by rw [← hr]; unfold sizR; rw [hm, hx, ho]; rfl)
  have hri2 := Lib.hid (show riseQ 0 (insR l x) = true from ins_rise hri hx (by have := (shB_in hx).t1; omega))
  have hok := Lib.hid (show ∀ g, g ∈ insR l x → SOk g from fun g hg => sok_in (rise_in hri2.out g hg).1)
  have hn8 : n ≤ 8 := by rw [← h.len]; exact rise_len8 hri
  obtain ⟨t, k, s⟩ := x
  show Calls Try.prog 9 #[.slice A n c, .agg #[.int .i64 t, .int .i64 k, .int .i64 s]] w (GivesQ w r)
  have hset0 := set_ins (x := ⟨t, k, s⟩) hri (by rw [ho]; rfl)
  have hlt := idx_lt (l := l) (t := t)
  rw [show ofR l t = some y from ho, h.len] at hlt
  obtain ⟨pos, hpos⟩ : ∃ z, idxR l t = z := ⟨_, rfl⟩
  rw [hpos] at hlt
  have hpn : pos < n := by simpa using hlt.symm
  have hset := Lib.hid (show l.set pos ⟨t, k, s⟩ = insR l ⟨t, k, s⟩ by rw [← hpos]; exact hset0)
  obtain ⟨W1, hW1⟩ : ∃ W, W = w.alloc (.cells #[.int .i64 t, .int .i64 k, .int .i64 s] 27) := ⟨_, rfl⟩
  have b1 := Lib.hid (show Below w.heap.size w W1 by rw [hW1]; exact below_oneQ _ _)
  have X1 := Lib.hid (show QBox W1 w.heap.size t k s by rw [hW1]; exact qbox_new _ _ _ _ _ _ rfl)
  have HW1 := Lib.hid hW1
  have h1 : Shs W1 B A n l := h.below b1.out hB
  have hB1 : B ≤ W1.heap.size := Nat.le_trans hB b1.out.size
  have MM := Lib.hid (may_anyQ c true h1 hB1 hn hm)
  have SM := Lib.hid (isshare_val t k s true hx)
  have HC := Lib.hid (fun (V : World) (hV : Below W1.heap.size W1 V) => X1.out.grow hV)
  have PM := Lib.hid (fun (V : World) (hV : Below W1.heap.size W1 V) => isof_place (V := V) c t pos (h1.below hV hB1) (Nat.le_trans hB1 hV.size) hn hpos)
  have CM := Lib.hid (fun (V : World) (hV : Below W1.heap.size W1 V) => clone_anyQ (w := V) (c := c) (h1.below hV hB1) (Nat.le_trans hB1 hV.size) hn8)
  unfold MadeQ at CM
  have hltI : (pos : Int) < (n : Int) := by omega
  have hneI : ¬ ((pos : Int) = (n : Int)) := by omega
  have HS := Lib.hid q_size
  clear hW1 h h1 hB1 hr hm hx ho hset0 hpos hri hlt
  cases hf : fitB (insR l ⟨t, k, s⟩) with
  | true =>
    have E1 : Hid (r = (insR l ⟨t, k, s⟩, 0)) := Lib.hid (by rw [← HR.out]; unfold toldR; rw [hf]; rfl)
    have FM := Lib.hid (fun (V : World) (b : Nat) (D : Option Addr) (d : Nat) (hV : V.ownsRow b 27 3 (.slice D n d) n (svs (insR l ⟨t, k, s⟩))) => iffits_yesQ d (shs_of_own hV hok.out) hri2.out hf)
    clear HR hf
    go_enter Try.func9, Try.ntmps9
    go_upto_region 1 with fail
    rw [← HW1.out]
    go_wp2_with (first
      | (go_at_call 19; refine MM.out.mono ?_; rintro e w5 ⟨rfl, b5⟩; have B5 := Lib.hid b5; obtain ⟨h4, h5, h6⟩ := HC.out _ b5; clear b5)
      | (go_at_call 21; refine (SM.out _).mono ?_; rintro e w6 ⟨rfl, b6⟩; have b6' := B5.out.trans (b6.mono B5.out.size); have B6 := Lib.hid b6'; obtain ⟨h7, h8, h9⟩ := HC.out _ b6'; clear b6 b6')
      | (go_at_call 23; refine (isof_any t).mono ?_; rintro e v ⟨rfl, rfl⟩)
      | (go_at_call 22; refine (PM.out _ B6.out).mono ?_; rintro e w7 ⟨rfl, b7⟩; have B7 := Lib.hid (B6.out.trans (b7.mono B6.out.size)); clear b7)
      | (go_at_call 24; refine (CM.out _ B7.out).mono ?_; rintro e w8 ⟨D, d, rfl, o8, b8⟩; have b8' := B7.out.trans (b8.mono B7.out.size); have B8 := Lib.hid b8'; obtain ⟨j1, j2, j3⟩ := HC.out _ b8'; obtain ⟨g, cap, hD, hg, hg2⟩ := o8.form (by omega); obtain ⟨rfl, rfl⟩ : D = some ⟨g, 0, none⟩ ∧ d = cap := (by injection hD with e1 e2 e3; exact ⟨e1, e3⟩); have O8 := Lib.hid o8; have G8 := Lib.hid (Nat.le_trans B7.out.size hg); clear o8 b8 b8' hD hg hg2)
      | (refine q_store_as (op := ⟨none, .store 27 (.tmp 30) (.tmp 29), _, _, _, _⟩) rfl 27 (.tmp 30) (.tmp 29) rfl g (pos * 3) #[.int .i64 t, .int .i64 k, .int .i64 s] (by simp [Act.eval, Act.put]) rfl (own_thereQ O8.out hpn) HS.out (q_one _ _ _) ?_; intro w9 hw9; have O9 := Lib.hid (show w9.ownsRow _ 27 3 (.slice (some ⟨g, 0, none⟩) n d) n (svs (insR l ⟨t, k, s⟩)) from (by rw [hw9.out, ← hset.out]; exact own_putQ O8.out pos hpn ⟨t, k, s⟩)); have B9 := Lib.hid (show Below W1.heap.size W1 w9 from (by rw [hw9.out]; exact q_setCells G8.out _ _ _ B8.out)))
      | (go_at_call 25; refine (FM.out _ _ _ _ O9.out).mono ?_; rintro e w10 ⟨rfl, rfl⟩)
      | fail)
    go_ret2
    have e0 := E1.out
    subst e0
    exact ⟨n, _, _, rfl, own_base O9.out (Nat.le_trans b1.out.size B7.out.size), b1.out.trans (B9.out.mono b1.out.size)⟩
  | false =>
    have E1 : Hid (r = ([], 120)) := Lib.hid (by rw [← HR.out]; unfold toldR; rw [hf]; rfl)
    have FM := Lib.hid (fun (V : World) (b : Nat) (D : Option Addr) (d : Nat) (hV : V.ownsRow b 27 3 (.slice D n d) n (svs (insR l ⟨t, k, s⟩))) => iffits_noQ d (shs_of_own hV hok.out) hri2.out hf)
    clear HR hf
    go_enter Try.func9, Try.ntmps9
    go_upto_region 1 with fail
    rw [← HW1.out]
    go_wp2_with (first
      | (go_at_call 19; refine MM.out.mono ?_; rintro e w5 ⟨rfl, b5⟩; have B5 := Lib.hid b5; obtain ⟨h4, h5, h6⟩ := HC.out _ b5; clear b5)
      | (go_at_call 21; refine (SM.out _).mono ?_; rintro e w6 ⟨rfl, b6⟩; have b6' := B5.out.trans (b6.mono B5.out.size); have B6 := Lib.hid b6'; obtain ⟨h7, h8, h9⟩ := HC.out _ b6'; clear b6 b6')
      | (go_at_call 23; refine (isof_any t).mono ?_; rintro e v ⟨rfl, rfl⟩)
      | (go_at_call 22; refine (PM.out _ B6.out).mono ?_; rintro e w7 ⟨rfl, b7⟩; have B7 := Lib.hid (B6.out.trans (b7.mono B6.out.size)); clear b7)
      | (go_at_call 24; refine (CM.out _ B7.out).mono ?_; rintro e w8 ⟨D, d, rfl, o8, b8⟩; have b8' := B7.out.trans (b8.mono B7.out.size); have B8 := Lib.hid b8'; obtain ⟨j1, j2, j3⟩ := HC.out _ b8'; obtain ⟨g, cap, hD, hg, hg2⟩ := o8.form (by omega); obtain ⟨rfl, rfl⟩ : D = some ⟨g, 0, none⟩ ∧ d = cap := (by injection hD with e1 e2 e3; exact ⟨e1, e3⟩); have O8 := Lib.hid o8; have G8 := Lib.hid (Nat.le_trans B7.out.size hg); clear o8 b8 b8' hD hg hg2)
      | (refine q_store_as (op := ⟨none, .store 27 (.tmp 30) (.tmp 29), _, _, _, _⟩) rfl 27 (.tmp 30) (.tmp 29) rfl g (pos * 3) #[.int .i64 t, .int .i64 k, .int .i64 s] (by simp [Act.eval, Act.put]) rfl (own_thereQ O8.out hpn) HS.out (q_one _ _ _) ?_; intro w9 hw9; have O9 := Lib.hid (show w9.ownsRow _ 27 3 (.slice (some ⟨g, 0, none⟩) n d) n (svs (insR l ⟨t, k, s⟩)) from (by rw [hw9.out, ← hset.out]; exact own_putQ O8.out pos hpn ⟨t, k, s⟩)); have B9 := Lib.hid (show Below W1.heap.size W1 w9 from (by rw [hw9.out]; exact q_setCells G8.out _ _ _ B8.out)))
      | (go_at_call 25; refine (FM.out _ _ _ _ O9.out).mono ?_; rintro e w10 ⟨rfl, rfl⟩)
      | fail)
    go_ret2
    exact givesQ_err E1.out (b1.out.trans (B9.out.mono b1.out.size))
/-- Reserve, whatever it is handed. -/
theorem reserve_any {w : World} {B n c : Nat} {A : Option Addr} {l : List ShZ} (t k s : Int) (r : List ShZ × Int) (h : Shs w B A n l) (hB : B ≤ w.heap.size) (hn : n ≤ maxLen) (hr : resR l ⟨t, k, s⟩ = r) :
    Calls Try.prog 11 #[.slice A n c, .agg #[.int .i64 t, .int .i64 k, .int .i64 s]] w (GivesQ w r) := by
  cases hb : (mayB l && shB ⟨t, k, s⟩) with
  | false => exact reserve_bad ⟨t, k, s⟩ r h hB hn hb hr
  | true =>
    obtain ⟨hm, hx⟩ := Bool.and_eq_true_iff.1 hb
    cases ho : ofR l t with
    | none => exact reserve_yes ⟨t, k, s⟩ r h hB hn hm hx ho hr
    | some y => exact reserve_has ⟨t, k, s⟩ r h hB hn hm hx y ho hr
theorem resize_any {w : World} {B n c : Nat} {A : Option Addr} {l : List ShZ} (t k s : Int) (r : List ShZ × Int) (h : Shs w B A n l) (hB : B ≤ w.heap.size) (hn : n ≤ maxLen) (hr : sizR l ⟨t, k, s⟩ = r) :
    Calls Try.prog 9 #[.slice A n c, .agg #[.int .i64 t, .int .i64 k, .int .i64 s]] w (GivesQ w r) := by
  cases hb : (mayB l && shB ⟨t, k, s⟩) with
  | false => exact resize_bad ⟨t, k, s⟩ r h hB hn hb hr
  | true =>
    obtain ⟨hm, hx⟩ := Bool.and_eq_true_iff.1 hb
    cases ho : ofR l t with
    | none => exact resize_no ⟨t, k, s⟩ r h hB hn hm hx ho hr
    | some y => exact resize_yes ⟨t, k, s⟩ r h hB hn hm hx y ho hr
end Go.Proofs.Ytpodpbhbagkblaa
