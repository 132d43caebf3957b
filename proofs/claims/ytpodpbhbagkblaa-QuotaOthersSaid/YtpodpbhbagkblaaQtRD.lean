/- The document's Reserve, Resize, Left. -/
import Derived.Test.YtpodpbhbagkblaaQtRC
namespace Go.Proofs.Ytpodpbhbagkblaa
open Go.ChangeShapes Go.WideShapes Go.ChangeAt Go.RowKit
set_option linter.unusedVariables false
set_option linter.unusedSimpArgs false
open Plain Qt
set_option maxRecDepth 100000 in
set_option maxHeartbeats 4000000 in
theorem rres_any {w : World} {B n c : Nat} {A : Option Addr} {l : List ShZ} (t k s : Int) (r : List ShZ × Int) (h : Shs w B A n l) (hB : B ≤ w.heap.size) (hn : n ≤ maxLen) (hr : resR l ⟨t, k, s⟩ = r) :
    Calls Try.prog 12 #[.slice A n c, .agg #[.int .i64 t, .int .i64 k, .int .i64 s]] w (GivesR w r) := by
  obtain ⟨W1, hW1⟩ : ∃ W, W = w.alloc (.cells #[.int .i64 t, .int .i64 k, .int .i64 s] 24) := ⟨_, rfl⟩
  have b1 := Lib.hid (show Below w.heap.size w W1 by rw [hW1]; exact below_oneQ _ _)
  have X1 := Lib.hid (show QBox W1 w.heap.size t k s by rw [hW1]; exact qbox_new _ _ _ _ _ _ rfl)
  have HW1 := Lib.hid hW1
  have h1 : Shs W1 B A n l := h.below b1.out hB
  have hB1 : B ≤ W1.heap.size := Nat.le_trans hB b1.out.size
  have HC := Lib.hid (fun (V : World) (hV : Below W1.heap.size W1 V) => X1.out.grow hV)
  obtain ⟨m, hm⟩ : ∃ m, mayB l = m := ⟨_, rfl⟩
  have MM := Lib.hid (rmay_any c m h1 hB1 hn hm)
  cases m with
  | false =>
    have E1 : Hid (r = ([], 2)) := Lib.hid (by rw [← hr]; unfold resR; rw [hm]; rfl)
    clear hW1 h h1 hr hm
    go_enter Try.func12, Try.ntmps12
    go_upto_region 1 with fail
    rw [← HW1.out]
    go_wp2_with (go_at_call 20; refine MM.out.mono ?_; rintro e w5 ⟨rfl, b5⟩; have B5 := Lib.hid (b1.out.trans (b5.mono b1.out.size)); clear b5)
    go_ret2
    exact givesR_err E1.out B5.out
  | true =>
  obtain ⟨q, hx⟩ : ∃ q, shB ⟨t, k, s⟩ = q := ⟨_, rfl⟩
  have SM := Lib.hid (rshare_any t k s q hx)
  cases q with
  | false =>
    have E1 : Hid (r = ([], 2)) := Lib.hid (by rw [← hr]; unfold resR; rw [hm, hx]; rfl)
    clear hW1 h h1 hr hm hx
    go_enter Try.func12, Try.ntmps12
    go_upto_region 1 with fail
    rw [← HW1.out]
    go_wp2_with (first
      | (go_at_call 20; refine MM.out.mono ?_; rintro e w5 ⟨rfl, b5⟩; have B5 := Lib.hid b5; obtain ⟨h4, h5, h6⟩ := HC.out _ b5; clear b5)
      | (go_at_call 26; refine (SM.out _).mono ?_; rintro e w6 ⟨rfl, b6⟩; have B6 := Lib.hid (b1.out.trans ((B5.out.trans (b6.mono B5.out.size)).mono b1.out.size)); clear b6)
      | fail)
    go_ret2
    exact givesR_err E1.out B6.out
  | true =>
  obtain ⟨o, ho⟩ : ∃ o, ofR l t = o := ⟨_, rfl⟩
  have OM := Lib.hid (fun (V : World) (hV : Below W1.heap.size W1 V) => rof_any (w := V) c t o (h1.below hV hB1) (Nat.le_trans hB1 hV.size) hn ho)
  have OP : o.isSome = false → toldR (insR l ⟨t, k, s⟩) = r := fun e => by rw [← hr]; unfold resR; rw [hm, hx, show ofR l t = o from ho, e]; rfl
  have OE : o.isSome = true → r = ([], 161) := fun e => by rw [← hr]; unfold resR; rw [hm, hx, show ofR l t = o from ho, e]; rfl
  have PM := Lib.hid (fun (V : World) (hV : Below W1.heap.size W1 V) (e : toldR (insR l ⟨t, k, s⟩) = r) => rput_any (w := V) (c := c) t k s r (h1.below hV hB1) (Nat.le_trans hB1 hV.size) hn hm hx e)
  clear hW1 h h1 hr hm hx ho
  unfold ofV at OM
  obtain ⟨yt, yk, ys, hy⟩ : ∃ yt yk ys, (o.getD sh0) = ⟨yt, yk, ys⟩ := ⟨_, _, _, rfl⟩
  rw [hy] at OM
  clear hy
  obtain ⟨ok, hok⟩ : ∃ ok, o.isSome = ok := ⟨_, rfl⟩
  rw [hok] at OM OP OE
  clear hok
  cases ok with
  | true =>
    have E1 := Lib.hid (OE rfl)
    clear OP OE PM
    go_enter Try.func12, Try.ntmps12
    go_upto_region 1 with fail
    rw [← HW1.out]
    go_wp2_with (first
      | (go_at_call 20; refine MM.out.mono ?_; rintro e w5 ⟨rfl, b5⟩; have B5 := Lib.hid b5; obtain ⟨h4, h5, h6⟩ := HC.out _ b5; clear b5)
      | (go_at_call 26; refine (SM.out _).mono ?_; rintro e w6 ⟨rfl, b6⟩; have b6' := B5.out.trans (b6.mono B5.out.size); have B6 := Lib.hid b6'; obtain ⟨h7, h8, h9⟩ := HC.out _ b6'; clear b6 b6')
      | (go_at_call 16; refine (OM.out _ B6.out).mono ?_; rintro e w7 ⟨rfl, b7⟩; have B7 := Lib.hid (b1.out.trans ((B6.out.trans (b7.mono B6.out.size)).mono b1.out.size)); clear b7)
      | fail)
    go_ret2
    exact givesR_err E1.out (B7.out.alloc B7.out.size _)
  | false =>
    have PR := Lib.hid (fun (V : World) (hV : Below W1.heap.size W1 V) => PM.out V hV (OP rfl))
    unfold GivesR at PR
    clear OP OE PM
    go_enter Try.func12, Try.ntmps12
    go_upto_region 1 with fail
    rw [← HW1.out]
    go_wp2_with (first
      | (go_at_call 20; refine MM.out.mono ?_; rintro e w5 ⟨rfl, b5⟩; have B5 := Lib.hid b5; obtain ⟨h4, h5, h6⟩ := HC.out _ b5; clear b5)
      | (go_at_call 26; refine (SM.out _).mono ?_; rintro e w6 ⟨rfl, b6⟩; have b6' := B5.out.trans (b6.mono B5.out.size); have B6 := Lib.hid b6'; obtain ⟨h7, h8, h9⟩ := HC.out _ b6'; clear b6 b6')
      | (go_at_call 16; refine (OM.out _ B6.out).mono ?_; rintro e w7 ⟨rfl, b7⟩; have b7' := B6.out.trans (b7.mono B6.out.size); have B7 := Lib.hid b7'; have BA := Lib.hid (b7'.alloc (o := .cells #[.int .i64 yt, .int .i64 yk, .int .i64 ys] 24) b7'.size); obtain ⟨j1, j2, j3⟩ := HC.out _ BA.out; clear b7 b7')
      | (go_at_call 27; refine (PR.out _ BA.out).mono ?_; rintro e w8 ⟨N, D, d, rfl, o8, b8⟩; have O8 := Lib.hid (own_base o8 (Nat.le_trans b1.out.size BA.out.size)); have B8 := Lib.hid (b1.out.trans ((BA.out.trans (b8.mono BA.out.size)).mono b1.out.size)); clear o8 b8)
      | fail)
    go_ret2
    exact ⟨N, D, d, rfl, O8.out, B8.out⟩
set_option maxRecDepth 100000 in
set_option maxHeartbeats 4000000 in
theorem rsiz_any {w : World} {B n c : Nat} {A : Option Addr} {l : List ShZ} (t k s : Int) (r : List ShZ × Int) (h : Shs w B A n l) (hB : B ≤ w.heap.size) (hn : n ≤ maxLen) (hr : sizR l ⟨t, k, s⟩ = r) :
    Calls Try.prog 10 #[.slice A n c, .agg #[.int .i64 t, .int .i64 k, .int .i64 s]] w (GivesR w r) := by
  obtain ⟨W1, hW1⟩ : ∃ W, W = w.alloc (.cells #[.int .i64 t, .int .i64 k, .int .i64 s] 24) := ⟨_, rfl⟩
  have b1 := Lib.hid (show Below w.heap.size w W1 by rw [hW1]; exact below_oneQ _ _)
  have X1 := Lib.hid (show QBox W1 w.heap.size t k s by rw [hW1]; exact qbox_new _ _ _ _ _ _ rfl)
  have HW1 := Lib.hid hW1
  have h1 : Shs W1 B A n l := h.below b1.out hB
  have hB1 : B ≤ W1.heap.size := Nat.le_trans hB b1.out.size
  have HC := Lib.hid (fun (V : World) (hV : Below W1.heap.size W1 V) => X1.out.grow hV)
  obtain ⟨m, hm⟩ : ∃ m, mayB l = m := ⟨_, rfl⟩
  have MM := Lib.hid (rmay_any c m h1 hB1 hn hm)
  cases m with
  | false =>
    have E1 : Hid (r = ([], 2)) := Lib.hid (by rw [← hr]; unfold sizR; rw [hm]; rfl)
    clear hW1 h h1 hr hm
    go_enter Try.func10, Try.ntmps10
    go_upto_region 1 with fail
    rw [← HW1.out]
    go_wp2_with (go_at_call 20; refine MM.out.mono ?_; rintro e w5 ⟨rfl, b5⟩; have B5 := Lib.hid (b1.out.trans (b5.mono b1.out.size)); clear b5)
    go_ret2
    exact givesR_err E1.out B5.out
  | true =>
  obtain ⟨q, hx⟩ : ∃ q, shB ⟨t, k, s⟩ = q := ⟨_, rfl⟩
  have SM := Lib.hid (rshare_any t k s q hx)
  cases q with
  | false =>
    have E1 : Hid (r = ([], 2)) := Lib.hid (by rw [← hr]; unfold sizR; rw [hm, hx]; rfl)
    clear hW1 h h1 hr hm hx
    go_enter Try.func10, Try.ntmps10
    go_upto_region 1 with fail
    rw [← HW1.out]
    go_wp2_with (first
      | (go_at_call 20; refine MM.out.mono ?_; rintro e w5 ⟨rfl, b5⟩; have B5 := Lib.hid b5; obtain ⟨h4, h5, h6⟩ := HC.out _ b5; clear b5)
      | (go_at_call 26; refine (SM.out _).mono ?_; rintro e w6 ⟨rfl, b6⟩; have B6 := Lib.hid (b1.out.trans ((B5.out.trans (b6.mono B5.out.size)).mono b1.out.size)); clear b6)
      | fail)
    go_ret2
    exact givesR_err E1.out B6.out
  | true =>
  obtain ⟨o, ho⟩ : ∃ o, ofR l t = o := ⟨_, rfl⟩
  have OM := Lib.hid (fun (V : World) (hV : Below W1.heap.size W1 V) => rof_any (w := V) c t o (h1.below hV hB1) (Nat.le_trans hB1 hV.size) hn ho)
  have OP : o.isSome = true → toldR (insR l ⟨t, k, s⟩) = r := fun e => by rw [← hr]; unfold sizR; rw [hm, hx, show ofR l t = o from ho, e]; rfl
  have OE : o.isSome = false → r = ([], 160) := fun e => by rw [← hr]; unfold sizR; rw [hm, hx, show ofR l t = o from ho, e]; rfl
  have PM := Lib.hid (fun (V : World) (hV : Below W1.heap.size W1 V) (e : toldR (insR l ⟨t, k, s⟩) = r) => rput_any (w := V) (c := c) t k s r (h1.below hV hB1) (Nat.le_trans hB1 hV.size) hn hm hx e)
  clear hW1 h h1 hr hm hx ho
  unfold ofV at OM
  obtain ⟨yt, yk, ys, hy⟩ : ∃ yt yk ys, (o.getD sh0) = ⟨yt, yk, ys⟩ := ⟨_, _, _, rfl⟩
  rw [hy] at OM
  clear hy
  obtain ⟨ok, hok⟩ : ∃ ok, o.isSome = ok := ⟨_, rfl⟩
  rw [hok] at OM OP OE
  clear hok
  cases ok with
  | false =>
    have E1 := Lib.hid (OE rfl)
    clear OP OE PM
    go_enter Try.func10, Try.ntmps10
    go_upto_region 1 with fail
    rw [← HW1.out]
    go_wp2_with (first
      | (go_at_call 20; refine MM.out.mono ?_; rintro e w5 ⟨rfl, b5⟩; have B5 := Lib.hid b5; obtain ⟨h4, h5, h6⟩ := HC.out _ b5; clear b5)
      | (go_at_call 26; refine (SM.out _).mono ?_; rintro e w6 ⟨rfl, b6⟩; have b6' := B5.out.trans (b6.mono B5.out.size); have B6 := Lib.hid b6'; obtain ⟨h7, h8, h9⟩ := HC.out _ b6'; clear b6 b6')
      | (go_at_call 16; refine (OM.out _ B6.out).mono ?_; rintro e w7 ⟨rfl, b7⟩; have B7 := Lib.hid (b1.out.trans ((B6.out.trans (b7.mono B6.out.size)).mono b1.out.size)); clear b7)
      | fail)
    go_ret2
    exact givesR_err E1.out (B7.out.alloc B7.out.size _)
  | true =>
    have PR := Lib.hid (fun (V : World) (hV : Below W1.heap.size W1 V) => PM.out V hV (OP rfl))
    unfold GivesR at PR
    clear OP OE PM
    go_enter Try.func10, Try.ntmps10
    go_upto_region 1 with fail
    rw [← HW1.out]
    go_wp2_with (first
      | (go_at_call 20; refine MM.out.mono ?_; rintro e w5 ⟨rfl, b5⟩; have B5 := Lib.hid b5; obtain ⟨h4, h5, h6⟩ := HC.out _ b5; clear b5)
      | (go_at_call 26; refine (SM.out _).mono ?_; rintro e w6 ⟨rfl, b6⟩; have b6' := B5.out.trans (b6.mono B5.out.size); have B6 := Lib.hid b6'; obtain ⟨h7, h8, h9⟩ := HC.out _ b6'; clear b6 b6')
      | (go_at_call 16; refine (OM.out _ B6.out).mono ?_; rintro e w7 ⟨rfl, b7⟩; have b7' := B6.out.trans (b7.mono B6.out.size); have B7 := Lib.hid b7'; have BA := Lib.hid (b7'.alloc (o := .cells #[.int .i64 yt, .int .i64 yk, .int .i64 ys] 24) b7'.size); obtain ⟨j1, j2, j3⟩ := HC.out _ BA.out; clear b7 b7')
      | (go_at_call 27; refine (PR.out _ BA.out).mono ?_; rintro e w8 ⟨N, D, d, rfl, o8, b8⟩; have O8 := Lib.hid (own_base o8 (Nat.le_trans b1.out.size BA.out.size)); have B8 := Lib.hid (b1.out.trans ((BA.out.trans (b8.mono BA.out.size)).mono b1.out.size)); clear o8 b8)
      | fail)
    go_ret2
    exact ⟨N, D, d, rfl, O8.out, B8.out⟩
set_option maxRecDepth 100000 in
set_option maxHeartbeats 4000000 in
theorem rleft_any {w : World} {B n : Nat} {A : Option Addr} {l : List ShZ} (c : Nat) (x y : Int) (h : Shs w B A n l) (hB : B ≤ w.heap.size) (hn : n ≤ maxLen) (hq : leftR l = (x, y)) :
    Calls Try.prog 18 #[.slice A n c] w (fun e w' => e = .returned (.tuple #[.int .i64 x, .int .i64 y]) ∧ Below w.heap.size w w') := by
  unfold leftR at hq
  cases hm : mayB l with
  | false =>
    rw [hm] at hq
    obtain ⟨rfl, rfl⟩ : (0 : Int) = x ∧ (0 : Int) = y := by simpa using hq
    have MM := Lib.hid (rmay_any c false h hB hn hm)
    clear h hq hm
    go_enter Try.func18, Try.ntmps18
    go_wp2_with (go_at_call 20; refine MM.out.mono ?_; rintro e w' ⟨rfl, hb⟩; have HB := Lib.hid hb; clear hb)
    go_ret2
    exact ⟨rfl, HB.out⟩
  | true =>
    rw [hm, if_pos rfl] at hq
    obtain ⟨hx, hy⟩ := Prod.mk.inj hq
    have hr := (may_parts hm).1
    have MM := Lib.hid (rmay_any c true h hB hn hm)
    have L := Lib.hid h.len
    have hn8 : n ≤ 8 := by rw [← h.len]; exact rise_len8 hr
    have HG := Lib.hid h
    have HR := Lib.hid hr
    have HX := Lib.hid hx
    have HY := Lib.hid hy
    clear h hq hm hx hy hr
    go_enter Try.func18, Try.ntmps18
    go_upto_region 4 with (go_at_call 20; refine MM.out.mono ?_; rintro e w5 ⟨rfl, b5⟩; have B5 := Lib.hid b5; clear b5)
    have HG5 := Lib.hid (HG.out.below B5.out hB)
    go_wp2
    go_loopw [4, 5, 6] (fun a b i wr => ∃ k : Nat, k ≤ n ∧ i = .int .i64 k ∧ wr = w5 ∧ ∃ u v : Int, a = .int .i64 u ∧ b = .int .i64 v ∧ Hid (u = 64 - sumK (l.take k)) ∧ Hid (v = 4096 - sumS (l.take k))) (fun _ _ i _ => n - (intOf i).toNat)
    case atStart => exact ⟨0, by omega, rfl, rfl, 64, 4096, rfl, rfl, Lib.hid (by simp [sumK]), Lib.hid (by simp [sumS])⟩
    case round =>
      obtain ⟨k, hk, rfl, rfl, u, v, rfl, rfl, HU, HV⟩ := hrel
      by_cases hlt : k < n
      · have hltI : (k : Int) < (n : Int) := by omega
        obtain ⟨b, off, g, rfl, hb, HK, _, c0, c1, c2⟩ := HG5.out.at_ hlt
        obtain ⟨⟨e1, e2⟩, h3, h4⟩ := left_step HR.out HK.out HU.out HV.out
        have H3 := Lib.hid h3
        have H4 := Lib.hid h4
        clear h3 h4
        go_wp2
        go_roundw
        case rel => exact ⟨k + 1, by omega, by go_num, by trivial, u - g.k, v - g.s, by trivial, by trivial, H3, H4⟩
        case measure => simp [intOf]; omega
      · have e : l.take k = l := List.take_of_length_le (by rw [L.out]; omega)
        have e1 : u = x := by rw [HU.out, e]; exact HX.out
        have e2 : v = y := by rw [HV.out, e]; exact HY.out
        subst e1 e2
        go_wp2
        go_ret2
        exact ⟨rfl, B5.out⟩
end Go.Proofs.Ytpodpbhbagkblaa
