/- The document's own Swap. -/
import Derived.Test.YtmlkcedhjnmfgaaSpRQ
namespace Go.Proofs.Ytmlkcedhjnmfgaa
open Go.ChangeShapes Go.WideShapes Go.ChangeAt Go.RowKit
set_option linter.unusedVariables false
set_option linter.unusedSimpArgs false
open Plain Sp
theorem sp_size_le (w : World) (b o : Nat) (vs : List Value) : w.heap.size ≤ (w.setCells b o vs).heap.size := (sp_setCells (Nat.zero_le b) vs o w (Below.refl 0 w)).size
set_option maxRecDepth 100000 in
set_option maxHeartbeats 4000000 in
theorem rswap_any {w : World} {n c : Nat} {A : Option Addr} {l : List PairZ} (K Y : Int) (k o v : ByteArray) (r : SpZ × Int) (h : Prs w w.heap.size A n l) (hn : n ≤ 1000) (hr : swapR ⟨K, Y, l⟩ k o v = r) :
    Calls Try.prog 14 #[.agg #[.int .i64 K, .int .i64 Y, .slice A n c], .string k, .string o, .string v] w (GivesN w r) := by
  obtain ⟨W1, hW1⟩ : ∃ W, W = (w.alloc (.cells #[.int .i64 K, .int .i64 Y, .slice A n c] 24)).alloc (.cells #[.int .i64 0, .int .i64 0, .slice none 0 0] 24) := ⟨_, rfl⟩
  have b1 := Lib.hid (show Below w.heap.size w W1 by rw [hW1]; exact (below_one _ _).alloc (by simp) _)
  have X1 := Lib.hid (show SBox W1 w.heap.size K Y A n c by rw [hW1]; exact (sbox_new _ _ _ _ _ _ _ _ rfl).grow (below_one _ _))
  have V1 := Lib.hid (show SVar W1 (w.heap.size + 1) by rw [hW1]; exact svar_new _ _ _ _ _ _ (by simp))
  have z1 : W1.heap.size = w.heap.size + 2 := by rw [hW1]; simp
  have H1 := Lib.hid ((h.below b1.out (Nat.le_refl _)).more b1.out.size)
  have HW1 := Lib.hid hW1
  have HS := Lib.hid rsp_size
  clear hW1 h
  have ST := Lib.hid (fun (V V' : World) (hV : Below W1.heap.size W1 V) (hw : Hid (V' = V.setCells (w.heap.size + 1) 0 #[.int .i64 0, .int .i64 0, .slice none 0 0].toList)) => sp_stored (V1.out.grow hV) hw (by omega) (b1.out.trans (hV.mono b1.out.size)))
  have HC := Lib.hid (fun (V : World) (hV : Below W1.heap.size W1 V) => X1.out.grow hV)
  cases hm : mayB ⟨K, Y, l⟩ with
  | false =>
    have E1 : Hid (r = (sp0, 2)) := Lib.hid (by rw [← hr]; unfold swapR getR; rw [hm]; cases valB v <;> rfl)
    have MM := Lib.hid (rmay_any K Y c false H1.out (Nat.le_refl _) hn hm)
    clear hr hm H1
    go_enter Try.func14, Try.ntmps14
    go_upto_region 1 with fail
    rw [← HW1.out]
    obtain ⟨h1, h2, h3⟩ := X1.out
    go_wp2_with (first
      | (go_at_call 25; refine MM.out.mono ?_; rintro e w5 ⟨rfl, b5⟩; have B5 := Lib.hid b5; have V5 := Lib.hid (V1.out.grow b5); clear b5)
      | (refine sp_store_as (op := ⟨none, .store 24 (.tmp 8) (.tmp 25), _, _, _, _⟩) rfl 24 (.tmp 8) (.tmp 25) rfl (w.heap.size + 1) 0 #[.int .i64 0, .int .i64 0, .slice none 0 0] rfl rfl V5.out.th HS.out (sp_one _ _ _ _ _) ?_; intro w6 hw6)
      | fail)
    obtain ⟨R6, B6⟩ := ST.out _ _ B5.out hw6
    exact bodyPost_ret (ret_spaceR (p := 8) (u := 9) rfl _ _ (w.heap.size + 1) rfl R6 rfl) rfl (givesN_err E1.out B6)
  | true =>
  have MM := Lib.hid (rmay_any K Y c true H1.out (Nat.le_refl _) hn hm)
  cases hk : keyB k with
  | false =>
    have E1 : Hid (r = (sp0, 2)) := Lib.hid (by rw [← hr]; unfold swapR getR; rw [hm, hk]; cases valB v <;> rfl)
    have KM := Lib.hid (rkey_any k false hk)
    clear hr hm H1 hk
    go_enter Try.func14, Try.ntmps14
    go_upto_region 1 with fail
    rw [← HW1.out]
    obtain ⟨h1, h2, h3⟩ := X1.out
    go_wp2_with (first
      | (go_at_call 25; refine MM.out.mono ?_; rintro e w5 ⟨rfl, b5⟩; have B5 := Lib.hid b5; clear b5)
      | (go_at_call 39; refine (KM.out _).mono ?_; rintro e w6 ⟨rfl, hq6⟩; have b6 := q_below B5.out hq6; have B6 := Lib.hid b6; have V6 := Lib.hid (V1.out.grow b6); clear hq6 b6)
      | (refine sp_store_as (op := ⟨none, .store 24 (.tmp 8) (.tmp 25), _, _, _, _⟩) rfl 24 (.tmp 8) (.tmp 25) rfl (w.heap.size + 1) 0 #[.int .i64 0, .int .i64 0, .slice none 0 0] rfl rfl V6.out.th HS.out (sp_one _ _ _ _ _) ?_; intro w7 hw7)
      | fail)
    obtain ⟨R7, B7⟩ := ST.out _ _ B6.out hw7
    exact bodyPost_ret (ret_spaceR (p := 8) (u := 9) rfl _ _ (w.heap.size + 1) rfl R7 rfl) rfl (givesN_err E1.out B7)
  | true =>
  have KM := Lib.hid (rkey_any k true hk)
  cases hv : valB v with
  | false =>
    have E1 : Hid (r = (sp0, 2)) := Lib.hid (by rw [← hr]; unfold swapR; rw [hv]; rfl)
    have VM := Lib.hid (rval_any v false hv)
    clear hr hm H1 hk hv
    go_enter Try.func14, Try.ntmps14
    go_upto_region 1 with fail
    rw [← HW1.out]
    obtain ⟨h1, h2, h3⟩ := X1.out
    go_wp2_with (first
      | (go_at_call 25; refine MM.out.mono ?_; rintro e w5 ⟨rfl, b5⟩; have B5 := Lib.hid b5; clear b5)
      | (go_at_call 39; refine (KM.out _).mono ?_; rintro e w6 ⟨rfl, hq6⟩; have b6 := q_below B5.out hq6; have B6 := Lib.hid b6; clear hq6 b6)
      | (go_at_call 40; refine (VM.out _).mono ?_; rintro e w7 ⟨rfl, hq7⟩; have b7 := q_below B6.out hq7; have B7 := Lib.hid b7; have V7 := Lib.hid (V1.out.grow b7); clear hq7 b7)
      | (refine sp_store_as (op := ⟨none, .store 24 (.tmp 8) (.tmp 25), _, _, _, _⟩) rfl 24 (.tmp 8) (.tmp 25) rfl (w.heap.size + 1) 0 #[.int .i64 0, .int .i64 0, .slice none 0 0] rfl rfl V7.out.th HS.out (sp_one _ _ _ _ _) ?_; intro w8 hw8)
      | fail)
    obtain ⟨R8, B8⟩ := ST.out _ _ B7.out hw8
    exact bodyPost_ret (ret_spaceR (p := 8) (u := 9) rfl _ _ (w.heap.size + 1) rfl R8 rfl) rfl (givesN_err E1.out B8)
  | true =>
  have VM := Lib.hid (rval_any v true hv)
  obtain ⟨⟨v0, e0⟩, hg⟩ : ∃ z, getR ⟨K, Y, l⟩ k = z := ⟨_, rfl⟩
  have GM := Lib.hid (fun (V : World) (hV : Below W1.heap.size W1 V) => rget_any (w := V) (c := c) K Y k v0 e0 (H1.out.grow hV) hn hg)
  by_cases he : e0 = 0
  · subst he
    by_cases ho : v0 = o
    · have hr2 : putR ⟨K, Y, l⟩ k v = r := by rw [← hr]; unfold swapR; rw [hv, hg]; simp [ho]
      have PM := Lib.hid (fun (V : World) (hV : Below W1.heap.size W1 V) => rput_any (w := V) (c := c) K Y k v r (H1.out.grow hV) hn hr2)
      have SQ := seq_of v0 o
      rw [decide_eq_true ho] at SQ
      clear hr hr2 hv hg H1 ho ST hm hk
      go_enter Try.func14, Try.ntmps14
      go_upto_region 1 with fail
      rw [← HW1.out]
      obtain ⟨h1, h2, h3⟩ := X1.out
      go_upto_region 3 with (first
        | (go_at_call 25; refine MM.out.mono ?_; rintro e w5 ⟨rfl, b5⟩; have B5 := Lib.hid b5; clear b5)
        | (go_at_call 39; refine (KM.out _).mono ?_; rintro e w6 ⟨rfl, hq6⟩; have b6 := q_below B5.out hq6; have B6 := Lib.hid b6; clear hq6 b6)
        | (go_at_call 40; refine (VM.out _).mono ?_; rintro e w7 ⟨rfl, hq7⟩; have b7 := q_below B6.out hq7; have B7 := Lib.hid b7; clear hq7 b7)
        | fail)
      clear h1 h2 h3
      obtain ⟨h1, h2, h3⟩ := HC.out _ B7.out
      go_wp2_with (first
        | (go_at_call 18; refine (GM.out _ B7.out).mono ?_; rintro e w8 ⟨rfl, b8⟩; have b8' := B7.out.trans (b8.mono B7.out.size); obtain ⟨h4, h5, h6⟩ := HC.out _ b8'; have B8 := Lib.hid b8'; clear b8 b8')
        | (go_at_call 12; refine (PM.out _ B8.out).mono ?_; rintro e w9 ⟨n9, d9, D9, rfl, p9, f9, b9⟩; have P9 := Lib.hid p9; have F9 := Lib.hid (f9.mono B8.out.size); have b9' := B8.out.trans (b9.mono B8.out.size); have B9 := Lib.hid (b1.out.trans (b9'.mono b1.out.size)); have V9 := Lib.hid (V1.out.grow b9'); clear b9 b9' p9 f9)
        | (refine sp_store_as (op := ⟨none, .store 24 (.tmp 8) (.tmp 44), _, _, _, _⟩) rfl 24 (.tmp 8) (.tmp 44) rfl (w.heap.size + 1) 0 #[.int .i64 r.1.K, .int .i64 r.1.Y, .slice D9 n9 d9] rfl rfl V9.out.th HS.out (sp_one _ _ _ _ _) ?_; intro w10 hw10)
        | fail)
      obtain ⟨R10, B10⟩ := sp_stored V9.out hw10 (by omega) B9.out
      have P10 : Prs w10 w10.heap.size D9 n9 r.1.l := by rw [hw10.out]; exact (P9.out.farX F9.out (by omega) _ _).more (sp_size_le _ _ _ _)
      exact bodyPost_ret (ret_spaceR (p := 8) (u := 9) rfl _ _ (w.heap.size + 1) rfl R10 rfl) rfl ⟨n9, d9, D9, rfl, P10, F9.out.mono b1.out.size, B10⟩
    · have E1 : Hid (r = (sp0, 111)) := Lib.hid (by rw [← hr]; unfold swapR; rw [hv, hg]; simp [ho])
      have SQ := seq_of v0 o
      rw [decide_eq_false ho] at SQ
      clear hr hv hg H1 ho hm hk
      go_enter Try.func14, Try.ntmps14
      go_upto_region 1 with fail
      rw [← HW1.out]
      obtain ⟨h1, h2, h3⟩ := X1.out
      go_upto_region 3 with (first
        | (go_at_call 25; refine MM.out.mono ?_; rintro e w5 ⟨rfl, b5⟩; have B5 := Lib.hid b5; clear b5)
        | (go_at_call 39; refine (KM.out _).mono ?_; rintro e w6 ⟨rfl, hq6⟩; have b6 := q_below B5.out hq6; have B6 := Lib.hid b6; clear hq6 b6)
        | (go_at_call 40; refine (VM.out _).mono ?_; rintro e w7 ⟨rfl, hq7⟩; have b7 := q_below B6.out hq7; have B7 := Lib.hid b7; clear hq7 b7)
        | fail)
      clear h1 h2 h3
      obtain ⟨h1, h2, h3⟩ := HC.out _ B7.out
      go_wp2_with (first
        | (go_at_call 18; refine (GM.out _ B7.out).mono ?_; rintro e w8 ⟨rfl, b8⟩; have b8' := B7.out.trans (b8.mono B7.out.size); have V8 := Lib.hid (V1.out.grow b8'); have B8 := Lib.hid b8'; clear b8 b8')
        | (refine sp_store_as (op := ⟨none, .store 24 (.tmp 8) (.tmp 39), _, _, _, _⟩) rfl 24 (.tmp 8) (.tmp 39) rfl (w.heap.size + 1) 0 #[.int .i64 0, .int .i64 0, .slice none 0 0] rfl rfl V8.out.th HS.out (sp_one _ _ _ _ _) ?_; intro w9 hw9)
        | fail)
      obtain ⟨R9, B9⟩ := ST.out _ _ B8.out hw9
      exact bodyPost_ret (ret_spaceR (p := 8) (u := 9) rfl _ _ (w.heap.size + 1) rfl R9 rfl) rfl (givesN_err E1.out B9)
  · have E1 : Hid (r = (sp0, e0)) := Lib.hid (by rw [← hr]; unfold swapR; rw [hv, hg]; simp [he])
    clear hr hv hg H1 hm hk
    go_enter Try.func14, Try.ntmps14
    go_upto_region 1 with fail
    rw [← HW1.out]
    obtain ⟨h1, h2, h3⟩ := X1.out
    go_upto_region 3 with (first
      | (go_at_call 25; refine MM.out.mono ?_; rintro e w5 ⟨rfl, b5⟩; have B5 := Lib.hid b5; clear b5)
      | (go_at_call 39; refine (KM.out _).mono ?_; rintro e w6 ⟨rfl, hq6⟩; have b6 := q_below B5.out hq6; have B6 := Lib.hid b6; clear hq6 b6)
      | (go_at_call 40; refine (VM.out _).mono ?_; rintro e w7 ⟨rfl, hq7⟩; have b7 := q_below B6.out hq7; have B7 := Lib.hid b7; clear hq7 b7)
      | fail)
    clear h1 h2 h3
    obtain ⟨h1, h2, h3⟩ := HC.out _ B7.out
    go_wp2_with (first
      | (go_at_call 18; refine (GM.out _ B7.out).mono ?_; rintro e w8 ⟨rfl, b8⟩; have b8' := B7.out.trans (b8.mono B7.out.size); have V8 := Lib.hid (V1.out.grow b8'); have B8 := Lib.hid b8'; clear b8 b8')
      | (refine sp_store_as (op := ⟨none, .store 24 (.tmp 8) (.tmp 34), _, _, _, _⟩) rfl 24 (.tmp 8) (.tmp 34) rfl (w.heap.size + 1) 0 #[.int .i64 0, .int .i64 0, .slice none 0 0] rfl rfl V8.out.th HS.out (sp_one _ _ _ _ _) ?_; intro w9 hw9)
      | fail)
    obtain ⟨R9, B9⟩ := ST.out _ _ B8.out hw9
    exact bodyPost_ret (ret_spaceR (p := 8) (u := 9) rfl _ _ (w.heap.size + 1) rfl R9 rfl) rfl (givesN_err E1.out B9)
end Go.Proofs.Ytmlkcedhjnmfgaa
