/- Swap, Del. -/
import Derived.Test.YtmlkcedhjnmfgaaSpI
namespace Go.Proofs.Ytmlkcedhjnmfgaa
open Go.ChangeShapes Go.WideShapes Go.ChangeAt Go.RowKit
set_option linter.unusedVariables false
set_option linter.unusedSimpArgs false
open Plain Sp
set_option maxRecDepth 100000 in
set_option maxHeartbeats 4000000 in
theorem swap_any {w : World} {n c : Nat} {A : Option Addr} {l : List PairZ} (K Y : Int) (k o v : ByteArray) (r : SpZ × Int) (h : Spc w A n c l) (hr : swapR ⟨K, Y, l⟩ k o v = r) :
    Calls Try.prog 13 #[.agg #[.int .i64 K, .int .i64 Y, .slice A n c], .string k, .string o, .string v] w (GivesS w r) := by
  obtain ⟨W1, hW1⟩ : ∃ W, W = (w.alloc (.cells #[.int .i64 K, .int .i64 Y, .slice A n c] 28)).alloc (.cells #[.int .i64 0, .int .i64 0, .slice none 0 0] 28) := ⟨_, rfl⟩
  have b1 := Lib.hid (show Below w.heap.size w W1 by rw [hW1]; exact (below_one _ _).alloc (by simp) _)
  have X1 := Lib.hid (show SBox W1 w.heap.size K Y A n c by rw [hW1]; exact (sbox_new _ _ _ _ _ _ _ _ rfl).grow (below_one _ _))
  have V1 := Lib.hid (show SVar W1 (w.heap.size + 1) by rw [hW1]; exact svar_new _ _ _ _ _ _ (by simp))
  have z1 : W1.heap.size = w.heap.size + 2 := by rw [hW1]; simp
  have H1 := Lib.hid (h.below b1.out)
  have HW1 := Lib.hid hW1
  have HS := Lib.hid sp_size
  clear hW1 h
  have ST := Lib.hid (fun (V V' : World) (hV : Below W1.heap.size W1 V) (hw : Hid (V' = V.setCells (w.heap.size + 1) 0 #[.int .i64 0, .int .i64 0, .slice none 0 0].toList)) => sp_stored (V1.out.grow hV) hw (by omega) (b1.out.trans (hV.mono b1.out.size)))
  have HC := Lib.hid (fun (V : World) (hV : Below W1.heap.size W1 V) => X1.out.grow hV)
  cases hv : valB v with
  | false =>
    have E1 : Hid (r = (sp0, 2)) := Lib.hid (by rw [← hr]; unfold swapR; rw [hv]; rfl)
    have VM := Lib.hid (isval_any v false hv)
    clear hr hv H1
    go_enter Try.func13, Try.ntmps13
    go_upto_region 1 with fail
    rw [← HW1.out]
    have B5 := Lib.hid (Below.refl W1.heap.size W1)
    have V5 := V1
    go_wp2_with (first
      | (go_at_call 35; refine (VM.out _).mono ?_; rintro e w5 ⟨rfl, h5⟩; have h5 := h5.symm; subst h5)
      | (refine sp_store_as (op := ⟨none, .store 28 (.tmp 8) (.tmp 15), _, _, _, _⟩) rfl 28 (.tmp 8) (.tmp 15) rfl (w.heap.size + 1) 0 #[.int .i64 0, .int .i64 0, .slice none 0 0] rfl rfl V5.out.th HS.out (sp_one _ _ _ _ _) ?_; intro w6 hw6)
      | fail)
    obtain ⟨R6, B6⟩ := ST.out _ _ B5.out hw6
    exact bodyPost_ret (ret_space (p := 8) (u := 9) rfl _ _ (w.heap.size + 1) rfl R6 rfl) rfl (gives_err E1.out B6)
  | true =>
  have VM := Lib.hid (isval_any v true hv)
  obtain ⟨⟨v0, e0⟩, hg⟩ : ∃ z, getR ⟨K, Y, l⟩ k = z := ⟨_, rfl⟩
  have GM := Lib.hid (get_any K Y k v0 e0 H1.out hg)
  by_cases he : e0 = 0
  · subst he
    by_cases ho : v0 = o
    · have hr2 : putR ⟨K, Y, l⟩ k v = r := by rw [← hr]; unfold swapR; rw [hv, hg]; simp [ho]
      have PM := Lib.hid (fun (V : World) (hV : Below W1.heap.size W1 V) => put_any (w := V) K Y k v r (H1.out.below hV) hr2)
      have SQ := seq_of v0 o
      rw [decide_eq_true ho] at SQ
      clear hr hr2 hv hg H1 ho ST
      go_enter Try.func13, Try.ntmps13
      go_upto_region 1 with fail
      rw [← HW1.out]
      obtain ⟨h1, h2, h3⟩ := X1.out
      go_wp2_with (first
        | (go_at_call 35; refine (VM.out _).mono ?_; rintro e w5 ⟨rfl, h5⟩; have h5 := h5.symm; subst h5)
        | (go_at_call 17; refine GM.out.mono ?_; rintro e w5 ⟨rfl, b5⟩; obtain ⟨h4, h5, h6⟩ := HC.out _ b5; have B5 := Lib.hid b5; clear b5)
        | (go_at_call 11; refine (PM.out _ B5.out).mono ?_; rintro e w6 ⟨n6, d6, D6, rfl, n6', b6⟩; have N6 := Lib.hid (n6'.rebase B5.out.size); have b6' := B5.out.trans (b6.mono B5.out.size); have B6 := Lib.hid (b1.out.trans (b6'.mono b1.out.size)); have V6 := Lib.hid (V1.out.grow b6'); clear b6 b6' n6')
        | (refine sp_store_as (op := ⟨none, .store 28 (.tmp 8) (.tmp 34), _, _, _, _⟩) rfl 28 (.tmp 8) (.tmp 34) rfl (w.heap.size + 1) 0 #[.int .i64 r.1.K, .int .i64 r.1.Y, .slice D6 n6 d6] rfl rfl V6.out.th HS.out (sp_one _ _ _ _ _) ?_; intro w7 hw7)
        | fail)
      obtain ⟨R7, B7⟩ := sp_stored V6.out hw7 (by omega) B6.out
      have N7 : NewP w7 W1.heap.size D6 n6 d6 r.1.l := by rw [hw7.out]; exact N6.out.far (by omega) _ _
      exact bodyPost_ret (ret_space (p := 8) (u := 9) rfl _ _ (w.heap.size + 1) rfl R7 rfl) rfl ⟨n6, d6, D6, rfl, N7.rebase b1.out.size, B7⟩
    · have E1 : Hid (r = (sp0, 111)) := Lib.hid (by rw [← hr]; unfold swapR; rw [hv, hg]; simp [ho])
      have SQ := seq_of v0 o
      rw [decide_eq_false ho] at SQ
      clear hr hv hg H1 ho
      go_enter Try.func13, Try.ntmps13
      go_upto_region 1 with fail
      rw [← HW1.out]
      obtain ⟨h1, h2, h3⟩ := X1.out
      go_wp2_with (first
        | (go_at_call 35; refine (VM.out _).mono ?_; rintro e w5 ⟨rfl, h5⟩; have h5 := h5.symm; subst h5)
        | (go_at_call 17; refine GM.out.mono ?_; rintro e w5 ⟨rfl, b5⟩; have V5 := Lib.hid (V1.out.grow b5); have B5 := Lib.hid b5; clear b5)
        | (refine sp_store_as (op := ⟨none, .store 28 (.tmp 8) (.tmp 29), _, _, _, _⟩) rfl 28 (.tmp 8) (.tmp 29) rfl (w.heap.size + 1) 0 #[.int .i64 0, .int .i64 0, .slice none 0 0] rfl rfl V5.out.th HS.out (sp_one _ _ _ _ _) ?_; intro w6 hw6)
        | fail)
      obtain ⟨R6, B6⟩ := ST.out _ _ B5.out hw6
      exact bodyPost_ret (ret_space (p := 8) (u := 9) rfl _ _ (w.heap.size + 1) rfl R6 rfl) rfl (gives_err E1.out B6)
  · have E1 : Hid (r = (sp0, e0)) := Lib.hid (by rw [← hr]; unfold swapR; rw [hv, hg]; simp [he])
    clear hr hv hg H1
    go_enter Try.func13, Try.ntmps13
    go_upto_region 1 with fail
    rw [← HW1.out]
    obtain ⟨h1, h2, h3⟩ := X1.out
    go_wp2_with (first
      | (go_at_call 35; refine (VM.out _).mono ?_; rintro e w5 ⟨rfl, h5⟩; have h5 := h5.symm; subst h5)
      | (go_at_call 17; refine GM.out.mono ?_; rintro e w5 ⟨rfl, b5⟩; have V5 := Lib.hid (V1.out.grow b5); have B5 := Lib.hid b5; clear b5)
      | (refine sp_store_as (op := ⟨none, .store 28 (.tmp 8) (.tmp 24), _, _, _, _⟩) rfl 28 (.tmp 8) (.tmp 24) rfl (w.heap.size + 1) 0 #[.int .i64 0, .int .i64 0, .slice none 0 0] rfl rfl V5.out.th HS.out (sp_one _ _ _ _ _) ?_; intro w6 hw6)
      | fail)
    obtain ⟨R6, B6⟩ := ST.out _ _ B5.out hw6
    exact bodyPost_ret (ret_space (p := 8) (u := 9) rfl _ _ (w.heap.size + 1) rfl R6 rfl) rfl (gives_err E1.out B6)
set_option maxRecDepth 100000 in
set_option maxHeartbeats 4000000 in
theorem del_any {w : World} {n c : Nat} {A : Option Addr} {l : List PairZ} (K Y : Int) (k : ByteArray) (r : SpZ × Int) (h : Spc w A n c l) (hr : delR ⟨K, Y, l⟩ k = r) :
    Calls Try.prog 15 #[.agg #[.int .i64 K, .int .i64 Y, .slice A n c], .string k] w (GivesS w r) := by
  obtain ⟨W1, hW1⟩ : ∃ W, W = (w.alloc (.cells #[.int .i64 K, .int .i64 Y, .slice A n c] 28)).alloc (.cells #[.int .i64 0, .int .i64 0, .slice none 0 0] 28) := ⟨_, rfl⟩
  have b1 := Lib.hid (show Below w.heap.size w W1 by rw [hW1]; exact (below_one _ _).alloc (by simp) _)
  have X1 := Lib.hid (show SBox W1 w.heap.size K Y A n c by rw [hW1]; exact (sbox_new _ _ _ _ _ _ _ _ rfl).grow (below_one _ _))
  have V1 := Lib.hid (show SVar W1 (w.heap.size + 1) by rw [hW1]; exact svar_new _ _ _ _ _ _ (by simp))
  have U1 := Lib.hid (show SVar W1 w.heap.size by rw [hW1]; exact (svar_new _ _ _ _ _ _ rfl).grow (below_one _ _))
  have z1 : W1.heap.size = w.heap.size + 2 := by rw [hW1]; simp
  have H1 := Lib.hid (h.below b1.out)
  have HW1 := Lib.hid hW1
  have HS := Lib.hid sp_size
  clear hW1 h
  have HC := Lib.hid (fun (V : World) (hV : Below W1.heap.size W1 V) => X1.out.grow hV)
  obtain ⟨⟨v0, e0⟩, hg⟩ : ∃ z, getR ⟨K, Y, l⟩ k = z := ⟨_, rfl⟩
  have GM := Lib.hid (get_any K Y k v0 e0 H1.out hg)
  by_cases he : e0 = 0
  · subst he
    have hm : mayB ⟨K, Y, l⟩ = true := by
      cases hm : mayB ⟨K, Y, l⟩
      · simp [getR, hm] at hg
      · rfl
    have hr2 : (⟨K, Y, delP l k⟩, (0 : Int)) = r := by rw [← hr]; unfold delR; rw [hg]; simp
    obtain ⟨_, hri, _, _, _⟩ := may_parts hm
    have hcut := (top_drop k hri).2
    have hlen := H1.out.prs.len
    obtain ⟨p1, p2, p3⟩ := beh_le l k
    obtain ⟨pos, hpos⟩ : ∃ z, posP l k = z := ⟨_, rfl⟩
    obtain ⟨beh, hbeh⟩ : ∃ z, behP l k = z := ⟨_, rfl⟩
    rw [hpos] at p1 p2 hcut
    rw [hbeh] at p1 p2 p3 hcut
    obtain ⟨L, hL⟩ : ∃ L, delP l k = L := ⟨_, rfl⟩
    rw [hL] at hcut hr2
    obtain ⟨N, hN⟩ : ∃ N, pos + 0 + (n - beh) = N := ⟨_, rfl⟩
    have E1 := Lib.hid hr2.symm
    have PM := Lib.hid (fun (V : World) (hV : Below W1.heap.size W1 V) => place_any (w := V) c k pos beh (H1.out.below hV).prs (Nat.le_refl _) H1.out.nk hri hpos hbeh)
    have IM := Lib.hid (fun (V : World) (hV : Below W1.heap.size W1 V) => show Calls Try.prog 37 #[.slice A n c, .int .i64 pos, .int .i64 beh, .slice none 0 0] V (fun e w' => ∃ D d, e = .returned (.slice D N d) ∧ NewP w' W1.heap.size D N d L ∧ Below W1.heap.size W1 w') from by
      refine (instead_any (m := 0) 0 (H1.out.below hV) (Prs.nil (B := 0)) (by omega) (by omega) p1 (by omega)).mono ?_
      rintro e w' ⟨D, d, rfl, hn, hb⟩
      rw [hN] at *
      rw [List.append_nil, ← hcut] at hn
      exact ⟨D, d, rfl, hn.rebase hV.size, hV.trans (hb.mono hV.size)⟩)
    clear hr hr2 hm hri hlen hcut hpos hbeh hL H1 p1 p2 p3 hN hg
    go_enter Try.func15, Try.ntmps15
    go_upto_region 1 with fail
    rw [← HW1.out]
    obtain ⟨h1, h2, h3⟩ := X1.out
    go_wp2_with (first
      | (go_at_call 17; refine GM.out.mono ?_; rintro e w5 ⟨rfl, b5⟩; obtain ⟨h4, h5, h6⟩ := HC.out _ b5; have B5 := Lib.hid b5; clear b5)
      | (go_at_call 36; refine (PM.out _ B5.out).mono ?_; rintro e w6 ⟨rfl, b6⟩; have b6' := B5.out.trans (b6.mono B5.out.size); have B6 := Lib.hid b6'; obtain ⟨h7, h8, h9⟩ := HC.out _ b6'; clear b6 b6')
      | (go_at_call 37; refine (IM.out _ B6.out).mono ?_; rintro e w7 ⟨D, d, rfl, n7, b7⟩; obtain ⟨g7, g8, g9⟩ := HC.out _ b7; have f7 := (U1.out.grow b7).free (o := 2) (by omega); have N7 := Lib.hid (n7.far1 (b := w.heap.size) (by omega) 2 (.slice D N d)); have B7 := Lib.hid ((b1.out.trans (b7.mono b1.out.size)).setCell (p := ⟨w.heap.size, 2, none⟩) (Nat.le_refl _) (.slice D N d)); have V7 := Lib.hid ((V1.out.grow b7).set1 w.heap.size 2 (.slice D N d)); obtain ⟨k7, k8, k9⟩ := sbox_set2 (A' := D) (n' := N) (c' := d) (X1.out.grow b7) (U1.out.grow b7); clear n7 b7)
      | (refine sp_store_as (op := ⟨none, .store 28 (.tmp 4) (.tmp 33), _, _, _, _⟩) rfl 28 (.tmp 4) (.tmp 33) rfl (w.heap.size + 1) 0 #[.int .i64 K, .int .i64 Y, .slice D N d] rfl rfl V7.out.th HS.out (sp_one _ _ _ _ _) ?_; intro w9 hw9)
      | fail)
    obtain ⟨R9, B9⟩ := sp_stored V7.out hw9 (by omega) B7.out
    have N9 : NewP w9 W1.heap.size D N d L := by rw [hw9.out]; exact N7.out.far (by omega) _ _
    exact bodyPost_ret (ret_space (p := 4) (u := 5) rfl _ _ (w.heap.size + 1) rfl R9 rfl) rfl (by rw [E1.out]; exact ⟨N, d, D, rfl, N9.rebase b1.out.size, B9⟩)
  · have E1 : Hid (r = (sp0, e0)) := Lib.hid (by rw [← hr]; unfold delR; rw [hg]; simp [he])
    clear hr hg H1 U1
    go_enter Try.func15, Try.ntmps15
    go_upto_region 1 with fail
    rw [← HW1.out]
    obtain ⟨h1, h2, h3⟩ := X1.out
    go_wp2_with (first
      | (go_at_call 17; refine GM.out.mono ?_; rintro e w5 ⟨rfl, b5⟩; have V5 := Lib.hid (V1.out.grow b5); have B5 := Lib.hid b5; clear b5)
      | (refine sp_store_as (op := ⟨none, .store 28 (.tmp 4) (.tmp 18), _, _, _, _⟩) rfl 28 (.tmp 4) (.tmp 18) rfl (w.heap.size + 1) 0 #[.int .i64 0, .int .i64 0, .slice none 0 0] rfl rfl V5.out.th HS.out (sp_one _ _ _ _ _) ?_; intro w6 hw6)
      | fail)
    obtain ⟨R6, B6⟩ := sp_stored V5.out hw6 (by omega) (b1.out.trans (B5.out.mono b1.out.size))
    exact bodyPost_ret (ret_space (p := 4) (u := 5) rfl _ _ (w.heap.size + 1) rfl R6 rfl) rfl (gives_err E1.out B6)
end Go.Proofs.Ytmlkcedhjnmfgaa
