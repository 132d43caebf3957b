/- Resize, New, Used. -/
import Derived.Test.YtmlkcedhjnmfgaaSpI
namespace Go.Proofs.Ytmlkcedhjnmfgaa
open Go.ChangeShapes Go.WideShapes Go.ChangeAt Go.RowKit
set_option linter.unusedVariables false
set_option linter.unusedSimpArgs false
open Plain Sp
set_option maxRecDepth 100000 in
set_option maxHeartbeats 4000000 in
theorem size_anyR {w : World} {n c : Nat} {A : Option Addr} {l : List PairZ} (K Y K' Y' : Int) (r : SpZ × Int) (h : Spc w A n c l) (hr : sizeR ⟨K, Y, l⟩ K' Y' = r) :
    Calls Try.prog 31 #[.agg #[.int .i64 K, .int .i64 Y, .slice A n c], .int .i64 K', .int .i64 Y'] w (GivesS w r) := by
  obtain ⟨W1, hW1⟩ : ∃ W, W = (w.alloc (.cells #[.int .i64 K, .int .i64 Y, .slice A n c] 28)).alloc (.cells #[.int .i64 0, .int .i64 0, .slice none 0 0] 28) := ⟨_, rfl⟩
  have b1 := Lib.hid (show Below w.heap.size w W1 by rw [hW1]; exact (below_one _ _).alloc (by simp) _)
  have X1 := Lib.hid (show SBox W1 w.heap.size K Y A n c by rw [hW1]; exact (sbox_new _ _ _ _ _ _ _ _ rfl).grow (below_one _ _))
  have V1 := Lib.hid (show SVar W1 (w.heap.size + 1) by rw [hW1]; exact svar_new _ _ _ _ _ _ (by simp))
  have z1 : W1.heap.size = w.heap.size + 2 := by rw [hW1]; simp
  have H1 := Lib.hid (h.below b1.out)
  have HW1 := Lib.hid hW1
  have HS := Lib.hid sp_size
  clear hW1 h
  have ST := Lib.hid (fun (V V' : World) (hV : Below W1.heap.size W1 V) (hw : Hid (V' = V.setCells (w.heap.size + 1) 0 #[.int .i64 0, .int .i64 0, .slice none 0 0].toList)) => sp_stored (V1.out.grow hV) hw (by omega) (b1.out.trans (hV.mono b1.out.size)))
  have HC := Lib.hid (fun (V : World) (hV : Below W1.heap.size W1 V) => X1.out.grow hV)
  cases hm : mayB ⟨K, Y, l⟩ with
  | false =>
    have E1 : Hid (r = (sp0, 2)) := Lib.hid (by rw [← hr]; unfold sizeR; rw [hm]; rfl)
    have MM := Lib.hid (may_any K Y c false H1.out hm)
    clear hr hm H1
    go_enter Try.func31, Try.ntmps31
    go_upto_region 1 with fail
    rw [← HW1.out]
    obtain ⟨h1, h2, h3⟩ := X1.out
    go_wp2_with (first
      | (go_at_call 27; refine MM.out.mono ?_; rintro e w5 ⟨rfl, b5⟩; have B5 := Lib.hid b5; have V5 := Lib.hid (V1.out.grow b5); clear b5)
      | (refine sp_store_as (op := ⟨none, .store 28 (.tmp 6) (.tmp 17), _, _, _, _⟩) rfl 28 (.tmp 6) (.tmp 17) rfl (w.heap.size + 1) 0 #[.int .i64 0, .int .i64 0, .slice none 0 0] rfl rfl V5.out.th HS.out (sp_one _ _ _ _ _) ?_; intro w6 hw6)
      | fail)
    obtain ⟨R6, B6⟩ := ST.out _ _ B5.out hw6
    exact bodyPost_ret (ret_space (p := 6) (u := 7) rfl _ _ (w.heap.size + 1) rfl R6 rfl) rfl (gives_err E1.out B6)
  | true =>
  have MM := Lib.hid (may_any K Y c true H1.out hm)
  cases hl : limB K' Y' with
  | false =>
    have E1 : Hid (r = (sp0, 2)) := Lib.hid (by rw [← hr]; unfold sizeR; rw [hl, Bool.and_false]; rfl)
    have LM := Lib.hid (lim_any K' Y' false hl)
    clear hr hm hl H1
    go_enter Try.func31, Try.ntmps31
    go_upto_region 1 with fail
    rw [← HW1.out]
    obtain ⟨h1, h2, h3⟩ := X1.out
    go_wp2_with (first
      | (go_at_call 27; refine MM.out.mono ?_; rintro e w5 ⟨rfl, b5⟩; have B5 := Lib.hid b5; have V5 := Lib.hid (V1.out.grow b5); clear b5)
      | (go_at_call 45; refine (LM.out _).mono ?_; rintro e w5 ⟨rfl, rfl⟩)
      | (refine sp_store_as (op := ⟨none, .store 28 (.tmp 6) (.tmp 17), _, _, _, _⟩) rfl 28 (.tmp 6) (.tmp 17) rfl (w.heap.size + 1) 0 #[.int .i64 0, .int .i64 0, .slice none 0 0] rfl rfl V5.out.th HS.out (sp_one _ _ _ _ _) ?_; intro w6 hw6)
      | fail)
    obtain ⟨R6, B6⟩ := ST.out _ _ B5.out hw6
    exact bodyPost_ret (ret_space (p := 6) (u := 7) rfl _ _ (w.heap.size + 1) rfl R6 rfl) rfl (gives_err E1.out B6)
  | true =>
  have LM := Lib.hid (lim_any K' Y' true hl)
  obtain ⟨_, hri, _, hl64, _⟩ := may_parts hm
  have hcl := H1.out.cnt hri
  have CM := Lib.hid (fun (V : World) (hV : Below W1.heap.size W1 V) => clone_any (w := V) (H1.out.below hV))
  have HOK := Lib.hid H1.out.prs.ok
  have HN := Lib.hid H1.out.nm
  have HCL := Lib.hid hcl
  obtain ⟨q, hq⟩ : ∃ q, fitB K' Y' l = q := ⟨_, rfl⟩
  have HQ := Lib.hid hq
  have hr2 : fitR ⟨K', Y', l⟩ = r := by rw [← hr]; unfold sizeR; rw [hm, hl]; rfl
  have HR := Lib.hid hr2
  clear hr hr2 hm hl H1 hri hl64 hcl hq
  cases q with
  | true =>
    have E1 : Hid (r = (⟨K', Y', l⟩, 0)) := Lib.hid (by rw [← HR.out]; unfold fitR; rw [if_pos HQ.out])
    clear ST
    go_enter Try.func31, Try.ntmps31
    go_upto_region 1 with fail
    rw [← HW1.out]
    obtain ⟨h1, h2, h3⟩ := X1.out
    go_wp2_with (first
      | (go_at_call 27; refine MM.out.mono ?_; rintro e w5 ⟨rfl, b5⟩; have B5 := Lib.hid b5; obtain ⟨h4, h5, h6⟩ := HC.out _ b5; clear b5)
      | (go_at_call 45; refine (LM.out _).mono ?_; rintro e w5 ⟨rfl, h5⟩; have h5 := h5.symm; subst h5)
      | (go_at_call 49; refine (CM.out _ B5.out).mono ?_; rintro e w6 ⟨D, d, rfl, o6, b6⟩; have b6' := B5.out.trans (b6.mono B5.out.size); have B6 := Lib.hid b6'; have V6 := Lib.hid (V1.out.grow b6'); have N6 := Lib.hid ((newP_own o6 HOK.out).rebase B5.out.size); have FM := Lib.hid (iffits_yes (w := w6) (c := d) K' Y' N6.out.prs (Nat.le_refl _) HN.out HQ.out HCL.out); clear o6 b6 b6')
      | (go_at_call 38; refine FM.out.mono ?_; rintro e w8 ⟨rfl, b8⟩; have N8 := Lib.hid (N6.out.below b8); have B8 := Lib.hid (b1.out.trans ((B6.out.trans (b8.mono B6.out.size)).mono b1.out.size)); have V8 := Lib.hid (V6.out.grow b8); clear b8)
      | (refine sp_store_as (op := ⟨none, .store 28 (.tmp 6) (.tmp 25), _, _, _, _⟩) rfl 28 (.tmp 6) (.tmp 25) rfl (w.heap.size + 1) 0 #[.int .i64 K', .int .i64 Y', .slice D n d] rfl rfl V8.out.th HS.out (sp_one _ _ _ _ _) ?_; intro w9 hw9)
      | fail)
    obtain ⟨R9, B9⟩ := sp_stored V8.out hw9 (by omega) B8.out
    have N9 : NewP w9 W1.heap.size D n d l := by rw [hw9.out]; exact N8.out.far (by omega) _ _
    exact bodyPost_ret (ret_space (p := 6) (u := 7) rfl _ _ (w.heap.size + 1) rfl R9 rfl) rfl (by rw [E1.out]; exact ⟨n, d, D, rfl, N9.rebase b1.out.size, B9⟩)
  | false =>
    have E1 : Hid (r = (sp0, 120)) := Lib.hid (by rw [← HR.out]; unfold fitR; rw [if_neg (by rw [HQ.out]; decide)])
    go_enter Try.func31, Try.ntmps31
    go_upto_region 1 with fail
    rw [← HW1.out]
    obtain ⟨h1, h2, h3⟩ := X1.out
    go_wp2_with (first
      | (go_at_call 27; refine MM.out.mono ?_; rintro e w5 ⟨rfl, b5⟩; have B5 := Lib.hid b5; obtain ⟨h4, h5, h6⟩ := HC.out _ b5; clear b5)
      | (go_at_call 45; refine (LM.out _).mono ?_; rintro e w5 ⟨rfl, h5⟩; have h5 := h5.symm; subst h5)
      | (go_at_call 49; refine (CM.out _ B5.out).mono ?_; rintro e w6 ⟨D, d, rfl, o6, b6⟩; have b6' := B5.out.trans (b6.mono B5.out.size); have B6 := Lib.hid b6'; have N6 := Lib.hid ((newP_own o6 HOK.out).rebase B5.out.size); have FM := Lib.hid (iffits_no (w := w6) (c := d) K' Y' N6.out.prs (Nat.le_refl _) HN.out HQ.out HCL.out); clear o6 b6 b6')
      | (go_at_call 38; refine FM.out.mono ?_; rintro e w8 ⟨rfl, b8⟩; have b8' := B6.out.trans (b8.mono B6.out.size); have B8 := Lib.hid b8'; have V8 := Lib.hid (V1.out.grow b8'); clear b8 b8')
      | (refine sp_store_as (op := ⟨none, .store 28 (.tmp 6) (.tmp 25), _, _, _, _⟩) rfl 28 (.tmp 6) (.tmp 25) rfl (w.heap.size + 1) 0 #[.int .i64 0, .int .i64 0, .slice none 0 0] rfl rfl V8.out.th HS.out (sp_one _ _ _ _ _) ?_; intro w9 hw9)
      | fail)
    obtain ⟨R9, B9⟩ := ST.out _ _ B8.out hw9
    exact bodyPost_ret (ret_space (p := 6) (u := 7) rfl _ _ (w.heap.size + 1) rfl R9 rfl) rfl (gives_err E1.out B9)
set_option maxRecDepth 100000 in
set_option maxHeartbeats 1000000 in
theorem new_any {w : World} (K Y : Int) (r : SpZ × Int) (hr : newR K Y = r) : Calls Try.prog 30 #[.int .i64 K, .int .i64 Y] w (GivesS w r) := by
  obtain ⟨W1, hW1⟩ : ∃ W, W = w.alloc (.cells #[.int .i64 0, .int .i64 0, .slice none 0 0] 28) := ⟨_, rfl⟩
  have b1 := Lib.hid (show Below w.heap.size w W1 by rw [hW1]; exact below_one _ _)
  have V1 := Lib.hid (show SVar W1 w.heap.size by rw [hW1]; exact svar_new _ _ _ _ _ _ rfl)
  have z1 : W1.heap.size = w.heap.size + 1 := by rw [hW1]; simp
  have HW1 := Lib.hid hW1
  have HS := Lib.hid sp_size
  have RM := Lib.hid (size_anyR (w := W1) 0 0 K Y r (show Spc W1 none 0 0 [] from ⟨Prs.nil, Nat.le_refl _, by simp [maxLen], by omega⟩) (by rw [← hr, ← new_size]; rfl))
  clear hW1 hr
  go_enter Try.func30, Try.ntmps30
  go_upto_region 1 with fail
  rw [← HW1.out]
  go_wp2_with (first
    | (go_at_call 31; refine RM.out.mono ?_; rintro e w5 ⟨n5, d5, D5, rfl, n5', b5⟩; have B5 := Lib.hid (b1.out.trans (b5.mono b1.out.size)); have V5 := Lib.hid (V1.out.grow b5); have N5 := Lib.hid n5'; clear b5 n5')
    | (refine sp_store_as (op := ⟨none, .store 28 (.tmp 4) (.tmp 10), _, _, _, _⟩) rfl 28 (.tmp 4) (.tmp 10) rfl w.heap.size 0 #[.int .i64 r.1.K, .int .i64 r.1.Y, .slice D5 n5 d5] rfl rfl V5.out.th HS.out (sp_one _ _ _ _ _) ?_; intro w6 hw6)
    | fail)
  obtain ⟨R6, B6⟩ := sp_stored V5.out hw6 (by omega) B5.out
  have N6 : NewP w6 W1.heap.size D5 n5 d5 r.1.l := by rw [hw6.out]; exact N5.out.far (by omega) _ _
  exact bodyPost_ret (ret_space (p := 4) (u := 5) rfl _ _ w.heap.size rfl R6 rfl) rfl ⟨n5, d5, D5, rfl, N6.rebase b1.out.size, B6⟩
set_option maxRecDepth 100000 in
set_option maxHeartbeats 1000000 in
theorem used_any {w : World} {n c : Nat} {A : Option Addr} {l : List PairZ} (K Y : Int) (x y : Nat) (h : Spc w A n c l) (hx : (if mayB ⟨K, Y, l⟩ then n else 0) = x) (hy : (if mayB ⟨K, Y, l⟩ then cnt l else 0) = y) :
    Calls Try.prog 24 #[.agg #[.int .i64 K, .int .i64 Y, .slice A n c]] w (fun e w' => e = .returned (.tuple #[.int .i64 x, .int .i64 y]) ∧ Below w.heap.size w w') := by
  obtain ⟨W1, hW1⟩ : ∃ W, W = w.alloc (.cells #[.int .i64 K, .int .i64 Y, .slice A n c] 28) := ⟨_, rfl⟩
  have b1 := Lib.hid (show Below w.heap.size w W1 by rw [hW1]; exact below_one _ _)
  have X1 := Lib.hid (show SBox W1 w.heap.size K Y A n c by rw [hW1]; exact sbox_new _ _ _ _ _ _ _ _ rfl)
  have H1 := Lib.hid (h.below b1.out)
  have HW1 := Lib.hid hW1
  have HC := Lib.hid (fun (V : World) (hV : Below W1.heap.size W1 V) => X1.out.grow hV)
  clear hW1 h
  cases hm : mayB ⟨K, Y, l⟩ with
  | false =>
    rw [hm] at hx hy
    obtain rfl : 0 = x := hx
    obtain rfl : 0 = y := hy
    have MM := Lib.hid (may_any K Y c false H1.out hm)
    clear hm H1
    go_enter Try.func24, Try.ntmps24
    go_upto_region 1 with fail
    rw [← HW1.out]
    obtain ⟨h1, h2, h3⟩ := X1.out
    go_wp2_with (go_at_call 27; refine MM.out.mono ?_; rintro e w5 ⟨rfl, b5⟩; have B5 := Lib.hid (b1.out.trans (b5.mono b1.out.size)); clear b5)
    go_ret2
    exact ⟨rfl, B5.out⟩
  | true =>
    rw [hm] at hx hy
    obtain rfl : n = x := hx
    have hy : cnt l = y := hy
    have MM := Lib.hid (may_any K Y c true H1.out hm)
    obtain ⟨_, hri, _, _, _⟩ := may_parts hm
    have hcl := H1.out.cnt hri
    rw [hy] at hcl
    have SM := Lib.hid (fun (V : World) (hV : Below W1.heap.size W1 V) => size_any (w := V) c y (H1.out.below hV).prs (Nat.le_refl _) H1.out.nm hy hcl)
    clear hm H1 hri hcl hy
    go_enter Try.func24, Try.ntmps24
    go_upto_region 1 with fail
    rw [← HW1.out]
    obtain ⟨h1, h2, h3⟩ := X1.out
    go_upto_region 3 with (go_at_call 27; refine MM.out.mono ?_; rintro e w5 ⟨rfl, b5⟩; have B5 := Lib.hid b5; have C5 := Lib.hid (fun (V : World) (hV : Below w5.heap.size w5 V) => HC.out V (b5.trans (hV.mono b5.size))); clear b5)
    clear h1 h2 h3
    have h4 := (C5.out _ (Below.refl _ _)).1
    have h5 := (C5.out _ (Below.refl _ _)).2.1
    have h6 := (C5.out _ (Below.refl _ _)).2.2
    go_region_held3 (fun V => V.cell? ⟨w.heap.size, 2, none⟩ = some (.slice A n c))
      (first
        | (exact (C5.out _ (Below.refl _ _).drew).2.2)
        | (exact (C5.out _ B6.out).2.2))
      ((first
        | (go_at_call 44; refine (SM.out _ (B5.out.drew)).mono ?_; rintro e w6 ⟨rfl, b6⟩; have B6 := Lib.hid ((Below.refl w5.heap.size w5).drew.trans b6); clear b6)
        | fail))
    all_goals
      go_wp2
      go_ret2
      exact ⟨rfl, b1.out.trans ((B5.out.trans (B6.out.mono B5.out.size)).mono b1.out.size)⟩
end Go.Proofs.Ytmlkcedhjnmfgaa
