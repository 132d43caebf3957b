/- Put. -/
import Derived.Test.YtmlkcedhjnmfgaaSpH
namespace Go.Proofs.Ytmlkcedhjnmfgaa
open Go.ChangeShapes Go.WideShapes Go.ChangeAt Go.RowKit
set_option linter.unusedVariables false
set_option linter.unusedSimpArgs false
open Plain Sp
/-- A space and a number that a call hands back: the pairs are in new memory; nothing that was there has turned. -/
def GivesS (w : World) (r : SpZ × Int) (e : Ending) (w' : World) : Prop :=
  ∃ n d D, e = .returned (.tuple #[.agg #[.int .i64 r.1.K, .int .i64 r.1.Y, .slice D n d], .int .i64 r.2]) ∧ NewP w' w.heap.size D n d r.1.l ∧ Below w.heap.size w w'
theorem sp_heap {b k : Nat} (hk : k ≠ b) : ∀ (vs : List Value) (o : Nat) (w : World), (w.setCells b o vs).heap[k]? = w.heap[k]?
  | [], _, _ => rfl
  | v :: r, o, w => by rw [World.setCells, sp_heap hk r (o + 1)]; exact Below.heap_setCell _ _ _ _ hk
theorem NewP.far {w : World} {base n d b : Nat} {D : Option Addr} {l : List PairZ} (h : NewP w base D n d l) (hb : b < base) (o : Nat) (vs : List Value) : NewP (w.setCells b o vs) base D n d l :=
  ⟨h.len, h.nd, h.dm, h.ok, fun hn => by
    obtain ⟨g, cur, rfl, h1, h2, h3, h4⟩ := h.row hn
    exact ⟨g, cur, rfl, h1, (sp_heap (by omega) _ _ _).trans h2, h3, h4⟩⟩
theorem NewP.far1 {w : World} {base n d b : Nat} {D : Option Addr} {l : List PairZ} (h : NewP w base D n d l) (hb : b < base) (o : Nat) (v : Value) : NewP (w.setCell ⟨b, o, none⟩ v) base D n d l := h.far hb o [v]
theorem SVar.set1 {W : World} {b : Nat} (h : SVar W b) (g o : Nat) (u : Value) : SVar (W.setCell ⟨g, o, none⟩ u) b := ⟨World.there_setCells h.th g o [u], by rw [show (W.setCell ⟨g, o, none⟩ u).heap.size = W.heap.size by simp [World.setCell]]; exact h.lt⟩
theorem SVar.free {W : World} {b : Nat} (h : SVar W b) {o : Nat} (ho : o < 3) : W.frozen? ⟨b, o, none⟩ = false := by
  have := (h.th o ho).2
  rwa [Nat.zero_add] at this
theorem sbox_set2 {W : World} {b : Nat} {K Y : Int} {A A' : Option Addr} {n c n' c' : Nat} (h : SBox W b K Y A n c) (hv : SVar W b) : SBox (W.setCell ⟨b, 2, none⟩ (.slice A' n' c')) b K Y A' n' c' := by
  have h2 := World.rangeAt_setCells_same W b 2 [.slice A' n' c'] (fun j hj => by
    have hj : j = 0 := by simpa using hj
    subst hj
    exact hv.th 2 (by omega))
  have h0 := World.rangeAt_setCells_apart (w := W) (b' := b) (o' := 0) (cs := [.int .i64 K, .int .i64 Y]) (fun j v hj => by
    match j, hj with
    | 0, hj => injection hj with hj; subst hj; exact h.1
    | 1, hj => injection hj with hj; subst hj; exact h.2.1) b 2 [.slice A' n' c'] (.inr (.inl (by simp)))
  exact ⟨h0 0 _ rfl, h0 1 _ rfl, h2 0 _ rfl⟩
/-- What is returned of a variable that holds a space, and a number. -/
theorem ret_space {fn : Func} {p u : Tmp} (h : fn.results = #[.cell p 28, .tmp u]) (tmps : Array Value) (w : World) (b : Nat) {K Y : Int} {A : Option Addr} {n c : Nat} {e : Int}
    (hp : tmps.getD p undef = .pointer (some ⟨b, 0, none⟩)) (hc : w.rangeAt b 0 [.int .i64 K, .int .i64 Y, .slice A n c]) (hu : tmps.getD u undef = .int .i64 e) :
    (results fn tmps).run Try.prog w = .ok (.tuple #[.agg #[.int .i64 K, .int .i64 Y, .slice A n c], .int .i64 e]) w := by
  rw [sp_results2 h tmps w b 0 [.int .i64 K, .int .i64 Y, .slice A n c] _ hp hc Try.underlying28 rfl sp_size, hu]
theorem gives_err {w w' : World} {r : SpZ × Int} {e : Int} (hr : r = (sp0, e)) (hb : Below w.heap.size w w') : GivesS w r (.returned (.tuple #[.agg #[.int .i64 0, .int .i64 0, .slice none 0 0], .int .i64 e])) w' := by
  subst hr
  exact ⟨0, 0, none, rfl, NewP.nil _ _ (by simp [maxLen]), hb⟩
set_option maxRecDepth 100000 in
set_option maxHeartbeats 4000000 in
theorem put_yes {w : World} {n c : Nat} {A : Option Addr} {l : List PairZ} (K Y : Int) (k v : ByteArray) (r : SpZ × Int) (h : Spc w A n c l) (hm : mayB ⟨K, Y, l⟩ = true) (hk : keyB k = true) (hv : valB v = true) (hr : fitR ⟨K, Y, insP l k v⟩ = r) :
    Calls Try.prog 11 #[.agg #[.int .i64 K, .int .i64 Y, .slice A n c], .string k, .string v] w (GivesS w r) := by
  obtain ⟨W1, hW1⟩ : ∃ W, W = (w.alloc (.cells #[.int .i64 K, .int .i64 Y, .slice A n c] 28)).alloc (.cells #[.int .i64 0, .int .i64 0, .slice none 0 0] 28) := ⟨_, rfl⟩
  have b1 := Lib.hid (show Below w.heap.size w W1 by rw [hW1]; exact (below_one _ _).alloc (by simp) _)
  have X1 := Lib.hid (show SBox W1 w.heap.size K Y A n c by rw [hW1]; exact (sbox_new _ _ _ _ _ _ _ _ rfl).grow (below_one _ _))
  have V1 := Lib.hid (show SVar W1 (w.heap.size + 1) by rw [hW1]; exact svar_new _ _ _ _ _ _ (by simp))
  have U1 := Lib.hid (show SVar W1 w.heap.size by rw [hW1]; exact (svar_new _ _ _ _ _ _ rfl).grow (below_one _ _))
  have z1 : W1.heap.size = w.heap.size + 2 := by rw [hW1]; simp
  have H1 := Lib.hid (h.below b1.out)
  have HW1 := Lib.hid hW1
  have HS := Lib.hid sp_size
  clear hW1 h
  obtain ⟨_, hri, _, hl64, _⟩ := may_parts hm
  have hlen := H1.out.prs.len
  have hl64 : n ≤ 64 := by rw [← hlen]; exact hl64
  have hri2 := ins_rise hri hk hv
  have hcut := ins_cut k v hri
  obtain ⟨p1, p2, p3⟩ := beh_le l k
  obtain ⟨pos, hpos⟩ : ∃ z, posP l k = z := ⟨_, rfl⟩
  obtain ⟨beh, hbeh⟩ : ∃ z, behP l k = z := ⟨_, rfl⟩
  rw [hpos] at p1 p2 hcut
  rw [hbeh] at p1 p2 p3 hcut
  obtain ⟨L, hL⟩ : ∃ L, insP l k v = L := ⟨_, rfl⟩
  rw [hL] at hcut hri2 hr
  obtain ⟨N, hN⟩ : ∃ N, pos + 1 + (n - beh) = N := ⟨_, rfl⟩
  have hN2 : N ≤ 1000 := by omega
  have hPOk : POk ⟨k, v⟩ := by
    simp only [keyB, valB, Bool.and_eq_true, decide_eq_true_eq] at hk hv
    exact ⟨by unfold maxLen; show k.size ≤ _; omega, by unfold maxLen; show v.size ≤ _; omega⟩
  have MM := Lib.hid (may_any K Y c true H1.out hm)
  have KM := Lib.hid (iskey_any k true hk)
  have VM := Lib.hid (isval_any v true hv)
  have PM := Lib.hid (fun (V : World) (hV : Below W1.heap.size W1 V) => place_any (w := V) c k pos beh (H1.out.below hV).prs (Nat.le_refl _) H1.out.nk hri hpos hbeh)
  have HC := Lib.hid (fun (V : World) (hV : Below W1.heap.size W1 V) => X1.out.grow hV)
  have IM := Lib.hid (fun (V : World) (hV : Below W1.heap.size W1 V) => show Calls Try.prog 37 #[.slice A n c, .int .i64 pos, .int .i64 beh, .slice (some ⟨V.heap.size, 0, none⟩) 1 1] (V.alloc (.cells #[.string k, .string v] 46)) (fun e w' => ∃ D d, e = .returned (.slice D N d) ∧ NewP w' W1.heap.size D N d L ∧ Below W1.heap.size W1 w') from by
    have hV2 : Below W1.heap.size W1 (V.alloc (.cells #[.string k, .string v] 46)) := hV.alloc hV.size _
    refine (instead_any (m := 1) 1 (H1.out.below hV2) (prs_new V [⟨k, v⟩] 1 rfl 46 _ rfl (by intro p hp; obtain rfl := List.mem_singleton.1 hp; exact hPOk)) (by simp) (Nat.le_refl _) p1 (by omega)).mono ?_
    rintro e w' ⟨D, d, rfl, hn, hb⟩
    rw [hN] at *
    rw [← hcut] at hn
    exact ⟨D, d, rfl, hn.rebase hV2.size, hV2.trans (hb.mono hV2.size)⟩)
  have hcl : cnt L ≤ 1152921504606846976 := by
    have e1 := rise_len hri2
    have e2 : L.length = N := by
      rw [hcut, ← hN]; simp only [List.length_append, List.length_take, List.length_drop, List.length_singleton]; omega
    omega
  obtain ⟨q, hq⟩ : ∃ q, fitB K Y L = q := ⟨_, rfl⟩
  have HR := Lib.hid hr
  have HQ := Lib.hid hq
  have HCL := Lib.hid hcl
  have KK := Lib.hid (show N ≤ maxLen by unfold maxLen; omega)
  clear hr hm hk hv H1 hri hlen hl64 hri2 hcut hpos hbeh hL hPOk hcl hq p1 p2 p3 hN hN2
  cases q with
  | true =>
    have E1 : Hid (r = (⟨K, Y, L⟩, 0)) := Lib.hid (by rw [← HR.out]; unfold fitR; rw [if_pos HQ.out])
    go_enter Try.func11, Try.ntmps11
    go_upto_region 1 with fail
    rw [← HW1.out]
    obtain ⟨h1, h2, h3⟩ := X1.out
    go_wp2_with (first
      | (go_at_call 27; refine MM.out.mono ?_; rintro e w5 ⟨rfl, b5⟩; obtain ⟨h4, h5, h6⟩ := HC.out _ b5; have B5 := Lib.hid b5; clear b5)
      | (go_at_call 34; refine (KM.out _).mono ?_; rintro e w5 ⟨rfl, rfl⟩)
      | (go_at_call 35; refine (VM.out _).mono ?_; rintro e w5 ⟨rfl, rfl⟩)
      | (go_at_call 36; refine (PM.out _ B5.out).mono ?_; rintro e w6 ⟨rfl, b6⟩; have b6' := B5.out.trans (b6.mono B5.out.size); have B6 := Lib.hid b6'; obtain ⟨h7, h8, h9⟩ := HC.out _ b6'; clear b6 b6')
      | (go_at_call 37; refine (IM.out _ B6.out).mono ?_; rintro e w7 ⟨D, d, rfl, n7, b7⟩; obtain ⟨g7, g8, g9⟩ := HC.out _ b7; have f7 := (U1.out.grow b7).free (o := 2) (by omega); have N7 := Lib.hid (n7.far1 (b := w.heap.size) (by omega) 2 (.slice D N d)); have B7 := Lib.hid ((b1.out.trans (b7.mono b1.out.size)).setCell (p := ⟨w.heap.size, 2, none⟩) (Nat.le_refl _) (.slice D N d)); have V7 := Lib.hid ((V1.out.grow b7).set1 w.heap.size 2 (.slice D N d)); obtain ⟨k7, k8, k9⟩ := sbox_set2 (A' := D) (n' := N) (c' := d) (X1.out.grow b7) (U1.out.grow b7); have FM := Lib.hid (iffits_yes (w := w7.setCell ⟨w.heap.size, 2, none⟩ (.slice D N d)) (c := d) K Y N7.out.prs (Nat.le_refl _) KK.out HQ.out HCL.out); clear n7 b7)
      | (go_at_call 38; refine FM.out.mono ?_; rintro e w8 ⟨rfl, b8⟩; have N8 := Lib.hid (N7.out.below b8); have B8 := Lib.hid (B7.out.trans (b8.mono B7.out.size)); have V8 := Lib.hid (V7.out.grow b8); clear b8)
      | (refine sp_store_as (op := ⟨none, .store 28 (.tmp 6) (.tmp 43), _, _, _, _⟩) rfl 28 (.tmp 6) (.tmp 43) rfl (w.heap.size + 1) 0 #[.int .i64 K, .int .i64 Y, .slice D N d] rfl rfl V8.out.th HS.out (sp_one _ _ _ _ _) ?_; intro w9 hw9)
      | fail)
    obtain ⟨R9, B9⟩ := sp_stored V8.out hw9 (by omega) B8.out
    have N9 : NewP w9 W1.heap.size D N d L := by rw [hw9.out]; exact N8.out.far (by omega) _ _
    exact bodyPost_ret (ret_space (p := 6) (u := 7) rfl _ _ (w.heap.size + 1) rfl R9 rfl) rfl (by rw [E1.out]; exact ⟨N, d, D, rfl, N9.rebase b1.out.size, B9⟩)
  | false =>
    have E1 : Hid (r = (sp0, 120)) := Lib.hid (by rw [← HR.out]; unfold fitR; rw [if_neg (by rw [HQ.out]; decide)])
    go_enter Try.func11, Try.ntmps11
    go_upto_region 1 with fail
    rw [← HW1.out]
    obtain ⟨h1, h2, h3⟩ := X1.out
    go_wp2_with (first
      | (go_at_call 27; refine MM.out.mono ?_; rintro e w5 ⟨rfl, b5⟩; obtain ⟨h4, h5, h6⟩ := HC.out _ b5; have B5 := Lib.hid b5; clear b5)
      | (go_at_call 34; refine (KM.out _).mono ?_; rintro e w5 ⟨rfl, rfl⟩)
      | (go_at_call 35; refine (VM.out _).mono ?_; rintro e w5 ⟨rfl, rfl⟩)
      | (go_at_call 36; refine (PM.out _ B5.out).mono ?_; rintro e w6 ⟨rfl, b6⟩; have b6' := B5.out.trans (b6.mono B5.out.size); have B6 := Lib.hid b6'; obtain ⟨h7, h8, h9⟩ := HC.out _ b6'; clear b6 b6')
      | (go_at_call 37; refine (IM.out _ B6.out).mono ?_; rintro e w7 ⟨D, d, rfl, n7, b7⟩; obtain ⟨g7, g8, g9⟩ := HC.out _ b7; have f7 := (U1.out.grow b7).free (o := 2) (by omega); have N7 := Lib.hid (n7.far1 (b := w.heap.size) (by omega) 2 (.slice D N d)); have B7 := Lib.hid ((b1.out.trans (b7.mono b1.out.size)).setCell (p := ⟨w.heap.size, 2, none⟩) (Nat.le_refl _) (.slice D N d)); have V7 := Lib.hid ((V1.out.grow b7).set1 w.heap.size 2 (.slice D N d)); obtain ⟨k7, k8, k9⟩ := sbox_set2 (A' := D) (n' := N) (c' := d) (X1.out.grow b7) (U1.out.grow b7); have FM := Lib.hid (iffits_no (w := w7.setCell ⟨w.heap.size, 2, none⟩ (.slice D N d)) (c := d) K Y N7.out.prs (Nat.le_refl _) KK.out HQ.out HCL.out); clear n7 b7)
      | (go_at_call 38; refine FM.out.mono ?_; rintro e w8 ⟨rfl, b8⟩; have B8 := Lib.hid (B7.out.trans (b8.mono B7.out.size)); have V8 := Lib.hid (V7.out.grow b8); clear b8)
      | (refine sp_store_as (op := ⟨none, .store 28 (.tmp 6) (.tmp 43), _, _, _, _⟩) rfl 28 (.tmp 6) (.tmp 43) rfl (w.heap.size + 1) 0 #[.int .i64 0, .int .i64 0, .slice none 0 0] rfl rfl V8.out.th HS.out (sp_one _ _ _ _ _) ?_; intro w9 hw9)
      | fail)
    obtain ⟨R9, B9⟩ := sp_stored V8.out hw9 (by omega) B8.out
    exact bodyPost_ret (ret_space (p := 6) (u := 7) rfl _ _ (w.heap.size + 1) rfl R9 rfl) rfl (gives_err E1.out B9)
set_option maxRecDepth 100000 in
set_option maxHeartbeats 4000000 in
theorem put_any {w : World} {n c : Nat} {A : Option Addr} {l : List PairZ} (K Y : Int) (k v : ByteArray) (r : SpZ × Int) (h : Spc w A n c l) (hr : putR ⟨K, Y, l⟩ k v = r) :
    Calls Try.prog 11 #[.agg #[.int .i64 K, .int .i64 Y, .slice A n c], .string k, .string v] w (GivesS w r) := by
  obtain ⟨W1, hW1⟩ : ∃ W, W = (w.alloc (.cells #[.int .i64 K, .int .i64 Y, .slice A n c] 28)).alloc (.cells #[.int .i64 0, .int .i64 0, .slice none 0 0] 28) := ⟨_, rfl⟩
  have b1 := Lib.hid (show Below w.heap.size w W1 by rw [hW1]; exact (below_one _ _).alloc (by simp) _)
  have X1 := Lib.hid (show SBox W1 w.heap.size K Y A n c by rw [hW1]; exact (sbox_new _ _ _ _ _ _ _ _ rfl).grow (below_one _ _))
  have V1 := Lib.hid (show SVar W1 (w.heap.size + 1) by rw [hW1]; exact svar_new _ _ _ _ _ _ (by simp))
  have U1 := Lib.hid (show SVar W1 w.heap.size by rw [hW1]; exact (svar_new _ _ _ _ _ _ rfl).grow (below_one _ _))
  have z1 : W1.heap.size = w.heap.size + 2 := by rw [hW1]; simp
  have H1 := Lib.hid (h.below b1.out)
  have HW1 := Lib.hid hW1
  have HS := Lib.hid sp_size
  clear hW1
  by_cases hno : (mayB ⟨K, Y, l⟩ && keyB k && valB v) = true
  · simp only [Bool.and_eq_true] at hno
    exact put_yes K Y k v r h hno.1.1 hno.1.2 hno.2 (by rw [← hr]; unfold putR; rw [if_pos (by rw [hno.1.1, hno.1.2, hno.2]; rfl)])
  · clear h
    have e1 : r = (sp0, 2) := by rw [← hr]; unfold putR; rw [if_neg hno]
    have E1 := Lib.hid e1
    have ST := Lib.hid (fun (V V' : World) (hV : Below W1.heap.size W1 V) (hw : Hid (V' = V.setCells (w.heap.size + 1) 0 #[.int .i64 0, .int .i64 0, .slice none 0 0].toList)) => sp_stored (V1.out.grow hV) hw (by omega) (b1.out.trans (hV.mono b1.out.size)))
    cases hm : mayB ⟨K, Y, l⟩ with
    | false =>
      have MM := Lib.hid (may_any K Y c false H1.out hm)
      clear hr e1 hno hm H1 U1
      go_enter Try.func11, Try.ntmps11
      go_upto_region 1 with fail
      rw [← HW1.out]
      obtain ⟨h1, h2, h3⟩ := X1.out
      go_wp2_with (first
        | (go_at_call 27; refine MM.out.mono ?_; rintro e w5 ⟨rfl, b5⟩; have B5 := Lib.hid b5; have V5 := Lib.hid (V1.out.grow b5); clear b5)
        | (refine sp_store_as (op := ⟨none, .store 28 (.tmp 6) (.tmp 23), _, _, _, _⟩) rfl 28 (.tmp 6) (.tmp 23) rfl (w.heap.size + 1) 0 #[.int .i64 0, .int .i64 0, .slice none 0 0] rfl rfl V5.out.th HS.out (sp_one _ _ _ _ _) ?_; intro w6 hw6)
        | fail)
      obtain ⟨R6, B6⟩ := ST.out _ _ B5.out hw6
      exact bodyPost_ret (ret_space (p := 6) (u := 7) rfl _ _ (w.heap.size + 1) rfl R6 rfl) rfl (gives_err E1.out B6)
    | true =>
    have MM := Lib.hid (may_any K Y c true H1.out hm)
    cases hk : keyB k with
    | false =>
      have KM := Lib.hid (iskey_any k false hk)
      clear hr e1 hno hm H1 U1 hk
      go_enter Try.func11, Try.ntmps11
      go_upto_region 1 with fail
      rw [← HW1.out]
      obtain ⟨h1, h2, h3⟩ := X1.out
      go_wp2_with (first
        | (go_at_call 27; refine MM.out.mono ?_; rintro e w5 ⟨rfl, b5⟩; have B5 := Lib.hid b5; have V5 := Lib.hid (V1.out.grow b5); clear b5)
        | (go_at_call 34; refine (KM.out _).mono ?_; rintro e w5 ⟨rfl, rfl⟩)
        | (refine sp_store_as (op := ⟨none, .store 28 (.tmp 6) (.tmp 23), _, _, _, _⟩) rfl 28 (.tmp 6) (.tmp 23) rfl (w.heap.size + 1) 0 #[.int .i64 0, .int .i64 0, .slice none 0 0] rfl rfl V5.out.th HS.out (sp_one _ _ _ _ _) ?_; intro w6 hw6)
        | fail)
      obtain ⟨R6, B6⟩ := ST.out _ _ B5.out hw6
      exact bodyPost_ret (ret_space (p := 6) (u := 7) rfl _ _ (w.heap.size + 1) rfl R6 rfl) rfl (gives_err E1.out B6)
    | true =>
      have hv : valB v = false := by
        cases hv : valB v
        · rfl
        · exact absurd (by rw [hm, hk, hv]; rfl) hno
      have KM := Lib.hid (iskey_any k true hk)
      have VM := Lib.hid (isval_any v false hv)
      clear hr e1 hno hm H1 U1 hk hv
      go_enter Try.func11, Try.ntmps11
      go_upto_region 1 with fail
      rw [← HW1.out]
      obtain ⟨h1, h2, h3⟩ := X1.out
      go_wp2_with (first
        | (go_at_call 27; refine MM.out.mono ?_; rintro e w5 ⟨rfl, b5⟩; have B5 := Lib.hid b5; have V5 := Lib.hid (V1.out.grow b5); clear b5)
        | (go_at_call 34; refine (KM.out _).mono ?_; rintro e w5 ⟨rfl, rfl⟩)
        | (go_at_call 35; refine (VM.out _).mono ?_; rintro e w5 ⟨rfl, rfl⟩)
        | (refine sp_store_as (op := ⟨none, .store 28 (.tmp 6) (.tmp 23), _, _, _, _⟩) rfl 28 (.tmp 6) (.tmp 23) rfl (w.heap.size + 1) 0 #[.int .i64 0, .int .i64 0, .slice none 0 0] rfl rfl V5.out.th HS.out (sp_one _ _ _ _ _) ?_; intro w6 hw6)
        | fail)
      obtain ⟨R6, B6⟩ := ST.out _ _ B5.out hw6
      exact bodyPost_ret (ret_space (p := 6) (u := 7) rfl _ _ (w.heap.size + 1) rfl R6 rfl) rfl (gives_err E1.out B6)
end Go.Proofs.Ytmlkcedhjnmfgaa
