/- Whether a space that was handed in stays, with the room behind it; the document's own Resize. -/
import Derived.Test.YtmlkcedhjnmfgaaSpV
import Derived.Test.YtmlkcedhjnmfgaaSpUa
import Derived.Test.YtmlkcedhjnmfgaaSpR
namespace Go.Proofs.Ytmlkcedhjnmfgaa
open Go.ChangeShapes Go.WideShapes Go.ChangeAt Go.RowKit
set_option linter.unusedVariables false
set_option linter.unusedSimpArgs false
open Plain Sp
set_option maxRecDepth 100000 in
set_option maxHeartbeats 4000000 in
theorem stays_any {w : World} {base n d c : Nat} {D A : Option Addr} {l : List PairZ} (K Y : Int) (hN : NewP w base D (n + 1) d (l ++ [tilde])) (h : Prs w w.heap.size A n l) (hn : n ≤ 1000) :
    Calls Try.prog 19 #[.agg #[.int .i64 K, .int .i64 Y, .slice D n d], .agg #[.int .i64 K, .int .i64 Y, .slice A n c]] w (fun e w' => e = .returned (.bool true) ∧ Below w.heap.size w w') := by
  obtain ⟨W1, hW1⟩ : ∃ W, W = (w.alloc (.cells #[.int .i64 K, .int .i64 Y, .slice D n d] 28)).alloc (.cells #[.int .i64 K, .int .i64 Y, .slice A n c] 24) := ⟨_, rfl⟩
  have b1 := Lib.hid (show Below w.heap.size w W1 by rw [hW1]; exact (below_one _ _).alloc (by simp) _)
  have X1 := Lib.hid (show SBox W1 w.heap.size K Y D n d by rw [hW1]; exact (sbox_new _ _ _ _ _ _ _ _ rfl).grow (below_one _ _))
  have X2 := Lib.hid (show SBox W1 (w.heap.size + 1) K Y A n c by rw [hW1]; exact sbox_new _ _ _ _ _ _ _ _ (by simp))
  have HW1 := Lib.hid hW1
  have hl := h.len
  have hd := hN.nd
  have N1 := hN.below b1.out
  have IM := Lib.hid (lis_any K Y K Y d c true (N1.pre hl hn).prs (h.below b1.out (Nat.le_refl _) |>.more b1.out.size) hn (by unfold maxLen; omega) (by simp [sameB]))
  obtain ⟨b, off, p, rfl, hb, HK, _, c0, c1⟩ := N1.prs.at_ (k := n) (by omega)
  have hp : p = tilde := by
    have := HK.out
    rw [List.getElem?_append_right (by omega), hl, Nat.sub_self] at this
    exact (Option.some.inj this).symm
  subst hp
  have C := Lib.hid (fun (V : World) (hV : Below W1.heap.size W1 V) => show (V.cell? ⟨b, off + n * 2, none⟩ = some (.string ⟨#[126]⟩) ∧ V.cell? ⟨b, off + n * 2 + 1, none⟩ = some (.string ⟨#[]⟩)) ∧ V.cell? ⟨w.heap.size, 2, none⟩ = some (.slice (some ⟨b, off, none⟩) n d) from
    ⟨⟨(hV.cell (p := ⟨b, off + n * 2, none⟩) hb).trans c0, (hV.cell (p := ⟨b, off + n * 2 + 1, none⟩) hb).trans c1⟩, (X1.out.grow hV).2.2⟩)
  have e1 : IntKind.i64.wrap ((n : Int) + 1) = (n : Int) + 1 := by rw [IntKind.wrap_i64]; omega
  have hdI : (n : Int) + 1 ≤ (d : Int) := by omega
  have hnI : (n : Int) < (n : Int) + 1 := by omega
  have hpI : 0 ≤ (n : Int) + 1 := by omega
  clear hW1 h hN N1 HK c0 c1 hl hd
  go_enter Try.func19, Try.ntmps19
  go_upto_region 1 with fail
  rw [← HW1.out]
  obtain ⟨x1, x2, x3⟩ := X1.out
  obtain ⟨y1, y2, y3⟩ := X2.out
  go_wp2_with (first
    | (go_at_call 21; refine IM.out.mono ?_; rintro e w5 ⟨rfl, b5⟩; obtain ⟨⟨i1, i2⟩, i3⟩ := C.out _ b5; have B5 := Lib.hid (b1.out.trans (b5.mono b1.out.size)); clear b5)
    | fail)
  go_ret
  exact ⟨rfl, B5.out⟩
theorem q_below {B : Nat} {a w w' : World} (h : Below B a w) (hq : ∃ m, w' = w.drewN m) : Below B a w' := by
  obtain ⟨m, rfl⟩ := hq
  exact below_drewN h m
/-- A space and a number that the document's call hands back. -/
def GivesR (w : World) (r : SpZ × Int) (e : Ending) (w' : World) : Prop :=
  ∃ n d D, e = .returned (.tuple #[.agg #[.int .i64 r.1.K, .int .i64 r.1.Y, .slice D n d], .int .i64 r.2]) ∧ Prs w' w'.heap.size D n r.1.l ∧ Below w.heap.size w w'
theorem rsp_size : (Try.prog.info? 24).map (·.size) = some 3 := by kernel_rfl
theorem ret_spaceR {fn : Func} {p u : Tmp} (h : fn.results = #[.cell p 24, .tmp u]) (tmps : Array Value) (w : World) (b : Nat) {K Y : Int} {A : Option Addr} {n c : Nat} {e : Int}
    (hp : tmps.getD p undef = .pointer (some ⟨b, 0, none⟩)) (hc : w.rangeAt b 0 [.int .i64 K, .int .i64 Y, .slice A n c]) (hu : tmps.getD u undef = .int .i64 e) :
    (results fn tmps).run Try.prog w = .ok (.tuple #[.agg #[.int .i64 K, .int .i64 Y, .slice A n c], .int .i64 e]) w := by
  rw [sp_results2 h tmps w b 0 [.int .i64 K, .int .i64 Y, .slice A n c] _ hp hc Try.underlying24 rfl rsp_size, hu]
theorem givesR_err {w w' : World} {r : SpZ × Int} {e : Int} (hr : r = (sp0, e)) (hb : Below w.heap.size w w') : GivesR w r (.returned (.tuple #[.agg #[.int .i64 0, .int .i64 0, .slice none 0 0], .int .i64 e])) w' := by
  subst hr
  exact ⟨0, 0, none, rfl, Prs.nil, hb⟩
set_option maxRecDepth 100000 in
set_option maxHeartbeats 4000000 in
theorem rsize_any {w : World} {n c : Nat} {A : Option Addr} {l : List PairZ} (K Y K' Y' : Int) (r : SpZ × Int) (h : Prs w w.heap.size A n l) (hn : n ≤ 1000) (hr : sizeR ⟨K, Y, l⟩ K' Y' = r) :
    Calls Try.prog 32 #[.agg #[.int .i64 K, .int .i64 Y, .slice A n c], .int .i64 K', .int .i64 Y'] w (GivesR w r) := by
  obtain ⟨W1, hW1⟩ : ∃ W, W = (w.alloc (.cells #[.int .i64 K, .int .i64 Y, .slice A n c] 24)).alloc (.cells #[.int .i64 0, .int .i64 0, .slice none 0 0] 24) := ⟨_, rfl⟩
  have b1 := Lib.hid (show Below w.heap.size w W1 by rw [hW1]; exact (below_one _ _).alloc (by simp) _)
  have X1 := Lib.hid (show SBox W1 w.heap.size K Y A n c by rw [hW1]; exact (sbox_new _ _ _ _ _ _ _ _ rfl).grow (below_one _ _))
  have V1 := Lib.hid (show SVar W1 (w.heap.size + 1) by rw [hW1]; exact svar_new _ _ _ _ _ _ (by simp))
  have HG0 := Lib.hid (h.below b1.out (Nat.le_refl _))
  have HG := Lib.hid ((h.below b1.out (Nat.le_refl _)).more b1.out.size)
  have L := Lib.hid h.len
  have HW1 := Lib.hid hW1
  have HS := Lib.hid rsp_size
  clear hW1 h
  have HC := Lib.hid (fun (V : World) (hV : Below W1.heap.size W1 V) => X1.out.grow hV)
  obtain ⟨mq, hm⟩ : ∃ q, mayB ⟨K, Y, l⟩ = q := ⟨_, rfl⟩
  have MM := Lib.hid (rmay_any K Y c mq HG.out (Nat.le_refl _) hn hm)
  cases mq with
  | false =>
    have E1 : Hid (r = (sp0, 2)) := Lib.hid (by rw [← hr]; unfold sizeR; rw [hm]; rfl)
    clear hr hm HG
    go_enter Try.func32, Try.ntmps32
    go_upto_region 1 with fail
    rw [← HW1.out]
    obtain ⟨h1, h2, h3⟩ := X1.out
    go_wp2_with (first
      | (go_at_call 25; refine MM.out.mono ?_; rintro e w5 ⟨rfl, b5⟩; obtain ⟨h4, h5, h6⟩ := HC.out _ b5; have B5 := Lib.hid b5; have V5 := Lib.hid (V1.out.grow b5); clear b5)
      | (refine sp_store_as (op := ⟨none, .store 24 (.tmp 6) (.tmp 17), _, _, _, _⟩) rfl 24 (.tmp 6) (.tmp 17) rfl (w.heap.size + 1) 0 #[.int .i64 0, .int .i64 0, .slice none 0 0] rfl rfl V5.out.th HS.out (sp_one _ _ _ _ _) ?_; intro w6 hw6)
      | fail)
    obtain ⟨R6, B6⟩ := sp_stored V5.out hw6 (by omega) (b1.out.trans (B5.out.mono b1.out.size))
    exact bodyPost_ret (ret_spaceR (p := 6) (u := 7) rfl _ _ (w.heap.size + 1) rfl R6 rfl) rfl (givesR_err E1.out B6)
  | true =>
  obtain ⟨lq, hl⟩ : ∃ q, limB K' Y' = q := ⟨_, rfl⟩
  have LM := Lib.hid (rlim_any K' Y' lq hl)
  cases lq with
  | false =>
    have E1 : Hid (r = (sp0, 2)) := Lib.hid (by rw [← hr]; unfold sizeR; rw [hl, Bool.and_false]; rfl)
    clear hr hm hl HG
    go_enter Try.func32, Try.ntmps32
    go_upto_region 1 with fail
    rw [← HW1.out]
    obtain ⟨h1, h2, h3⟩ := X1.out
    go_wp2_with (first
      | (go_at_call 25; refine MM.out.mono ?_; rintro e w5 ⟨rfl, b5⟩; obtain ⟨h4, h5, h6⟩ := HC.out _ b5; have B5 := Lib.hid b5; have V5 := Lib.hid (V1.out.grow b5); clear b5)
      | (go_at_call 33; refine (LM.out _).mono ?_; rintro e w7 ⟨rfl, hq7⟩; have b7 := q_below B5.out hq7; have V5 := Lib.hid (V1.out.grow b7); have B5 := Lib.hid b7; obtain ⟨h4, h5, h6⟩ := HC.out _ b7; clear hq7 b7)
      | (refine sp_store_as (op := ⟨none, .store 24 (.tmp 6) (.tmp 17), _, _, _, _⟩) rfl 24 (.tmp 6) (.tmp 17) rfl (w.heap.size + 1) 0 #[.int .i64 0, .int .i64 0, .slice none 0 0] rfl rfl V5.out.th HS.out (sp_one _ _ _ _ _) ?_; intro w6 hw6)
      | fail)
    obtain ⟨R6, B6⟩ := sp_stored V5.out hw6 (by omega) (b1.out.trans (B5.out.mono b1.out.size))
    exact bodyPost_ret (ret_spaceR (p := 6) (u := 7) rfl _ _ (w.heap.size + 1) rfl R6 rfl) rfl (givesR_err E1.out B6)
  | true =>
  obtain ⟨_, hri, _, _, _⟩ := may_parts hm
  have hr2 : fitR ⟨K', Y', l⟩ = r := by rw [← hr]; unfold sizeR; rw [hm, hl]; rfl
  obtain ⟨x, hx⟩ : ∃ x, cnt l = x := ⟨_, rfl⟩
  have hcl : x ≤ 1152921504606846976 := by
    have h1 : cnt l ≤ 88 * l.length := rise_len hri
    rw [L.out] at h1
    omega
  have CM := Lib.hid (fun (V : World) (hV : Below W1.heap.size W1 V) => rcount_any (w := V) c x (HG.out.below hV (Nat.le_refl _)) (by unfold maxLen; omega) hx hcl)
  have HGV := Lib.hid (fun (V : World) (hV : Below W1.heap.size W1 V) => (HG.out.below hV (Nat.le_refl _)).more hV.size)
  have FQ := Lib.hid (show fitB K' Y' l = (decide ((n : Int) ≤ K') && decide ((x : Int) ≤ Y')) by unfold fitB; rw [L.out, hx])
  clear hr hm hl HG hri hx hcl
  by_cases hK : K' < (n : Int)
  · have E1 : Hid (r = (sp0, 120)) := Lib.hid (by rw [← hr2]; unfold fitR; rw [FQ.out, decide_eq_false (by omega)]; rfl)
    clear hr2
    go_enter Try.func32, Try.ntmps32
    go_upto_region 1 with fail
    rw [← HW1.out]
    obtain ⟨h1, h2, h3⟩ := X1.out
    go_wp2_with (first
      | (go_at_call 25; refine MM.out.mono ?_; rintro e w5 ⟨rfl, b5⟩; obtain ⟨h4, h5, h6⟩ := HC.out _ b5; have B5 := Lib.hid b5; have V5 := Lib.hid (V1.out.grow b5); clear b5)
      | (go_at_call 33; refine (LM.out _).mono ?_; rintro e w7 ⟨rfl, hq7⟩; have b7 := q_below B5.out hq7; have V5 := Lib.hid (V1.out.grow b7); have B5 := Lib.hid b7; obtain ⟨h4, h5, h6⟩ := HC.out _ b7; clear hq7 b7)
      | (refine sp_store_as (op := ⟨none, .store 24 (.tmp 6) (.tmp 30), _, _, _, _⟩) rfl 24 (.tmp 6) (.tmp 30) rfl (w.heap.size + 1) 0 #[.int .i64 0, .int .i64 0, .slice none 0 0] rfl rfl V5.out.th HS.out (sp_one _ _ _ _ _) ?_; intro w6 hw6)
      | fail)
    obtain ⟨R6, B6⟩ := sp_stored V5.out hw6 (by omega) (b1.out.trans (B5.out.mono b1.out.size))
    exact bodyPost_ret (ret_spaceR (p := 6) (u := 7) rfl _ _ (w.heap.size + 1) rfl R6 rfl) rfl (givesR_err E1.out B6)
  by_cases hY : Y' < (x : Int)
  · have E1 : Hid (r = (sp0, 120)) := Lib.hid (by rw [← hr2]; unfold fitR; rw [FQ.out, decide_eq_false (show ¬ (x : Int) ≤ Y' by omega), Bool.and_false]; rfl)
    clear hr2
    go_enter Try.func32, Try.ntmps32
    go_upto_region 1 with fail
    rw [← HW1.out]
    obtain ⟨h1, h2, h3⟩ := X1.out
    go_wp2_with (first
      | (go_at_call 25; refine MM.out.mono ?_; rintro e w5 ⟨rfl, b5⟩; obtain ⟨h4, h5, h6⟩ := HC.out _ b5; have B5 := Lib.hid b5; have V5 := Lib.hid (V1.out.grow b5); clear b5)
      | (go_at_call 33; refine (LM.out _).mono ?_; rintro e w7 ⟨rfl, hq7⟩; have b7 := q_below B5.out hq7; have V5 := Lib.hid (V1.out.grow b7); have B5 := Lib.hid b7; obtain ⟨h4, h5, h6⟩ := HC.out _ b7; clear hq7 b7)
      | (go_at_call 26; refine (CM.out _ B5.out).mono ?_; rintro e w8 ⟨rfl, hq8⟩; have b8 := q_below B5.out hq8; have V5 := Lib.hid (V1.out.grow b8); have B5 := Lib.hid b8; obtain ⟨h4, h5, h6⟩ := HC.out _ b8; clear hq8 b8)
      | (refine sp_store_as (op := ⟨none, .store 24 (.tmp 6) (.tmp 30), _, _, _, _⟩) rfl 24 (.tmp 6) (.tmp 30) rfl (w.heap.size + 1) 0 #[.int .i64 0, .int .i64 0, .slice none 0 0] rfl rfl V5.out.th HS.out (sp_one _ _ _ _ _) ?_; intro w6 hw6)
      | fail)
    obtain ⟨R6, B6⟩ := sp_stored V5.out hw6 (by omega) (b1.out.trans (B5.out.mono b1.out.size))
    exact bodyPost_ret (ret_spaceR (p := 6) (u := 7) rfl _ _ (w.heap.size + 1) rfl R6 rfl) rfl (givesR_err E1.out B6)
  · have E1 : Hid (r = (⟨K', Y', l⟩, 0)) := Lib.hid (by rw [← hr2]; unfold fitR; rw [FQ.out, decide_eq_true (show (n : Int) ≤ K' by omega), decide_eq_true (show (x : Int) ≤ Y' by omega)]; rfl)
    clear hr2
    go_enter Try.func32, Try.ntmps32
    go_upto_region 1 with fail
    rw [← HW1.out]
    obtain ⟨h1, h2, h3⟩ := X1.out
    go_wp2_with (first
      | (go_at_call 25; refine MM.out.mono ?_; rintro e w5 ⟨rfl, b5⟩; obtain ⟨h4, h5, h6⟩ := HC.out _ b5; have B5 := Lib.hid b5; have V5 := Lib.hid (V1.out.grow b5); clear b5)
      | (go_at_call 33; refine (LM.out _).mono ?_; rintro e w7 ⟨rfl, hq7⟩; have b7 := q_below B5.out hq7; have V5 := Lib.hid (V1.out.grow b7); have B5 := Lib.hid b7; obtain ⟨h4, h5, h6⟩ := HC.out _ b7; clear hq7 b7)
      | (go_at_call 26; refine (CM.out _ B5.out).mono ?_; rintro e w8 ⟨rfl, hq8⟩; have b8 := q_below B5.out hq8; have V5 := Lib.hid (V1.out.grow b8); have B5 := Lib.hid b8; obtain ⟨h4, h5, h6⟩ := HC.out _ b8; clear hq8 b8)
      | (refine sp_store_as (op := ⟨none, .store 24 (.tmp 6) (.tmp 35), _, _, _, _⟩) rfl 24 (.tmp 6) (.tmp 35) rfl (w.heap.size + 1) 0 #[.int .i64 K', .int .i64 Y', .slice A n c] rfl rfl V5.out.th HS.out (sp_one _ _ _ _ _) ?_; intro w6 hw6)
      | fail)
    have P6 : Prs w6 w6.heap.size A n l := by
      have hb := (sp_stored V5.out hw6 (show w.heap.size ≤ w.heap.size + 1 by omega) (b1.out.trans (B5.out.mono b1.out.size))).2
      have hb2 : Below w.heap.size W1 w6 := by rw [hw6.out]; exact sp_setCells (by omega) _ _ _ (B5.out.mono b1.out.size)
      exact (HG0.out.below hb2 (Nat.le_refl _)).more hb.size
    obtain ⟨R6, B6⟩ := sp_stored V5.out hw6 (by omega) (b1.out.trans (B5.out.mono b1.out.size))
    exact bodyPost_ret (ret_spaceR (p := 6) (u := 7) rfl _ _ (w.heap.size + 1) rfl R6 rfl) rfl (by rw [E1.out]; exact ⟨n, c, A, rfl, P6, B6⟩)
end Go.Proofs.Ytmlkcedhjnmfgaa
