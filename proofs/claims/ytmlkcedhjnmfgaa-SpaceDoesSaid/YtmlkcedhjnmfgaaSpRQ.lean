/- The document's own Put, Swap, Del: whatever comes in. -/
import Derived.Test.YtmlkcedhjnmfgaaSpRP
namespace Go.Proofs.Ytmlkcedhjnmfgaa
open Go.ChangeShapes Go.WideShapes Go.ChangeAt Go.RowKit
set_option linter.unusedVariables false
set_option linter.unusedSimpArgs false
open Plain Sp
set_option maxRecDepth 100000 in
set_option maxHeartbeats 4000000 in
theorem rput_any {w : World} {n c : Nat} {A : Option Addr} {l : List PairZ} (K Y : Int) (k v : ByteArray) (r : SpZ × Int) (h : Prs w w.heap.size A n l) (hn : n ≤ 1000) (hr : putR ⟨K, Y, l⟩ k v = r) :
    Calls Try.prog 12 #[.agg #[.int .i64 K, .int .i64 Y, .slice A n c], .string k, .string v] w (GivesN w r) := by
  obtain ⟨W1, hW1⟩ : ∃ W, W = (w.alloc (.cells #[.int .i64 K, .int .i64 Y, .slice A n c] 24)).alloc (.cells #[.int .i64 0, .int .i64 0, .slice none 0 0] 24) := ⟨_, rfl⟩
  have b1 := Lib.hid (show Below w.heap.size w W1 by rw [hW1]; exact (below_one _ _).alloc (by simp) _)
  have X1 := Lib.hid (show SBox W1 w.heap.size K Y A n c by rw [hW1]; exact (sbox_new _ _ _ _ _ _ _ _ rfl).grow (below_one _ _))
  have V1 := Lib.hid (show SVar W1 (w.heap.size + 1) by rw [hW1]; exact svar_new _ _ _ _ _ _ (by simp))
  have H1 := Lib.hid ((h.below b1.out (Nat.le_refl _)).more b1.out.size)
  have HW1 := Lib.hid hW1
  have HS := Lib.hid rsp_size
  clear hW1
  by_cases hno : (mayB ⟨K, Y, l⟩ && keyB k && valB v) = true
  · simp only [Bool.and_eq_true] at hno
    exact rput_yes K Y k v r h hn hno.1.1 hno.1.2 hno.2 (by rw [← hr]; unfold putR; rw [if_pos (by rw [hno.1.1, hno.1.2, hno.2]; rfl)])
  · clear h
    have e1 : r = (sp0, 2) := by rw [← hr]; unfold putR; rw [if_neg hno]
    have E1 := Lib.hid e1
    have ST := Lib.hid (fun (V V' : World) (hV : Below W1.heap.size W1 V) (hw : Hid (V' = V.setCells (w.heap.size + 1) 0 #[.int .i64 0, .int .i64 0, .slice none 0 0].toList)) => sp_stored (V1.out.grow hV) hw (by omega) (b1.out.trans (hV.mono b1.out.size)))
    cases hm : mayB ⟨K, Y, l⟩ with
    | false =>
      have MM := Lib.hid (rmay_any K Y c false H1.out (Nat.le_refl _) hn hm)
      clear hr e1 hno hm H1
      go_enter Try.func12, Try.ntmps12
      go_upto_region 1 with fail
      rw [← HW1.out]
      obtain ⟨h1, h2, h3⟩ := X1.out
      go_wp2_with (first
        | (go_at_call 25; refine MM.out.mono ?_; rintro e w5 ⟨rfl, b5⟩; have B5 := Lib.hid b5; have V5 := Lib.hid (V1.out.grow b5); clear b5)
        | (refine sp_store_as (op := ⟨none, .store 24 (.tmp 6) (.tmp 25), _, _, _, _⟩) rfl 24 (.tmp 6) (.tmp 25) rfl (w.heap.size + 1) 0 #[.int .i64 0, .int .i64 0, .slice none 0 0] rfl rfl V5.out.th HS.out (sp_one _ _ _ _ _) ?_; intro w6 hw6)
        | fail)
      obtain ⟨R6, B6⟩ := ST.out _ _ B5.out hw6
      exact bodyPost_ret (ret_spaceR (p := 6) (u := 7) rfl _ _ (w.heap.size + 1) rfl R6 rfl) rfl (givesN_err E1.out B6)
    | true =>
    have MM := Lib.hid (rmay_any K Y c true H1.out (Nat.le_refl _) hn hm)
    cases hk : keyB k with
    | false =>
      have KM := Lib.hid (rkey_any k false hk)
      clear hr e1 hno hm H1 hk
      go_enter Try.func12, Try.ntmps12
      go_upto_region 1 with fail
      rw [← HW1.out]
      obtain ⟨h1, h2, h3⟩ := X1.out
      go_wp2_with (first
        | (go_at_call 25; refine MM.out.mono ?_; rintro e w5 ⟨rfl, b5⟩; have B5 := Lib.hid b5; clear b5)
        | (go_at_call 39; refine (KM.out _).mono ?_; rintro e w6 ⟨rfl, hq6⟩; have b6 := q_below B5.out hq6; have B6 := Lib.hid b6; have V6 := Lib.hid (V1.out.grow b6); clear hq6 b6)
        | (refine sp_store_as (op := ⟨none, .store 24 (.tmp 6) (.tmp 25), _, _, _, _⟩) rfl 24 (.tmp 6) (.tmp 25) rfl (w.heap.size + 1) 0 #[.int .i64 0, .int .i64 0, .slice none 0 0] rfl rfl V6.out.th HS.out (sp_one _ _ _ _ _) ?_; intro w7 hw7)
        | fail)
      obtain ⟨R7, B7⟩ := ST.out _ _ B6.out hw7
      exact bodyPost_ret (ret_spaceR (p := 6) (u := 7) rfl _ _ (w.heap.size + 1) rfl R7 rfl) rfl (givesN_err E1.out B7)
    | true =>
      have hv : valB v = false := by
        cases hv : valB v
        · rfl
        · exact absurd (by rw [hm, hk, hv]; rfl) hno
      have KM := Lib.hid (rkey_any k true hk)
      have VM := Lib.hid (rval_any v false hv)
      clear hr e1 hno hm H1 hk hv
      go_enter Try.func12, Try.ntmps12
      go_upto_region 1 with fail
      rw [← HW1.out]
      obtain ⟨h1, h2, h3⟩ := X1.out
      go_wp2_with (first
        | (go_at_call 25; refine MM.out.mono ?_; rintro e w5 ⟨rfl, b5⟩; have B5 := Lib.hid b5; clear b5)
        | (go_at_call 39; refine (KM.out _).mono ?_; rintro e w6 ⟨rfl, hq6⟩; have b6 := q_below B5.out hq6; have B6 := Lib.hid b6; clear hq6 b6)
        | (go_at_call 40; refine (VM.out _).mono ?_; rintro e w7 ⟨rfl, hq7⟩; have b7 := q_below B6.out hq7; have B7 := Lib.hid b7; have V7 := Lib.hid (V1.out.grow b7); clear hq7 b7)
        | (refine sp_store_as (op := ⟨none, .store 24 (.tmp 6) (.tmp 25), _, _, _, _⟩) rfl 24 (.tmp 6) (.tmp 25) rfl (w.heap.size + 1) 0 #[.int .i64 0, .int .i64 0, .slice none 0 0] rfl rfl V7.out.th HS.out (sp_one _ _ _ _ _) ?_; intro w8 hw8)
        | fail)
      obtain ⟨R8, B8⟩ := ST.out _ _ B7.out hw8
      exact bodyPost_ret (ret_spaceR (p := 6) (u := 7) rfl _ _ (w.heap.size + 1) rfl R8 rfl) rfl (givesN_err E1.out B8)
end Go.Proofs.Ytmlkcedhjnmfgaa
