/- Get. -/
import Derived.Test.YtmlkcedhjnmfgaaSpG
namespace Go.Proofs.Ytmlkcedhjnmfgaa
open Go.ChangeShapes Go.WideShapes Go.ChangeAt Go.RowKit
set_option linter.unusedVariables false
set_option linter.unusedSimpArgs false
open Plain Sp
set_option maxRecDepth 100000 in
set_option maxHeartbeats 4000000 in
theorem get_any {w : World} {n c : Nat} {A : Option Addr} {l : List PairZ} (K Y : Int) (k v : ByteArray) (e : Int) (h : Spc w A n c l) (hr : getR ⟨K, Y, l⟩ k = (v, e)) :
    Calls Try.prog 17 #[.agg #[.int .i64 K, .int .i64 Y, .slice A n c], .string k] w (fun e' w' => e' = .returned (.tuple #[.string v, .int .i64 e]) ∧ Below w.heap.size w w') := by
  obtain ⟨W1, hW1⟩ : ∃ W, W = w.alloc (.cells #[.int .i64 K, .int .i64 Y, .slice A n c] 28) := ⟨_, rfl⟩
  have b1 := Lib.hid (show Below w.heap.size w W1 by rw [hW1]; exact below_one _ _)
  have X1 := Lib.hid (show SBox W1 w.heap.size K Y A n c by rw [hW1]; exact sbox_new _ _ _ _ _ _ _ _ rfl)
  have H1 := Lib.hid (h.below b1.out)
  have HW1 := Lib.hid hW1
  clear hW1 h
  cases hm : mayB ⟨K, Y, l⟩ with
  | false =>
    have e1 : getR ⟨K, Y, l⟩ k = (⟨#[]⟩, 2) := by simp [getR, hm]
    rw [e1] at hr
    obtain ⟨rfl, rfl⟩ := Prod.mk.inj hr
    have MM := Lib.hid (may_any K Y c false H1.out hm)
    clear hr e1 hm H1
    go_enter Try.func17, Try.ntmps17
    go_upto_region 1 with fail
    rw [← HW1.out]
    obtain ⟨h1, h2, h3⟩ := X1.out
    go_wp2_with (go_at_call 27; refine MM.out.mono ?_; rintro e w5 ⟨rfl, b5⟩; have B5 := Lib.hid (b1.out.trans (b5.mono b1.out.size)); clear b5)
    go_ret2
    exact ⟨rfl, B5.out⟩
  | true =>
  have MM := Lib.hid (may_any K Y c true H1.out hm)
  cases hk : keyB k with
  | false =>
    have e1 : getR ⟨K, Y, l⟩ k = (⟨#[]⟩, 2) := by simp [getR, hk]
    rw [e1] at hr
    obtain ⟨rfl, rfl⟩ := Prod.mk.inj hr
    have KM := Lib.hid (iskey_any k false hk)
    clear hr e1 hm hk H1
    go_enter Try.func17, Try.ntmps17
    go_upto_region 1 with fail
    rw [← HW1.out]
    obtain ⟨h1, h2, h3⟩ := X1.out
    go_wp2_with (first
      | (go_at_call 27; refine MM.out.mono ?_; rintro e w5 ⟨rfl, b5⟩; have B5 := Lib.hid (b1.out.trans (b5.mono b1.out.size)); clear b5)
      | (go_at_call 34; refine (KM.out _).mono ?_; rintro e w5 ⟨rfl, rfl⟩)
      | fail)
    go_ret2
    exact ⟨rfl, B5.out⟩
  | true =>
    have KM := Lib.hid (iskey_any k true hk)
    obtain ⟨_, hri, _, _, _⟩ := may_parts hm
    obtain ⟨g1, g2⟩ := get_cut k hri
    obtain ⟨p1, p2, p3⟩ := beh_le l k
    have hlen := H1.out.prs.len
    obtain ⟨pos, hpos⟩ : ∃ z, posP l k = z := ⟨_, rfl⟩
    obtain ⟨beh, hbeh⟩ : ∃ z, behP l k = z := ⟨_, rfl⟩
    have PM := Lib.hid (fun (V : World) (hV : Below W1.heap.size W1 V) => place_any (w := V) c k pos beh (H1.out.below hV).prs (Nat.le_refl _) H1.out.nk hri hpos hbeh)
    have HC := Lib.hid (fun (V : World) (hV : Below W1.heap.size W1 V) => X1.out.grow hV)
    have HP := Lib.hid (fun (V : World) (hV : Below W1.heap.size W1 V) => (H1.out.below hV).prs)
    rw [hpos, hbeh] at g1 g2
    rw [hpos] at p1 p2
    rw [hbeh] at p1 p2 p3
    by_cases hpb : pos = beh
    · have e1 : getR ⟨K, Y, l⟩ k = (⟨#[]⟩, 110) := by simp [getR, hm, hk, g1 hpb]
      rw [e1] at hr
      obtain ⟨rfl, rfl⟩ := Prod.mk.inj hr
      subst hpb
      clear hr e1 hm hk H1 HP hri g1 g2 hpos hbeh hlen
      go_enter Try.func17, Try.ntmps17
      go_upto_region 1 with fail
      rw [← HW1.out]
      obtain ⟨h1, h2, h3⟩ := X1.out
      go_wp2_with (first
        | (go_at_call 27; refine MM.out.mono ?_; rintro e w5 ⟨rfl, b5⟩; obtain ⟨h4, h5, h6⟩ := HC.out _ b5; have B5 := Lib.hid b5; clear b5)
        | (go_at_call 34; refine (KM.out _).mono ?_; rintro e w5 ⟨rfl, rfl⟩)
        | (go_at_call 36; refine (PM.out _ B5.out).mono ?_; rintro e w6 ⟨rfl, b6⟩; have B6 := Lib.hid (B5.out.trans (b6.mono B5.out.size)); clear b6)
        | fail)
      go_ret2
      exact ⟨rfl, b1.out.trans (B6.out.mono b1.out.size)⟩
    · obtain ⟨p, q1, q2, q3⟩ := g2 hpb
      have e1 : getR ⟨K, Y, l⟩ k = (p.v, 0) := by simp [getR, hm, hk, q3]
      rw [e1] at hr
      obtain ⟨rfl, rfl⟩ := Prod.mk.inj hr
      have hlt : pos < n := by omega
      have Q1 := Lib.hid q1
      have hltI : (pos : Int) < (n : Int) := by omega
      have hpbI : ¬ ((pos : Int) = (beh : Int)) := by omega
      clear hr e1 hm hk H1 hri g1 g2 hpos hbeh hlen q1 q2 q3
      go_enter Try.func17, Try.ntmps17
      go_upto_region 1 with fail
      rw [← HW1.out]
      obtain ⟨h1, h2, h3⟩ := X1.out
      go_wp2_with (first
        | (go_at_call 27; refine MM.out.mono ?_; rintro e w5 ⟨rfl, b5⟩; obtain ⟨h4, h5, h6⟩ := HC.out _ b5; have B5 := Lib.hid b5; clear b5)
        | (go_at_call 34; refine (KM.out _).mono ?_; rintro e w5 ⟨rfl, rfl⟩)
        | (go_at_call 36; refine (PM.out _ B5.out).mono ?_; rintro e w6 ⟨rfl, b6⟩; have b6' := B5.out.trans (b6.mono B5.out.size); have B6 := Lib.hid b6'; obtain ⟨h7, h8, h9⟩ := HC.out _ b6'; obtain ⟨b, off, p', rfl, hb, HK, _, c0, c1⟩ := (HP.out _ b6').at_ hlt; obtain rfl : p = p' := Option.some.inj (Q1.out.symm.trans HK.out); clear b6 b6')
        | fail)
      go_ret2
      exact ⟨rfl, b1.out.trans (B6.out.mono b1.out.size)⟩
end Go.Proofs.Ytmlkcedhjnmfgaa
