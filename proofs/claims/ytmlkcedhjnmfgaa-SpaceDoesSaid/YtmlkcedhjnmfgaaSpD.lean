/- Where a key's pair stands. -/
import Derived.Test.YtmlkcedhjnmfgaaSpC
namespace Go.Proofs.Ytmlkcedhjnmfgaa
open Go.ChangeShapes Go.WideShapes Go.ChangeAt Go.RowKit
set_option linter.unusedVariables false
set_option linter.unusedSimpArgs false
open Plain Sp
theorem sq_more {w w' : World} {m : Nat} {v : Value} (h : Hid (∃ m, w' = w.drewN m)) : Quiet v w (.returned v) (w'.drewN m) := by
  obtain ⟨k, hk⟩ := h.out
  exact ⟨rfl, k + m, by rw [hk, World.drewN_drewN]⟩
theorem sq_more0 {w w' : World} {v : Value} (h : Hid (∃ m, w' = w.drewN m)) : Quiet v w (.returned v) w' := ⟨rfl, h.out⟩
theorem sq_on {w w' w'' : World} (h : Hid (∃ m, w' = w.drewN m)) (h2 : ∃ k, w'' = w'.drewN k) : Hid (∃ m, w'' = w.drewN m) := by
  obtain ⟨m, hm⟩ := h.out
  obtain ⟨k, hk⟩ := h2
  exact Lib.hid ⟨m + k, by rw [hk, hm, World.drewN_drewN]⟩
set_option maxRecDepth 100000 in
/-- The closure, called. -/
theorem clos_place {w : World} {B n b1 b2 : Nat} {A : Option Addr} {l : List PairZ} (c k : Nat) (key : ByteArray) (q : Bool) (h : Prs w B A n l) (hk : k < n) (hn : n ≤ 1000) (c1 : w.cell? ⟨b1, 0, none⟩ = some (.slice A n c)) (c2 : w.cell? ⟨b2, 0, none⟩ = some (.string key))
    (hq : ∀ p, l[k]? = some p → ltB p.k key = !q) :
    Calls Try.prog 51 #[.int .i64 k, .pointer (some ⟨b1, 0, none⟩), .pointer (some ⟨b2, 0, none⟩)] w (Quiet (.bool q) w) := by
  obtain ⟨b, off, p, rfl, hb, HK, hpo, p0, p1⟩ := h.at_ hk
  have HG := Lib.hid (show (!Op.bytesLess p.k.toList key.toList) = q by have := hq p HK.out; unfold ltB at this; rw [this]; simp)
  have hkI : (k : Int) < (n : Int) := by omega
  clear hpo h hq
  go_enter Try.func51, Try.ntmps51
  go_wp2
  go_quiet (fail)
  go_wp2
  go_ret
  exact ⟨congrArg (fun z => Ending.returned (.bool z)) HG.out, _, rfl⟩
set_option maxRecDepth 100000 in
set_option maxHeartbeats 4000000 in
theorem search_any {w : World} {B n b1 b2 : Nat} {A : Option Addr} {l : List PairZ} (c : Nat) (key : ByteArray) (pos : Nat) (h : Prs w B A n l) (hn : n ≤ 1000) (hr : riseP ⟨#[]⟩ l = true) (c1 : w.cell? ⟨b1, 0, none⟩ = some (.slice A n c)) (c2 : w.cell? ⟨b2, 0, none⟩ = some (.string key)) (hp : posP l key = pos) :
    Calls Try.prog 50 #[.int .i64 n, .func (.func 51) #[] #[.pointer (some ⟨b1, 0, none⟩), .pointer (some ⟨b2, 0, none⟩)]] w (Quiet (.int .i64 pos) w) := by
  have hpn : pos ≤ n := by rw [← hp, ← h.len]; exact pos_le _ _
  have HC := Lib.hid (fun (m k : Nat) (hk : k < n) (q : Bool) (hq : decide (pos ≤ k) = q) => clos_place (w := w.drewN m) c k key q (h.drewN m) hk hn c1 c2 (fun p e => by
    rw [low_at key hr e, hp, ← hq]
    by_cases h : k < pos
    · rw [decide_eq_true h, decide_eq_false (by omega)]; rfl
    · rw [decide_eq_false h, decide_eq_true (by omega)]; rfl))
  clear h hr c1 c2 hp
  go_enter Try.func50, Try.ntmps50
  go_wp2
  go_loopw [5, 6] (fun i j wr => ∃ x y : Nat, i = .int .i64 x ∧ j = .int .i64 y ∧ x ≤ pos ∧ pos ≤ y ∧ y ≤ n ∧ Hid (∃ m, wr = w.drewN m)) (fun i j _ => (intOf j).toNat - (intOf i).toNat)
  case atStart => exact ⟨0, n, rfl, rfl, by omega, hpn, by omega, Lib.hid ⟨0, rfl⟩⟩
  case round =>
    obtain ⟨x, y, rfl, rfl, hx, hy, hyn, HW⟩ := hrel
    by_cases hxy : x < y
    · have hI : (x : Int) < (y : Int) := by omega
      have e1 : IntKind.i64.wrap ((x : Int) + (y : Int)) = ((x + y : Nat) : Int) := by rw [IntKind.wrap_i64]; omega
      have e2 : IntKind.u64.wrap ((x + y : Nat) : Int) = ((x + y : Nat) : Int) := by rw [IntKind.wrap_u64]; omega
      go_upto_region 4 with fail
      obtain ⟨h, hh⟩ : ∃ h : Nat, (x + y) / 2 = h := ⟨_, rfl⟩
      have e3 : ((x : Int) + (y : Int)) / 2 = (h : Int) := by omega
      have h1 : x ≤ h := by omega
      have h2 : h < y := by omega
      rw [e3]
      clear e1 e2 e3 hh hI
      obtain ⟨m, rfl⟩ := HW.out
      cases hq : decide (pos ≤ h) with
      | true =>
        have HCL := Lib.hid (HC.out m h (by omega) true hq)
        have hq : pos ≤ h := by simpa using hq
        go_wp2_with (refine HCL.out.mono ?_; rintro e w5 ⟨rfl, h5⟩; have H5 := sq_on HW h5; clear h5)
        go_roundw
        case rel => exact ⟨x, h, rfl, rfl, hx, hq, by omega, H5⟩
        case measure => simp [intOf]; omega
      | false =>
        have HCL := Lib.hid (HC.out m h (by omega) false hq)
        have hq : h < pos := by simpa using hq
        go_wp2_with (refine HCL.out.mono ?_; rintro e w5 ⟨rfl, h5⟩; have H5 := sq_on HW h5; clear h5)
        go_roundw
        case rel => exact ⟨h + 1, y, by go_num, rfl, by omega, hy, hyn, H5⟩
        case measure => simp [intOf]; omega
    · have e : x = pos := by omega
      subst e
      have hI : ¬ ((x : Int) < (y : Int)) := by omega
      go_wp2
      go_ret
      exact sq_more0 HW
/-- Where it stands in a list that rises. -/
theorem beh_cases {l : List PairZ} {k : ByteArray} {pos beh n : Nat} (hn : l.length = n) (hp : posP l k = pos) (hb : behP l k = beh) :
    (pos < n ∧ ∃ p, l[pos]? = some p ∧ (p.k = k ∧ beh = pos + 1 ∨ p.k ≠ k ∧ beh = pos)) ∨ (pos = n ∧ beh = pos) := by
  have h0 := pos_le l k
  unfold behP at hb
  rw [hp] at hb h0
  rcases Nat.lt_or_ge pos n with h | h
  · have e : l[pos]? = some l[pos] := List.getElem?_eq_getElem (by omega)
    rw [e] at hb
    refine .inl ⟨h, _, e, ?_⟩
    simp only [Option.any_some, decide_eq_true_eq] at hb
    split at hb
    · next h => exact .inl ⟨h, hb.symm⟩
    · next h => exact .inr ⟨h, hb.symm⟩
  · have e : l[pos]? = none := List.getElem?_eq_none (by omega)
    rw [e] at hb
    exact .inr ⟨by omega, by simpa using hb.symm⟩
set_option maxRecDepth 100000 in
set_option maxHeartbeats 4000000 in
theorem place_any {w : World} {B n : Nat} {A : Option Addr} {l : List PairZ} (c : Nat) (key : ByteArray) (pos beh : Nat) (h : Prs w B A n l) (hB : B ≤ w.heap.size) (hn : n ≤ 1000) (hr : riseP ⟨#[]⟩ l = true) (hp : posP l key = pos) (hb : behP l key = beh) :
    Calls Try.prog 36 #[.slice A n c, .string key] w (fun e w' => e = .returned (.tuple #[.int .i64 pos, .int .i64 beh]) ∧ Below w.heap.size w w') := by
  obtain ⟨W1, hW1⟩ : ∃ W, W = (w.alloc (.cells #[.slice A n c] 26)).alloc (.cells #[.string key] 9) := ⟨_, rfl⟩
  have b1 := Lib.hid (show Below w.heap.size w W1 by rw [hW1]; exact (below_one _ _).alloc (by simp) _)
  have k1 : W1.cell? ⟨w.heap.size, 0, none⟩ = some (.slice A n c) := by
    rw [hW1, World.cell?_alloc_lt _ _ _ (by simp), cell_of_row _ _ _ _ _ _ (heap_alloc_new w _)]; rfl
  have k2 : W1.cell? ⟨w.heap.size + 1, 0, none⟩ = some (.string key) := by
    rw [hW1, show w.heap.size + 1 = (w.alloc (.cells #[.slice A n c] 26)).heap.size by simp, cell_of_row _ _ _ _ _ _ (heap_alloc_new _ _)]; rfl
  have HS := Lib.hid (search_any c key pos (h.below b1.out hB) hn hr k1 k2 hp)
  have HP := Lib.hid (h.below b1.out hB)
  have HQ := beh_cases h.len hp hb
  have HW1 := Lib.hid hW1
  clear hW1 h hr hp hb
  rcases HQ with ⟨h1, p, hp, hQ⟩ | ⟨h1, h2⟩
  · obtain ⟨b, off, p', rfl, hb, HK, hpo, p0, p1⟩ := HP.out.at_ h1
    obtain rfl : p = p' := by have := HK.out; rw [hp] at this; exact Option.some.inj this
    have hI : decide ((pos : Int) < (n : Int)) = true := by simp; omega
    have hI2 : (pos : Int) < (n : Int) := by omega
    have SQ := seq_of p.k key
    clear hpo HP
    rcases hQ with ⟨h2, h3⟩ | ⟨h2, h3⟩
    · subst h3
      rw [decide_eq_true h2] at SQ
      have e1 : IntKind.i64.wrap ((pos : Int) + 1) = ((pos + 1 : Nat) : Int) := by rw [IntKind.wrap_i64]; omega
      clear h2
      go_enter Try.func36, Try.ntmps36
      go_upto_region 1 with fail
      rw [← HW1.out]
      go_upto_region 2 with (go_at_call 50; refine HS.out.mono ?_; rintro e w5 ⟨rfl, m, rfl⟩; have k3 : (W1.drewN m).cell? ⟨w.heap.size, 0, none⟩ = some (.slice (some ⟨b, off, none⟩) n c) := k1; have k4 : (W1.drewN m).cell? ⟨w.heap.size + 1, 0, none⟩ = some (.string key) := k2; have k5 : (W1.drewN m).cell? ⟨b, off + pos * 2, none⟩ = some (.string p.k) := p0; have b2 := Lib.hid (below_drewN b1.out m); clear k1 k2 p0 p1; generalize W1.drewN m = W2 at *)
      go_quiet (fail)
      go_wp2
      go_ret2
      exact ⟨by simp, below_drewN b2.out _⟩
    · subst h3
      rw [decide_eq_false h2] at SQ
      clear h2
      go_enter Try.func36, Try.ntmps36
      go_upto_region 1 with fail
      rw [← HW1.out]
      go_upto_region 2 with (go_at_call 50; refine HS.out.mono ?_; rintro e w5 ⟨rfl, m, rfl⟩; have k3 : (W1.drewN m).cell? ⟨w.heap.size, 0, none⟩ = some (.slice (some ⟨b, off, none⟩) n c) := k1; have k4 : (W1.drewN m).cell? ⟨w.heap.size + 1, 0, none⟩ = some (.string key) := k2; have k5 : (W1.drewN m).cell? ⟨b, off + beh * 2, none⟩ = some (.string p.k) := p0; have b2 := Lib.hid (below_drewN b1.out m); clear k1 k2 p0 p1; generalize W1.drewN m = W2 at *)
      go_quiet (fail)
      go_wp2
      go_ret2
      exact ⟨by simp, below_drewN b2.out _⟩
  · subst h1 h2
    have hI : decide ((beh : Int) < (beh : Int)) = false := by simp
    go_enter Try.func36, Try.ntmps36
    go_upto_region 1 with fail
    rw [← HW1.out]
    go_upto_region 2 with (go_at_call 50; refine HS.out.mono ?_; rintro e w5 ⟨rfl, m, rfl⟩; have k3 : (W1.drewN m).cell? ⟨w.heap.size, 0, none⟩ = some (.slice A beh c) := k1; have k4 : (W1.drewN m).cell? ⟨w.heap.size + 1, 0, none⟩ = some (.string key) := k2; have b2 := Lib.hid (below_drewN b1.out m); clear k1 k2; generalize W1.drewN m = W2 at *)
    go_quiet (fail)
    go_wp2
    go_ret2
    exact ⟨rfl, below_drewN b2.out _⟩
end Go.Proofs.Ytmlkcedhjnmfgaa
