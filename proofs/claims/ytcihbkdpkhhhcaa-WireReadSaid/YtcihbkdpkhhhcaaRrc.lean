/- A count, a tag, as the document's own reader tells them; a new one. -/
import Derived.Test.YtcihbkdpkhhhcaaRrs
namespace Go.Proofs.Ytcihbkdpkhhhcaa
open Go.ChangeShapes Go.WideShapes Go.ChangeAt Go.RowKit
set_option linter.unusedVariables false
open Plain
section
variable {w : World} {b B : Nat} {why : Int} {rest : List Int}
set_option maxHeartbeats 1000000 in
theorem count_rr (h : Rr w b B (why, rest)) (most : Int) : Calls Try.prog 48 #[.pointer (some ⟨b, 0, none⟩), .int .i64 most] w (RReads w b B (.int .i64 (rCount most (why, rest)).1) (rCount most (why, rest)).2) := by
  have C1 := Lib.hid (int_rr h)
  have hv := rInt_rng why h.isBytes
  obtain ⟨v, y, r', hvy⟩ : ∃ v y r', rInt (why, rest) = (v, y, r') := ⟨_, _, _, rfl⟩
  rw [hvy] at C1 hv
  by_cases hy : y = 0
  · subst hy
    have hok : why = 0 ∧ 8 ≤ rest.length := by
      unfold rInt tk at hvy
      split at hvy
      · next hc => exact ⟨hc.1, hc.2.1⟩
      · injection hvy with _ h2
        injection h2 with h2 _
        split at h2
        · cases h2
        · next hne => exact absurd h2 hne
    obtain ⟨rfl, h8⟩ := hok
    have e1 : rInt (0, rest) = (intZ (rest.take 8), 0, rest.drop 8) := tk_ok 8 _ _ _ _ h8 rfl
    rw [e1] at hvy
    injection hvy with hv1 hv2
    injection hv2 with _ hv3
    have HCy : Hid (0 ≤ v ∧ v ≤ most ∧ v ≤ (r'.length : Nat) → rCount most (0, rest) = (v, 0, r')) := Lib.hid (fun hc => by
      have := tk_ok 8 (fun b r => decide (0 ≤ intZ b ∧ intZ b ≤ most ∧ intZ b ≤ (r.length : Nat))) intZ 0 rest h8 (by show decide (0 ≤ intZ (rest.take 8) ∧ intZ (rest.take 8) ≤ most ∧ intZ (rest.take 8) ≤ ((rest.drop 8).length : Nat)) = true; rw [hv1, hv3]; exact decide_eq_true hc)
      rw [show rCount most (0, rest) = _ from this, hv1, hv3])
    have HCn : Hid (¬ (0 ≤ v ∧ v ≤ most ∧ v ≤ (r'.length : Nat)) → rCount most (0, rest) = (0, 40, [])) := Lib.hid (fun hc => tk_no 8 (fun b r => decide (0 ≤ intZ b ∧ intZ b ≤ most ∧ intZ b ≤ (r.length : Nat))) intZ 0 rest (by show decide (0 ≤ intZ (rest.take 8) ∧ intZ (rest.take 8) ≤ most ∧ intZ (rest.take 8) ≤ ((rest.drop 8).length : Nat)) = false; rw [hv1, hv3]; exact decide_eq_false hc))
    clear h e1 hv1 hv3 h8
    go_enter Try.func48, Try.ntmps48
    go_wp2_with fail
    refine C1.out.mono ?_
    rintro e w1 ⟨rfl, r, g⟩
    have R := Lib.hid r
    have G := Lib.hid g
    have R1 : Hid (∀ m, Rr (w1.drewN m) b B (0, r')) := Lib.hid (fun m => r.keep rfl (fun _ _ => rfl))
    obtain ⟨⟨A, len, cap, bs, a, c0, c1, c2, hz, hlc, hal, hl6, hgood, hbad⟩, f1, f2, hle⟩ := r
    have c2 : w1.cell? ⟨b, 2, none⟩ = some (.int .i64 0) := c2
    obtain ⟨M, hM⟩ : ∃ M, r'.length = M := ⟨_, rfl⟩
    have hq : r' = bs.drop a := hgood rfl
    have hM2 : len - a = M := by rw [← hM, hq, List.length_drop, hz.len]
    have g1 : IntKind.i64.wrap ((len : Int) - (a : Int)) = (M : Int) := by rw [IntKind.wrap_i64]; omega
    rw [hM] at HCy HCn
    have HF2 := Lib.hid f2
    have HC2 := Lib.hid c2
    clear hz hgood hbad hq hM hM2 hlc g C1
    by_cases hb1 : v < 0
    · have e1 : decide (v < 0) = true := decide_eq_true hb1
      have HN := Lib.hid (HCn.out (by omega))
      go_wp2_with fail
      go_quiet (fail)
      have c2' : (w1.drewN nq).cell? ⟨b, 2, none⟩ = some (.int .i64 0) := HC2.out
      have f2' : (w1.drewN nq).frozen? ⟨b, 2, none⟩ = false := HF2.out
      go_wp2
      go_ret
      rw [HN.out]
      exact ⟨rfl, (R1.out nq).spoil 40 (by decide), grown_trans (grown_trans G.out (Go.Proofs.Ytcihbkdpkhhhcaa.grown_drewN _ _ _)) (grown_cell _ _ _)⟩
    have e1 : decide (v < 0) = false := decide_eq_false hb1
    by_cases hb2 : most < v
    · have e2 : decide (most < v) = true := decide_eq_true hb2
      have HN := Lib.hid (HCn.out (by omega))
      go_wp2_with fail
      go_quiet (fail)
      have c2' : (w1.drewN nq).cell? ⟨b, 2, none⟩ = some (.int .i64 0) := HC2.out
      have f2' : (w1.drewN nq).frozen? ⟨b, 2, none⟩ = false := HF2.out
      go_wp2
      go_ret
      rw [HN.out]
      exact ⟨rfl, (R1.out nq).spoil 40 (by decide), grown_trans (grown_trans G.out (Go.Proofs.Ytcihbkdpkhhhcaa.grown_drewN _ _ _)) (grown_cell _ _ _)⟩
    have e2 : decide (most < v) = false := decide_eq_false hb2
    by_cases hb3 : (M : Int) < v
    · have e3 : decide ((M : Int) < v) = true := decide_eq_true hb3
      have HN := Lib.hid (HCn.out (by omega))
      go_wp2_with fail
      go_quiet (fail)
      have c2' : (w1.drewN nq).cell? ⟨b, 2, none⟩ = some (.int .i64 0) := HC2.out
      have f2' : (w1.drewN nq).frozen? ⟨b, 2, none⟩ = false := HF2.out
      go_wp2
      go_ret
      rw [HN.out]
      exact ⟨rfl, (R1.out nq).spoil 40 (by decide), grown_trans (grown_trans G.out (Go.Proofs.Ytcihbkdpkhhhcaa.grown_drewN _ _ _)) (grown_cell _ _ _)⟩
    have e3 : decide ((M : Int) < v) = false := decide_eq_false hb3
    have HY := Lib.hid (HCy.out (by omega))
    go_wp2_with fail
    go_quiet (fail)
    have c2' : (w1.drewN nq).cell? ⟨b, 2, none⟩ = some (.int .i64 0) := HC2.out
    go_wp2
    go_ret
    rw [HY.out]
    exact ⟨rfl, R1.out nq, grown_trans G.out (Go.Proofs.Ytcihbkdpkhhhcaa.grown_drewN _ _ _)⟩
  · have HE : Hid (v = 0 ∧ r' = [] ∧ rCount most (why, rest) = (0, y, [])) := Lib.hid (by
      unfold rInt tk at hvy
      split at hvy
      · injection hvy with _ h2
        injection h2 with h2 _
        exact absurd h2.symm hy
      · next hc =>
        injection hvy with q1 h2
        injection h2 with q2 q3
        refine ⟨q1.symm, q3.symm, ?_⟩
        unfold rCount tk
        rw [if_neg (fun hcc => hc ⟨hcc.1, hcc.2.1, rfl⟩)]
        show (0, (if why = 0 then 40 else why), []) = _
        rw [← q2])
    have ey : (y == 0) = false := by simpa using hy
    have ey2 : (y != 0) = true := by simpa using hy
    obtain ⟨rfl, rfl, _⟩ := HE.out
    clear h hvy
    go_enter Try.func48, Try.ntmps48
    go_wp2_with fail
    refine C1.out.mono ?_
    rintro e w1 ⟨rfl, r, g⟩
    have G := Lib.hid g
    have R1 : Hid (∀ m, Rr (w1.drewN m) b B (y, [])) := Lib.hid (fun m => r.keep rfl (fun _ _ => rfl))
    obtain ⟨⟨A, len, cap, bs, a, c0, c1, c2, hz, hlc, hal, hl6, hgood, hbad⟩, f1, f2, hle⟩ := r
    have c2 : w1.cell? ⟨b, 2, none⟩ = some (.int .i64 y) := c2
    have HC2 := Lib.hid c2
    clear hz hgood hbad g C1
    go_wp2_with fail
    go_quiet (fail)
    have c2' : (w1.drewN nq).cell? ⟨b, 2, none⟩ = some (.int .i64 y) := HC2.out
    go_wp2
    go_ret
    rw [HE.out.2.2]
    exact ⟨rfl, R1.out nq, grown_trans G.out (Go.Proofs.Ytcihbkdpkhhhcaa.grown_drewN _ _ _)⟩
end
theorem new_rr {w : World} {B : Nat} {A : Option Addr} {n : Nat} (c : Nat) {bs : List Int} (hz : Bs w B A n bs) (hB : B ≤ w.heap.size) (hn : n ≤ c) (hs : n ≤ 65536) :
    Calls Try.prog 15 #[.slice A n c] w fun e w' => e = .returned (.pointer (some ⟨w.heap.size, 0, none⟩)) ∧ Rr w' w.heap.size B (0, bs) ∧ Below w.heap.size w w' ∧ w.heap.size < w'.heap.size := by
  have g1 : ¬ 65536 < (n : Int) := by omega
  have hh := heap_alloc_new w (.cells #[.slice A n c, .int .i64 0, .int .i64 0] 46)
  have HR : Hid (Rr (w.alloc (.cells #[.slice A n c, .int .i64 0, .int .i64 0] 46)) w.heap.size B (0, bs)) := Lib.hid
    ⟨⟨A, n, c, bs, 0, by rw [cell_of_row _ _ _ _ _ _ hh]; rfl, by rw [cell_of_row _ _ _ _ _ _ hh]; rfl, by rw [cell_of_row _ _ _ _ _ _ hh]; rfl, hz.alloc hB _, hn, Nat.zero_le _, hs, fun _ => rfl, fun e => absurd rfl e⟩, frozen_of_row _ _ _ _ _ hh, frozen_of_row _ _ _ _ _ hh, hB⟩
  clear hh hz
  go_enter Try.func15, Try.ntmps15
  go_wp2
  go_ret
  exact ⟨rfl, HR.out, (Below.refl _ _).alloc (Nat.le_refl _) _, by simp⟩
end Go.Proofs.Ytcihbkdpkhhhcaa
