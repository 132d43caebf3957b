/- The law RevokedAny. -/
import Derived.Test.YtmeafjehcckibaaRvG
namespace Go.Proofs.Ytmeafjehcckibaa
open Go.ChangeShapes Go.WideShapes Go.ChangeAt Go.RowKit
set_option linter.unusedVariables false
set_option linter.unusedSimpArgs false
open Plain
theorem IsRow.rw {w : World} {A : Option Addr} {zs : List Int} {n c : Nat} (h : IsRow .i64 w A n c zs) : Rw w A n c (zs.take n) := by
  refine ⟨h.ir.1, ?_, ?_⟩
  · rcases h with ⟨rfl, rfl, rfl, rfl⟩ | ⟨x, rfl, hl, hm, _⟩
    · exact Nat.le_refl _
    · exact hl
  · rcases h with ⟨rfl, rfl, rfl, rfl⟩ | ⟨x, rfl, hl, hm, _⟩
    · simp [maxLen]
    · exact hm
set_option maxRecDepth 100000 in
set_option maxHeartbeats 4000000 in
theorem rvany_any (A1 : Option Addr) (n c1 : Nat) (zs : List Int) (x : Int) (A2 : Option Addr) (m c2 : Nat) (l : List GrantZ) (w : World) (h1 : IsRow .i64 w A1 n c1 zs) (hx : -9223372036854775808 ≤ x ∧ x ≤ 9223372036854775807) (h2 : Grants w w.heap.size A2 m l) (hm : m ≤ maxLen) :
    Calls Try.prog 4 #[.slice A1 n c1, .int .i64 x, .slice A2 m c2] w (fun e w' => e = .returned (.bool true) ∧ Below w.heap.size w w') := by
  have R := Lib.hid h1.rw
  generalize zs.take n = za at R
  have G := Lib.hid h2
  have HMM := Lib.hid hm
  obtain ⟨q1, hq1⟩ : ∃ q, hasL za x = q := ⟨_, rfl⟩
  obtain ⟨q2, hq2⟩ : ∃ q, anyL za l = q := ⟨_, rfl⟩
  have C1 := Lib.hid (has_any10 c1 x q1 R.out.ir (Nat.le_trans R.out.nc R.out.cm) hq1)
  have C2 := Lib.hid (refhas_any c1 x q1 R.out.ir (Nat.le_trans R.out.nc R.out.cm) hq1)
  have C3 := Lib.hid (any_any c1 c2 q2 R.out.ir (Nat.le_refl _) (Nat.le_trans R.out.nc R.out.cm) h2 (Nat.le_refl _) hm hq2)
  have C4 := Lib.hid (fun (w1 : World) (hb : Below w.heap.size w w1) => refany_any c1 c2 q2 (R.out.ir.below hb (Nat.le_refl _)) (Nat.le_trans R.out.nc R.out.cm) (h2.below hb) hm hq2)
  have e1 : (q1 == q1) = true := by simp
  have e2 : (q2 == q2) = true := by simp
  clear h1 h2 hm hq1 hq2 hx
  by_cases h60 : 60 < n
  · have hI : 60 < (n : Int) := by omega
    go_enter Try.func4, Try.ntmps4
    go_wp2
    go_ret
    exact ⟨rfl, Below.refl _ _⟩
  have hI : ¬ (60 < (n : Int)) := by omega
  by_cases m60 : 60 < m
  · have mI : 60 < (m : Int) := by omega
    go_enter Try.func4, Try.ntmps4
    go_wp2
    go_ret
    exact ⟨rfl, Below.refl _ _⟩
  have mI : ¬ (60 < (m : Int)) := by omega
  go_enter Try.func4, Try.ntmps4
  go_wp2_with (first
    | (go_at_call 15; refine C1.out.mono ?_; rintro e w1 ⟨rfl, rfl⟩)
    | (go_at_call 16; refine C2.out.mono ?_; rintro e w1 ⟨rfl, rfl⟩)
    | (go_at_call 17; refine C3.out.mono ?_; rintro e w3 ⟨rfl, hb3⟩; have B3 := Lib.hid hb3; clear hb3)
    | (go_at_call 18; refine (C4.out w3 B3.out).mono ?_; rintro e w4 ⟨rfl, rfl⟩)
    | (go_at_call 14; refine (rawake_any _).mono ?_; rintro e w5 ⟨rfl, hb5⟩; have B5 := Lib.hid (B3.out.trans (hb5.mono B3.out.size)); clear hb5))
  go_ret
  exact ⟨rfl, B5.out⟩
end Go.Proofs.Ytmeafjehcckibaa
