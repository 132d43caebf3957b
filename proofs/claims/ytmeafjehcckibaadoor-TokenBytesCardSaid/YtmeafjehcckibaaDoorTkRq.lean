/- A number of the wire, as the document reads it. -/
import Derived.Test.YtmeafjehcckibaaDoorTkN2
import Derived.Test.YtmeafjehcckibaaDoorTkRd
namespace Go.Proofs.YtmeafjehcckibaaDoor
open Go.ChangeShapes Go.WideShapes Go.ChangeAt Go.RowKit
set_option linter.unusedVariables false
set_option linter.unusedSimpArgs false
open Plain
/-- What the document's own reading makes of the bytes from a on, f of them at most; -1 for what no token has. -/
def atF (zs : List Int) : Nat → Nat → Int → Int
  | 0, _, n => n
  | f + 1, a, n => if a < zs.length then (if 2199023255552 < n then -1 else atF zs f (a + 1) (256 * n + zs.getD a 0)) else n
def atZ (zs : List Int) (a : Nat) : Int := atF zs 8 a 0
set_option maxRecDepth 100000 in
set_option maxHeartbeats 2000000 in
theorem refat_any {w : World} {B n : Nat} {A : Option Addr} (c : Nat) {zs : List Int} (h : Bs w B A n zs) (a : Nat) (ha : a ≤ 1000000) (hn : n ≤ 1000000) :
    Calls Tryd.prog 21 #[.slice A n c, .int .i64 a] w (Quiet (.int .i64 (atZ zs a)) w) := by
  obtain ⟨R, hR⟩ : ∃ R, atZ zs a = R := ⟨_, rfl⟩
  have HR : Hid (atF zs 8 a 0 = R) := Lib.hid hR
  have HZ := Lib.hid h
  have HL : Hid (zs.length = n) := Lib.hid h.len
  rw [hR]
  clear hR h
  go_enter Tryd.func21, Tryd.ntmps21
  go_upto_region 3 with fail
  go_loopw [5, 6] (fun v i wr => ∃ j : Nat, j ≤ 8 ∧ i = .int .i64 ((a : Int) + j) ∧ ∃ x : Int, v = .int .i64 x ∧ 0 ≤ x ∧ x ≤ 1125899906842624 ∧ Hid (atF zs (8 - j) (a + j) x = R) ∧ wr = w) (fun _ i _ => (a + 8 - intOf i).toNat)
  case atStart => exact ⟨0, by omega, by simp, 0, rfl, by omega, by omega, HR, rfl⟩
  case round =>
    obtain ⟨j, hj, rfl, x, rfl, hx0, hx1, HX, rfl⟩ := hrel
    by_cases hj8 : j < 8
    · have hI : (a : Int) + j < (a : Int) + 8 := by omega
      obtain ⟨f, hf⟩ : ∃ f, 8 - j = f + 1 := ⟨7 - j, by omega⟩
      have hf2 : 8 - (j + 1) = f := by omega
      by_cases hlt : a + j < n
      · have hJ : (a : Int) + j < (n : Int) := by omega
        by_cases hbig : 2199023255552 < x
        · have HE : Hid (R = -1) := Lib.hid (by
            rw [← HX.out, hf]
            unfold atF
            rw [if_pos (by rw [HL.out]; exact hlt), if_pos hbig])
          clear hf hf2
          go_wp2
          go_ret
          rw [HE.out]
          exact ⟨rfl, 0, rfl⟩
        · obtain ⟨b, off, u, rfl, hb, HU, hu0, hu1, hc⟩ := HZ.out.at_ hlt
          have HN : Hid (atF zs (8 - (j + 1)) (a + (j + 1)) (256 * x + u) = R) := Lib.hid (by
            rw [← HX.out, hf, hf2]
            conv => rhs; unfold atF
            rw [if_pos (by rw [HL.out]; exact hlt), if_neg hbig, HU.out, show a + (j + 1) = a + j + 1 by omega])
          obtain ⟨k, hk⟩ : ∃ k : Nat, a + j = k := ⟨_, rfl⟩
          have hkI : (a : Int) + j = (k : Int) := by omega
          have HK := Lib.hid hkI
          rw [hk] at hc
          rw [hkI] at hI hJ ⊢
          have hx2 : x ≤ 2199023255552 := by omega
          clear hk hkI hf hf2 hbig
          go_wp2
          go_roundw
          case rel => exact ⟨j + 1, by omega, by have := HK.out; go_num, 256 * x + u, by go_num, by omega, by omega, HN, by trivial⟩
          case measure => have := HK.out; simp [intOf]; omega
      · have HE : Hid (x = R) := Lib.hid (by
          rw [← HX.out, hf]
          unfold atF
          rw [if_neg (by rw [HL.out]; exact hlt)])
        have hJ : ¬ (a : Int) + j < (n : Int) := by omega
        clear hf hf2
        go_wp2
        go_ret
        rw [HE.out]
        exact ⟨rfl, 0, rfl⟩
    · have hj9 : j = 8 := by omega
      subst hj9
      have HE : Hid (x = R) := Lib.hid HX.out
      have hI : ¬ (a : Int) + (8 : Nat) < (a : Int) + 8 := by omega
      go_wp2
      go_ret
      rw [HE.out]
      exact ⟨rfl, 0, rfl⟩
end Go.Proofs.YtmeafjehcckibaaDoor
