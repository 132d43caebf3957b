/- What the laws ask first: is a table great? -/
import Derived.Test.YtlapdocikhjkcaaRpS
import Derived.Test.YtlapdocikhjkcaaRpR
import Derived.Test.YtlapdocikhjkcaaRpP
import Derived.Test.YtlapdocikhjkcaaRpH
namespace Go.Proofs.Ytlapdocikhjkcaa
open Go.ChangeShapes Go.WideShapes Go.ChangeAt Go.RowKit
set_option linter.unusedVariables false
set_option linter.unusedSimpArgs false
open Plain Sha Au Rp
def gB : Nat → List LX → Bool
  | _, [] => false
  | z, x :: l => if 400 < z + x.r.kn then true else gB (z + x.r.kn) l
def greatB (n : Nat) (l : List LX) : Bool := decide (20 < n) || gB n l
theorem gB_no : ∀ {l : List LX} {z : Nat}, gB z l = false → ∀ x, x ∈ l → x.r.kn ≤ 400
  | [], _, _, x, hx => by simp at hx
  | a :: l, z, h, x, hx => by
    simp only [gB] at h
    by_cases h4 : 400 < z + a.r.kn
    · rw [if_pos h4] at h; cases h
    · rw [if_neg h4] at h
      rcases List.mem_cons.1 hx with rfl | hx
      · omega
      · exact gB_no h x hx
theorem great_no {n : Nat} {l : List LX} (h : greatB n l = false) : n ≤ 20 ∧ ∀ x, x ∈ l → x.r.kn ≤ 400 := by
  unfold greatB at h
  rw [Bool.or_eq_false_iff] at h
  exact ⟨by simpa using h.1, gB_no h.2⟩
theorem drop_x {l : List LX} {k : Nat} {x : LX} (h : l[k]? = some x) : l.drop k = x :: l.drop (k + 1) := by
  obtain ⟨hk, rfl⟩ := List.getElem?_eq_some_iff.1 h
  exact List.drop_eq_getElem_cons hk
set_option maxRecDepth 100000 in
set_option maxHeartbeats 2000000 in
theorem great_val {w : World} {B n : Nat} {A : Option Addr} {l : List LX} (c : Nat) (q : Bool) (h : Las w B A n l) (hn : n ≤ 140737488355328) (hk : ∀ x, x ∈ l → x.r.kn ≤ 140737488355328) (hq : greatB n l = q) :
    Calls Try.prog 8 #[.slice A n c] w (fun e w' => e = .returned (.bool q) ∧ w' = w) := by
  have HG := Lib.hid h
  have HK := Lib.hid hk
  have HL := Lib.hid h.len
  clear h hk
  by_cases h20 : 20 < n
  · have hI : 20 < (n : Int) := by omega
    have e : q = true := by rw [← hq]; simp [greatB, h20]
    subst e
    clear hq
    go_enter Try.func8, Try.ntmps8
    go_wp2
    go_ret
    exact ⟨rfl, rfl⟩
  have hI : ¬ 20 < (n : Int) := by omega
  have HQ : Hid (gB n l = q) := Lib.hid (by rw [← hq]; simp [greatB, h20])
  clear hq
  go_enter Try.func8, Try.ntmps8
  go_wp2
  go_loopw [3, 4] (fun s i wr => ∃ k : Nat, k ≤ n ∧ i = .int .i64 k ∧ wr = w ∧ ∃ z : Nat, s = .int .i64 z ∧ z ≤ 400 ∧ Hid (gB z (l.drop k) = q)) (fun _ i _ => n - (intOf i).toNat)
  case atStart => exact ⟨0, by omega, rfl, rfl, n, rfl, by omega, HQ⟩
  case round =>
    obtain ⟨k, hkn, rfl, rfl, z, rfl, hz, HZ⟩ := hrel
    by_cases hlt : k < n
    · obtain ⟨b, off, x, rfl, hb, HX, hx, hr⟩ := HG.out.at_ hlt
      obtain ⟨_, _, hr2⟩ := rng_x hr
      obtain ⟨_, _, c2, _, _⟩ := rng_r hr2
      have c2' : wr.cell? ⟨b, off + k * 77 + 2 + 2, none⟩ = some (.slice x.r.A x.r.kn x.r.kc) := c2
      have hkI : (k : Int) < (n : Int) := by omega
      have hxk := HK.out x (List.mem_of_getElem? HX.out)
      have HD := HZ.out
      rw [drop_x HX.out, gB] at HD
      clear hr hr2 hx
      by_cases h4 : 400 < z + x.r.kn
      · have h4I : 400 < (z : Int) + (x.r.kn : Int) := by omega
        rw [if_pos h4] at HD
        subst HD
        go_wp2
        go_ret
        exact ⟨rfl, rfl⟩
      · have h4I : ¬ 400 < (z : Int) + (x.r.kn : Int) := by omega
        rw [if_neg h4] at HD
        have HD := Lib.hid HD
        clear HX
        go_wp2
        go_roundw
        case rel => exact ⟨k + 1, by omega, by go_num, by trivial, z + x.r.kn, by go_num, by omega, HD⟩
        case measure => simp [intOf]; omega
    · have e : q = false := by
        rw [← HZ.out, List.drop_eq_nil_of_le (by rw [HL.out]; omega)]; rfl
      subst e
      go_wp2
      go_ret
      exact ⟨rfl, rfl⟩
theorem idx_of (a : Int) (m : Nat) (h0 : 0 < m) (hm : m ≤ 100) : ∃ k : Nat, k < m ∧ wrap64 ((IntKind.u64.wrap a).tmod (m : Int)) = (k : Int) := by
  have e : IntKind.u64.wrap a = a % 18446744073709551616 := IntKind.wrap_u64 a
  have h1 : 0 ≤ a % 18446744073709551616 := Int.emod_nonneg _ (by omega)
  refine ⟨((a % 18446744073709551616) % (m : Int)).toNat, ?_, ?_⟩
  · have h2 := Int.emod_lt_of_pos (a % 18446744073709551616) (show (0 : Int) < m by omega)
    have h3 := Int.emod_nonneg (a % 18446744073709551616) (show (m : Int) ≠ 0 by omega)
    omega
  · rw [e, Int.tmod_eq_emod_of_nonneg h1]
    have h2 := Int.emod_lt_of_pos (a % 18446744073709551616) (show (0 : Int) < m by omega)
    have h3 := Int.emod_nonneg (a % 18446744073709551616) (show (m : Int) ≠ 0 by omega)
    unfold wrap64
    omega
theorem last_mem {l : List LX} {t : Int} {x : LX} (h : lastX l t = x) (hid : 1 ≤ x.id) : x ∈ l ∧ findG LX.c l t = some x := by
  unfold lastX at h
  cases ho : findG LX.c l t with
  | none => rw [ho] at h; subst h; unfold x0 at hid; simp at hid
  | some y =>
    rw [ho] at h
    obtain rfl : y = x := h
    exact ⟨(find_c ho).2, rfl⟩
end Go.Proofs.Ytlapdocikhjkcaa
