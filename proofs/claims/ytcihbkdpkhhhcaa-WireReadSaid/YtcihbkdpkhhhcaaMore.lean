/- Small facts on writers and on lists that were made. -/
import Derived.Test.YtcihbkdpkhhhcaaWrites
import Derived.Lib.Strings
namespace Go.Proofs.Ytcihbkdpkhhhcaa
open Go.ChangeShapes Go.WideShapes Go.ChangeAt Go.RowKit
set_option linter.unusedVariables false
open Plain
/-- A list that was made, as bytes. -/
theorem IsList.bs {x : Value} {w : World} {base : Nat} {zs : List Int} (h : IsList x w base zs) (hz : IsBytes zs) : ∃ A c, x = .slice A zs.length c ∧ Bs w w.heap.size A zs.length zs ∧ zs.length ≤ c ∧ c ≤ maxLen := by
  obtain ⟨A, c, rfl, ho, h1, h2⟩ := h
  exact ⟨A, c, rfl, bs_of_own ho hz, h1, h2⟩
theorem Wrote.below {w w' : World} {b B : Nat} {g : Option Nat} (h : Wrote w w' b g) (hB : B ≤ w.heap.size) (hb : B ≤ b) (hg : ∀ k, g = some k → B ≤ k) : Below B w w' :=
  ⟨h.os, h.tape, h.output, h.size, fun k hk => h.block k (by omega) (by omega) (fun e => by have := hg k e.symm; omega)⟩
theorem Puts.under {w w' : World} {b B : Nat} {g : Option Nat} {st st' : Option (List Int)} {e : Ending} (h : Wr w b g st) (k : Puts w b g st' e w') (hB : B ≤ b) : e = .returned (.pointer (some ⟨b, 0, none⟩)) ∧ ∃ g', Wr w' b g' st' ∧ Below B w w' := by
  obtain ⟨k1, g', k2, k3, k4⟩ := k
  exact ⟨k1, g', k2, k3.below (by have := h.lt; omega) hB (fun i hi => by have := (h.own i hi).1; omega)⟩
theorem bytes_ok (zs : List Int) (h : (zs.all fun z => decide (0 ≤ z ∧ z < 256)) = true) : IsBytes zs := by
  rw [isBytes_iff]
  intro z hz
  have := List.all_eq_true.1 h z hz
  simpa using this
theorem strZ_of {zs : List Int} (h : IsBytes zs) : strZ (strOfNums zs) = zs := by
  unfold strZ
  rw [strOfNums_data, List.map_map]
  refine (List.map_congr_left (g := id) fun z hz => ?_).trans (List.map_id zs)
  have := (isBytes_iff.1 h) z hz
  show (((UInt8.ofNat z.toNat).toNat : Nat) : Int) = z
  rw [UInt8.toNat_ofNat']
  omega
theorem strOf_eq {a c : List Int} (ha : IsBytes a) (hc : IsBytes c) : ((strOfNums a).toList == (strOfNums c).toList) = eqB a c := by
  rw [Bool.eq_iff_iff]
  simp only [beq_iff_eq, eqB, decide_eq_true_eq]
  refine ⟨fun h => ?_, fun h => by rw [h]⟩
  rw [← strZ_of ha, ← strZ_of hc]
  unfold strZ
  rw [Go.Lib.toList_data, Go.Lib.toList_data] at h
  rw [h]
theorem IsBytes.take {a : List Int} (h : IsBytes a) {k : Nat} : IsBytes (a.take k) := by
  rw [isBytes_iff] at *
  exact fun z hz => h z (List.mem_of_mem_take hz)
theorem IsBytes.drop {a : List Int} (h : IsBytes a) {k : Nat} : IsBytes (a.drop k) := by
  rw [isBytes_iff] at *
  exact fun z hz => h z (List.mem_of_mem_drop hz)
end Go.Proofs.Ytcihbkdpkhhhcaa
