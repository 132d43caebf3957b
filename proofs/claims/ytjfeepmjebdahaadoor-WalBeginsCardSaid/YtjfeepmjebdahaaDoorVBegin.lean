/- The states of a disk that WalBegins goes through. -/
import Derived.Test.YtjfeepmjebdahaaDoorVTwo
namespace Go.Proofs.YtjfeepmjebdahaaDoor
open Go.ChangeShapes Go.WideShapes Go.ChangeAt Go.RowKit
set_option linter.unusedVariables false
open Plain Sha
def sN : DiskZ := ⟨true, [], []⟩
/-- Behind a sync of the first S records. -/
def sY (Zs : Nat → List Int) (S : Nat) : DiskZ := ⟨true, FZ Zs S, []⟩
def shZ (Zs : Nat → List Int) (S : Nat) : Nat → List Int := fun j => Zs (S + j)
/-- Behind k records, S of which are synced as soon as that many were added. -/
def stB (Zs : Nat → List Int) (S k : Nat) : DiskZ := if k ≤ S then sAdd sN Zs k else sAdd (sY Zs S) (shZ Zs S) (k - S)
theorem hold_sN : Holds sN [] [] := ⟨rfl, first_nil, fun z hz => by cases hz⟩
theorem hold_sY {Zs : Nat → List Int} {S : Nat} (h : ∀ j, j < S → (Zs j).length ≤ 65536) : Holds (sY Zs S) (L0 Zs S) [] := by
  have := (sAdd_holds hold_sN Zs S h)
  rw [List.nil_append] at this
  refine ⟨?_, first_nil, this.short⟩
  unfold sY L0
  rw [allZ_flat, List.append_nil, joinZ_range]
theorem L0_split (Zs : Nat → List Int) {S m : Nat} (h : S ≤ m) : L0 Zs S ++ L0 (shZ Zs S) (m - S) = L0 Zs m := by
  unfold L0 shZ
  conv => rhs; rw [show m = S + (m - S) by omega, List.range_add, List.map_append, List.map_map]
  rfl
theorem sync_all (Zs : Nat → List Int) (S : Nat) : dSync (sAdd sN Zs S) = (0, sY Zs S) := by
  unfold dSync sAdd sN sY
  rw [if_pos rfl]
  simp only [List.nil_append, flat_range]
theorem stB_low {Zs : Nat → List Int} {S k : Nat} (h : k ≤ S) : stB Zs S k = sAdd sN Zs k := by unfold stB; rw [if_pos h]
theorem stB_zero (Zs : Nat → List Int) (S : Nat) : stB Zs S 0 = sN := by rw [stB_low (Nat.zero_le _), sAdd_zero]
theorem stB_high {Zs : Nat → List Int} {S k : Nat} (h : S < k) : stB Zs S k = sAdd (sY Zs S) (shZ Zs S) (k - S) := by unfold stB; rw [if_neg (by omega)]
theorem stB_add {Zs : Nat → List Int} {S k : Nat} (h : k ≠ S) : dWrite (stB Zs S k) (frameZ (Zs k)) = (0, stB Zs S (k + 1)) := by
  by_cases hk : k < S
  · rw [stB_low (by omega), stB_low (by omega)]
    exact sAdd_succ Zs k rfl
  · rw [stB_high (by omega), stB_high (by omega), show k + 1 - S = k - S + 1 by omega]
    have := sAdd_succ (s := sY Zs S) (shZ Zs S) (k - S) rfl
    rwa [show shZ Zs S (k - S) = Zs k by unfold shZ; congr 1; omega] at this
theorem stB_turn (Zs : Nat → List Int) (S : Nat) : dWrite (sY Zs S) (frameZ (Zs S)) = (0, stB Zs S (S + 1)) := by
  rw [stB_high (by omega), show S + 1 - S = 0 + 1 by omega]
  have := sAdd_succ (s := sY Zs S) (shZ Zs S) 0 rfl
  rwa [sAdd_zero, show shZ Zs S 0 = Zs S from rfl] at this
theorem stB_end {Zs : Nat → List Int} {S m : Nat} (h : S < m) : stB Zs S m = sAdd (sY Zs S) (shZ Zs S) (m - S) := stB_high h
theorem FZ_split (Zs : Nat → List Int) {S m : Nat} (h : S ≤ m) : FZ Zs S ++ FZ (shZ Zs S) (m - S) = FZ Zs m := by
  rw [← joinZ_range, ← joinZ_range, ← joinZ_range, ← joinZ_app]
  exact congrArg joinZ (L0_split Zs h)
theorem stB_len {Ns : Nat → Nat} {Zs : Nat → List Int} {S k : Nat} (hl : ∀ j, j < k → (Zs j).length = Ns j) : (allZ (stB Zs S k)).length = EN Ns k := by
  by_cases hk : k ≤ S
  · rw [stB_low hk, sAdd_len hl]; simp [allZ, sN]
  · rw [stB_high (by omega), sAdd_all]
    show (allZ (sY Zs S) ++ FZ (shZ Zs S) (k - S)).length = _
    unfold sY
    rw [allZ_flat, FZ_split Zs (by omega), FZ_len k hl]
theorem stB_small {Ns : Nat → Nat} {Zs : Nat → List Int} {S k : Nat} (hl : ∀ j, j < k → (Zs j).length = Ns j) (h1 : EN Ns k ≤ 1000000) (h2 : k ≤ 1000000) : Small (stB Zs S k) := by
  refine ⟨by rw [stB_len hl]; exact h1, ?_⟩
  by_cases hk : k ≤ S
  · rw [stB_low hk]; unfold sAdd sN; simpa using h2
  · rw [stB_high (by omega)]; unfold sAdd sY; simp; omega
theorem sY_small {Ns : Nat → Nat} {Zs : Nat → List Int} {S : Nat} (hl : ∀ j, j < S → (Zs j).length = Ns j) (h1 : EN Ns S ≤ 1000000) : Small (sY Zs S) := by
  unfold sY
  exact ⟨by rw [allZ_flat, FZ_len S hl]; exact h1, by simp⟩
/-- What a crash leaves: of the records that weren't synced as many as are kept, and a torn rest. -/
theorem crash_holds {Zs : Nat → List Int} {S m : Nat} (hS : S ≤ m) (h : ∀ j, j < m → (Zs j).length ≤ 65536) (Kp : Nat) (Tn : Int) :
    ∃ q C, dCrash (sAdd (sY Zs S) (shZ Zs S) (m - S)) (Kp : Int) Tn = (if Tn < 0 then (2, sAdd (sY Zs S) (shZ Zs S) (m - S)) else (0, C)) ∧ C.up = false ∧ C.ws = [] ∧ Holds ⟨true, C.zs, C.ws⟩ (L0 Zs (min m (S + Kp))) q ∧ C.zs.length ≤ (FZ Zs m).length := by
  have hF : (sAdd (sY Zs S) (shZ Zs S) (m - S)).ws = (List.range (m - S)).map (fun j => frameZ (shZ Zs S j)) := by unfold sAdd sY; simp
  have hz : (sAdd (sY Zs S) (shZ Zs S) (m - S)).zs = FZ Zs S := rfl
  have hu : (sAdd (sY Zs S) (shZ Zs S) (m - S)).up = true := rfl
  have hw : ((List.range (m - S)).map (fun j => frameZ (shZ Zs S j))).length = m - S := by simp
  have hsh : ∀ k, k ≤ m → ∀ z ∈ L0 Zs k, z.length ≤ 65536 := fun k hk z hz => by
    unfold L0 at hz
    obtain ⟨j, hj, rfl⟩ := List.mem_map.1 hz
    exact h j (by have := List.mem_range.1 hj; omega)
  refine ⟨(if m - S ≤ Kp then [] else (frameZ (shZ Zs S Kp)).take (max (min Tn (((frameZ (shZ Zs S Kp)).length : Int) - 1)) 0).toNat), ⟨false, FZ Zs S ++ (leftZ ((List.range (m - S)).map (fun j => frameZ (shZ Zs S j))) (Kp : Int) Tn).flatten, []⟩, ?_, rfl, rfl, ?_, ?_⟩
  · unfold dCrash
    rw [hu, hF, hz, if_pos rfl]
    by_cases ht : Tn < 0
    · rw [if_pos (.inr ht), if_pos ht]
    · rw [if_neg (by omega), if_neg ht]
  · by_cases hk : m - S ≤ Kp
    · rw [if_pos hk, Nat.min_eq_left (by omega)]
      refine ⟨?_, first_nil, hsh m (Nat.le_refl _)⟩
      rw [allZ_flat, List.append_nil]
      unfold leftZ
      rw [if_pos (by rw [hw]; omega), flat_range, FZ_split Zs hS]
      unfold L0
      rw [joinZ_range]
    · rw [if_neg hk, Nat.min_eq_right (by omega)]
      have hlen : (frameZ (shZ Zs S Kp)).length = (shZ Zs S Kp).length + 12 := frameZ_len _
      refine ⟨?_, ?_, hsh _ (by omega)⟩
      · rw [allZ_flat]
        unfold leftZ
        rw [if_neg (by rw [hw]; omega), Int.toNat_natCast, List.flatten_append, List.flatten_singleton, ← List.map_take, List.take_range, Nat.min_eq_left (by omega), flat_range, ← List.append_assoc]
        have e1 : ((List.range (m - S)).map (fun j => frameZ (shZ Zs S j))).getD Kp [] = frameZ (shZ Zs S Kp) := by
          rw [List.getD_eq_getElem?_getD, List.getElem?_map, List.getElem?_range (by omega)]; rfl
        rw [e1]
        congr 1
        have := FZ_split Zs (S := S) (m := S + Kp) (by omega)
        rw [Nat.add_sub_cancel_left] at this
        rw [this]
        unfold L0
        rw [joinZ_range]
      · have := torn (zs := shZ Zs S Kp) (h _ (by omega)) [] (max (min Tn (((frameZ (shZ Zs S Kp)).length : Int) - 1)) 0).toNat (by omega)
        rwa [List.append_nil] at this
  · show (FZ Zs S ++ _).length ≤ _
    rw [← FZ_split Zs hS, List.length_append, List.length_append]
    have := (leftZ_len ((List.range (m - S)).map (fun j => frameZ (shZ Zs S j))) (Kp : Int) Tn).1
    rw [flat_range] at this
    omega
end Go.Proofs.YtjfeepmjebdahaaDoor
