/- What bytes that are frames, one behind the other, tell. -/
import Derived.Test.YtcihbkdpkhhhcaaDoorFAll
import Derived.Test.YtcihbkdpkhhhcaaDoorNum
import Derived.Test.YtcihbkdpkhhhcaaDoorFast
namespace Go.Proofs.YtcihbkdpkhhhcaaDoor
open Go.ChangeShapes Go.WideShapes Go.ChangeAt Go.RowKit
set_option linter.unusedVariables false
open Plain Sha
theorem frame_app (zs q : List Int) : frameZ zs ++ q = putZ (zs.length : Nat) 4 ++ (zs ++ (sealZ (aheadZ zs) ++ q)) := by
  unfold frameZ
  rw [show aheadZ zs = putZ (zs.length : Nat) 4 ++ zs from rfl]
  simp only [List.append_assoc]
theorem frame_app2 (zs q : List Int) : frameZ zs ++ q = aheadZ zs ++ (sealZ (aheadZ zs) ++ q) := by unfold frameZ; rw [List.append_assoc]
theorem take_at {α : Type} (a b : List α) {n : Nat} (h : a.length = n) : (a ++ b).take n = a := by subst h; exact List.take_left
theorem drop_at {α : Type} (a b : List α) {n : Nat} (h : a.length = n) : (a ++ b).drop n = b := by subst h; exact List.drop_left
theorem lenZ_frame {zs : List Int} (h : zs.length ≤ 65536) (q : List Int) : lenZ (frameZ zs ++ q) = zs.length := by
  unfold lenZ
  rw [frame_app, take_at _ _ (putZ_len _ _), numZ_putZ 4 _ (by omega) (by omega)]
  rfl
theorem first_frame {zs : List Int} (h : zs.length ≤ 65536) (q : List Int) : firstZ (frameZ zs ++ q) = some zs.length := by
  have hl := lenZ_frame h q
  have h2 : IsFrame (frameZ zs ++ q) := by
    refine ⟨by rw [List.length_append, frameZ_len]; omega, by rw [hl]; exact h, by rw [hl, List.length_append, frameZ_len]; omega, ?_⟩
    rw [hl, frame_app2, drop_at _ _ (aheadZ_len zs), take_at _ _ (aheadZ_len zs), take_at _ _ (sealZ_len _)]
    exact eqB_self _
  rw [firstZ_yes h2, hl]
theorem pay_frame (zs q : List Int) : ((frameZ zs ++ q).drop 4).take zs.length = zs := by
  rw [frame_app, drop_at _ _ (putZ_len _ _), take_at _ _ rfl]
theorem torn {zs : List Int} (h : zs.length ≤ 65536) (q : List Int) (j : Nat) (hj : j < zs.length + 12) : firstZ ((frameZ zs ++ q).take j) = none := by
  refine firstZ_no (fun hf => ?_)
  have hlen : ((frameZ zs ++ q).take j).length = j := by rw [List.length_take, List.length_append, frameZ_len]; omega
  have h4 := hf.1
  rw [hlen] at h4
  have hl : lenZ ((frameZ zs ++ q).take j) = zs.length := by
    rw [← lenZ_frame h q]
    unfold lenZ
    rw [List.take_take, Nat.min_eq_left h4]
  have := hf.2.2.1
  rw [hl, hlen] at this
  omega
theorem first_short {bs : List Int} (h : bs.length < 4) : firstZ bs = none := firstZ_no (fun hf => by have := hf.1; omega)
def joinZ (l : List (List Int)) : List Int := l.flatMap frameZ
theorem joinZ_cons (z : List Int) (l : List (List Int)) : joinZ (z :: l) = frameZ z ++ joinZ l := by simp [joinZ]
theorem joinZ_app (a b : List (List Int)) : joinZ (a ++ b) = joinZ a ++ joinZ b := by simp [joinZ]
theorem joinZ_len : ∀ l : List (List Int), l.length ≤ (joinZ l).length
  | [] => Nat.zero_le _
  | z :: l => by
    have := joinZ_len l
    rw [joinZ_cons, List.length_append, frameZ_len, List.length_cons]
    omega
theorem frames_join (q : List Int) (hq : firstZ q = none) : ∀ (l : List (List Int)) (pre : List Int) (fuel : Nat), (∀ z ∈ l, z.length ≤ 65536) → l.length ≤ fuel →
    (framesF (pre ++ (joinZ l ++ q)) fuel pre.length).map (payZ (pre ++ (joinZ l ++ q))) = l ∧ useZ (framesF (pre ++ (joinZ l ++ q)) fuel pre.length) = (joinZ l).length
  | [], pre, fuel, _, _ => by
    have : firstZ ((pre ++ (joinZ [] ++ q)).drop pre.length) = none := by rw [drop_at _ _ rfl]; exact hq
    rw [framesF_no this]
    exact ⟨rfl, rfl⟩
  | z :: l, pre, fuel, hl, hf => by
    obtain ⟨fuel, rfl⟩ : ∃ k, fuel = k + 1 := ⟨fuel - 1, by rw [List.length_cons] at hf; omega⟩
    have hz := hl z (List.mem_cons_self ..)
    have hd : (pre ++ (joinZ (z :: l) ++ q)).drop pre.length = frameZ z ++ (joinZ l ++ q) := by rw [drop_at _ _ rfl, joinZ_cons, List.append_assoc]
    have h1 : firstZ ((pre ++ (joinZ (z :: l) ++ q)).drop pre.length) = some z.length := by rw [hd]; exact first_frame hz _
    have he : pre ++ (joinZ (z :: l) ++ q) = (pre ++ frameZ z) ++ (joinZ l ++ q) := by rw [joinZ_cons]; simp only [List.append_assoc]
    have ih := frames_join q hq l (pre ++ frameZ z) fuel (fun y hy => hl y (List.mem_cons_of_mem _ hy)) (by rw [List.length_cons] at hf; omega)
    rw [← he] at ih
    have hpl : (pre ++ frameZ z).length = pre.length + (z.length + 12) := by rw [List.length_append, frameZ_len]
    rw [hpl] at ih
    rw [framesF_yes h1, List.map_cons]
    refine ⟨?_, ?_⟩
    · rw [ih.1]
      congr 1
      show (((pre ++ (joinZ (z :: l) ++ q)).drop pre.length).drop 4).take z.length = z
      rw [hd]
      exact pay_frame z _
    · have : ∀ (x : Nat × Nat) (t : List (Nat × Nat)), useZ (x :: t) = x.2 + 12 + useZ t := fun x t => by simp [useZ]
      rw [this, ih.2, joinZ_cons, List.length_append, frameZ_len]
theorem frames_all (l : List (List Int)) (q : List Int) (hq : firstZ q = none) (hl : ∀ z ∈ l, z.length ≤ 65536) :
    (framesZ (joinZ l ++ q)).map (payZ (joinZ l ++ q)) = l ∧ useZ (framesZ (joinZ l ++ q)) = (joinZ l).length :=
  frames_join q hq l [] _ hl (by have := joinZ_len l; rw [List.length_append]; omega)
/-- Cut off anywhere, what is whole is left. -/
theorem join_cut (l : List (List Int)) (hl : ∀ z ∈ l, z.length ≤ 65536) (k c : Nat) (hk : k ≤ l.length) (h1 : (joinZ (l.take k)).length ≤ c) (h2 : k < l.length → c < (joinZ (l.take (k + 1))).length) :
    ∃ q, (joinZ l).take c = joinZ (l.take k) ++ q ∧ firstZ q = none := by
  refine ⟨(joinZ (l.drop k)).take (c - (joinZ (l.take k)).length), ?_, ?_⟩
  · conv => lhs; rw [← List.take_append_drop k l, joinZ_app]
    rw [List.take_append, List.take_of_length_le h1]
  · by_cases hlt : k < l.length
    · have hd : l.drop k = l[k] :: l.drop (k + 1) := List.drop_eq_getElem_cons hlt
      rw [hd, joinZ_cons]
      refine torn (hl _ (List.getElem_mem ..)) _ _ ?_
      have h3 := h2 hlt
      rw [List.take_succ_eq_append_getElem hlt, joinZ_app, List.length_append, joinZ_cons, List.length_append, frameZ_len] at h3
      simp [joinZ] at h3 ⊢
      omega
    · have : l.drop k = [] := List.drop_eq_nil_of_le (by omega)
      rw [this]
      exact first_short (by simp [joinZ])
namespace Sha
set_option maxRecDepth 100000
def m_0000 : List Int := [0, 0, 0, 0]
def v_0000 : H8 := ⟨3745472920, 78196699, 1079449901, 3292387144, 3933702876, 1388071308, 3892651200, 347607321⟩
theorem sha_0000 : shaZ m_0000 = tagZ v_0000 := sha_of m_0000 1 (by decide +kernel) v_0000 (by decide +kernel)
end Sha
theorem noughts_none : firstZ (List.replicate 13 0) = none := by
  refine firstZ_no (fun hf => ?_)
  have h := hf.2.2.2
  have hl : lenZ (List.replicate 13 0) = 0 := by decide
  rw [hl] at h
  unfold sealZ at h
  rw [show (List.replicate 13 (0 : Int)).take (4 + 0) = Sha.m_0000 from rfl, Sha.sha_0000] at h
  revert h
  decide +kernel
end Go.Proofs.YtcihbkdpkhhhcaaDoor
