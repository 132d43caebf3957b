/- Noughts of unlike numbers have unlike tags; the first and the last byte of a tag. -/
import Derived.Test.YtmglhfhcljdfcaaDoorTags
namespace Go.Proofs.YtmglhfhcljdfcaaDoor.Sha
open Go.Proofs.YtmglhfhcljdfcaaDoor.Plain
set_option linter.unusedVariables false
theorem behind_whole (v : H8) (a b : List Int) (h : a.length % 64 = 0) : Sha.behind (Sha.behind v a) b = Sha.behind v (a ++ b) := by
  have e : restZ a = [] := by unfold restZ; exact List.drop_eq_nil_of_le (by omega)
  have := behind_more v a b
  rwa [e, List.nil_append] at this
theorem zst_of (v r : H8) (h : fbeh v.list (List.replicate 64 0) 1 = r.list) : Sha.behind v (List.replicate 64 0) = r := by
  rw [fbeh_eq] at h
  exact h8_ext h
theorem zst_eq : ∀ z, z ≤ 3 → Sha.behind h0 (List.replicate (64 * z) 0) = zst z
  | 0, _ => rfl
  | 1, _ => zst_of h0 z_1 z1_eq
  | 2, _ => by
    rw [show 64 * 2 = 64 + 64 from rfl, ← List.replicate_append_replicate, ← behind_whole _ _ _ (by rw [List.length_replicate]), zst_of h0 z_1 z1_eq]
    exact zst_of z_1 z_2 z2_eq
  | 3, _ => by
    rw [show 64 * 3 = 64 + (64 + 64) from rfl, ← List.replicate_append_replicate, ← List.replicate_append_replicate, ← behind_whole _ _ _ (by rw [List.length_replicate]), ← behind_whole _ _ _ (by rw [List.length_replicate]), zst_of h0 z_1 z1_eq, zst_of z_1 z_2 z2_eq]
    exact zst_of z_2 z_3 z3_eq
theorem noughts_a (n : Nat) (h : n ≤ 200) : (Sha.behind h0 (List.replicate n 0 ++ padZ n)).a = heads.getD n 0 := by
  rw [← heads_at n h]
  obtain ⟨z, hz⟩ : ∃ z, n / 64 = z := ⟨_, rfl⟩
  obtain ⟨r, hr⟩ : ∃ r, n % 64 = r := ⟨_, rfl⟩
  have hn : n = 64 * z + r := by omega
  have hz3 : z ≤ 3 := by omega
  rw [hz, hr]
  subst hn
  have e : List.replicate (64 * z + r) (0 : Int) = List.replicate (64 * z) 0 ++ List.replicate r 0 := (List.replicate_append_replicate ..).symm
  rw [e, List.append_assoc, ← behind_whole _ _ _ (by rw [List.length_replicate]; omega), zst_eq z hz3]
  unfold headF
  rw [fbeh_eq]
  show _ = (Sha.H8.list _).headD 0
  unfold Sha.behind
  rw [List.length_append, List.length_replicate]
  rfl
theorem putZ4_inj (x y : Nat) (hx : x < 4294967296) (hy : y < 4294967296) (h : putZ (x : Int) 4 = putZ (y : Int) 4) : x = y := by
  have e : ∀ j, j < 4 → (x : Int) / 256 ^ (4 - 1 - j) % 256 = (y : Int) / 256 ^ (4 - 1 - j) % 256 := fun j hj => by
    rw [← putZ_at _ 4 j hj, ← putZ_at _ 4 j hj, h]
  have e0 := e 0 (by omega)
  have e1 := e 1 (by omega)
  have e2 := e 2 (by omega)
  have e3 := e 3 (by omega)
  simp at e0 e1 e2 e3
  omega
theorem tagZ_a (v : H8) : (tagZ v).take 4 = putZ (v.a : Int) 4 := by
  unfold tagZ
  simp only [List.append_assoc]
  have : (putZ (v.a : Int) 4).length = 4 := putZ_len _ _
  rw [List.take_append_of_le_length (by omega), List.take_of_length_le (by omega)]
theorem noughts_sha (n m : Nat) (hn : n ≤ 200) (hm : m ≤ 200) (h : shaZ (List.replicate n 0) = shaZ (List.replicate m 0)) : n = m := by
  unfold shaZ at h
  rw [List.length_replicate, List.length_replicate] at h
  have h1 := congrArg (List.take 4) h
  rw [tagZ_a, tagZ_a] at h1
  have h2 := putZ4_inj _ _ (behind_ok h0_ok _).a (behind_ok h0_ok _).a h1
  rw [noughts_a n hn, noughts_a m hm] at h2
  have hl : heads.length = 201 := rfl
  by_cases e : n = m
  · exact e
  · exfalso
    rcases Nat.lt_or_gt_of_ne e with h3 | h3
    · exact unlikeB_at heads heads_unlike n m h3 (by omega) h2
    · exact unlikeB_at heads heads_unlike m n h3 (by omega) h2.symm
theorem tag_nil : shaZ [] = [0xe3, 0xb0, 0xc4, 0x42, 0x98, 0xfc, 0x1c, 0x14, 0x9a, 0xfb, 0xf4, 0xc8, 0x99, 0x6f, 0xb9, 0x24, 0x27, 0xae, 0x41, 0xe4, 0x64, 0x9b, 0x93, 0x4c, 0xa4, 0x95, 0x99, 0x1b, 0x78, 0x52, 0xb8, 0x55] := by
  have := sha_nil
  unfold m_nil at this
  rw [this]; decide
theorem tag_abc : shaZ [97, 98, 99] = [0xba, 0x78, 0x16, 0xbf, 0x8f, 0x01, 0xcf, 0xea, 0x41, 0x41, 0x40, 0xde, 0x5d, 0xae, 0x22, 0x23, 0xb0, 0x03, 0x61, 0xa3, 0x96, 0x17, 0x7a, 0x9c, 0xb4, 0x10, 0xff, 0x61, 0xf2, 0x00, 0x15, 0xad] := by
  have := sha_abc
  unfold m_abc at this
  rw [this]; decide
theorem tag_two : shaZ m_two = [0x24, 0x8d, 0x6a, 0x61, 0xd2, 0x06, 0x38, 0xb8, 0xe5, 0xc0, 0x26, 0x93, 0x0c, 0x3e, 0x60, 0x39, 0xa3, 0x3c, 0xe4, 0x59, 0x64, 0xff, 0x21, 0x67, 0xf6, 0xec, 0xed, 0xd4, 0x19, 0xdb, 0x06, 0xc1] := by
  rw [sha_two]; decide
end Go.Proofs.YtmglhfhcljdfcaaDoor.Sha
