/- What the document's own reading makes of bytes, plainly; it is what the bytes are. -/
import Derived.Test.YtmeafjehcckibaaDoorTkRq
import Derived.Test.YtmeafjehcckibaaDoorTkPs
namespace Go.Proofs.YtmeafjehcckibaaDoor
open Go.ChangeShapes Go.WideShapes Go.ChangeAt Go.RowKit
set_option linter.unusedVariables false
set_option linter.unusedSimpArgs false
open Plain Sha
theorem atF_step {zs : List Int} {f a : Nat} {n x : Int} (h : a < zs.length) (hn : n ≤ 2199023255552) (hx : zs.getD a 0 = x) : atF zs (f + 1) a n = atF zs f (a + 1) (256 * n + x) := by
  rw [atF, if_pos h, if_neg (by omega), hx]
theorem at_num {zs : List Int} {a : Nat} (hb : IsBytes zs) (h : a + 8 ≤ zs.length) (h0 : 0 ≤ numA zs a) (h1 : numA zs a ≤ 2199023255552) : atZ zs a = numA zs a := by
  obtain ⟨x0, e0⟩ : ∃ x, zs.getD a 0 = x := ⟨_, rfl⟩
  obtain ⟨x1, e1⟩ : ∃ x, zs.getD (a + 1) 0 = x := ⟨_, rfl⟩
  obtain ⟨x2, e2⟩ : ∃ x, zs.getD (a + 1 + 1) 0 = x := ⟨_, rfl⟩
  obtain ⟨x3, e3⟩ : ∃ x, zs.getD (a + 1 + 1 + 1) 0 = x := ⟨_, rfl⟩
  obtain ⟨x4, e4⟩ : ∃ x, zs.getD (a + 1 + 1 + 1 + 1) 0 = x := ⟨_, rfl⟩
  obtain ⟨x5, e5⟩ : ∃ x, zs.getD (a + 1 + 1 + 1 + 1 + 1) 0 = x := ⟨_, rfl⟩
  obtain ⟨x6, e6⟩ : ∃ x, zs.getD (a + 1 + 1 + 1 + 1 + 1 + 1) 0 = x := ⟨_, rfl⟩
  obtain ⟨x7, e7⟩ : ∃ x, zs.getD (a + 1 + 1 + 1 + 1 + 1 + 1 + 1) 0 = x := ⟨_, rfl⟩
  have b0 := hb a (by omega)
  have b1 := hb (a + 1) (by omega)
  have b2 := hb (a + 1 + 1) (by omega)
  have b3 := hb (a + 1 + 1 + 1) (by omega)
  have b4 := hb (a + 1 + 1 + 1 + 1) (by omega)
  have b5 := hb (a + 1 + 1 + 1 + 1 + 1) (by omega)
  have b6 := hb (a + 1 + 1 + 1 + 1 + 1 + 1) (by omega)
  have b7 := hb (a + 1 + 1 + 1 + 1 + 1 + 1 + 1) (by omega)
  rw [e0] at b0
  rw [e1] at b1
  rw [e2] at b2
  rw [e3] at b3
  rw [e4] at b4
  rw [e5] at b5
  rw [e6] at b6
  rw [e7] at b7
  have hl : (zs.drop a).take 8 = [x0, x1, x2, x3, x4, x5, x6, x7] := by
    apply List.ext_getElem?
    intro j
    have hg : ∀ i, i < zs.length → zs[i]? = some (zs.getD i 0) := fun i hi => by
      rw [List.getD_eq_getElem?_getD, List.getElem?_eq_getElem hi]; rfl
    match j with
    | 0 => rw [List.getElem?_take, if_pos (by omega), List.getElem?_drop, hg _ (by omega)]; simp [← e0]
    | 1 => rw [List.getElem?_take, if_pos (by omega), List.getElem?_drop, hg _ (by omega)]; simp [← e1]
    | 2 => rw [List.getElem?_take, if_pos (by omega), List.getElem?_drop, hg _ (by omega)]; simp [← e2]
    | 3 => rw [List.getElem?_take, if_pos (by omega), List.getElem?_drop, hg _ (by omega)]; simp [← e3]
    | 4 => rw [List.getElem?_take, if_pos (by omega), List.getElem?_drop, hg _ (by omega)]; simp [← e4]
    | 5 => rw [List.getElem?_take, if_pos (by omega), List.getElem?_drop, hg _ (by omega)]; simp [← e5]
    | 6 => rw [List.getElem?_take, if_pos (by omega), List.getElem?_drop, hg _ (by omega)]; simp [← e6]
    | 7 => rw [List.getElem?_take, if_pos (by omega), List.getElem?_drop, hg _ (by omega)]; simp [← e7]
    | j + 8 => rw [List.getElem?_take, if_neg (by omega)]; simp
  have hn : numA zs a = wrap64 (numZ [x0, x1, x2, x3, x4, x5, x6, x7]) := by
    unfold numA
    rw [loadZ_yes zs a 8 h, hl]
  have hz : numZ [x0, x1, x2, x3, x4, x5, x6, x7] = 256 * (256 * (256 * (256 * (256 * (256 * (256 * (256 * 0 + x0) + x1) + x2) + x3) + x4) + x5) + x6) + x7 := by
    simp [numZ]
    try omega
  rw [hz] at hn
  have hw : numA zs a = 256 * (256 * (256 * (256 * (256 * (256 * (256 * (256 * 0 + x0) + x1) + x2) + x3) + x4) + x5) + x6) + x7 := by
    rw [hn] at h0 ⊢
    unfold wrap64 at h0 ⊢
    omega
  unfold atZ
  rw [atF_step (by omega) (by omega) e0, atF_step (by omega) (by omega) e1, atF_step (by omega) (by omega) e2, atF_step (by omega) (by omega) e3, atF_step (by omega) (by omega) e4, atF_step (by omega) (by omega) e5, atF_step (by omega) (by omega) e6, atF_step (by omega) (by omega) e7, atF, hw]
def rgT (zs : List Int) (k : Nat) : GrantZ := ⟨IntKind.u8.wrap (atZ zs (16 + 24 * k)), atZ zs (16 + 24 * k + 8), atZ zs (16 + 24 * k + 16)⟩
def rlT (zs : List Int) : Nat → List GrantZ
  | 0 => []
  | k + 1 => rlT zs k ++ [rgT zs k]
theorem rlT_len (zs : List Int) (k : Nat) : (rlT zs k).length = k := by
  induction k with
  | zero => rfl
  | succ k ih => rw [rlT, List.length_append, ih]; rfl
/-- The rights that are read of the first K places may be. -/
def rokT (zs : List Int) : Nat → Bool
  | 0 => true
  | k + 1 => rokT zs k && (decide (0 ≤ atZ zs (16 + 24 * k)) && decide (atZ zs (16 + 24 * k) ≤ 15))
def refR (zs : List Int) : PTok := ⟨atZ zs 0, rlT zs (zs.length / 24 - 2), zs.drop (zs.length - 32)⟩
def refPz (zs : List Int) : PTok × Int :=
  if zs.length < 72 then (pt0, 90) else if zs.length % 24 = 0 then (if rokT zs (zs.length / 24 - 2) then (if eqB (printP (refR zs)) zs then (refR zs, 0) else (pt0, 90)) else (pt0, 90)) else (pt0, 90)
theorem eqB_iff {a b : List Int} : eqB a b = true ↔ a = b := by unfold eqB; exact decide_eq_true_iff
theorem rlT_r (zs : List Int) (k : Nat) : ∀ g, g ∈ rlT zs k → 0 ≤ g.r := by
  induction k with
  | zero => intro g hg; simp [rlT] at hg
  | succ k ih =>
    intro g hg
    rw [rlT] at hg
    rcases List.mem_append.1 hg with hg | hg
    · exact ih g hg
    · rw [List.mem_singleton] at hg
      subst hg
      show 0 ≤ IntKind.u8.wrap _
      have := IntKind.wrap_u8 (atZ zs (16 + 24 * k))
      rw [this]; omega
/-- What the document reads of a token's bytes. -/
theorem ref_print {p : PTok} (hm : mayT p.tn p.l = true) (hT : p.T.length = 32) (hTB : IsBytes p.T) (hr : ∀ g, g ∈ p.l → 0 ≤ g.r) :
    refR (printP p) = p ∧ rokT (printP p) p.l.length = true ∧ (printP p).length = 48 + 24 * p.l.length := by
  have hl := may_len' hm
  have ha := may_all hm
  have hlen : (printP p).length = 48 + 24 * p.l.length := by rw [printP_len p hT, if_pos hm]
  have hB : IsBytes (printP p) := printP_bytes p hTB
  have e : printP p = headZ p.tn p.l.length p.l ++ p.T := by unfold printP; rw [hm]; rfl
  have htn : InR p.tn := by unfold InR; omega
  have n0 : atZ (printP p) 0 = p.tn := by
    have : numA (printP p) ((0 : Nat) : Int) = p.tn := by
      rw [e]; unfold headZ
      exact numA_nums (xs := [p.tn, (p.l.length : Int)] ++ lineN p.l) (j := 0) p.T rfl htn _ rfl
    rw [at_num hB (by omega) (by rw [this]; omega) (by rw [this]; omega), this]
  have hat : ∀ (k : Nat) (g : GrantZ), p.l[k]? = some g → atZ (printP p) (16 + 24 * k) = g.r ∧ atZ (printP p) (16 + 24 * k + 8) = g.x ∧ atZ (printP p) (16 + 24 * k + 16) = g.s ∧ 0 ≤ g.r ∧ g.r ≤ 15 := by
    intro k g hg
    have hk : k < p.l.length := (List.getElem?_eq_some_iff.1 hg).1
    have hgm := mayB_in (ha.2 g (List.mem_of_getElem? hg))
    have hg0 := hr g (List.mem_of_getElem? hg)
    have g1 := head_num (p := p) (j := 0) hg (by omega) rfl (by unfold InR; omega)
    have g2 := head_num (p := p) (j := 1) hg (by omega) rfl (by unfold InR; omega)
    have g3 := head_num (p := p) (j := 2) hg (by omega) rfl (by unfold InR; omega)
    rw [← e] at g1 g2 g3
    have a1 : numA (printP p) ((16 + 24 * k : Nat) : Int) = g.r := by rw [← g1]; congr 1
    have a2 : numA (printP p) ((16 + 24 * k + 8 : Nat) : Int) = g.x := by rw [← g2]; congr 1
    have a3 : numA (printP p) ((16 + 24 * k + 16 : Nat) : Int) = g.s := by rw [← g3]; congr 1
    exact ⟨by rw [at_num hB (by omega) (by omega) (by omega), a1], by rw [at_num hB (by omega) (by omega) (by omega), a2], by rw [at_num hB (by omega) (by omega) (by omega), a3], hg0, hgm.1⟩
  have hline : ∀ k, k ≤ p.l.length → rlT (printP p) k = p.l.take k ∧ rokT (printP p) k = true := by
    intro k
    induction k with
    | zero => intro _; simp [rlT, rokT]
    | succ k ih =>
      intro hk
      obtain ⟨g, hg⟩ : ∃ g, p.l[k]? = some g := ⟨_, List.getElem?_eq_getElem (by omega)⟩
      obtain ⟨a1, a2, a3, h0, h15⟩ := hat k g hg
      obtain ⟨i1, i2⟩ := ih (by omega)
      have eg : rgT (printP p) k = g := by
        unfold rgT
        rw [a1, a2, a3]
        have := IntKind.wrap_u8 g.r
        rw [show IntKind.u8.wrap g.r = g.r by rw [this]; omega]
      refine ⟨?_, ?_⟩
      · rw [rlT, i1, eg, take_snocG _ _ _ hg]
      · rw [rokT, i2, a1]; simp [h0, h15]
  have hT2 : (printP p).drop ((printP p).length - 32) = p.T := by
    rw [e, List.length_append, hT, Nat.add_sub_cancel, List.drop_left]
  have hK : (printP p).length / 24 - 2 = p.l.length := by rw [hlen]; omega
  refine ⟨?_, (hline _ (Nat.le_refl _)).2, hlen⟩
  unfold refR
  rw [hK, n0, (hline _ (Nat.le_refl _)).1, List.take_length, hT2]
/-- The document's own reading comes to what the bytes are. -/
theorem ref_parse {zs : List Int} (hb : IsBytes zs) : refPz zs = parseP zs := by
  have key : ∀ p : PTok, mayT p.tn p.l = true → p.T.length = 32 → IsBytes p.T → (∀ g, g ∈ p.l → 0 ≤ g.r) → printP p = zs → refPz zs = (p, 0) ∧ parseP zs = (p, 0) := by
    intro p hm hT hTB hr e
    subst e
    obtain ⟨r1, r2, r3⟩ := ref_print hm hT hTB hr
    have hl := may_len' hm
    refine ⟨?_, parse_print hm hT hr⟩
    unfold refPz
    rw [if_neg (by omega), if_pos (by omega), show (printP p).length / 24 - 2 = p.l.length by omega, r2, if_pos rfl, r1, if_pos (eqB_iff.2 rfl)]
  by_cases h : mayT (readP zs).tn (readP zs).l = true ∧ printP (readP zs) = zs
  · obtain ⟨k1, k2⟩ := key (readP zs) h.1 (readP_len zs) (tagA_bytes _ _ hb) (fun g hg => (lineA_ok zs _ g hg).r.1) h.2
    rw [k1, k2]
  · have hp : parseP zs = (pt0, 90) := by
      unfold parseP
      rw [if_neg]
      intro hh
      rw [Bool.and_eq_true] at hh
      exact h ⟨hh.1, eqB_iff.1 hh.2⟩
    rw [hp]
    unfold refPz
    split
    · rfl
    · next h72 =>
      split
      · next h24 =>
        split
        · next hrok =>
          split
          · next he =>
            exfalso
            have he' := eqB_iff.1 he
            have hm : mayT (refR zs).tn (refR zs).l = true := by
              cases hq : mayT (refR zs).tn (refR zs).l
              · have : printP (refR zs) = [] := by unfold printP; rw [hq]; rfl
                rw [this] at he'
                rw [← he'] at h72
                simp at h72
              · rfl
            have hT : (refR zs).T.length = 32 := by
              show (zs.drop (zs.length - 32)).length = 32
              rw [List.length_drop]; omega
            have hrd := read_print hm hT (rlT_r zs _)
            rw [he'] at hrd
            exact h ⟨by rw [hrd]; exact hm, by rw [hrd]; exact he'⟩
          · rfl
        · rfl
      · rfl
end Go.Proofs.YtmeafjehcckibaaDoor
