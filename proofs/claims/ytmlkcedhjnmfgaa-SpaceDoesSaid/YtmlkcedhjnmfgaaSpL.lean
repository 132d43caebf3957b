/- Lists of texts; List; Same. -/
import Derived.Test.YtmlkcedhjnmfgaaSpJ
import Derived.Test.YtmlkcedhjnmfgaaSpK
import Derived.Laws.StructEq
namespace Go.Proofs.Ytmlkcedhjnmfgaa
open Go.ChangeShapes Go.WideShapes Go.ChangeAt Go.RowKit
set_option linter.unusedVariables false
set_option linter.unusedSimpArgs false
open Plain Sp
namespace Sp
def svs (l : List ByteArray) : List Value := l.map Value.string
theorem svs_len (l : List ByteArray) : (svs l).length = l.length := by simp [svs]
theorem svs_app (a b : List ByteArray) : svs (a ++ b) = svs a ++ svs b := by simp [svs]
theorem svs_one (l : List ByteArray) : ∀ u ∈ svs l, u.oneCell' = true := by
  intro u hu
  simp only [svs, List.mem_map] at hu
  obtain ⟨z, _, rfl⟩ := hu
  rfl
end Sp
/-- A row of texts. -/
structure Sr (w : World) (B : Nat) (A : Option Addr) (n : Nat) (zs : List ByteArray) : Prop where
  len : zs.length = n
  row : 0 < n → ∃ b off, A = some ⟨b, off, none⟩ ∧ b < B ∧ ∀ j z, zs[j]? = some z → w.cell? ⟨b, off + j, none⟩ = some (.string z)
theorem Sr.below {w w' : World} {B B' n : Nat} {A : Option Addr} {zs : List ByteArray} (h : Sr w B A n zs) (hb : Below B' w w') (hB : B ≤ B') : Sr w' B A n zs :=
  ⟨h.len, fun hn => by
    obtain ⟨b, off, rfl, h1, hc⟩ := h.row hn
    exact ⟨b, off, rfl, h1, fun j z hz => ((hb.mono hB).cell (p := ⟨b, off + j, none⟩) h1).trans (hc j z hz)⟩⟩
theorem Sr.drewN {w : World} {B n : Nat} {A : Option Addr} {zs : List ByteArray} (h : Sr w B A n zs) (k : Nat) : Sr (w.drewN k) B A n zs := ⟨h.len, h.row⟩
theorem Sr.at_ {w : World} {B n : Nat} {A : Option Addr} {zs : List ByteArray} (h : Sr w B A n zs) {k : Nat} (hk : k < n) : ∃ b off z, A = some ⟨b, off, none⟩ ∧ b < B ∧ Hid (zs[k]? = some z) ∧ w.cell? ⟨b, off + k, none⟩ = some (.string z) := by
  obtain ⟨b, off, rfl, hb, hc⟩ := h.row (by omega)
  have hkl : k < zs.length := by rw [h.len]; exact hk
  have hg : zs[k]? = some zs[k] := List.getElem?_eq_getElem hkl
  exact ⟨b, off, zs[k], rfl, hb, hg, hc k _ hg⟩
theorem sr_of_own {w : World} {base n c : Nat} {t : TypeId} {A : Option Addr} {zs : List ByteArray} (h : w.ownsRow base t 1 (.slice A n c) n (svs zs)) : Sr w w.heap.size A n zs := by
  have hl : zs.length = n := by have := h.1; rw [svs_len] at this; omega
  refine ⟨hl, fun hn => ?_⟩
  obtain ⟨g, cap, hv, _, hlt⟩ := h.form hn
  have hA : A = some ⟨g, 0, none⟩ := by injection hv
  subst hA
  refine ⟨g, 0, rfl, hlt, fun j z hz => ?_⟩
  have := h.cells (g := g) rfl j (.string z) (by rw [svs, List.getElem?_map, hz]; rfl)
  rwa [← Go.WideShapes.add_plain]
theorem own_shape1 {w : World} {base n : Nat} {t : TypeId} {v : Value} {xs : List Value} (h : w.ownsRow base t 1 v n xs) : ∃ A c, v = .slice A n c ∧ n ≤ c ∧ c ≤ maxLen := own_shapeP h
/-- A list of texts that a call makes. -/
def MadeT (w : World) (n : Nat) (zs : List ByteArray) (e : Ending) (w' : World) : Prop :=
  ∃ D d, e = .returned (.slice D n d) ∧ w'.ownsRow w.heap.size 9 1 (.slice D n d) n (svs zs) ∧ Below w.heap.size w w'
theorem lies_newS (w : World) (x : ByteArray) (t : TypeId) (g : Nat) (hg : w.heap.size = g) : Lies (w.alloc (.cells #[.string x] t)) 1 (some ⟨g, 0, none⟩) 1 [.string x] ∧ Sourced (some ⟨g, 0, none⟩) 1 := by
  subst hg
  refine ⟨⟨rfl, fun ad hA => ?_⟩, fun h => by cases h⟩
  injection hA with hA
  subst hA
  exact World.news_of_block (cs := #[.string x]) (t := t) (fr := (0, 0)) (heap_alloc_new w _)
theorem str_one (x : ByteArray) : ∀ u ∈ [Value.string x], u.oneCell' = true := by
  intro u hu
  obtain rfl := List.mem_singleton.1 hu
  rfl
theorem take_key {l : List PairZ} {j : Nat} {p : PairZ} (h : l[j]? = some p) : (l.take (j + 1)).map (·.k) = (l.take j).map (·.k) ++ [p.k] := by
  rw [take_snocP l j p h]; simp
/-- Some pairs of a row, from one place on. -/
theorem Prs.mid {w : World} {B n : Nat} {A : Option Addr} {l : List PairZ} (h : Prs w B A n l) {b m : Nat} (hm : b + m ≤ n) (T : Option Addr) (hT : 0 < m → T = A.map fun x => x.add (b * 2)) : Prs w B T m ((l.drop b).take m) := by
  refine h.cut (by omega) _ fun b' off' e' h0 => ?_
  subst e'
  rw [hT h0, Option.map_some, Go.WideShapes.add_plain]
set_option maxRecDepth 100000 in
set_option maxHeartbeats 4000000 in
theorem list_any {w : World} {n c : Nat} {A : Option Addr} {l : List PairZ} (K Y : Int) (f : ByteArray) (k : Int) (N : Nat) (zs : List ByteArray) (h : Spc w A n c l) (hk : -9223372036854775808 ≤ k) (hk2 : k ≤ 9223372036854775807) (hz : listR ⟨K, Y, l⟩ f k = zs) (hN : zs.length = N) :
    Calls Try.prog 22 #[.agg #[.int .i64 K, .int .i64 Y, .slice A n c], .string f, .int .i64 k] w (MadeT w N zs) := by
  obtain ⟨W1, hW1⟩ : ∃ W, W = w.alloc (.cells #[.int .i64 K, .int .i64 Y, .slice A n c] 28) := ⟨_, rfl⟩
  have b1 := Lib.hid (show Below w.heap.size w W1 by rw [hW1]; exact below_one _ _)
  have X1 := Lib.hid (show SBox W1 w.heap.size K Y A n c by rw [hW1]; exact sbox_new _ _ _ _ _ _ _ _ rfl)
  have H1 := Lib.hid (h.below b1.out)
  have HW1 := Lib.hid hW1
  have HC := Lib.hid (fun (V : World) (hV : Below W1.heap.size W1 V) => X1.out.grow hV)
  clear hW1 h
  cases hm : mayB ⟨K, Y, l⟩ with
  | false =>
    have e1 : zs = [] := by rw [← hz]; unfold listR; rw [hm]; rfl
    subst e1
    obtain rfl : 0 = N := hN
    have MM := Lib.hid (may_any K Y c false H1.out hm)
    clear hm H1 hz
    go_enter Try.func22, Try.ntmps22
    go_upto_region 1 with fail
    rw [← HW1.out]
    obtain ⟨h1, h2, h3⟩ := X1.out
    go_wp2_with (go_at_call 27; refine MM.out.mono ?_; rintro e w5 ⟨rfl, b5⟩; have B5 := Lib.hid (b1.out.trans (b5.mono b1.out.size)); clear b5)
    go_ret
    exact ⟨none, 0, rfl, World.ownsRow_nil _ _ _ _, B5.out⟩
  | true =>
  have MM := Lib.hid (may_any K Y c true H1.out hm)
  by_cases hk1 : k < 1
  · have e1 : zs = [] := by rw [← hz]; unfold listR; rw [hm]; simp [show k.toNat = 0 by omega]
    subst e1
    obtain rfl : 0 = N := hN
    clear hm H1 hz
    go_enter Try.func22, Try.ntmps22
    go_upto_region 1 with fail
    rw [← HW1.out]
    obtain ⟨h1, h2, h3⟩ := X1.out
    go_wp2_with (go_at_call 27; refine MM.out.mono ?_; rintro e w5 ⟨rfl, b5⟩; have B5 := Lib.hid (b1.out.trans (b5.mono b1.out.size)); clear b5)
    go_ret
    exact ⟨none, 0, rfl, World.ownsRow_nil _ _ _ _, B5.out⟩
  · obtain ⟨kn, rfl⟩ : ∃ kn : Nat, k = kn := ⟨k.toNat, by omega⟩
    obtain ⟨_, hri, _, hl64, _⟩ := may_parts hm
    have hlen := H1.out.prs.len
    have hl64 : n ≤ 64 := by rw [← hlen]; exact hl64
    obtain ⟨pos, hpos⟩ : ∃ z, posP l f = z := ⟨_, rfl⟩
    obtain ⟨beh, hbeh⟩ : ∃ z, behP l f = z := ⟨_, rfl⟩
    have hpn : pos ≤ n := by rw [← hpos, ← hlen]; exact pos_le _ _
    have hlow := (low_take f hri).2
    rw [hpos] at hlow
    have hz2 : ((l.drop pos).take kn).map (·.k) = zs := by
      rw [← hz]; unfold listR; rw [hm, ← hlow]; simp
    have hN2 : N = min kn (n - pos) := by
      rw [← hN, ← hz2]; simp; omega
    have PM := Lib.hid (fun (V : World) (hV : Below W1.heap.size W1 V) => place_any (w := V) c f pos beh (H1.out.below hV).prs (Nat.le_refl _) H1.out.nk hri hpos hbeh)
    have hz3 : ((l.drop pos).take N).map (·.k) = zs := by
      rw [← hz2]
      congr 1
      rw [hN2]
      rcases Nat.le_total kn (n - pos) with h | h
      · rw [Nat.min_eq_left h]
      · rw [Nat.min_eq_right h, List.take_of_length_le (by simp; omega), List.take_of_length_le (by simp; omega)]
    obtain ⟨T, hT⟩ : ∃ T : Option Addr, (if c = pos then A else A.map fun x => x.add (pos * 2)) = T := ⟨_, rfl⟩
    have HF := Lib.hid (fun (V : World) (hV : Below W1.heap.size W1 V) => (H1.out.below hV).prs.mid (b := pos) (m := N) (by omega) T (fun h0 => by rw [← hT, if_neg (by have := H1.out.nc; omega)]))
    have hnc := H1.out.nc
    have hcI : (n : Int) ≤ (c : Int) := by omega
    have hpI : (pos : Int) ≤ (n : Int) := by omega
    have hmin : min (kn : Int) ((n - pos : Nat) : Int) = (N : Int) := by omega
    have ZZ := Lib.hid hz3
    have ZL := Lib.hid hN
    have KK : Hid (N ≤ 64) := Lib.hid (by omega)
    have hNc : N ≤ c - pos := by omega
    have hk1I : ¬ ((kn : Int) < 1) := hk1
    clear hm H1 hri hl64 hlen hpos hbeh hlow hz hz2 hz3 hN hN2 hk1
    go_enter Try.func22, Try.ntmps22
    go_upto_region 1 with fail
    rw [← HW1.out]
    obtain ⟨h1, h2, h3⟩ := X1.out
    go_upto_region 4 with (first
      | (go_at_call 27; refine MM.out.mono ?_; rintro e w5 ⟨rfl, b5⟩; obtain ⟨h4, h5, h6⟩ := HC.out _ b5; have B5 := Lib.hid b5; clear b5)
      | (go_at_call 36; refine (PM.out _ B5.out).mono ?_; rintro e w6 ⟨rfl, b6⟩; have b6' := B5.out.trans (b6.mono B5.out.size); have B6 := Lib.hid b6'; obtain ⟨h7, h8, h9⟩ := HC.out _ b6'; clear b6 b6')
      | fail)
    have FM := Lib.hid (fun (V : World) (c' : Nat) (h : N ≤ c') => front_any (w := V) (n := n - pos) (c := c') (A := T) h)
    have own0 := Lib.hid (World.ownsRow_nil w6 w6.heap.size 9 1)
    have BW6 := Lib.hid (b1.out.trans (B6.out.mono b1.out.size))
    have HF6 := Lib.hid (HF.out w6 B6.out)
    have bw6 := BW6.out.size
    have b16 := B6.out.size
    by_cases hcp : c = pos
    · rw [if_pos hcp] at hT
      have hT := hT.symm
      subst hT
      have hI : ((c : Int) == pos) = true := by simp; omega
      go_upto_region 7 with (first
        | (go_at_call 43; refine (FM.out _ _ (by omega)).mono ?_; rintro e w7 ⟨rfl, h7⟩; have h7 := h7.symm; subst h7)
        | fail)
      clear hT hcp h1 h2 h3 h4 h5 h6 h7 h8 h9 hmin hnc hcI hpI hk hk2 hk1I hNc hpn HF hI
      go_loopw [38, 10] (fun i v wr => ∃ j : Nat, j ≤ N ∧ i = .int .i64 j ∧ Hid (Below w6.heap.size w6 wr) ∧ Hid (wr.ownsRow w6.heap.size 9 1 v j (svs (zs.take j)))) (fun i _ _ => N - (intOf i).toNat)
      case atStart => exact ⟨0, by omega, rfl, Lib.hid (Below.refl _ _), Lib.hid (by simpa [svs] using own0.out)⟩
      case round =>
        obtain ⟨j, hj, rfl, HW, HO⟩ := hrel
        by_cases hlt : j < N
        · have hltI : (j : Int) < (N : Int) := by omega
          obtain ⟨b, off, p, rfl, hb, HK, hpo, c0, c1⟩ := (HF6.out.below HW.out (Nat.le_refl _)).at_ hlt
          have hk64 := KK.out
          have e1 : Hid (zs.take (j + 1) = zs.take j ++ [p.k]) := Lib.hid (by
            have hK := HK.out
            rw [List.getElem?_take, if_pos hlt] at hK
            rw [← ZZ.out, ← List.map_take, ← List.map_take, List.take_take, List.take_take, Nat.min_eq_left (by omega), Nat.min_eq_left (by omega)]
            exact take_key hK)
          have hsz := HW.out.size
          have LN := Lib.hid (lies_newS (wr.alloc (.cells #[.string p.k, .string p.v] 46)) p.k 9 (wr.heap.size + 1) (by simp))
          have OW := Lib.hid ((HO.out.alloc (.cells #[.string p.k, .string p.v] 46)).alloc (.cells #[.string p.k] 9))
          have BW := Lib.hid ((HW.out.alloc hsz (.cells #[.string p.k, .string p.v] 46)).alloc (Nat.le_trans hsz (by simp)) (.cells #[.string p.k] 9))
          clear hpo
          go_wp2_with (at_builtin; refine wpList_app _ rfl (.tmp 42) (.tmp 45) 48 rfl w6.heap.size 9 1 16 Try.underlying48 str_info (by omega) _ j (svs (zs.take j)) rfl OW.out _ 1 1 [.string p.k] rfl LN.out.1 LN.out.2 (str_one _) (by unfold maxLen; omega) (by omega) (by simp; omega) ?_; intro v1 w1 ho1 hg1; have B1 := Lib.hid (BW.out.grown hg1 (Nat.le_trans hsz (by simp; omega)) (fun q hq => (OW.out.lt q hq).1)); have HO1 := Lib.hid ho1; clear ho1 hg1)
          go_roundw
          case rel => exact ⟨j + 1, by omega, by go_num, B1, Lib.hid (by rw [e1.out, svs_app]; exact HO1.out)⟩
          case measure => simp [intOf]; omega
        · have e : j = N := by omega
          subst e
          have hzl := ZL.out
          go_wp2
          go_ret
          have ho := HO.out
          rw [List.take_of_length_le (by omega)] at ho
          obtain ⟨D, d, rfl, _, _⟩ := own_shape1 ho
          exact ⟨D, d, rfl, own_base ho bw6, BW6.out.trans (HW.out.mono bw6)⟩
    · rw [if_neg hcp] at hT
      go_upto_region 7 with (first
        | (go_at_call 43; refine (FM.out _ _ (by omega)).mono ?_; rintro e w7 ⟨rfl, h7⟩; have h7 := h7.symm; subst h7)
        | fail)
      clear hT hcp h1 h2 h3 h4 h5 h6 h7 h8 h9 hmin hnc hcI hpI hk hk2 hk1I hNc hpn HF 
      go_loopw [38, 10] (fun i v wr => ∃ j : Nat, j ≤ N ∧ i = .int .i64 j ∧ Hid (Below w6.heap.size w6 wr) ∧ Hid (wr.ownsRow w6.heap.size 9 1 v j (svs (zs.take j)))) (fun i _ _ => N - (intOf i).toNat)
      case atStart => exact ⟨0, by omega, rfl, Lib.hid (Below.refl _ _), Lib.hid (by simpa [svs] using own0.out)⟩
      case round =>
        obtain ⟨j, hj, rfl, HW, HO⟩ := hrel
        by_cases hlt : j < N
        · have hltI : (j : Int) < (N : Int) := by omega
          obtain ⟨b, off, p, rfl, hb, HK, hpo, c0, c1⟩ := (HF6.out.below HW.out (Nat.le_refl _)).at_ hlt
          have hk64 := KK.out
          have e1 : Hid (zs.take (j + 1) = zs.take j ++ [p.k]) := Lib.hid (by
            have hK := HK.out
            rw [List.getElem?_take, if_pos hlt] at hK
            rw [← ZZ.out, ← List.map_take, ← List.map_take, List.take_take, List.take_take, Nat.min_eq_left (by omega), Nat.min_eq_left (by omega)]
            exact take_key hK)
          have hsz := HW.out.size
          have LN := Lib.hid (lies_newS (wr.alloc (.cells #[.string p.k, .string p.v] 46)) p.k 9 (wr.heap.size + 1) (by simp))
          have OW := Lib.hid ((HO.out.alloc (.cells #[.string p.k, .string p.v] 46)).alloc (.cells #[.string p.k] 9))
          have BW := Lib.hid ((HW.out.alloc hsz (.cells #[.string p.k, .string p.v] 46)).alloc (Nat.le_trans hsz (by simp)) (.cells #[.string p.k] 9))
          clear hpo
          go_wp2_with (at_builtin; refine wpList_app _ rfl (.tmp 42) (.tmp 45) 48 rfl w6.heap.size 9 1 16 Try.underlying48 str_info (by omega) _ j (svs (zs.take j)) rfl OW.out _ 1 1 [.string p.k] rfl LN.out.1 LN.out.2 (str_one _) (by unfold maxLen; omega) (by omega) (by simp; omega) ?_; intro v1 w1 ho1 hg1; have B1 := Lib.hid (BW.out.grown hg1 (Nat.le_trans hsz (by simp; omega)) (fun q hq => (OW.out.lt q hq).1)); have HO1 := Lib.hid ho1; clear ho1 hg1)
          go_roundw
          case rel => exact ⟨j + 1, by omega, by go_num, B1, Lib.hid (by rw [e1.out, svs_app]; exact HO1.out)⟩
          case measure => simp [intOf]; omega
        · have e : j = N := by omega
          subst e
          have hzl := ZL.out
          go_wp2
          go_ret
          have ho := HO.out
          rw [List.take_of_length_le (by omega)] at ho
          obtain ⟨D, d, rfl, _, _⟩ := own_shape1 ho
          exact ⟨D, d, rfl, own_base ho bw6, BW6.out.trans (HW.out.mono bw6)⟩
end Go.Proofs.Ytmlkcedhjnmfgaa
