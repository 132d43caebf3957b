/- The document's own List. -/
import Derived.Test.YtmlkcedhjnmfgaaSpX
namespace Go.Proofs.Ytmlkcedhjnmfgaa
open Go.ChangeShapes Go.WideShapes Go.ChangeAt Go.RowKit
set_option linter.unusedVariables false
set_option linter.unusedSimpArgs false
open Plain Sp
def lstT (l : List PairZ) (f : ByteArray) (kn j : Nat) : List ByteArray := (((l.take j).filter fun p => !ltB p.k f).take kn).map (·.k)
theorem lstT_zero (l : List PairZ) (f : ByteArray) (kn : Nat) : lstT l f kn 0 = [] := by simp [lstT]
theorem lstT_no {l : List PairZ} {f : ByteArray} {kn j : Nat} {p : PairZ} (h : l[j]? = some p) (hq : ltB p.k f = true) : lstT l f kn (j + 1) = lstT l f kn j := by
  unfold lstT
  rw [take_snocP l j p h, List.filter_append]
  simp [List.filter_cons, hq]
theorem lstT_len {l : List PairZ} {f : ByteArray} {kn j : Nat} : (lstT l f kn j).length = min kn ((l.take j).filter fun p => !ltB p.k f).length := by simp [lstT]
theorem lstT_full {l : List PairZ} {f : ByteArray} {kn j : Nat} {p : PairZ} (h : l[j]? = some p) (hx : kn ≤ (lstT l f kn j).length) : lstT l f kn (j + 1) = lstT l f kn j := by
  cases hq : ltB p.k f
  · rw [lstT_len] at hx
    unfold lstT
    rw [take_snocP l j p h, List.filter_append, List.take_append_of_le_length (by omega)]
  · exact lstT_no h hq
theorem lstT_add {l : List PairZ} {f : ByteArray} {kn j : Nat} {p : PairZ} (h : l[j]? = some p) (hq : ltB p.k f = false) (hx : (lstT l f kn j).length < kn) : lstT l f kn (j + 1) = lstT l f kn j ++ [p.k] := by
  rw [lstT_len] at hx
  unfold lstT
  rw [take_snocP l j p h, List.filter_append, show (List.filter (fun p => !ltB p.k f) [p]) = [p] by simp [List.filter_cons, hq]]
  generalize (List.filter (fun p => !ltB p.k f) (List.take j l)) = z at *
  rw [List.take_of_length_le (l := z ++ [p]) (by simp; omega), List.take_of_length_le (l := z) (by omega)]
  simp
theorem lstT_end {l : List PairZ} {f : ByteArray} {kn n : Nat} {K Y : Int} (hm : mayB ⟨K, Y, l⟩ = true) (hn : l.length = n) {k : Int} (hk : k.toNat = kn) : listR ⟨K, Y, l⟩ f k = lstT l f kn n := by
  unfold listR lstT
  rw [hm, hk, List.take_of_length_le (l := l) (by omega)]
  rfl
set_option maxRecDepth 100000 in
set_option maxHeartbeats 4000000 in
theorem rlist_any {w : World} {n c : Nat} {A : Option Addr} {l : List PairZ} (K Y : Int) (f : ByteArray) (k : Int) (N : Nat) (zs : List ByteArray) (h : Prs w w.heap.size A n l) (hn : n ≤ 1000) (hz : listR ⟨K, Y, l⟩ f k = zs) (hN : zs.length = N) :
    Calls Try.prog 23 #[.agg #[.int .i64 K, .int .i64 Y, .slice A n c], .string f, .int .i64 k] w (MadeT w N zs) := by
  obtain ⟨W1, hW1⟩ : ∃ W, W = w.alloc (.cells #[.int .i64 K, .int .i64 Y, .slice A n c] 24) := ⟨_, rfl⟩
  have b1 := Lib.hid (show Below w.heap.size w W1 by rw [hW1]; exact below_one _ _)
  have X1 := Lib.hid (show SBox W1 w.heap.size K Y A n c by rw [hW1]; exact sbox_new _ _ _ _ _ _ _ _ rfl)
  have HG := Lib.hid ((h.below b1.out (Nat.le_refl _)).more b1.out.size)
  have L := Lib.hid h.len
  have HW1 := Lib.hid hW1
  clear hW1 h
  cases hm : mayB ⟨K, Y, l⟩ with
  | false =>
    have e1 : zs = [] := by rw [← hz]; unfold listR; rw [hm]; rfl
    subst e1
    obtain rfl : 0 = N := hN
    have MM := Lib.hid (rmay_any K Y c false HG.out (Nat.le_refl _) hn hm)
    clear hm HG hz
    go_enter Try.func23, Try.ntmps23
    go_upto_region 1 with fail
    rw [← HW1.out]
    obtain ⟨h1, h2, h3⟩ := X1.out
    go_wp2
    go_loopw [7, 8] (fun v i wr => v = .slice none 0 0 ∧ i = .int .i64 0 ∧ wr = W1) (fun _ i _ => 0)
    case atStart => exact ⟨rfl, rfl, by trivial⟩
    case round =>
      obtain ⟨rfl, rfl, hwr⟩ := hrel
      subst hwr
      by_cases hlt : 0 < n
      · have hltI : (0 : Int) < (n : Int) := by omega
        go_wp2_with (go_at_call 25; refine MM.out.mono ?_; rintro e w5 ⟨rfl, b5⟩; have B5 := Lib.hid (b1.out.trans (b5.mono b1.out.size)); clear b5)
        go_ret
        exact ⟨none, 0, rfl, World.ownsRow_nil _ _ _ _, B5.out⟩
      · obtain rfl : n = 0 := by omega
        go_wp2
        go_ret
        exact ⟨none, 0, rfl, World.ownsRow_nil _ _ _ _, b1.out⟩
  | true =>
  obtain ⟨kn, hkn⟩ : ∃ kn, k.toNat = kn := ⟨_, rfl⟩
  have HE := Lib.hid ((lstT_end hm L.out hkn).symm.trans hz)
  have HZ := Lib.hid hN
  have MM := Lib.hid (fun (V : World) (hV : Below W1.heap.size W1 V) => rmay_any (w := V) K Y c true (HG.out.grow hV) (Nat.le_refl _) hn hm)
  have HC := Lib.hid (fun (V : World) (hV : Below W1.heap.size W1 V) => X1.out.grow hV)
  have own0 := Lib.hid (World.ownsRow_nil W1 W1.heap.size 9 1)
  clear hm hz hN
  go_enter Try.func23, Try.ntmps23
  go_upto_region 1 with fail
  rw [← HW1.out]
  clear HW1
  go_wp2
  go_loopw [7, 8] (fun v i wr => ∃ j x : Nat, j ≤ n ∧ x ≤ j ∧ i = .int .i64 j ∧ Hid (Below W1.heap.size W1 wr) ∧ ∃ D d, v = .slice D x d ∧ Hid (wr.ownsRow W1.heap.size 9 1 (.slice D x d) x (svs (lstT l f kn j)))) (fun _ i _ => n - (intOf i).toNat)
  case atStart => exact ⟨0, 0, by omega, by omega, rfl, Lib.hid (Below.refl _ _), none, 0, rfl, Lib.hid (by rw [lstT_zero]; exact own0.out)⟩
  case round =>
    obtain ⟨j, x, hj, hx, rfl, HW, D, d, rfl, HO⟩ := hrel
    have HXL : Hid ((lstT l f kn j).length = x) := Lib.hid (by have := HO.out.1; rw [svs_len] at this; omega)
    obtain ⟨h1, h2, h3⟩ := HC.out _ HW.out
    by_cases hlt : j < n
    · have hltI : (j : Int) < (n : Int) := by omega
      go_upto_region 5 with (first
        | (go_at_call 25; refine (MM.out _ HW.out).mono ?_; rintro e w5 ⟨rfl, b5⟩; have BB := Lib.hid b5; have B5 := Lib.hid (HW.out.trans (b5.mono HW.out.size)); clear b5)
        | fail)
      clear h1 h2 h3
      have HO5 := Lib.hid (own_below HO.out BB.out (Nat.le_refl _))
      obtain ⟨h1, h2, h3⟩ := HC.out _ B5.out
      obtain ⟨b, off, p, rfl, hb, HK, hpo, c0, c1⟩ := (HG.out.grow B5.out).at_ hlt
      clear hpo c1 HO BB HW
      cases hq : ltB p.k f with
      | true =>
        have SK : Op.bytesLess p.k.toList f.toList = true := hq
        have HT := Lib.hid (lstT_no (kn := kn) HK.out hq)
        clear hq
        go_wp2
        go_roundw
        case rel => exact ⟨j + 1, x, by omega, by omega, by go_num, B5, D, d, rfl, Lib.hid (by rw [HT.out]; exact HO5.out)⟩
        case measure => simp [intOf]; omega
      | false =>
        have SK : Op.bytesLess p.k.toList f.toList = false := hq
        by_cases hxk : (x : Int) < k
        · have HT := Lib.hid (lstT_add (kn := kn) HK.out hq (by rw [HXL.out]; omega))
          have hsz := B5.out.size
          have LN := Lib.hid (lies_newS w5 p.k 9 w5.heap.size rfl)
          have OW := Lib.hid (HO5.out.alloc (.cells #[.string p.k] 9))
          have BW := Lib.hid (B5.out.alloc hsz (.cells #[.string p.k] 9))
          clear hq
          go_wp2_with (at_builtin; refine wpList_app _ rfl (.tmp 34) (.tmp 41) 48 rfl W1.heap.size 9 1 16 Try.underlying48 str_info (by omega) _ x (svs (lstT l f kn j)) rfl OW.out _ 1 1 [.string p.k] rfl LN.out.1 LN.out.2 (str_one _) (by unfold maxLen; omega) (by omega) (by simp; omega) ?_; intro v1 w1 ho1 hg1; have B1 := Lib.hid (BW.out.grown hg1 (Nat.le_trans hsz (by simp)) (fun q hq => (OW.out.lt q hq).1)); have HO1 := Lib.hid ho1; clear ho1 hg1; obtain ⟨D1, d1, rfl, _, _⟩ := own_shape1 HO1.out)
          go_roundw
          case rel => exact ⟨j + 1, x + 1, by omega, by omega, by go_num, B1, D1, d1, rfl, Lib.hid (by rw [HT.out, svs_app]; exact HO1.out)⟩
          case measure => simp [intOf]; omega
        · have HT := Lib.hid (lstT_full (f := f) (kn := kn) HK.out (by rw [HXL.out]; omega))
          clear hq
          go_wp2
          go_roundw
          case rel => exact ⟨j + 1, x, by omega, by omega, by go_num, B5, D, d, rfl, Lib.hid (by rw [HT.out]; exact HO5.out)⟩
          case measure => simp [intOf]; omega
    · have e : j = n := by omega
      subst e
      have hzN : x = N := by rw [← HXL.out, HE.out]; exact HZ.out
      subst hzN
      go_wp2
      go_ret
      have ho := HO.out
      rw [HE.out] at ho
      exact ⟨D, d, rfl, own_base ho b1.out.size, b1.out.trans (HW.out.mono b1.out.size)⟩
end Go.Proofs.Ytmlkcedhjnmfgaa
