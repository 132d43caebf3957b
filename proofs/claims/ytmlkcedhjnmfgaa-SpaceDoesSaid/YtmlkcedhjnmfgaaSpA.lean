/- Which texts, limits, pairs may be; how much is in a space: the program's checks. -/
import Derived.Test.YtmlkcedhjnmfgaaSpM
import Derived.Laws.Cover1
namespace Go.Proofs.Ytmlkcedhjnmfgaa
open Go.ChangeShapes Go.WideShapes Go.ChangeAt Go.RowKit
set_option linter.unusedVariables false
set_option linter.unusedSimpArgs false
open Plain Sp
set_option maxHeartbeats 1000000 in
theorem iskey_any (k : ByteArray) (q : Bool) (h : keyB k = q) (w : World) : Calls Try.prog 34 #[.string k] w (fun e w' => e = .returned (.bool q) ∧ w' = w) := by
  subst h
  by_cases h1 : 1 ≤ (k.size : Int)
  · by_cases h2 : (k.size : Int) ≤ 24
    · have HM : Hid (keyB k = true) := Lib.hid (by simp only [keyB, Bool.and_eq_true, decide_eq_true_eq]; omega)
      rw [HM.out]
      go_enter Try.func34, Try.ntmps34
      go_wp2
      go_ret
      exact ⟨rfl, rfl⟩
    · have HM : Hid (keyB k = false) := Lib.hid (by simp only [keyB, Bool.and_eq_false_iff, decide_eq_false_iff_not]; omega)
      rw [HM.out]
      go_enter Try.func34, Try.ntmps34
      go_wp2
      go_ret
      exact ⟨rfl, rfl⟩
  · have HM : Hid (keyB k = false) := Lib.hid (by simp only [keyB, Bool.and_eq_false_iff, decide_eq_false_iff_not]; omega)
    rw [HM.out]
    go_enter Try.func34, Try.ntmps34
    go_wp2
    go_ret
    exact ⟨rfl, rfl⟩
theorem isval_any (k : ByteArray) (q : Bool) (h : valB k = q) (w : World) : Calls Try.prog 35 #[.string k] w (fun e w' => e = .returned (.bool q) ∧ w' = w) := by
  subst h
  by_cases h2 : (k.size : Int) ≤ 64
  · have HM : Hid (valB k = true) := Lib.hid (by simp only [valB, decide_eq_true_eq]; omega)
    rw [HM.out]
    go_enter Try.func35, Try.ntmps35
    go_wp2
    go_ret
    exact ⟨rfl, rfl⟩
  · have HM : Hid (valB k = false) := Lib.hid (by simp only [valB, decide_eq_false_iff_not]; omega)
    rw [HM.out]
    go_enter Try.func35, Try.ntmps35
    go_wp2
    go_ret
    exact ⟨rfl, rfl⟩
theorem lim_any (K Y : Int) (q : Bool) (h : limB K Y = q) (w : World) : Calls Try.prog 45 #[.int .i64 K, .int .i64 Y] w (fun e w' => e = .returned (.bool q) ∧ w' = w) := by
  subst h
  by_cases h1 : 0 ≤ K
  · by_cases h2 : K ≤ 64
    · by_cases h3 : 0 ≤ Y
      · by_cases h4 : Y ≤ 4096
        · have HM : Hid (limB K Y = true) := Lib.hid (by simp [limB, *])
          rw [HM.out]
          go_enter Try.func45, Try.ntmps45
          go_wp2
          go_ret
          exact ⟨rfl, rfl⟩
        · have HM : Hid (limB K Y = false) := Lib.hid (by simp [limB, *])
          rw [HM.out]
          go_enter Try.func45, Try.ntmps45
          go_wp2
          go_ret
          exact ⟨rfl, rfl⟩
      · have HM : Hid (limB K Y = false) := Lib.hid (by simp [limB, *])
        rw [HM.out]
        go_enter Try.func45, Try.ntmps45
        go_wp2
        go_ret
        exact ⟨rfl, rfl⟩
    · have HM : Hid (limB K Y = false) := Lib.hid (by simp [limB, *])
      rw [HM.out]
      go_enter Try.func45, Try.ntmps45
      go_wp2
      go_ret
      exact ⟨rfl, rfl⟩
  · have HM : Hid (limB K Y = false) := Lib.hid (by simp [limB, *])
    rw [HM.out]
    go_enter Try.func45, Try.ntmps45
    go_wp2
    go_ret
    exact ⟨rfl, rfl⟩
theorem drop_atP {l : List PairZ} {k : Nat} {p : PairZ} (h : l[k]? = some p) : l.drop k = p :: l.drop (k + 1) := by
  obtain ⟨hk, rfl⟩ := List.getElem?_eq_some_iff.1 h
  exact List.drop_eq_getElem_cons hk
theorem take_snocP (l : List PairZ) (k : Nat) (g : PairZ) (h : l[k]? = some g) : l.take (k + 1) = l.take k ++ [g] := by
  rw [List.take_add_one, h]; rfl
theorem cnt_snoc {l : List PairZ} {k : Nat} {p : PairZ} (h : l[k]? = some p) : cnt (l.take (k + 1)) = cnt (l.take k) + (p.k.size + p.v.size) := by
  rw [take_snocP l k p h, cnt_app]; simp [cnt]
theorem cnt_take (l : List PairZ) (k : Nat) : cnt (l.take k) ≤ cnt l := by
  conv => rhs; rw [← List.take_append_drop k l, cnt_app]
  omega
/-- What one pair more asks. -/
theorem rise_step {l : List PairZ} {k : Nat} {p : PairZ} {a : ByteArray} {q : Bool} (h : l[k]? = some p) (hq : riseP a (l.drop k) = q) :
    (keyB p.k = false → q = false) ∧ (valB p.v = false → q = false) ∧ (ltB a p.k = false → q = false) ∧ (keyB p.k = true → valB p.v = true → ltB a p.k = true → riseP p.k (l.drop (k + 1)) = q) := by
  rw [drop_atP h] at hq
  simp only [riseP] at hq
  refine ⟨fun e => ?_, fun e => ?_, fun e => ?_, fun e1 e2 e3 => ?_⟩
  · rw [← hq, e]; rfl
  · rw [← hq, e]; simp
  · rw [← hq, e]; simp
  · rw [← hq, e1, e2, e3]; rfl
set_option maxRecDepth 100000 in
set_option maxHeartbeats 4000000 in
theorem rise_any {w : World} {B n : Nat} {A : Option Addr} {l : List PairZ} (c : Nat) (q : Bool) (h : Prs w B A n l) (hB : B ≤ w.heap.size) (hn : n ≤ maxLen) (hq : riseP ⟨#[]⟩ l = q) :
    Calls Try.prog 46 #[.slice A n c] w (fun e w' => e = .returned (.bool q) ∧ Below w.heap.size w w') := by
  unfold maxLen at hn
  have L := Lib.hid h.len
  have HG := Lib.hid h
  have HB := Lib.hid hB
  have HQ := Lib.hid hq
  clear h hB hq
  go_enter Try.func46, Try.ntmps46
  go_wp2
  go_loopw [3, 8] (fun a i wr => ∃ k : Nat, k ≤ n ∧ i = .int .i64 k ∧ Hid (Below w.heap.size w wr) ∧ ∃ x : ByteArray, a = .string x ∧ Hid (riseP x (l.drop k) = q)) (fun _ i _ => n - (intOf i).toNat)
  case atStart => exact ⟨0, by omega, rfl, Lib.hid (Below.refl _ _), _, rfl, Lib.hid (by rw [List.drop_zero]; exact HQ.out)⟩
  case round =>
    obtain ⟨k, hk, rfl, HW, x, rfl, HY⟩ := hrel
    by_cases hlt : k < n
    · have hltI : (k : Int) < (n : Int) := by omega
      obtain ⟨b, off, p, rfl, hb, HK, hpo, c0, c1⟩ := (HG.out.below HW.out HB.out).at_ hlt
      have hbl : b < wr.heap.size := World.block_lt_of_cell? _ _ c0
      have HD := Lib.hid (rise_step HK.out HY.out)
      have HW2 : Hid (∀ o, Below w.heap.size w (wr.alloc o)) := Lib.hid (fun o => HW.out.alloc HW.out.size _)
      clear hpo
      cases hk1 : keyB p.k
      · have e : q = false := HD.out.1 hk1
        subst e
        have CK := Lib.hid (iskey_any p.k false hk1)
        clear hk1
        go_wp2_with (go_at_call 34; refine (CK.out _).mono ?_; rintro e w5 ⟨rfl, rfl⟩)
        go_ret
        exact ⟨rfl, HW2.out _⟩
      have CK := Lib.hid (iskey_any p.k true hk1)
      have HK1 := Lib.hid hk1
      clear hk1
      cases hv1 : valB p.v
      · have e : q = false := HD.out.2.1 hv1
        subst e
        have CV := Lib.hid (isval_any p.v false hv1)
        clear hv1
        go_wp2_with (first
          | (go_at_call 34; refine (CK.out _).mono ?_; rintro e w5 ⟨rfl, rfl⟩)
          | (go_at_call 35; refine (CV.out _).mono ?_; rintro e w5 ⟨rfl, rfl⟩))
        go_ret
        exact ⟨rfl, HW2.out _⟩
      have CV := Lib.hid (isval_any p.v true hv1)
      have HV1 := Lib.hid hv1
      clear hv1
      cases hx : ltB x p.k
      · have e : q = false := HD.out.2.2.1 hx
        subst e
        have hle : (Op.bytesLess p.k.toList x.toList || p.k.toList == x.toList) = true := by rw [leq_of, hx]; rfl
        clear hx
        go_wp2_with (first
          | (go_at_call 34; refine (CK.out _).mono ?_; rintro e w5 ⟨rfl, rfl⟩)
          | (go_at_call 35; refine (CV.out _).mono ?_; rintro e w5 ⟨rfl, rfl⟩))
        go_ret
        exact ⟨rfl, HW2.out _⟩
      have hle : (Op.bytesLess p.k.toList x.toList || p.k.toList == x.toList) = false := by rw [leq_of, hx]; rfl
      have HD2 := Lib.hid (HD.out.2.2.2 HK1.out HV1.out hx)
      clear hx
      go_wp2_with (first
        | (go_at_call 34; refine (CK.out _).mono ?_; rintro e w5 ⟨rfl, rfl⟩)
        | (go_at_call 35; refine (CV.out _).mono ?_; rintro e w5 ⟨rfl, rfl⟩))
      go_roundw
      case rel => exact ⟨k + 1, by omega, by go_num, Lib.hid (HW2.out _), _, rfl, HD2⟩
      case measure => simp [intOf]; omega
    · have e : q = true := by
        rw [← HY.out, List.drop_eq_nil_of_le (by rw [L.out]; omega)]; rfl
      subst e
      go_wp2
      go_ret
      exact ⟨rfl, HW.out⟩
set_option maxRecDepth 100000 in
set_option maxHeartbeats 4000000 in
theorem size_any {w : World} {B n : Nat} {A : Option Addr} {l : List PairZ} (c : Nat) (q : Nat) (h : Prs w B A n l) (hB : B ≤ w.heap.size) (hn : n ≤ maxLen) (hq : cnt l = q) (hs : q ≤ 1152921504606846976) :
    Calls Try.prog 44 #[.slice A n c] w (fun e w' => e = .returned (.int .i64 q) ∧ Below w.heap.size w w') := by
  unfold maxLen at hn
  have L := Lib.hid h.len
  have HG := Lib.hid h
  have HB := Lib.hid hB
  have HQ := Lib.hid hq
  clear h hB hq
  go_enter Try.func44, Try.ntmps44
  go_wp2
  go_loopw [3, 8] (fun a i wr => ∃ k : Nat, k ≤ n ∧ i = .int .i64 k ∧ Hid (Below w.heap.size w wr) ∧ ∃ x : Nat, x ≤ q ∧ a = .int .i64 x ∧ Hid (x = cnt (l.take k))) (fun _ i _ => n - (intOf i).toNat)
  case atStart => exact ⟨0, by omega, rfl, Lib.hid (Below.refl _ _), 0, by omega, rfl, Lib.hid (by simp [cnt])⟩
  case round =>
    obtain ⟨k, hk, rfl, HW, x, hx, rfl, HY⟩ := hrel
    by_cases hlt : k < n
    · have hltI : (k : Int) < (n : Int) := by omega
      obtain ⟨b, off, p, rfl, hb, HK, hpo, c0, c1⟩ := (HG.out.below HW.out HB.out).at_ hlt
      have hbl : b < wr.heap.size := World.block_lt_of_cell? _ _ c0
      have HW2 : Hid (∀ o, Below w.heap.size w (wr.alloc o)) := Lib.hid (fun o => HW.out.alloc HW.out.size _)
      have hs2 : x + (p.k.size + p.v.size) ≤ q := by
        rw [HY.out, ← cnt_snoc HK.out, ← HQ.out]; exact cnt_take _ _
      have HY2 : Hid (x + (p.k.size + p.v.size) = cnt (l.take (k + 1))) := Lib.hid (by rw [HY.out, ← cnt_snoc HK.out])
      clear hpo
      have a1 : IntKind.i64.wrap ((p.k.size : Int) + (p.v.size : Int)) = ((p.k.size + p.v.size : Nat) : Int) := by rw [IntKind.wrap_i64]; omega
      have a2 : IntKind.i64.wrap ((x : Int) + ((p.k.size + p.v.size : Nat) : Int)) = ((x + (p.k.size + p.v.size) : Nat) : Int) := by rw [IntKind.wrap_i64]; omega
      go_wp2
      go_roundw
      case rel => exact ⟨k + 1, by omega, by go_num, Lib.hid (HW2.out _), x + (p.k.size + p.v.size), hs2, by simp, HY2⟩
      case measure => simp [intOf]; omega
    · have e : x = q := by
        rw [HY.out, List.take_of_length_le (by rw [L.out]; omega), HQ.out]
      subst e
      go_wp2
      go_ret
      exact ⟨rfl, HW.out⟩
end Go.Proofs.Ytmlkcedhjnmfgaa
