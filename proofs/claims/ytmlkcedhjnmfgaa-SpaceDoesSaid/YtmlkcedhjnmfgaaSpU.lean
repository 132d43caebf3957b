/- The document's own answers: Limits, Key, Value, Count, May. -/
import Derived.Test.YtmlkcedhjnmfgaaSpD
namespace Go.Proofs.Ytmlkcedhjnmfgaa
open Go.ChangeShapes Go.WideShapes Go.ChangeAt Go.RowKit
set_option linter.unusedVariables false
set_option linter.unusedSimpArgs false
open Plain Sp
theorem quiet_rel {P : Program} {f : FuncId} {args : Array Value} {w : World} {n : Nat} {v : Value} (h : ∀ m, Calls P f args (w.drewN m) (Quiet v (w.drewN m))) : Calls P f args (w.drewN n) fun e w' => e = .returned v ∧ ∃ m, w' = w.drewN m :=
  (h n).mono fun _ _ ⟨he, m, hm⟩ => ⟨he, n + m, by rw [hm, World.drewN_drewN]⟩
theorem quiet_rel_add {P : Program} {f : FuncId} {args : Array Value} {w : World} {a n : Nat} {v : Value} (h : ∀ m, Calls P f args (w.drewN m) (Quiet v (w.drewN m))) : Calls P f args (w.drewN (a + n)) fun e w'' => e = .returned v ∧ ∃ m, w'' = w.drewN (a + m) :=
  (h (a + n)).mono fun _ _ ⟨he, m, hm⟩ => ⟨he, n + m, by rw [hm, World.drewN_drewN, Nat.add_assoc]⟩
set_option maxHeartbeats 1000000 in
theorem rkey_any (k : ByteArray) (q : Bool) (h : keyB k = q) (w : World) : Calls Try.prog 39 #[.string k] w (Quiet (.bool q) w) := by
  subst h
  by_cases h1 : 0 < (k.size : Int)
  · by_cases h2 : (k.size : Int) ≤ 24
    · have HM : Hid (keyB k = true) := Lib.hid (by simp only [keyB, Bool.and_eq_true, decide_eq_true_eq]; omega)
      rw [HM.out]
      go_enter Try.func39, Try.ntmps39
      go_wp2
      go_ret
      exact ⟨rfl, 0, rfl⟩
    · have HM : Hid (keyB k = false) := Lib.hid (by simp only [keyB, Bool.and_eq_false_iff, decide_eq_false_iff_not]; omega)
      rw [HM.out]
      go_enter Try.func39, Try.ntmps39
      go_wp2
      go_ret
      exact ⟨rfl, 0, rfl⟩
  · have HM : Hid (keyB k = false) := Lib.hid (by simp only [keyB, Bool.and_eq_false_iff, decide_eq_false_iff_not]; omega)
    rw [HM.out]
    go_enter Try.func39, Try.ntmps39
    go_wp2
    go_ret
    exact ⟨rfl, 0, rfl⟩
theorem rval_any (k : ByteArray) (q : Bool) (h : valB k = q) (w : World) : Calls Try.prog 40 #[.string k] w (Quiet (.bool q) w) := by
  subst h
  by_cases h2 : (k.size : Int) ≤ 64
  · have HM : Hid (valB k = true) := Lib.hid (by simp only [valB, decide_eq_true_eq]; omega)
    rw [HM.out]
    go_enter Try.func40, Try.ntmps40
    go_wp2
    go_ret
    exact ⟨rfl, 0, rfl⟩
  · have HM : Hid (valB k = false) := Lib.hid (by simp only [valB, decide_eq_false_iff_not]; omega)
    rw [HM.out]
    go_enter Try.func40, Try.ntmps40
    go_wp2
    go_ret
    exact ⟨rfl, 0, rfl⟩
theorem rlim_any (K Y : Int) (q : Bool) (h : limB K Y = q) (w : World) : Calls Try.prog 33 #[.int .i64 K, .int .i64 Y] w (Quiet (.bool q) w) := by
  subst h
  by_cases h1 : 0 ≤ K
  · by_cases h2 : K ≤ 64
    · by_cases h3 : 0 ≤ Y
      · by_cases h4 : Y ≤ 4096
        · have HM : Hid (limB K Y = true) := Lib.hid (by simp [limB, *])
          rw [HM.out]
          go_enter Try.func33, Try.ntmps33
          go_wp2
          go_ret
          exact ⟨rfl, 0, rfl⟩
        · have HM : Hid (limB K Y = false) := Lib.hid (by simp [limB, *])
          rw [HM.out]
          go_enter Try.func33, Try.ntmps33
          go_wp2
          go_ret
          exact ⟨rfl, 0, rfl⟩
      · have HM : Hid (limB K Y = false) := Lib.hid (by simp [limB, *])
        rw [HM.out]
        go_enter Try.func33, Try.ntmps33
        go_wp2
        go_ret
        exact ⟨rfl, 0, rfl⟩
    · have HM : Hid (limB K Y = false) := Lib.hid (by simp [limB, *])
      rw [HM.out]
      go_enter Try.func33, Try.ntmps33
      go_wp2
      go_ret
      exact ⟨rfl, 0, rfl⟩
  · have HM : Hid (limB K Y = false) := Lib.hid (by simp [limB, *])
    rw [HM.out]
    go_enter Try.func33, Try.ntmps33
    go_wp2
    go_ret
    exact ⟨rfl, 0, rfl⟩
set_option maxRecDepth 100000 in
set_option maxHeartbeats 4000000 in
theorem rcount_any {w : World} {B n : Nat} {A : Option Addr} {l : List PairZ} (c : Nat) (q : Nat) (h : Prs w B A n l) (hn : n ≤ maxLen) (hq : cnt l = q) (hs : q ≤ 1152921504606846976) :
    Calls Try.prog 26 #[.slice A n c] w (Quiet (.int .i64 q) w) := by
  unfold maxLen at hn
  have L := Lib.hid h.len
  have HG := Lib.hid h
  have HQ := Lib.hid hq
  clear h hq
  go_enter Try.func26, Try.ntmps26
  go_wp2
  go_loopw [3, 4] (fun a i wr => ∃ k : Nat, k ≤ n ∧ i = .int .i64 k ∧ Hid (∃ m, wr = w.drewN m) ∧ ∃ x : Nat, x ≤ q ∧ a = .int .i64 x ∧ Hid (x = cnt (l.take k))) (fun _ i _ => n - (intOf i).toNat)
  case atStart => exact ⟨0, by omega, rfl, Lib.hid ⟨0, rfl⟩, 0, by omega, rfl, Lib.hid (by simp [cnt])⟩
  case round =>
    obtain ⟨k, hk, rfl, HW, x, hx, rfl, HY⟩ := hrel
    by_cases hlt : k < n
    · have hltI : (k : Int) < (n : Int) := by omega
      have HA : Hid (Prs wr B A n l) := Lib.hid (by
        obtain ⟨m, hm⟩ := HW.out
        rw [hm]; exact HG.out.drewN m)
      obtain ⟨b, off, p, rfl, hb, HK, hpo, c0, c1⟩ := HA.out.at_ hlt
      have hs2 : x + (p.k.size + p.v.size) ≤ q := by
        rw [HY.out, ← cnt_snoc HK.out, ← HQ.out]; exact cnt_take _ _
      have HY2 : Hid (x + (p.k.size + p.v.size) = cnt (l.take (k + 1))) := Lib.hid (by rw [HY.out, ← cnt_snoc HK.out])
      clear hpo
      have a1 : IntKind.i64.wrap ((x : Int) + (p.k.size : Int)) = (x : Int) + (p.k.size : Int) := by rw [IntKind.wrap_i64]; omega
      have a2 : IntKind.i64.wrap ((x : Int) + (p.k.size : Int) + (p.v.size : Int)) = (x : Int) + (p.k.size : Int) + (p.v.size : Int) := by rw [IntKind.wrap_i64]; omega
      go_wp2
      go_quiet (fail)
      go_wp2
      go_roundw
      case rel => exact ⟨k + 1, by omega, by go_num, sq_on HW ⟨_, rfl⟩, x + (p.k.size + p.v.size), hs2, congrArg (Value.int .i64) (by omega), HY2⟩
      case measure => simp [intOf]; omega
    · have e : x = q := by
        rw [HY.out, List.take_of_length_le (by rw [L.out]; omega), HQ.out]
      subst e
      go_wp2
      go_ret
      exact sq_more0 HW
end Go.Proofs.Ytmlkcedhjnmfgaa
