/- The first place of which a closure tells that it is so. -/
import Derived.Test.YtlapdocikhjkcaaRpA
namespace Go.Proofs.Ytlapdocikhjkcaa
open Go.ChangeShapes Go.WideShapes Go.ChangeAt Go.RowKit
set_option linter.unusedVariables false
set_option linter.unusedSimpArgs false
open Plain Sha Au Rp
theorem quiet_rel {P : Program} {f : FuncId} {args : Array Value} {w : World} {n : Nat} {v : Value} (h : ∀ m, Calls P f args (w.drewN m) (Quiet v (w.drewN m))) : Calls P f args (w.drewN n) fun e w' => e = .returned v ∧ ∃ m, w' = w.drewN m :=
  (h n).mono fun _ _ ⟨he, m, hm⟩ => ⟨he, n + m, by rw [hm, World.drewN_drewN]⟩
theorem quiet_rel_add {P : Program} {f : FuncId} {args : Array Value} {w : World} {a n : Nat} {v : Value} (h : ∀ m, Calls P f args (w.drewN m) (Quiet v (w.drewN m))) : Calls P f args (w.drewN (a + n)) fun e w'' => e = .returned v ∧ ∃ m, w'' = w.drewN (a + m) :=
  (h (a + n)).mono fun _ _ ⟨he, m, hm⟩ => ⟨he, n + m, by rw [hm, World.drewN_drewN, Nat.add_assoc]⟩
theorem quiet_down {P : Program} {f : FuncId} {args : Array Value} {w : World} {v : Value} {m : Nat} (h : ∀ m, Calls P f args (w.drewN m) (Quiet v (w.drewN m))) (k : Nat) : Calls P f args ((w.drewN m).drewN k) (Quiet v ((w.drewN m).drewN k)) := by
  rw [World.drewN_drewN]; exact h _
theorem Quiet.belowQ {v : Value} {w w' : World} {e : Ending} (h : Quiet v w e w') : e = .returned v ∧ Below w.heap.size w w' := by
  obtain ⟨h1, m, h2⟩ := h
  subst h2
  exact ⟨h1, below_drewN (Below.refl _ _) m⟩
set_option maxRecDepth 100000 in
set_option maxHeartbeats 1000000 in
theorem first_wrong {w : World} {n pos b1 b2 : Nat} {p : Nat → Bool} (hn : n ≤ 9223372036854775807) (hp : IsF p n pos) (hF : ∀ (k m : Nat), k < n → Calls Try.prog 28 #[.int .i64 (k : Nat), .pointer (some ⟨b1, 0, none⟩)] (w.drewN m) (Quiet (.bool (p k)) (w.drewN m))) :
    Calls Try.prog 29 #[.int .i64 n, .func (.func 28) #[] #[.pointer (some ⟨b1, 0, none⟩)]] w (Quiet (.int .i64 pos) w) := by
  have HF := Lib.hid hF
  have HP := Lib.hid hp
  have hpn := hp.le
  clear hF hp
  go_enter Try.func29, Try.ntmps29
  go_wp2
  go_loopw [7] (fun i wr => ∃ k : Nat, k ≤ pos ∧ i = .int .i64 k ∧ Hid (∃ m, wr = w.drewN m)) (fun i _ => n - (intOf i).toNat)
  case atStart => exact ⟨0, by omega, rfl, Lib.hid ⟨0, rfl⟩⟩
  case round =>
    obtain ⟨k, hk, rfl, HW⟩ := hrel
    by_cases hlt : k < n
    · have hltI : (k : Int) < (n : Int) := by omega
      obtain ⟨m0, hm0⟩ := HW.out
      have HCL := Lib.hid (hm0 ▸ HF.out k m0 hlt)
      have HM := Lib.hid hm0
      clear hm0
      rcases Nat.lt_or_ge k pos with h1 | h1
      · have HPK := HP.out.no k h1
        rw [HPK] at HCL
        clear HPK
        go_wp2_with (refine HCL.out.mono ?_; rintro e w5 ⟨rfl, hb5⟩; have HW5 : Hid (∃ m, w5 = w.drewN m) := Lib.hid (by obtain ⟨m1, hm1⟩ := hb5; exact ⟨m0 + m1, by rw [hm1, HM.out, World.drewN_drewN]⟩); clear hb5)
        go_roundw
        case rel => exact ⟨k + 1, by omega, by go_num, HW5⟩
        case measure => simp [intOf]; omega
      · have e : k = pos := by omega
        subst e
        have HPK := HP.out.yes hlt
        rw [HPK] at HCL
        clear HPK
        go_wp2_with (refine HCL.out.mono ?_; rintro e w5 ⟨rfl, hb5⟩; have HW5 : Hid (∃ m, w5 = w.drewN m) := Lib.hid (by obtain ⟨m1, hm1⟩ := hb5; exact ⟨m0 + m1, by rw [hm1, HM.out, World.drewN_drewN]⟩); clear hb5)
        go_ret
        exact ⟨rfl, HW5.out⟩
    · have e : pos = n := by omega
      have e2 : k = n := by omega
      subst e2 e
      go_wp2
      go_ret
      exact ⟨rfl, HW.out⟩
set_option maxRecDepth 100000 in
set_option maxHeartbeats 1000000 in
theorem first_eq {w : World} {n pos b1 b2 : Nat} {p : Nat → Bool} (hn : n ≤ 9223372036854775807) (hp : IsF p n pos) (hF : ∀ (k m : Nat), k < n → Calls Try.prog 36 #[.int .i64 (k : Nat), .pointer (some ⟨b1, 0, none⟩), .pointer (some ⟨b2, 0, none⟩)] (w.drewN m) (Quiet (.bool (p k)) (w.drewN m))) :
    Calls Try.prog 29 #[.int .i64 n, .func (.func 36) #[] #[.pointer (some ⟨b1, 0, none⟩), .pointer (some ⟨b2, 0, none⟩)]] w (Quiet (.int .i64 pos) w) := by
  have HF := Lib.hid hF
  have HP := Lib.hid hp
  have hpn := hp.le
  clear hF hp
  go_enter Try.func29, Try.ntmps29
  go_wp2
  go_loopw [7] (fun i wr => ∃ k : Nat, k ≤ pos ∧ i = .int .i64 k ∧ Hid (∃ m, wr = w.drewN m)) (fun i _ => n - (intOf i).toNat)
  case atStart => exact ⟨0, by omega, rfl, Lib.hid ⟨0, rfl⟩⟩
  case round =>
    obtain ⟨k, hk, rfl, HW⟩ := hrel
    by_cases hlt : k < n
    · have hltI : (k : Int) < (n : Int) := by omega
      obtain ⟨m0, hm0⟩ := HW.out
      have HCL := Lib.hid (hm0 ▸ HF.out k m0 hlt)
      have HM := Lib.hid hm0
      clear hm0
      rcases Nat.lt_or_ge k pos with h1 | h1
      · have HPK := HP.out.no k h1
        rw [HPK] at HCL
        clear HPK
        go_wp2_with (refine HCL.out.mono ?_; rintro e w5 ⟨rfl, hb5⟩; have HW5 : Hid (∃ m, w5 = w.drewN m) := Lib.hid (by obtain ⟨m1, hm1⟩ := hb5; exact ⟨m0 + m1, by rw [hm1, HM.out, World.drewN_drewN]⟩); clear hb5)
        go_roundw
        case rel => exact ⟨k + 1, by omega, by go_num, HW5⟩
        case measure => simp [intOf]; omega
      · have e : k = pos := by omega
        subst e
        have HPK := HP.out.yes hlt
        rw [HPK] at HCL
        clear HPK
        go_wp2_with (refine HCL.out.mono ?_; rintro e w5 ⟨rfl, hb5⟩; have HW5 : Hid (∃ m, w5 = w.drewN m) := Lib.hid (by obtain ⟨m1, hm1⟩ := hb5; exact ⟨m0 + m1, by rw [hm1, HM.out, World.drewN_drewN]⟩); clear hb5)
        go_ret
        exact ⟨rfl, HW5.out⟩
    · have e : pos = n := by omega
      have e2 : k = n := by omega
      subst e2 e
      go_wp2
      go_ret
      exact ⟨rfl, HW.out⟩
set_option maxRecDepth 100000 in
set_option maxHeartbeats 1000000 in
theorem first_ge {w : World} {n pos b1 b2 : Nat} {p : Nat → Bool} (hn : n ≤ 9223372036854775807) (hp : IsF p n pos) (hF : ∀ (k m : Nat), k < n → Calls Try.prog 30 #[.int .i64 (k : Nat), .pointer (some ⟨b1, 0, none⟩), .pointer (some ⟨b2, 0, none⟩)] (w.drewN m) (Quiet (.bool (p k)) (w.drewN m))) :
    Calls Try.prog 29 #[.int .i64 n, .func (.func 30) #[] #[.pointer (some ⟨b1, 0, none⟩), .pointer (some ⟨b2, 0, none⟩)]] w (Quiet (.int .i64 pos) w) := by
  have HF := Lib.hid hF
  have HP := Lib.hid hp
  have hpn := hp.le
  clear hF hp
  go_enter Try.func29, Try.ntmps29
  go_wp2
  go_loopw [7] (fun i wr => ∃ k : Nat, k ≤ pos ∧ i = .int .i64 k ∧ Hid (∃ m, wr = w.drewN m)) (fun i _ => n - (intOf i).toNat)
  case atStart => exact ⟨0, by omega, rfl, Lib.hid ⟨0, rfl⟩⟩
  case round =>
    obtain ⟨k, hk, rfl, HW⟩ := hrel
    by_cases hlt : k < n
    · have hltI : (k : Int) < (n : Int) := by omega
      obtain ⟨m0, hm0⟩ := HW.out
      have HCL := Lib.hid (hm0 ▸ HF.out k m0 hlt)
      have HM := Lib.hid hm0
      clear hm0
      rcases Nat.lt_or_ge k pos with h1 | h1
      · have HPK := HP.out.no k h1
        rw [HPK] at HCL
        clear HPK
        go_wp2_with (refine HCL.out.mono ?_; rintro e w5 ⟨rfl, hb5⟩; have HW5 : Hid (∃ m, w5 = w.drewN m) := Lib.hid (by obtain ⟨m1, hm1⟩ := hb5; exact ⟨m0 + m1, by rw [hm1, HM.out, World.drewN_drewN]⟩); clear hb5)
        go_roundw
        case rel => exact ⟨k + 1, by omega, by go_num, HW5⟩
        case measure => simp [intOf]; omega
      · have e : k = pos := by omega
        subst e
        have HPK := HP.out.yes hlt
        rw [HPK] at HCL
        clear HPK
        go_wp2_with (refine HCL.out.mono ?_; rintro e w5 ⟨rfl, hb5⟩; have HW5 : Hid (∃ m, w5 = w.drewN m) := Lib.hid (by obtain ⟨m1, hm1⟩ := hb5; exact ⟨m0 + m1, by rw [hm1, HM.out, World.drewN_drewN]⟩); clear hb5)
        go_ret
        exact ⟨rfl, HW5.out⟩
    · have e : pos = n := by omega
      have e2 : k = n := by omega
      subst e2 e
      go_wp2
      go_ret
      exact ⟨rfl, HW.out⟩
set_option maxRecDepth 100000 in
set_option maxHeartbeats 1000000 in
theorem first_gt {w : World} {n pos b1 b2 : Nat} {p : Nat → Bool} (hn : n ≤ 9223372036854775807) (hp : IsF p n pos) (hF : ∀ (k m : Nat), k < n → Calls Try.prog 31 #[.int .i64 (k : Nat), .pointer (some ⟨b1, 0, none⟩), .pointer (some ⟨b2, 0, none⟩)] (w.drewN m) (Quiet (.bool (p k)) (w.drewN m))) :
    Calls Try.prog 29 #[.int .i64 n, .func (.func 31) #[] #[.pointer (some ⟨b1, 0, none⟩), .pointer (some ⟨b2, 0, none⟩)]] w (Quiet (.int .i64 pos) w) := by
  have HF := Lib.hid hF
  have HP := Lib.hid hp
  have hpn := hp.le
  clear hF hp
  go_enter Try.func29, Try.ntmps29
  go_wp2
  go_loopw [7] (fun i wr => ∃ k : Nat, k ≤ pos ∧ i = .int .i64 k ∧ Hid (∃ m, wr = w.drewN m)) (fun i _ => n - (intOf i).toNat)
  case atStart => exact ⟨0, by omega, rfl, Lib.hid ⟨0, rfl⟩⟩
  case round =>
    obtain ⟨k, hk, rfl, HW⟩ := hrel
    by_cases hlt : k < n
    · have hltI : (k : Int) < (n : Int) := by omega
      obtain ⟨m0, hm0⟩ := HW.out
      have HCL := Lib.hid (hm0 ▸ HF.out k m0 hlt)
      have HM := Lib.hid hm0
      clear hm0
      rcases Nat.lt_or_ge k pos with h1 | h1
      · have HPK := HP.out.no k h1
        rw [HPK] at HCL
        clear HPK
        go_wp2_with (refine HCL.out.mono ?_; rintro e w5 ⟨rfl, hb5⟩; have HW5 : Hid (∃ m, w5 = w.drewN m) := Lib.hid (by obtain ⟨m1, hm1⟩ := hb5; exact ⟨m0 + m1, by rw [hm1, HM.out, World.drewN_drewN]⟩); clear hb5)
        go_roundw
        case rel => exact ⟨k + 1, by omega, by go_num, HW5⟩
        case measure => simp [intOf]; omega
      · have e : k = pos := by omega
        subst e
        have HPK := HP.out.yes hlt
        rw [HPK] at HCL
        clear HPK
        go_wp2_with (refine HCL.out.mono ?_; rintro e w5 ⟨rfl, hb5⟩; have HW5 : Hid (∃ m, w5 = w.drewN m) := Lib.hid (by obtain ⟨m1, hm1⟩ := hb5; exact ⟨m0 + m1, by rw [hm1, HM.out, World.drewN_drewN]⟩); clear hb5)
        go_ret
        exact ⟨rfl, HW5.out⟩
    · have e : pos = n := by omega
      have e2 : k = n := by omega
      subst e2 e
      go_wp2
      go_ret
      exact ⟨rfl, HW.out⟩
set_option maxRecDepth 100000 in
set_option maxHeartbeats 2000000 in
theorem pmay_any {w : World} {B n : Nat} {A : Option Addr} {l : List LX} (c : Nat) (q : Bool) (h : Las w B A n l) (hB : B ≤ w.heap.size) (hn : n ≤ 9223372036854775807) (hq : mayG LX.c LX.id l = q) :
    Calls Try.prog 15 #[.slice A n c] w (fun e w' => e = .returned (.bool q) ∧ Below w.heap.size w w') := by
  obtain ⟨W1, hW1⟩ : ∃ W, W = w.alloc (.cells #[.slice A n c] 24) := ⟨_, rfl⟩
  have b1 := Lib.hid (show Below w.heap.size w W1 by rw [hW1]; exact below_one _ _)
  have c1 : W1.cell? ⟨w.heap.size, 0, none⟩ = some (.slice A n c) := by rw [hW1, cell_of_row _ _ _ _ _ _ (heap_alloc_new w _)]; rfl
  have H1 := h.below b1.out hB
  obtain ⟨pos, hpos⟩ := isF_ex (wrongG LX.c LX.id l) n
  have e : q = decide (pos = n) := by
    rw [← hq, may_first (pos := pos) (by rw [h.len]; exact hpos), h.len]
  have FM := Lib.hid (fun m => first_wrong (b1 := w.heap.size) (b2 := 0) (w := W1.drewN m) hn hpos (fun k m' hk => by rw [World.drewN_drewN]; exact clos_wrong c _ (H1.keep fun _ _ => rfl) hk hn c1 rfl))
  have HW1 := Lib.hid hW1
  have HE := Lib.hid (show ((pos : Int) == (n : Int)) = q by
    rw [e]
    by_cases h0 : pos = n
    · simp [h0]
    · simp [h0]; omega)
  clear hW1 h H1 hpos hq e
  go_enter Try.func15, Try.ntmps15
  go_upto_region 2 with fail
  rw [← HW1.out]
  go_quiet ((go_at_call 29; first | exact quiet_rel FM.out | exact quiet_rel_add FM.out))
  go_wp2
  go_ret
  exact ⟨congrArg (fun z => Ending.returned (.bool z)) HE.out, below_drewN b1.out _⟩
end Go.Proofs.Ytlapdocikhjkcaa
