/- What a reader's calls tell: a field of one cell. -/
import Derived.Test.YtcihbkdpkhhhcaaTake
import Derived.Laws.BytesArg
namespace Go.Proofs.Ytcihbkdpkhhhcaa
open Go.ChangeShapes Go.WideShapes Go.ChangeAt Go.RowKit
set_option linter.unusedVariables false
open Plain
/-- The next k bytes are read: what is told, why the reader is bad behind it, what is left. -/
def tk {α : Type} (k : Nat) (okf : List Int → List Int → Bool) (val : List Int → α) (nv : α) (s : Int × List Int) : α × Int × List Int :=
  if s.1 = 0 ∧ k ≤ s.2.length ∧ okf (s.2.take k) (s.2.drop k) = true then (val (s.2.take k), 0, s.2.drop k) else (nv, if s.1 = 0 then 40 else s.1, [])
theorem tk_bad {α : Type} (k : Nat) (okf : List Int → List Int → Bool) (val : List Int → α) (nv : α) (why : Int) (zs : List Int) (h : why ≠ 0) : tk k okf val nv (why, zs) = (nv, why, []) := by
  unfold tk; rw [if_neg (by rintro ⟨h1, _⟩; exact h h1)]; simp only; rw [if_neg h]
theorem tk_short {α : Type} (k : Nat) (okf : List Int → List Int → Bool) (val : List Int → α) (nv : α) (zs : List Int) (h : zs.length < k) : tk k okf val nv (0, zs) = (nv, 40, []) := by
  unfold tk; rw [if_neg (by rintro ⟨_, h1, _⟩; simp only at h1; omega)]; rfl
theorem tk_no {α : Type} (k : Nat) (okf : List Int → List Int → Bool) (val : List Int → α) (nv : α) (zs : List Int) (h : okf (zs.take k) (zs.drop k) = false) : tk k okf val nv (0, zs) = (nv, 40, []) := by
  unfold tk; rw [if_neg (by rintro ⟨_, _, h1⟩; simp only at h1; rw [h] at h1; cases h1)]; rfl
theorem tk_ok {α : Type} (k : Nat) (okf : List Int → List Int → Bool) (val : List Int → α) (nv : α) (zs : List Int) (hk : k ≤ zs.length) (h : okf (zs.take k) (zs.drop k) = true) : tk k okf val nv (0, zs) = (val (zs.take k), 0, zs.drop k) := by
  unfold tk; rw [if_pos ⟨rfl, hk, h⟩]
/-- A reader's call whose answer is a value. -/
def Reads (w : World) (b : Nat) (B : Span) (v : Value) (s : Int × List Int) (e : Ending) (w' : World) : Prop := e = .returned v ∧ Rd w' b B s.1 s.2 ∧ w.grownBy w' (some b)
theorem take_u8_any {α : Type} (mk : α → Value) (nv : α) (hn : mk nv = .int .u8 0) {w : World} {b : Nat} {B : Span} {why : Int} {zs : List Int} (k : Nat) (okf : List Int → List Int → Bool) (val : List Int → α) (f : FuncId) (caps : Array Value) (hin : ∀ args W, (callFunc f args).run Try.prog W = .ok (.enter f args) W)
    (h : Rd w b B why zs)
    (hf : why = 0 → k ≤ zs.length → ∀ w1 A c, Rd w1 b B 0 (zs.drop k) → w.grownBy w1 (some b) → Bs w1 B.hi A k (zs.take k) → k ≤ c → c ≤ maxLen → Calls Try.prog f (#[.slice A k c] ++ caps) w1 (Makes w1 (okf (zs.take k) (zs.drop k)) (fun x _ => x = mk (val (zs.take k))))) :
    Calls Try.prog 49 #[.pointer (some ⟨b, 0, none⟩), .int .i64 k, .func (.func f) #[] caps] w (Reads w b B (mk (tk k okf val nv (why, zs)).1) (tk k okf val nv (why, zs)).2) := by
  by_cases hw : why = 0
  · subst hw
    by_cases hk : k ≤ zs.length
    · cases hok : okf (zs.take k) (zs.drop k)
      · rw [tk_no _ _ _ _ _ hok]
        rw [hok] at hf
        refine (take_u8_no k f caps hin h hk _ (hf rfl hk)).mono ?_
        rintro e w' ⟨rfl, r, g⟩
        exact ⟨by rw [hn], r, g⟩
      · rw [tk_ok _ _ _ _ _ hk hok]
        rw [hok] at hf
        refine (take_u8_ok k f caps hin h hk _ (hf rfl hk)).mono ?_
        rintro e w' ⟨x, ⟨rfl, r, g⟩, rfl⟩
        exact ⟨rfl, r, g⟩
    · rw [tk_short _ _ _ _ _ (by omega)]
      refine (take_u8_short _ _ h (by omega)).mono ?_
      rintro e w' ⟨rfl, r, g⟩
      exact ⟨by rw [hn], r, g⟩
  · rw [tk_bad _ _ _ _ _ _ hw]
    refine (take_u8_none _ _ why _ hw w (err_any h)).mono ?_
    rintro e w' ⟨rfl, rfl⟩
    refine ⟨by rw [hn], ?_, grown_refl _ _⟩
    have := h.bad hw
    subst this
    exact h
theorem take_i_any {α : Type} (mk : α → Value) (nv : α) (hn : mk nv = .int .i64 0) {w : World} {b : Nat} {B : Span} {why : Int} {zs : List Int} (k : Nat) (okf : List Int → List Int → Bool) (val : List Int → α) (f : FuncId) (caps : Array Value) (hin : ∀ args W, (callFunc f args).run Try.prog W = .ok (.enter f args) W)
    (h : Rd w b B why zs)
    (hf : why = 0 → k ≤ zs.length → ∀ w1 A c, Rd w1 b B 0 (zs.drop k) → w.grownBy w1 (some b) → Bs w1 B.hi A k (zs.take k) → k ≤ c → c ≤ maxLen → Calls Try.prog f (#[.slice A k c] ++ caps) w1 (Makes w1 (okf (zs.take k) (zs.drop k)) (fun x _ => x = mk (val (zs.take k))))) :
    Calls Try.prog 51 #[.pointer (some ⟨b, 0, none⟩), .int .i64 k, .func (.func f) #[] caps] w (Reads w b B (mk (tk k okf val nv (why, zs)).1) (tk k okf val nv (why, zs)).2) := by
  by_cases hw : why = 0
  · subst hw
    by_cases hk : k ≤ zs.length
    · cases hok : okf (zs.take k) (zs.drop k)
      · rw [tk_no _ _ _ _ _ hok]
        rw [hok] at hf
        refine (take_i_no k f caps hin h hk _ (hf rfl hk)).mono ?_
        rintro e w' ⟨rfl, r, g⟩
        exact ⟨by rw [hn], r, g⟩
      · rw [tk_ok _ _ _ _ _ hk hok]
        rw [hok] at hf
        refine (take_i_ok k f caps hin h hk _ (hf rfl hk)).mono ?_
        rintro e w' ⟨x, ⟨rfl, r, g⟩, rfl⟩
        exact ⟨rfl, r, g⟩
    · rw [tk_short _ _ _ _ _ (by omega)]
      refine (take_i_short _ _ h (by omega)).mono ?_
      rintro e w' ⟨rfl, r, g⟩
      exact ⟨by rw [hn], r, g⟩
  · rw [tk_bad _ _ _ _ _ _ hw]
    refine (take_i_none _ _ why _ hw w (err_any h)).mono ?_
    rintro e w' ⟨rfl, rfl⟩
    refine ⟨by rw [hn], ?_, grown_refl _ _⟩
    have := h.bad hw
    subst this
    exact h
theorem take_b_any {α : Type} (mk : α → Value) (nv : α) (hn : mk nv = .bool false) {w : World} {b : Nat} {B : Span} {why : Int} {zs : List Int} (k : Nat) (okf : List Int → List Int → Bool) (val : List Int → α) (f : FuncId) (caps : Array Value) (hin : ∀ args W, (callFunc f args).run Try.prog W = .ok (.enter f args) W)
    (h : Rd w b B why zs)
    (hf : why = 0 → k ≤ zs.length → ∀ w1 A c, Rd w1 b B 0 (zs.drop k) → w.grownBy w1 (some b) → Bs w1 B.hi A k (zs.take k) → k ≤ c → c ≤ maxLen → Calls Try.prog f (#[.slice A k c] ++ caps) w1 (Makes w1 (okf (zs.take k) (zs.drop k)) (fun x _ => x = mk (val (zs.take k))))) :
    Calls Try.prog 54 #[.pointer (some ⟨b, 0, none⟩), .int .i64 k, .func (.func f) #[] caps] w (Reads w b B (mk (tk k okf val nv (why, zs)).1) (tk k okf val nv (why, zs)).2) := by
  by_cases hw : why = 0
  · subst hw
    by_cases hk : k ≤ zs.length
    · cases hok : okf (zs.take k) (zs.drop k)
      · rw [tk_no _ _ _ _ _ hok]
        rw [hok] at hf
        refine (take_b_no k f caps hin h hk _ (hf rfl hk)).mono ?_
        rintro e w' ⟨rfl, r, g⟩
        exact ⟨by rw [hn], r, g⟩
      · rw [tk_ok _ _ _ _ _ hk hok]
        rw [hok] at hf
        refine (take_b_ok k f caps hin h hk _ (hf rfl hk)).mono ?_
        rintro e w' ⟨x, ⟨rfl, r, g⟩, rfl⟩
        exact ⟨rfl, r, g⟩
    · rw [tk_short _ _ _ _ _ (by omega)]
      refine (take_b_short _ _ h (by omega)).mono ?_
      rintro e w' ⟨rfl, r, g⟩
      exact ⟨by rw [hn], r, g⟩
  · rw [tk_bad _ _ _ _ _ _ hw]
    refine (take_b_none _ _ why _ hw w (err_any h)).mono ?_
    rintro e w' ⟨rfl, rfl⟩
    refine ⟨by rw [hn], ?_, grown_refl _ _⟩
    have := h.bad hw
    subst this
    exact h
theorem take_s_any {α : Type} (mk : α → Value) (nv : α) (hn : mk nv = .string { data := #[] }) {w : World} {b : Nat} {B : Span} {why : Int} {zs : List Int} (k : Nat) (okf : List Int → List Int → Bool) (val : List Int → α) (f : FuncId) (caps : Array Value) (hin : ∀ args W, (callFunc f args).run Try.prog W = .ok (.enter f args) W)
    (h : Rd w b B why zs)
    (hf : why = 0 → k ≤ zs.length → ∀ w1 A c, Rd w1 b B 0 (zs.drop k) → w.grownBy w1 (some b) → Bs w1 B.hi A k (zs.take k) → k ≤ c → c ≤ maxLen → Calls Try.prog f (#[.slice A k c] ++ caps) w1 (Makes w1 (okf (zs.take k) (zs.drop k)) (fun x _ => x = mk (val (zs.take k))))) :
    Calls Try.prog 59 #[.pointer (some ⟨b, 0, none⟩), .int .i64 k, .func (.func f) #[] caps] w (Reads w b B (mk (tk k okf val nv (why, zs)).1) (tk k okf val nv (why, zs)).2) := by
  by_cases hw : why = 0
  · subst hw
    by_cases hk : k ≤ zs.length
    · cases hok : okf (zs.take k) (zs.drop k)
      · rw [tk_no _ _ _ _ _ hok]
        rw [hok] at hf
        refine (take_s_no k f caps hin h hk _ (hf rfl hk)).mono ?_
        rintro e w' ⟨rfl, r, g⟩
        exact ⟨by rw [hn], r, g⟩
      · rw [tk_ok _ _ _ _ _ hk hok]
        rw [hok] at hf
        refine (take_s_ok k f caps hin h hk _ (hf rfl hk)).mono ?_
        rintro e w' ⟨x, ⟨rfl, r, g⟩, rfl⟩
        exact ⟨rfl, r, g⟩
    · rw [tk_short _ _ _ _ _ (by omega)]
      refine (take_s_short _ _ h (by omega)).mono ?_
      rintro e w' ⟨rfl, r, g⟩
      exact ⟨by rw [hn], r, g⟩
  · rw [tk_bad _ _ _ _ _ _ hw]
    refine (take_s_none _ _ why _ hw w (err_any h)).mono ?_
    rintro e w' ⟨rfl, rfl⟩
    refine ⟨by rw [hn], ?_, grown_refl _ _⟩
    have := h.bad hw
    subst this
    exact h
/-- Each reading, of why a reader is bad and what is left of it. -/
def yes2 (_ _ : List Int) : Bool := true
def intZ (b : List Int) : Int := wrap64 (numZ b)
def rByte := tk 1 yes2 (fun b => b.getD 0 0) 0
def rInt := tk 8 yes2 intZ 0
def rFlag := tk 1 (fun b _ => decide (b.getD 0 0 ≤ 1)) (fun b => b.getD 0 0 == 1) false
def rLen := tk 4 (fun b _ => decide (numZ b ≤ 65536)) numZ 0
def rCount (most : Int) := tk 8 (fun b r => decide (0 ≤ intZ b ∧ intZ b ≤ most ∧ intZ b ≤ (r.length : Nat))) intZ 0
def rBytes (s : Int × List Int) : List Int × Int × List Int := tk (rLen s).1.toNat yes2 id [] (rLen s).2
def rTag := tk 32 yes2 id (List.replicate 32 0)
theorem getD_take (zs : List Int) (k j : Nat) (h : j < k) : (zs.take k).getD j 0 = zs.getD j 0 := by
  simp [List.getD_eq_getElem?_getD, h]
theorem byte_mk {w : World} {B c : Nat} {A : Option Addr} {zs : List Int} (h : Bs w B A 1 zs) : Calls Try.prog 50 #[.slice A 1 c] w (Makes w true (fun x _ => x = .int .u8 (zs.getD 0 0))) := by
  obtain ⟨b, off, u, rfl, _, hu, _, _, hc⟩ := h.at_ (k := 0) (by omega)
  have HU := hu
  clear hu h
  rw [Nat.add_zero] at hc
  go_enter Try.func50, Try.ntmps50
  go_wp2
  go_ret2
  exact ⟨_, rfl, grown_refl _ _, by show _ = _; rw [HU.out]; rfl⟩
theorem byte_rd {w : World} {b : Nat} {B : Span} {why : Int} {zs : List Int} (h : Rd w b B why zs) : Calls Try.prog 22 #[.pointer (some ⟨b, 0, none⟩)] w (Reads w b B (.int .u8 (rByte (why, zs)).1) (rByte (why, zs)).2) := by
  have HC := Lib.hid (take_u8_any (Value.int .u8) 0 rfl 1 yes2 (fun b => b.getD 0 0) 50 #[] (in_any _ (by kernel_rfl)) h (fun _ _ w1 A c _ _ hb _ _ => byte_mk hb))
  clear h
  go_enter Try.func22, Try.ntmps22
  go_wp2_with (go_at_call 49; refine HC.out.mono ?_; rintro e w' ⟨rfl, r, g⟩)
  go_ret
  exact ⟨rfl, r, g⟩
theorem flag_mk {w : World} {B c : Nat} {A : Option Addr} {zs : List Int} (h : Bs w B A 1 zs) : Calls Try.prog 55 #[.slice A 1 c] w (Makes w (decide (zs.getD 0 0 ≤ 1)) (fun x _ => x = .bool (zs.getD 0 0 == 1))) := by
  obtain ⟨b, off, u, rfl, _, hu, _, _, hc⟩ := h.at_ (k := 0) (by omega)
  rw [hu.out]
  clear hu h
  rw [Nat.add_zero] at hc
  go_enter Try.func55, Try.ntmps55
  go_wp2
  go_quiet (fail)
  go_wp2
  go_ret2
  exact ⟨_, rfl, grown_drewN _ _ _, rfl⟩
theorem flag_rd {w : World} {b : Nat} {B : Span} {why : Int} {zs : List Int} (h : Rd w b B why zs) : Calls Try.prog 24 #[.pointer (some ⟨b, 0, none⟩)] w (Reads w b B (.bool (rFlag (why, zs)).1) (rFlag (why, zs)).2) := by
  have HC := Lib.hid (take_b_any Value.bool false rfl 1 (fun b _ => decide (b.getD 0 0 ≤ 1)) (fun b => b.getD 0 0 == 1) 55 #[] (in_any _ (by kernel_rfl)) h (fun _ _ w1 A c _ _ hb _ _ => flag_mk hb))
  clear h
  go_enter Try.func24, Try.ntmps24
  go_wp2_with (go_at_call 54; refine HC.out.mono ?_; rintro e w' ⟨rfl, r, g⟩)
  go_ret
  exact ⟨rfl, r, g⟩
theorem number_any {w : World} {B c : Nat} {A : Option Addr} {zs : List Int} (h : Bs w B A 8 zs) : Calls Try.prog 53 #[.slice A 8 c] w (fun e w' => e = .returned (.int .i64 (intZ zs)) ∧ ∃ m, w' = w.drewN m) := by
  have HC := Lib.hid (load64_any c h (by simp [maxLen]) 0 (by omega))
  have e1 : loadZ zs 0 8 = numZ zs := by
    have := loadZ_yes zs 0 8 (by rw [h.len]; omega)
    rw [List.drop_zero, List.take_of_length_le (by rw [h.len]; omega)] at this
    exact this
  rw [e1] at HC
  have HI : Hid (intZ zs = wrap64 (numZ zs)) := Lib.hid rfl
  generalize numZ zs = u at *
  generalize loadOk 8 0 8 = ok at *
  clear h e1
  go_enter Try.func53, Try.ntmps53
  go_wp2_with (go_at_call 71; refine HC.out.mono ?_; rintro e w' ⟨rfl, m, rfl⟩)
  go_ret
  exact ⟨by rw [HI.out]; rfl, m, rfl⟩
theorem int_mk {w : World} {B c : Nat} {A : Option Addr} {zs : List Int} (h : Bs w B A 8 zs) : Calls Try.prog 52 #[.slice A 8 c] w (Makes w true (fun x _ => x = .int .i64 (intZ zs))) := by
  have HC := Lib.hid (number_any (c := c) h)
  clear h
  go_enter Try.func52, Try.ntmps52
  go_wp2_with (go_at_call 53; refine HC.out.mono ?_; rintro e w' ⟨rfl, m, rfl⟩)
  go_ret2
  exact ⟨_, rfl, grown_drewN _ _ _, rfl⟩
theorem int_rd {w : World} {b : Nat} {B : Span} {why : Int} {zs : List Int} (h : Rd w b B why zs) : Calls Try.prog 23 #[.pointer (some ⟨b, 0, none⟩)] w (Reads w b B (.int .i64 (rInt (why, zs)).1) (rInt (why, zs)).2) := by
  have HC := Lib.hid (take_i_any (Value.int .i64) 0 rfl 8 yes2 intZ 52 #[] (in_any _ (by kernel_rfl)) h (fun _ _ w1 A c _ _ hb _ _ => int_mk hb))
  clear h
  go_enter Try.func23, Try.ntmps23
  go_wp2_with (go_at_call 51; refine HC.out.mono ?_; rintro e w' ⟨rfl, r, g⟩)
  go_ret
  exact ⟨rfl, r, g⟩
theorem len_mk {w : World} {B c : Nat} {A : Option Addr} {zs : List Int} (h : Bs w B A 4 zs) : Calls Try.prog 72 #[.slice A 4 c] w (Makes w (decide (numZ zs ≤ 65536)) (fun x _ => x = .int .i64 (numZ zs))) := by
  have HC := Lib.hid (load32_any c h (by simp [maxLen]) 0 (by omega))
  have hr := loadZ_range zs 0 4 h.rng'
  have e1 : loadZ zs 0 4 = numZ zs := by
    have := loadZ_yes zs 0 4 (by rw [h.len]; omega)
    rw [List.drop_zero, List.take_of_length_le (by rw [h.len]; omega)] at this
    exact this
  rw [e1] at HC hr
  generalize numZ zs = u at *
  generalize loadOk 4 0 4 = ok at *
  have h0 : 0 ≤ u := hr.1
  have h4 : u < 4294967296 := by omega
  clear h e1 hr
  go_enter Try.func72, Try.ntmps72
  go_wp2_with (go_at_call 73; refine HC.out.mono ?_; rintro e w' ⟨rfl, m, rfl⟩)
  go_ret2
  exact ⟨_, rfl, grown_drewN _ _ _, rfl⟩
theorem len_rd {w : World} {b : Nat} {B : Span} {why : Int} {zs : List Int} (h : Rd w b B why zs) : Calls Try.prog 57 #[.pointer (some ⟨b, 0, none⟩)] w (Reads w b B (.int .i64 (rLen (why, zs)).1) (rLen (why, zs)).2) := by
  have HC := Lib.hid (take_i_any (Value.int .i64) 0 rfl 4 (fun b _ => decide (numZ b ≤ 65536)) numZ 72 #[] (in_any _ (by kernel_rfl)) h (fun _ _ w1 A c _ _ hb _ _ => len_mk hb))
  clear h
  go_enter Try.func57, Try.ntmps57
  go_wp2_with (go_at_call 51; refine HC.out.mono ?_; rintro e w' ⟨rfl, r, g⟩)
  go_ret
  exact ⟨rfl, r, g⟩
theorem run_str {w : World} {B n : Nat} {A : Option Addr} (c : Nat) {zs : List Int} (h : Bs w B A n zs) : (convert 26 9 (.slice A n c)).run Try.prog w = .ok (.string (strOfNums zs)) w := by
  cases A with
  | none =>
    have hn : n = 0 := h.lies.2 rfl
    subst hn
    have hz : zs = [] := List.eq_nil_of_length_eq_zero h.len
    subst hz
    exact run_convert_bytes_nil w _ 5 Try.underlying26 Try.underlying5 _ _ _ Try.underlying9
  | some a =>
    rcases Nat.eq_zero_or_pos n with h0 | h0
    · subst h0
      have hz : zs = [] := List.eq_nil_of_length_eq_zero h.len
      subst hz
      rw [run_convert_bytes_string w _ _ 5 _ _ _ Try.underlying26 Try.underlying5 Try.underlying9, run_bytesToString w a 0 c [] (by simp [loadCells, loadCellsFrom])]
      rfl
    · obtain ⟨b, off, e, _, hc⟩ := h.row h0
      rw [e]
      exact run_convert_bytes_arg w _ 5 Try.underlying26 Try.underlying5 b off n c zs h.len hc _ Try.underlying9
theorem text_mk {w : World} {B n c : Nat} {A : Option Addr} {zs : List Int} (h : Bs w B A n zs) : Calls Try.prog 60 #[.slice A n c] w (Makes w true (fun x _ => x = .string (strOfNums zs))) := by
  have hc := run_str c h
  clear h
  go_enter Try.func60, Try.ntmps60
  go_wp2
  go_ret2
  exact ⟨_, rfl, grown_refl _ _, rfl⟩
theorem rLen_nonneg {w : World} {b : Nat} {B : Span} {why : Int} {zs : List Int} (h : Rd w b B why zs) : 0 ≤ (rLen (why, zs)).1 := by
  obtain ⟨A, n, c, _, hz, _⟩ := h.rest
  unfold rLen tk
  split
  · have := loadZ_range zs 0 4 hz.rng'
    rw [show (0 : Int) = ((0 : Nat) : Int) from rfl, loadZ_yes zs 0 4 (by next hh => have := hh.2.1; simpa using this), List.drop_zero] at this
    exact this.1
  · exact Int.le_refl _
theorem text_rd {w : World} {b : Nat} {B : Span} {why : Int} {zs : List Int} (h : Rd w b B why zs) : Calls Try.prog 26 #[.pointer (some ⟨b, 0, none⟩)] w (Reads w b B (.string (strOfNums (rBytes (why, zs)).1)) (rBytes (why, zs)).2) := by
  have HL := Lib.hid (len_rd h)
  have h0 : Hid (0 ≤ (rLen (why, zs)).1) := Lib.hid (rLen_nonneg h)
  have HR : Hid (rBytes (why, zs) = tk (rLen (why, zs)).1.toNat yes2 id [] (rLen (why, zs)).2) := Lib.hid rfl
  generalize rLen (why, zs) = s at *
  obtain ⟨x, s1, s2⟩ := s
  obtain ⟨k, rfl⟩ := Int.eq_ofNat_of_zero_le h0.out
  have HC : Hid (∀ w1, Rd w1 b B s1 s2 → Calls Try.prog 59 #[.pointer (some ⟨b, 0, none⟩), .int .i64 k, .func (.func 60) #[] #[]] w1 (Reads w1 b B (.string (strOfNums (tk k yes2 id [] (s1, s2)).1)) (tk k yes2 id [] (s1, s2)).2)) :=
    Lib.hid (fun w1 r => take_s_any (fun l => Value.string (strOfNums l)) [] rfl k yes2 id 60 #[] (in_any _ (by kernel_rfl)) r (fun _ _ w2 A c _ _ hb _ _ => text_mk hb))
  clear h h0
  go_enter Try.func26, Try.ntmps26
  go_wp2_with (first | (go_at_call 57; refine HL.out.mono ?_; rintro e w1 ⟨rfl, r1, g1⟩) | (go_at_call 59; refine (HC.out _ r1).mono ?_; rintro e w2 ⟨rfl, r2, g2⟩))
  go_ret
  rw [HR.out]
  exact ⟨rfl, r2, grown_trans g1 g2⟩
end Go.Proofs.Ytcihbkdpkhhhcaa
