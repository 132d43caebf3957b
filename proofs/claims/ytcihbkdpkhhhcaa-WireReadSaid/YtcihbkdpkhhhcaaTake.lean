/- What a reader's next bytes are taken by: of one that is bad, or too short; of one that has them. -/
import Derived.Test.YtcihbkdpkhhhcaaRd
namespace Go.Proofs.Ytcihbkdpkhhhcaa
open Go.ChangeShapes Go.WideShapes Go.ChangeAt Go.RowKit
set_option linter.unusedVariables false
open Plain
/-- A reader's call: what it tells, and the reader behind it. -/
def Takes (w : World) (b : Nat) (B : Span) (why : Int) (zs : List Int) (v : Value) (e : Ending) (w' : World) : Prop := e = .returned v ∧ Rd w' b B why zs ∧ w.grownBy w' (some b)
/-- What is made of the next bytes. -/
def Makes (w1 : World) (ok : Bool) (Post : Value → World → Prop) (e : Ending) (w2 : World) : Prop := ∃ x, e = .returned (.tuple #[x, .bool ok]) ∧ w1.grownBy w2 none ∧ Post x w2
theorem take_u8_none (p F : Value) (why size : Int) (hw : why ≠ 0) (w : World) (h : Calls Try.prog 19 #[p] w (Says (.int .i64 why) w)) :
    Calls Try.prog 49 #[p, .int .i64 size, F] w (Says (.int .u8 0) w) := by
  have HE := Lib.hid h
  have hw2 : (why == 0) = false := by simpa using hw
  clear h
  go_enter Try.func49, Try.ntmps49
  go_wp2_with (go_at_call 19; refine HE.out.mono ?_; rintro e w' ⟨rfl, rfl⟩)
  go_ret
  exact ⟨rfl, rfl⟩
theorem take_u8_short {w : World} {b : Nat} {B : Span} {zs : List Int} (F : Value) (size : Int) (h : Rd w b B 0 zs) (hs : (zs.length : Int) < size) :
    Calls Try.prog 49 #[.pointer (some ⟨b, 0, none⟩), .int .i64 size, F] w (Takes w b B 40 [] (.int .u8 0)) := by
  have HE := Lib.hid (err_any h)
  have HL := Lib.hid (left_any h)
  have HS := Lib.hid (h.spoilt 40 (by omega))
  obtain ⟨A, n, c, h2, _⟩ := h.rest
  have h1 := h.errno
  have g1 := h.f1
  have g2 := h.f2
  obtain ⟨m, hm⟩ : ∃ m, zs.length = m := ⟨_, rfl⟩
  rw [hm] at HL hs
  clear h hm
  have hlt : ¬ size ≤ (m : Int) := by omega
  go_enter Try.func49, Try.ntmps49
  go_wp2_with (first | (go_at_call 19; refine HE.out.mono ?_; rintro e w' ⟨rfl, rfl⟩) | (go_at_call 17; refine HL.out.mono ?_; rintro e w' ⟨rfl, rfl⟩))
  go_ret
  exact ⟨rfl, HS.out, grown_trans (grown_cell _ ⟨b, 1, none⟩ _) (grown_cell _ ⟨b, 2, none⟩ _)⟩
set_option maxHeartbeats 1000000 in
theorem take_u8_no {w : World} {b : Nat} {B : Span} {zs : List Int} (k : Nat) (f : FuncId) (caps : Array Value) (hin : ∀ args W, (callFunc f args).run Try.prog W = .ok (.enter f args) W) (h : Rd w b B 0 zs) (hs : k ≤ zs.length) (Post : Value → World → Prop)
    (hf : ∀ w1 A c, Rd w1 b B 0 (zs.drop k) → w.grownBy w1 (some b) → Bs w1 B.hi A k (zs.take k) → k ≤ c → c ≤ maxLen → Calls Try.prog f (#[.slice A k c] ++ caps) w1 (Makes w1 false Post)) :
    Calls Try.prog 49 #[.pointer (some ⟨b, 0, none⟩), .int .i64 k, .func (.func f) #[] caps] w (Takes w b B 40 [] (.int .u8 0)) := by
  have HE := Lib.hid (err_any h)
  have HL := Lib.hid (left_any h)
  obtain ⟨A, n, c, h2, hz, hnc, hcm, hn5⟩ := h.rest
  rw [hz.len] at HL hs
  have h1 := h.errno
  have g1 := h.f1
  have g2 := h.f2
  have C1 := cut_h A n c k k rfl (by omega)
  obtain ⟨A2, C2, hA2⟩ := cut_l A n c k k rfl hs hnc
  have HT := Lib.hid (h.taken (c' := c - k) h2 hs hA2 (by omega) (by omega))
  have HF := Lib.hid hf
  clear h hz hf
  have hle : (k : Int) ≤ (n : Int) := by omega
  go_enter Try.func49, Try.ntmps49
  go_wp2_with (first | (go_at_call 19; refine HE.out.mono ?_; rintro e w' ⟨rfl, rfl⟩) | (go_at_call 17; refine HL.out.mono ?_; rintro e w' ⟨rfl, rfl⟩))
  have C := Lib.hid (HF.out _ A c HT.out.1 (grown_cell w ⟨b, 2, none⟩ _) HT.out.2 (by omega) hcm)
  clear HF
  refine C.out.mono ?_
  rintro e w2 ⟨x, rfl, hg, hp⟩
  have r2 := HT.out.1.grown hg (fun k hk => by cases hk)
  have HS := Lib.hid (r2.spoilt 40 (by omega))
  have gg : Hid (w.grownBy w2 (some b)) := Lib.hid (grown_trans (grown_cell w ⟨b, 2, none⟩ _) (grown_more hg))
  obtain ⟨A3, n3, c3, h5, _⟩ := r2.rest
  have h4 := r2.errno
  have g3 := r2.f1
  have g4 := r2.f2
  clear C HT r2 hg h1 h2 g1 g2 hp
  go_wp2
  go_ret
  exact ⟨rfl, HS.out, grown_trans gg.out (grown_trans (grown_cell _ ⟨b, 1, none⟩ _) (grown_cell _ ⟨b, 2, none⟩ _))⟩
set_option maxHeartbeats 1000000 in
theorem take_u8_ok {w : World} {b : Nat} {B : Span} {zs : List Int} (k : Nat) (f : FuncId) (caps : Array Value) (hin : ∀ args W, (callFunc f args).run Try.prog W = .ok (.enter f args) W) (h : Rd w b B 0 zs) (hs : k ≤ zs.length) (Post : Value → World → Prop)
    (hf : ∀ w1 A c, Rd w1 b B 0 (zs.drop k) → w.grownBy w1 (some b) → Bs w1 B.hi A k (zs.take k) → k ≤ c → c ≤ maxLen → Calls Try.prog f (#[.slice A k c] ++ caps) w1 (Makes w1 true Post)) :
    Calls Try.prog 49 #[.pointer (some ⟨b, 0, none⟩), .int .i64 k, .func (.func f) #[] caps] w (fun e w' => ∃ x, Takes w b B 0 (zs.drop k) x e w' ∧ Post x w') := by
  have HE := Lib.hid (err_any h)
  have HL := Lib.hid (left_any h)
  obtain ⟨A, n, c, h2, hz, hnc, hcm, hn5⟩ := h.rest
  rw [hz.len] at HL hs
  have h1 := h.errno
  have g1 := h.f1
  have g2 := h.f2
  have C1 := cut_h A n c k k rfl (by omega)
  obtain ⟨A2, C2, hA2⟩ := cut_l A n c k k rfl hs hnc
  have HT := Lib.hid (h.taken (c' := c - k) h2 hs hA2 (by omega) (by omega))
  have HF := Lib.hid hf
  clear h hz hf
  have hle : (k : Int) ≤ (n : Int) := by omega
  go_enter Try.func49, Try.ntmps49
  go_wp2_with (first | (go_at_call 19; refine HE.out.mono ?_; rintro e w' ⟨rfl, rfl⟩) | (go_at_call 17; refine HL.out.mono ?_; rintro e w' ⟨rfl, rfl⟩))
  have C := Lib.hid (HF.out _ A c HT.out.1 (grown_cell w ⟨b, 2, none⟩ _) HT.out.2 (by omega) hcm)
  clear HF
  refine C.out.mono ?_
  rintro e w2 ⟨x, rfl, hg, hp⟩
  have r2 := HT.out.1.grown hg (fun k hk => by cases hk)
  have gg : Hid (w.grownBy w2 (some b)) := Lib.hid (grown_trans (grown_cell w ⟨b, 2, none⟩ _) (grown_more hg))
  go_wp2
  go_ret
  exact ⟨x, ⟨rfl, r2, gg.out⟩, hp⟩
theorem take_i_none (p F : Value) (why size : Int) (hw : why ≠ 0) (w : World) (h : Calls Try.prog 19 #[p] w (Says (.int .i64 why) w)) :
    Calls Try.prog 51 #[p, .int .i64 size, F] w (Says (.int .i64 0) w) := by
  have HE := Lib.hid h
  have hw2 : (why == 0) = false := by simpa using hw
  clear h
  go_enter Try.func51, Try.ntmps51
  go_wp2_with (go_at_call 19; refine HE.out.mono ?_; rintro e w' ⟨rfl, rfl⟩)
  go_ret
  exact ⟨rfl, rfl⟩
theorem take_i_short {w : World} {b : Nat} {B : Span} {zs : List Int} (F : Value) (size : Int) (h : Rd w b B 0 zs) (hs : (zs.length : Int) < size) :
    Calls Try.prog 51 #[.pointer (some ⟨b, 0, none⟩), .int .i64 size, F] w (Takes w b B 40 [] (.int .i64 0)) := by
  have HE := Lib.hid (err_any h)
  have HL := Lib.hid (left_any h)
  have HS := Lib.hid (h.spoilt 40 (by omega))
  obtain ⟨A, n, c, h2, _⟩ := h.rest
  have h1 := h.errno
  have g1 := h.f1
  have g2 := h.f2
  obtain ⟨m, hm⟩ : ∃ m, zs.length = m := ⟨_, rfl⟩
  rw [hm] at HL hs
  clear h hm
  have hlt : ¬ size ≤ (m : Int) := by omega
  go_enter Try.func51, Try.ntmps51
  go_wp2_with (first | (go_at_call 19; refine HE.out.mono ?_; rintro e w' ⟨rfl, rfl⟩) | (go_at_call 17; refine HL.out.mono ?_; rintro e w' ⟨rfl, rfl⟩))
  go_ret
  exact ⟨rfl, HS.out, grown_trans (grown_cell _ ⟨b, 1, none⟩ _) (grown_cell _ ⟨b, 2, none⟩ _)⟩
set_option maxHeartbeats 1000000 in
theorem take_i_no {w : World} {b : Nat} {B : Span} {zs : List Int} (k : Nat) (f : FuncId) (caps : Array Value) (hin : ∀ args W, (callFunc f args).run Try.prog W = .ok (.enter f args) W) (h : Rd w b B 0 zs) (hs : k ≤ zs.length) (Post : Value → World → Prop)
    (hf : ∀ w1 A c, Rd w1 b B 0 (zs.drop k) → w.grownBy w1 (some b) → Bs w1 B.hi A k (zs.take k) → k ≤ c → c ≤ maxLen → Calls Try.prog f (#[.slice A k c] ++ caps) w1 (Makes w1 false Post)) :
    Calls Try.prog 51 #[.pointer (some ⟨b, 0, none⟩), .int .i64 k, .func (.func f) #[] caps] w (Takes w b B 40 [] (.int .i64 0)) := by
  have HE := Lib.hid (err_any h)
  have HL := Lib.hid (left_any h)
  obtain ⟨A, n, c, h2, hz, hnc, hcm, hn5⟩ := h.rest
  rw [hz.len] at HL hs
  have h1 := h.errno
  have g1 := h.f1
  have g2 := h.f2
  have C1 := cut_h A n c k k rfl (by omega)
  obtain ⟨A2, C2, hA2⟩ := cut_l A n c k k rfl hs hnc
  have HT := Lib.hid (h.taken (c' := c - k) h2 hs hA2 (by omega) (by omega))
  have HF := Lib.hid hf
  clear h hz hf
  have hle : (k : Int) ≤ (n : Int) := by omega
  go_enter Try.func51, Try.ntmps51
  go_wp2_with (first | (go_at_call 19; refine HE.out.mono ?_; rintro e w' ⟨rfl, rfl⟩) | (go_at_call 17; refine HL.out.mono ?_; rintro e w' ⟨rfl, rfl⟩))
  have C := Lib.hid (HF.out _ A c HT.out.1 (grown_cell w ⟨b, 2, none⟩ _) HT.out.2 (by omega) hcm)
  clear HF
  refine C.out.mono ?_
  rintro e w2 ⟨x, rfl, hg, hp⟩
  have r2 := HT.out.1.grown hg (fun k hk => by cases hk)
  have HS := Lib.hid (r2.spoilt 40 (by omega))
  have gg : Hid (w.grownBy w2 (some b)) := Lib.hid (grown_trans (grown_cell w ⟨b, 2, none⟩ _) (grown_more hg))
  obtain ⟨A3, n3, c3, h5, _⟩ := r2.rest
  have h4 := r2.errno
  have g3 := r2.f1
  have g4 := r2.f2
  clear C HT r2 hg h1 h2 g1 g2 hp
  go_wp2
  go_ret
  exact ⟨rfl, HS.out, grown_trans gg.out (grown_trans (grown_cell _ ⟨b, 1, none⟩ _) (grown_cell _ ⟨b, 2, none⟩ _))⟩
set_option maxHeartbeats 1000000 in
theorem take_i_ok {w : World} {b : Nat} {B : Span} {zs : List Int} (k : Nat) (f : FuncId) (caps : Array Value) (hin : ∀ args W, (callFunc f args).run Try.prog W = .ok (.enter f args) W) (h : Rd w b B 0 zs) (hs : k ≤ zs.length) (Post : Value → World → Prop)
    (hf : ∀ w1 A c, Rd w1 b B 0 (zs.drop k) → w.grownBy w1 (some b) → Bs w1 B.hi A k (zs.take k) → k ≤ c → c ≤ maxLen → Calls Try.prog f (#[.slice A k c] ++ caps) w1 (Makes w1 true Post)) :
    Calls Try.prog 51 #[.pointer (some ⟨b, 0, none⟩), .int .i64 k, .func (.func f) #[] caps] w (fun e w' => ∃ x, Takes w b B 0 (zs.drop k) x e w' ∧ Post x w') := by
  have HE := Lib.hid (err_any h)
  have HL := Lib.hid (left_any h)
  obtain ⟨A, n, c, h2, hz, hnc, hcm, hn5⟩ := h.rest
  rw [hz.len] at HL hs
  have h1 := h.errno
  have g1 := h.f1
  have g2 := h.f2
  have C1 := cut_h A n c k k rfl (by omega)
  obtain ⟨A2, C2, hA2⟩ := cut_l A n c k k rfl hs hnc
  have HT := Lib.hid (h.taken (c' := c - k) h2 hs hA2 (by omega) (by omega))
  have HF := Lib.hid hf
  clear h hz hf
  have hle : (k : Int) ≤ (n : Int) := by omega
  go_enter Try.func51, Try.ntmps51
  go_wp2_with (first | (go_at_call 19; refine HE.out.mono ?_; rintro e w' ⟨rfl, rfl⟩) | (go_at_call 17; refine HL.out.mono ?_; rintro e w' ⟨rfl, rfl⟩))
  have C := Lib.hid (HF.out _ A c HT.out.1 (grown_cell w ⟨b, 2, none⟩ _) HT.out.2 (by omega) hcm)
  clear HF
  refine C.out.mono ?_
  rintro e w2 ⟨x, rfl, hg, hp⟩
  have r2 := HT.out.1.grown hg (fun k hk => by cases hk)
  have gg : Hid (w.grownBy w2 (some b)) := Lib.hid (grown_trans (grown_cell w ⟨b, 2, none⟩ _) (grown_more hg))
  go_wp2
  go_ret
  exact ⟨x, ⟨rfl, r2, gg.out⟩, hp⟩
theorem take_b_none (p F : Value) (why size : Int) (hw : why ≠ 0) (w : World) (h : Calls Try.prog 19 #[p] w (Says (.int .i64 why) w)) :
    Calls Try.prog 54 #[p, .int .i64 size, F] w (Says (.bool false) w) := by
  have HE := Lib.hid h
  have hw2 : (why == 0) = false := by simpa using hw
  clear h
  go_enter Try.func54, Try.ntmps54
  go_wp2_with (go_at_call 19; refine HE.out.mono ?_; rintro e w' ⟨rfl, rfl⟩)
  go_ret
  exact ⟨rfl, rfl⟩
theorem take_b_short {w : World} {b : Nat} {B : Span} {zs : List Int} (F : Value) (size : Int) (h : Rd w b B 0 zs) (hs : (zs.length : Int) < size) :
    Calls Try.prog 54 #[.pointer (some ⟨b, 0, none⟩), .int .i64 size, F] w (Takes w b B 40 [] (.bool false)) := by
  have HE := Lib.hid (err_any h)
  have HL := Lib.hid (left_any h)
  have HS := Lib.hid (h.spoilt 40 (by omega))
  obtain ⟨A, n, c, h2, _⟩ := h.rest
  have h1 := h.errno
  have g1 := h.f1
  have g2 := h.f2
  obtain ⟨m, hm⟩ : ∃ m, zs.length = m := ⟨_, rfl⟩
  rw [hm] at HL hs
  clear h hm
  have hlt : ¬ size ≤ (m : Int) := by omega
  go_enter Try.func54, Try.ntmps54
  go_wp2_with (first | (go_at_call 19; refine HE.out.mono ?_; rintro e w' ⟨rfl, rfl⟩) | (go_at_call 17; refine HL.out.mono ?_; rintro e w' ⟨rfl, rfl⟩))
  go_ret
  exact ⟨rfl, HS.out, grown_trans (grown_cell _ ⟨b, 1, none⟩ _) (grown_cell _ ⟨b, 2, none⟩ _)⟩
set_option maxHeartbeats 1000000 in
theorem take_b_no {w : World} {b : Nat} {B : Span} {zs : List Int} (k : Nat) (f : FuncId) (caps : Array Value) (hin : ∀ args W, (callFunc f args).run Try.prog W = .ok (.enter f args) W) (h : Rd w b B 0 zs) (hs : k ≤ zs.length) (Post : Value → World → Prop)
    (hf : ∀ w1 A c, Rd w1 b B 0 (zs.drop k) → w.grownBy w1 (some b) → Bs w1 B.hi A k (zs.take k) → k ≤ c → c ≤ maxLen → Calls Try.prog f (#[.slice A k c] ++ caps) w1 (Makes w1 false Post)) :
    Calls Try.prog 54 #[.pointer (some ⟨b, 0, none⟩), .int .i64 k, .func (.func f) #[] caps] w (Takes w b B 40 [] (.bool false)) := by
  have HE := Lib.hid (err_any h)
  have HL := Lib.hid (left_any h)
  obtain ⟨A, n, c, h2, hz, hnc, hcm, hn5⟩ := h.rest
  rw [hz.len] at HL hs
  have h1 := h.errno
  have g1 := h.f1
  have g2 := h.f2
  have C1 := cut_h A n c k k rfl (by omega)
  obtain ⟨A2, C2, hA2⟩ := cut_l A n c k k rfl hs hnc
  have HT := Lib.hid (h.taken (c' := c - k) h2 hs hA2 (by omega) (by omega))
  have HF := Lib.hid hf
  clear h hz hf
  have hle : (k : Int) ≤ (n : Int) := by omega
  go_enter Try.func54, Try.ntmps54
  go_wp2_with (first | (go_at_call 19; refine HE.out.mono ?_; rintro e w' ⟨rfl, rfl⟩) | (go_at_call 17; refine HL.out.mono ?_; rintro e w' ⟨rfl, rfl⟩))
  have C := Lib.hid (HF.out _ A c HT.out.1 (grown_cell w ⟨b, 2, none⟩ _) HT.out.2 (by omega) hcm)
  clear HF
  refine C.out.mono ?_
  rintro e w2 ⟨x, rfl, hg, hp⟩
  have r2 := HT.out.1.grown hg (fun k hk => by cases hk)
  have HS := Lib.hid (r2.spoilt 40 (by omega))
  have gg : Hid (w.grownBy w2 (some b)) := Lib.hid (grown_trans (grown_cell w ⟨b, 2, none⟩ _) (grown_more hg))
  obtain ⟨A3, n3, c3, h5, _⟩ := r2.rest
  have h4 := r2.errno
  have g3 := r2.f1
  have g4 := r2.f2
  clear C HT r2 hg h1 h2 g1 g2 hp
  go_wp2
  go_ret
  exact ⟨rfl, HS.out, grown_trans gg.out (grown_trans (grown_cell _ ⟨b, 1, none⟩ _) (grown_cell _ ⟨b, 2, none⟩ _))⟩
set_option maxHeartbeats 1000000 in
theorem take_b_ok {w : World} {b : Nat} {B : Span} {zs : List Int} (k : Nat) (f : FuncId) (caps : Array Value) (hin : ∀ args W, (callFunc f args).run Try.prog W = .ok (.enter f args) W) (h : Rd w b B 0 zs) (hs : k ≤ zs.length) (Post : Value → World → Prop)
    (hf : ∀ w1 A c, Rd w1 b B 0 (zs.drop k) → w.grownBy w1 (some b) → Bs w1 B.hi A k (zs.take k) → k ≤ c → c ≤ maxLen → Calls Try.prog f (#[.slice A k c] ++ caps) w1 (Makes w1 true Post)) :
    Calls Try.prog 54 #[.pointer (some ⟨b, 0, none⟩), .int .i64 k, .func (.func f) #[] caps] w (fun e w' => ∃ x, Takes w b B 0 (zs.drop k) x e w' ∧ Post x w') := by
  have HE := Lib.hid (err_any h)
  have HL := Lib.hid (left_any h)
  obtain ⟨A, n, c, h2, hz, hnc, hcm, hn5⟩ := h.rest
  rw [hz.len] at HL hs
  have h1 := h.errno
  have g1 := h.f1
  have g2 := h.f2
  have C1 := cut_h A n c k k rfl (by omega)
  obtain ⟨A2, C2, hA2⟩ := cut_l A n c k k rfl hs hnc
  have HT := Lib.hid (h.taken (c' := c - k) h2 hs hA2 (by omega) (by omega))
  have HF := Lib.hid hf
  clear h hz hf
  have hle : (k : Int) ≤ (n : Int) := by omega
  go_enter Try.func54, Try.ntmps54
  go_wp2_with (first | (go_at_call 19; refine HE.out.mono ?_; rintro e w' ⟨rfl, rfl⟩) | (go_at_call 17; refine HL.out.mono ?_; rintro e w' ⟨rfl, rfl⟩))
  have C := Lib.hid (HF.out _ A c HT.out.1 (grown_cell w ⟨b, 2, none⟩ _) HT.out.2 (by omega) hcm)
  clear HF
  refine C.out.mono ?_
  rintro e w2 ⟨x, rfl, hg, hp⟩
  have r2 := HT.out.1.grown hg (fun k hk => by cases hk)
  have gg : Hid (w.grownBy w2 (some b)) := Lib.hid (grown_trans (grown_cell w ⟨b, 2, none⟩ _) (grown_more hg))
  go_wp2
  go_ret
  exact ⟨x, ⟨rfl, r2, gg.out⟩, hp⟩
theorem take_l_none (p F : Value) (why size : Int) (hw : why ≠ 0) (w : World) (h : Calls Try.prog 19 #[p] w (Says (.int .i64 why) w)) :
    Calls Try.prog 56 #[p, .int .i64 size, F] w (Says (.slice none 0 0) w) := by
  have HE := Lib.hid h
  have hw2 : (why == 0) = false := by simpa using hw
  clear h
  go_enter Try.func56, Try.ntmps56
  go_wp2_with (go_at_call 19; refine HE.out.mono ?_; rintro e w' ⟨rfl, rfl⟩)
  go_ret
  exact ⟨rfl, rfl⟩
theorem take_l_short {w : World} {b : Nat} {B : Span} {zs : List Int} (F : Value) (size : Int) (h : Rd w b B 0 zs) (hs : (zs.length : Int) < size) :
    Calls Try.prog 56 #[.pointer (some ⟨b, 0, none⟩), .int .i64 size, F] w (Takes w b B 40 [] (.slice none 0 0)) := by
  have HE := Lib.hid (err_any h)
  have HL := Lib.hid (left_any h)
  have HS := Lib.hid (h.spoilt 40 (by omega))
  obtain ⟨A, n, c, h2, _⟩ := h.rest
  have h1 := h.errno
  have g1 := h.f1
  have g2 := h.f2
  obtain ⟨m, hm⟩ : ∃ m, zs.length = m := ⟨_, rfl⟩
  rw [hm] at HL hs
  clear h hm
  have hlt : ¬ size ≤ (m : Int) := by omega
  go_enter Try.func56, Try.ntmps56
  go_wp2_with (first | (go_at_call 19; refine HE.out.mono ?_; rintro e w' ⟨rfl, rfl⟩) | (go_at_call 17; refine HL.out.mono ?_; rintro e w' ⟨rfl, rfl⟩))
  go_ret
  exact ⟨rfl, HS.out, grown_trans (grown_cell _ ⟨b, 1, none⟩ _) (grown_cell _ ⟨b, 2, none⟩ _)⟩
set_option maxHeartbeats 1000000 in
theorem take_l_no {w : World} {b : Nat} {B : Span} {zs : List Int} (k : Nat) (f : FuncId) (caps : Array Value) (hin : ∀ args W, (callFunc f args).run Try.prog W = .ok (.enter f args) W) (h : Rd w b B 0 zs) (hs : k ≤ zs.length) (Post : Value → World → Prop)
    (hf : ∀ w1 A c, Rd w1 b B 0 (zs.drop k) → w.grownBy w1 (some b) → Bs w1 B.hi A k (zs.take k) → k ≤ c → c ≤ maxLen → Calls Try.prog f (#[.slice A k c] ++ caps) w1 (Makes w1 false Post)) :
    Calls Try.prog 56 #[.pointer (some ⟨b, 0, none⟩), .int .i64 k, .func (.func f) #[] caps] w (Takes w b B 40 [] (.slice none 0 0)) := by
  have HE := Lib.hid (err_any h)
  have HL := Lib.hid (left_any h)
  obtain ⟨A, n, c, h2, hz, hnc, hcm, hn5⟩ := h.rest
  rw [hz.len] at HL hs
  have h1 := h.errno
  have g1 := h.f1
  have g2 := h.f2
  have C1 := cut_h A n c k k rfl (by omega)
  obtain ⟨A2, C2, hA2⟩ := cut_l A n c k k rfl hs hnc
  have HT := Lib.hid (h.taken (c' := c - k) h2 hs hA2 (by omega) (by omega))
  have HF := Lib.hid hf
  clear h hz hf
  have hle : (k : Int) ≤ (n : Int) := by omega
  go_enter Try.func56, Try.ntmps56
  go_wp2_with (first | (go_at_call 19; refine HE.out.mono ?_; rintro e w' ⟨rfl, rfl⟩) | (go_at_call 17; refine HL.out.mono ?_; rintro e w' ⟨rfl, rfl⟩))
  have C := Lib.hid (HF.out _ A c HT.out.1 (grown_cell w ⟨b, 2, none⟩ _) HT.out.2 (by omega) hcm)
  clear HF
  refine C.out.mono ?_
  rintro e w2 ⟨x, rfl, hg, hp⟩
  have r2 := HT.out.1.grown hg (fun k hk => by cases hk)
  have HS := Lib.hid (r2.spoilt 40 (by omega))
  have gg : Hid (w.grownBy w2 (some b)) := Lib.hid (grown_trans (grown_cell w ⟨b, 2, none⟩ _) (grown_more hg))
  obtain ⟨A3, n3, c3, h5, _⟩ := r2.rest
  have h4 := r2.errno
  have g3 := r2.f1
  have g4 := r2.f2
  clear C HT r2 hg h1 h2 g1 g2 hp
  go_wp2
  go_ret
  exact ⟨rfl, HS.out, grown_trans gg.out (grown_trans (grown_cell _ ⟨b, 1, none⟩ _) (grown_cell _ ⟨b, 2, none⟩ _))⟩
set_option maxHeartbeats 1000000 in
theorem take_l_ok {w : World} {b : Nat} {B : Span} {zs : List Int} (k : Nat) (f : FuncId) (caps : Array Value) (hin : ∀ args W, (callFunc f args).run Try.prog W = .ok (.enter f args) W) (h : Rd w b B 0 zs) (hs : k ≤ zs.length) (Post : Value → World → Prop)
    (hf : ∀ w1 A c, Rd w1 b B 0 (zs.drop k) → w.grownBy w1 (some b) → Bs w1 B.hi A k (zs.take k) → k ≤ c → c ≤ maxLen → Calls Try.prog f (#[.slice A k c] ++ caps) w1 (Makes w1 true Post)) :
    Calls Try.prog 56 #[.pointer (some ⟨b, 0, none⟩), .int .i64 k, .func (.func f) #[] caps] w (fun e w' => ∃ x, Takes w b B 0 (zs.drop k) x e w' ∧ Post x w') := by
  have HE := Lib.hid (err_any h)
  have HL := Lib.hid (left_any h)
  obtain ⟨A, n, c, h2, hz, hnc, hcm, hn5⟩ := h.rest
  rw [hz.len] at HL hs
  have h1 := h.errno
  have g1 := h.f1
  have g2 := h.f2
  have C1 := cut_h A n c k k rfl (by omega)
  obtain ⟨A2, C2, hA2⟩ := cut_l A n c k k rfl hs hnc
  have HT := Lib.hid (h.taken (c' := c - k) h2 hs hA2 (by omega) (by omega))
  have HF := Lib.hid hf
  clear h hz hf
  have hle : (k : Int) ≤ (n : Int) := by omega
  go_enter Try.func56, Try.ntmps56
  go_wp2_with (first | (go_at_call 19; refine HE.out.mono ?_; rintro e w' ⟨rfl, rfl⟩) | (go_at_call 17; refine HL.out.mono ?_; rintro e w' ⟨rfl, rfl⟩))
  have C := Lib.hid (HF.out _ A c HT.out.1 (grown_cell w ⟨b, 2, none⟩ _) HT.out.2 (by omega) hcm)
  clear HF
  refine C.out.mono ?_
  rintro e w2 ⟨x, rfl, hg, hp⟩
  have r2 := HT.out.1.grown hg (fun k hk => by cases hk)
  have gg : Hid (w.grownBy w2 (some b)) := Lib.hid (grown_trans (grown_cell w ⟨b, 2, none⟩ _) (grown_more hg))
  go_wp2
  go_ret
  exact ⟨x, ⟨rfl, r2, gg.out⟩, hp⟩
theorem take_s_none (p F : Value) (why size : Int) (hw : why ≠ 0) (w : World) (h : Calls Try.prog 19 #[p] w (Says (.int .i64 why) w)) :
    Calls Try.prog 59 #[p, .int .i64 size, F] w (Says (.string { data := #[] }) w) := by
  have HE := Lib.hid h
  have hw2 : (why == 0) = false := by simpa using hw
  clear h
  go_enter Try.func59, Try.ntmps59
  go_wp2_with (go_at_call 19; refine HE.out.mono ?_; rintro e w' ⟨rfl, rfl⟩)
  go_ret
  exact ⟨rfl, rfl⟩
theorem take_s_short {w : World} {b : Nat} {B : Span} {zs : List Int} (F : Value) (size : Int) (h : Rd w b B 0 zs) (hs : (zs.length : Int) < size) :
    Calls Try.prog 59 #[.pointer (some ⟨b, 0, none⟩), .int .i64 size, F] w (Takes w b B 40 [] (.string { data := #[] })) := by
  have HE := Lib.hid (err_any h)
  have HL := Lib.hid (left_any h)
  have HS := Lib.hid (h.spoilt 40 (by omega))
  obtain ⟨A, n, c, h2, _⟩ := h.rest
  have h1 := h.errno
  have g1 := h.f1
  have g2 := h.f2
  obtain ⟨m, hm⟩ : ∃ m, zs.length = m := ⟨_, rfl⟩
  rw [hm] at HL hs
  clear h hm
  have hlt : ¬ size ≤ (m : Int) := by omega
  go_enter Try.func59, Try.ntmps59
  go_wp2_with (first | (go_at_call 19; refine HE.out.mono ?_; rintro e w' ⟨rfl, rfl⟩) | (go_at_call 17; refine HL.out.mono ?_; rintro e w' ⟨rfl, rfl⟩))
  go_ret
  exact ⟨rfl, HS.out, grown_trans (grown_cell _ ⟨b, 1, none⟩ _) (grown_cell _ ⟨b, 2, none⟩ _)⟩
set_option maxHeartbeats 1000000 in
theorem take_s_no {w : World} {b : Nat} {B : Span} {zs : List Int} (k : Nat) (f : FuncId) (caps : Array Value) (hin : ∀ args W, (callFunc f args).run Try.prog W = .ok (.enter f args) W) (h : Rd w b B 0 zs) (hs : k ≤ zs.length) (Post : Value → World → Prop)
    (hf : ∀ w1 A c, Rd w1 b B 0 (zs.drop k) → w.grownBy w1 (some b) → Bs w1 B.hi A k (zs.take k) → k ≤ c → c ≤ maxLen → Calls Try.prog f (#[.slice A k c] ++ caps) w1 (Makes w1 false Post)) :
    Calls Try.prog 59 #[.pointer (some ⟨b, 0, none⟩), .int .i64 k, .func (.func f) #[] caps] w (Takes w b B 40 [] (.string { data := #[] })) := by
  have HE := Lib.hid (err_any h)
  have HL := Lib.hid (left_any h)
  obtain ⟨A, n, c, h2, hz, hnc, hcm, hn5⟩ := h.rest
  rw [hz.len] at HL hs
  have h1 := h.errno
  have g1 := h.f1
  have g2 := h.f2
  have C1 := cut_h A n c k k rfl (by omega)
  obtain ⟨A2, C2, hA2⟩ := cut_l A n c k k rfl hs hnc
  have HT := Lib.hid (h.taken (c' := c - k) h2 hs hA2 (by omega) (by omega))
  have HF := Lib.hid hf
  clear h hz hf
  have hle : (k : Int) ≤ (n : Int) := by omega
  go_enter Try.func59, Try.ntmps59
  go_wp2_with (first | (go_at_call 19; refine HE.out.mono ?_; rintro e w' ⟨rfl, rfl⟩) | (go_at_call 17; refine HL.out.mono ?_; rintro e w' ⟨rfl, rfl⟩))
  have C := Lib.hid (HF.out _ A c HT.out.1 (grown_cell w ⟨b, 2, none⟩ _) HT.out.2 (by omega) hcm)
  clear HF
  refine C.out.mono ?_
  rintro e w2 ⟨x, rfl, hg, hp⟩
  have r2 := HT.out.1.grown hg (fun k hk => by cases hk)
  have HS := Lib.hid (r2.spoilt 40 (by omega))
  have gg : Hid (w.grownBy w2 (some b)) := Lib.hid (grown_trans (grown_cell w ⟨b, 2, none⟩ _) (grown_more hg))
  obtain ⟨A3, n3, c3, h5, _⟩ := r2.rest
  have h4 := r2.errno
  have g3 := r2.f1
  have g4 := r2.f2
  clear C HT r2 hg h1 h2 g1 g2 hp
  go_wp2
  go_ret
  exact ⟨rfl, HS.out, grown_trans gg.out (grown_trans (grown_cell _ ⟨b, 1, none⟩ _) (grown_cell _ ⟨b, 2, none⟩ _))⟩
set_option maxHeartbeats 1000000 in
theorem take_s_ok {w : World} {b : Nat} {B : Span} {zs : List Int} (k : Nat) (f : FuncId) (caps : Array Value) (hin : ∀ args W, (callFunc f args).run Try.prog W = .ok (.enter f args) W) (h : Rd w b B 0 zs) (hs : k ≤ zs.length) (Post : Value → World → Prop)
    (hf : ∀ w1 A c, Rd w1 b B 0 (zs.drop k) → w.grownBy w1 (some b) → Bs w1 B.hi A k (zs.take k) → k ≤ c → c ≤ maxLen → Calls Try.prog f (#[.slice A k c] ++ caps) w1 (Makes w1 true Post)) :
    Calls Try.prog 59 #[.pointer (some ⟨b, 0, none⟩), .int .i64 k, .func (.func f) #[] caps] w (fun e w' => ∃ x, Takes w b B 0 (zs.drop k) x e w' ∧ Post x w') := by
  have HE := Lib.hid (err_any h)
  have HL := Lib.hid (left_any h)
  obtain ⟨A, n, c, h2, hz, hnc, hcm, hn5⟩ := h.rest
  rw [hz.len] at HL hs
  have h1 := h.errno
  have g1 := h.f1
  have g2 := h.f2
  have C1 := cut_h A n c k k rfl (by omega)
  obtain ⟨A2, C2, hA2⟩ := cut_l A n c k k rfl hs hnc
  have HT := Lib.hid (h.taken (c' := c - k) h2 hs hA2 (by omega) (by omega))
  have HF := Lib.hid hf
  clear h hz hf
  have hle : (k : Int) ≤ (n : Int) := by omega
  go_enter Try.func59, Try.ntmps59
  go_wp2_with (first | (go_at_call 19; refine HE.out.mono ?_; rintro e w' ⟨rfl, rfl⟩) | (go_at_call 17; refine HL.out.mono ?_; rintro e w' ⟨rfl, rfl⟩))
  have C := Lib.hid (HF.out _ A c HT.out.1 (grown_cell w ⟨b, 2, none⟩ _) HT.out.2 (by omega) hcm)
  clear HF
  refine C.out.mono ?_
  rintro e w2 ⟨x, rfl, hg, hp⟩
  have r2 := HT.out.1.grown hg (fun k hk => by cases hk)
  have gg : Hid (w.grownBy w2 (some b)) := Lib.hid (grown_trans (grown_cell w ⟨b, 2, none⟩ _) (grown_more hg))
  go_wp2
  go_ret
  exact ⟨x, ⟨rfl, r2, gg.out⟩, hp⟩
theorem in_any (f : FuncId) (h : (Try.prog.funcs[f]?.map fun fn => (fn.name == "runtime.NumGoroutine", fn.body.isSome)) = some (false, true)) (args : Array Value) (W : World) : (callFunc f args).run Try.prog W = .ok (.enter f args) W := by
  cases hf : Try.prog.funcs[f]? with
  | none => rw [hf] at h; cases h
  | some fn =>
    rw [hf] at h
    simp only [Option.map_some, Option.some.injEq, Prod.mk.injEq] at h
    obtain ⟨h1, h2⟩ := h
    obtain ⟨c, hc⟩ := Option.isSome_iff_exists.1 h2
    have h3 : fn.name ≠ "runtime.NumGoroutine" := by simpa using h1
    simp [callFunc, hf, hc, h3]
theorem in_byte : ∀ args W, (callFunc 50 args).run Try.prog W = .ok (.enter 50 args) W := in_any _ (by kernel_rfl)
end Go.Proofs.Ytcihbkdpkhhhcaa
