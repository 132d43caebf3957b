/- What the exported calls of words return that put and load numbers. -/
import Derived.Test.YtcihbkdpkhhhcaaPut
import Derived.Test.YtcihbkdpkhhhcaaLoad
import Derived.Test.YtcihbkdpkhhhcaaBits
namespace Go.Proofs.Ytcihbkdpkhhhcaa
open Go.ChangeShapes Go.WideShapes Go.ChangeAt Go.RowKit
set_option linter.unusedVariables false
open Plain
theorem put32_any (x : Int) (hx : 0 ≤ x) (hx1 : x < 4294967296) (w : World) :
    Calls Try.prog 66 #[.int .u32 x] w (Made w (putZ x 4)) := by
  have HC : Hid (Calls Try.prog 74 #[.int .u64 x, .int .i64 4] w (Made w (putZ x 4))) := Lib.hid (put_any x 4 hx (by omega) (by omega) w)
  go_enter Try.func66, Try.ntmps66
  go_wp2_with (go_at_call 74; refine HC.out.mono ?_; rintro e w' ⟨A, c, rfl, hm⟩)
  go_ret
  exact ⟨A, c, rfl, hm⟩
theorem put64_any (x : Int) (hx : 0 ≤ x) (hx1 : x < 18446744073709551616) (w : World) :
    Calls Try.prog 65 #[.int .u64 x] w (Made w (putZ x 8)) := by
  have HC : Hid (Calls Try.prog 74 #[.int .u64 x, .int .i64 8] w (Made w (putZ x 8))) := Lib.hid (put_any x 8 hx (by omega) (by omega) w)
  go_enter Try.func65, Try.ntmps65
  go_wp2_with (go_at_call 74; refine HC.out.mono ?_; rintro e w' ⟨A, c, rfl, hm⟩)
  go_ret
  exact ⟨A, c, rfl, hm⟩
theorem load64_any {B : Nat} {A : Option Addr} {n : Nat} (c : Nat) {zs : List Int} {w : World} (h : Bs w B A n zs) (hn : n ≤ maxLen) (at_ : Int) (hat : -9223372036854775808 ≤ at_ ∧ at_ ≤ 9223372036854775807) :
    Calls Try.prog 71 #[.slice A n c, .int .i64 at_] w (Quiet (.tuple #[.int .u64 (loadZ zs at_ 8), .bool (loadOk n at_ 8)]) w) := by
  have HC : Hid (Calls Try.prog 75 #[.slice A n c, .int .i64 at_, .int .i64 8] w (Quiet (.tuple #[.int .u64 (loadZ zs at_ 8), .bool (loadOk n at_ 8)]) w)) := Lib.hid (load_any c h hn at_ hat 8 (by omega))
  go_enter Try.func71, Try.ntmps71
  go_wp2_with (go_at_call 75; refine HC.out.mono ?_; rintro e w' ⟨rfl, m, rfl⟩)
  go_ret2
  exact ⟨rfl, _, rfl⟩
theorem load32_any {B : Nat} {A : Option Addr} {n : Nat} (c : Nat) {zs : List Int} {w : World} (h : Bs w B A n zs) (hn : n ≤ maxLen) (at_ : Int) (hat : -9223372036854775808 ≤ at_ ∧ at_ ≤ 9223372036854775807) :
    Calls Try.prog 73 #[.slice A n c, .int .i64 at_] w (Quiet (.tuple #[.int .u32 (loadZ zs at_ 4), .bool (loadOk n at_ 4)]) w) := by
  have HC : Hid (Calls Try.prog 75 #[.slice A n c, .int .i64 at_, .int .i64 4] w (Quiet (.tuple #[.int .u64 (loadZ zs at_ 4), .bool (loadOk n at_ 4)]) w)) := Lib.hid (load_any c h hn at_ hat 4 (by omega))
  have hr := loadZ_range zs at_ 4 h.rng'
  generalize loadZ zs at_ 4 = u at *
  generalize loadOk n at_ 4 = ok at *
  have hr1 : u < 4294967296 := by omega
  have hr0 : 0 ≤ u := hr.1
  clear hr
  go_enter Try.func73, Try.ntmps73
  go_wp2_with (go_at_call 75; refine HC.out.mono ?_; rintro e w' ⟨rfl, m, rfl⟩)
  go_ret2
  exact ⟨rfl, _, rfl⟩
theorem refloadI_any {B : Nat} {A : Option Addr} {n : Nat} (c : Nat) {zs : List Int} {w : World} (h : Bs w B A n zs) (hn : n ≤ maxLen) (at_ : Int) (hat : -9223372036854775808 ≤ at_ ∧ at_ ≤ 9223372036854775807) (s : Int) (h0 : 0 ≤ s) (h8 : s ≤ 8) :
    Calls Try.prog 70 #[.slice A n c, .int .i64 at_, .int .i64 s] w (Quiet (.tuple #[.int .u64 (loadZ zs at_ s.toNat), .bool (loadOk n at_ s.toNat)]) w) := by
  obtain ⟨k, rfl⟩ := Int.eq_ofNat_of_zero_le h0
  exact refload_any c h hn at_ hat k (by omega)
theorem refputI_any (x s : Int) (hx : 0 ≤ x) (hx1 : x < 18446744073709551616) (h0 : 0 ≤ s) (h8 : s ≤ 8) (w : World) :
    Calls Try.prog 67 #[.int .u64 x, .int .i64 s] w (Made w (putZ x s.toNat)) := by
  obtain ⟨k, rfl⟩ := Int.eq_ofNat_of_zero_le h0
  exact refput_any x k hx hx1 (by omega) w
theorem wf_i64 {x : Int} (h : (Lit.int .i64 x).wf = true) : -9223372036854775808 ≤ x ∧ x ≤ 9223372036854775807 := by
  simp [Lit.wf, IntKind.min, IntKind.max, IntKind.signed, IntKind.bits] at h; omega
theorem wf_u64 {x : Int} (h : (Lit.int .u64 x).wf = true) : 0 ≤ x ∧ x < 18446744073709551616 := by
  simp [Lit.wf, IntKind.min, IntKind.max, IntKind.signed, IntKind.bits] at h; omega
theorem wf_u32' {x : Int} (h : (Lit.int .u32 x).wf = true) : 0 ≤ x ∧ x < 4294967296 := by
  simp [Lit.wf, IntKind.min, IntKind.max, IntKind.signed, IntKind.bits] at h; omega
theorem wf_u8 {x : Int} (h : (Lit.int .u8 x).wf = true) : 0 ≤ x ∧ x < 256 := by
  simp [Lit.wf, IntKind.min, IntKind.max, IntKind.signed, IntKind.bits] at h; omega
theorem eqB_self (a : List Int) : eqB a a = true := by simp [eqB]
/-- What was made, and stands there still, reads as bytes. -/
theorem Made.bs {w w' : World} {A : Option Addr} {c n : Nat} {zs : List Int} (h : w'.ownsRow w.heap.size 5 1 (.slice A n c) n (vals zs)) (hb : IsBytes zs) : Bs w' w'.heap.size A n zs := bs_of_own h hb
theorem Made.n {w : World} {zs : List Int} {e : Ending} {w' : World} {n : Nat} (h : Made w zs e w') (hn : zs.length = n) :
    ∃ A c, e = .returned (.slice A n c) ∧ w'.ownsRow w.heap.size 5 1 (.slice A n c) n (vals zs) ∧ Below w.heap.size w w' ∧ n ≤ c ∧ c ≤ maxLen := by
  subst hn; exact h
theorem bs_new (w : World) (zs : List Int) (n : Nat) (hn : zs.length = n) (h : IsBytes zs) (t : TypeId) (g : Nat) (hg : w.heap.size = g) : Bs (w.alloc (.cells (vals zs).toArray t)) (g + 1) (some ⟨g, 0, none⟩) n zs := by
  subst hg
  exact ⟨hn, fun j hj => h j (by omega), fun _ => ⟨w.heap.size, 0, rfl, by omega, fun j hj => by
    have hh : (w.alloc (.cells (vals zs).toArray t)).cell? ⟨w.heap.size, 0 + j, none⟩ = (vals zs).toArray[0 + j]? := cell_of_row _ _ _ _ _ _ (heap_alloc_new w _)
    rw [hh, Nat.zero_add]
    simp [vals, List.getElem?_map, List.getD_eq_getElem?_getD, List.getElem?_eq_getElem (show j < zs.length by omega)]⟩⟩
end Go.Proofs.Ytcihbkdpkhhhcaa
