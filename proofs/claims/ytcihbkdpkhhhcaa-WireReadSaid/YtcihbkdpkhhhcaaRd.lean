/- A reader as it lies in memory; why it is bad, what is left. -/
import Derived.Test.YtcihbkdpkhhhcaaOwn
import Derived.Test.YtcihbkdpkhhhcaaCat
import Derived.Test.YtcihbkdpkhhhcaaCuts
import Derived.Test.YtcihbkdpkhhhcaaRow8
namespace Go.Proofs.Ytcihbkdpkhhhcaa
open Go.ChangeShapes Go.WideShapes Go.ChangeAt Go.RowKit
set_option linter.unusedVariables false
open Plain
theorem grown_refl (w : World) (r : Option Nat) : w.grownBy w r := ⟨rfl, rfl, rfl, Nat.le_refl _, fun _ _ _ => rfl⟩
theorem grown_trans {a b c : World} {r : Option Nat} (h : a.grownBy b r) (k : b.grownBy c r) : a.grownBy c r :=
  ⟨k.os.trans h.os, k.tape.trans h.tape, k.output.trans h.output, Nat.le_trans h.size k.size, fun i hi hr => (k.block i (Nat.lt_of_lt_of_le hi h.size) hr).trans (h.block i hi hr)⟩
theorem grown_more {a b : World} {r : Option Nat} (h : a.grownBy b none) : a.grownBy b r := ⟨h.os, h.tape, h.output, h.size, fun i hi _ => h.block i hi (by simp)⟩
theorem grown_cell (w : World) (p : Addr) (v : Value) : w.grownBy (w.setCell p v) (some p.block) :=
  ⟨rfl, rfl, rfl, by simp [World.setCell], fun k _ hr => Below.heap_setCell _ _ _ _ (fun e => hr (by rw [e]))⟩
theorem grown_alloc (w : World) (o : Obj) (r : Option Nat) : w.grownBy (w.alloc o) r := ⟨rfl, rfl, rfl, by simp, fun k hk _ => Below.heap_alloc _ _ _ hk⟩
theorem grown_drewN (w : World) (n : Nat) (r : Option Nat) : w.grownBy (w.drewN n) r := ⟨rfl, rfl, rfl, Nat.le_refl _, fun _ _ _ => rfl⟩
theorem grown_of_below {w w' : World} (h : Below w.heap.size w w') (r : Option Nat) : w.grownBy w' r := ⟨h.os, h.tape, h.output, h.size, fun k hk _ => h.block k hk⟩
theorem below_of_grown {w w' : World} {B : Nat} {r : Option Nat} (h : w.grownBy w' r) (hB : B ≤ w.heap.size) (hr : ∀ k, r = some k → B ≤ k) : Below B w w' :=
  ⟨h.os, h.tape, h.output, h.size, fun k hk => h.block k (by omega) (fun e => by have := hr k e.symm; omega)⟩
/-- Blocks from lo on, below hi. -/
structure Span where
  lo : Nat
  hi : Nat
/-- Block b holds a reader: why it is bad (0: it isn't); what is left of it stands in the blocks of B, below b. -/
structure Rd (w : World) (b : Nat) (B : Span) (why : Int) (zs : List Int) : Prop where
  made : w.cell? ⟨b, 0, none⟩ = some (.bool true)
  errno : w.cell? ⟨b, 1, none⟩ = some (.int .i64 why)
  rest : ∃ A n c, w.cell? ⟨b, 2, none⟩ = some (.slice A n c) ∧ Bs w B.hi A n zs ∧ n ≤ c ∧ c ≤ maxLen ∧ n ≤ 65536
  low : ∀ A n c, w.cell? ⟨b, 2, none⟩ = some (.slice A n c) → 0 < n → ∀ a, A = some a → B.lo ≤ a.block
  f1 : w.frozen? ⟨b, 1, none⟩ = false
  f2 : w.frozen? ⟨b, 2, none⟩ = false
  le : B.hi ≤ b
  bad : why ≠ 0 → zs = []
section
variable {w w' : World} {b : Nat} {B : Span} {why : Int} {zs : List Int}
theorem Rd.lt (h : Rd w b B why zs) : b < w.heap.size := World.block_lt_of_cell? _ _ h.made
theorem Rd.small (h : Rd w b B why zs) : zs.length ≤ 65536 := by
  obtain ⟨A, n, c, _, h2, _, _, h5⟩ := h.rest
  rw [h2.len]; exact h5
theorem Rd.isBytes (h : Rd w b B why zs) : IsBytes zs := by
  obtain ⟨A, n, c, _, h2, _, _, h5⟩ := h.rest
  exact h2.isBytes
theorem Rd.keep (h : Rd w b B why zs) (hb : w'.heap[b]? = w.heap[b]?) (hB : ∀ k, B.lo ≤ k → k < B.hi → w'.heap[k]? = w.heap[k]?) : Rd w' b B why zs := by
  obtain ⟨A, n, c, h1, h2, h3⟩ := h.rest
  refine ⟨(World.cell?_of_block (a := ⟨b, 0, none⟩) hb).trans h.made, (World.cell?_of_block (a := ⟨b, 1, none⟩) hb).trans h.errno,
    ⟨A, n, c, (World.cell?_of_block (a := ⟨b, 2, none⟩) hb).trans h1, ⟨h2.len, h2.rng, fun hn => ?_⟩, h3⟩,
    fun A n c hc => h.low A n c ((World.cell?_of_block (a := ⟨b, 2, none⟩) hb).symm.trans hc),
    (World.frozen?_of_block (a := ⟨b, 1, none⟩) hb).trans h.f1, (World.frozen?_of_block (a := ⟨b, 2, none⟩) hb).trans h.f2, h.le, h.bad⟩
  obtain ⟨k, off, rfl, hk, hc⟩ := h2.row hn
  have hl := h.low _ _ _ h1 hn _ rfl
  exact ⟨k, off, rfl, hk, fun j hj => (World.cell?_of_block (a := ⟨k, off + j, none⟩) (hB k hl hk)).trans (hc j hj)⟩
theorem Rd.grown {r : Option Nat} (h : Rd w b B why zs) (hg : w.grownBy w' r) (hr : ∀ k, r = some k → k ≠ b ∧ (b < k ∨ k < B.lo ∨ B.hi ≤ k)) : Rd w' b B why zs :=
  h.keep (hg.block b h.lt (fun e => (hr b e.symm).1 rfl)) (fun k hl hk => hg.block k (by have := h.lt; have := h.le; omega) (fun e => by have := (hr k e.symm).2; have := h.le; omega))
theorem Rd.below {B' : Nat} (h : Rd w b B why zs) (hb : Below B' w w') (hB : b < B') : Rd w' b B why zs :=
  h.keep (hb.block b hB) (fun k _ hk => hb.block k (by have := h.le; omega))
theorem Rd.drewN (h : Rd w b B why zs) (n : Nat) : Rd (w.drewN n) b B why zs := h.keep rfl (fun _ _ _ => rfl)
/-- It is bad from now on. -/
theorem Rd.spoilt (h : Rd w b B why zs) (x : Int) (hx : x ≠ 0) : Rd ((w.setCell ⟨b, 1, none⟩ (.int .i64 x)).setCell ⟨b, 2, none⟩ (.slice none 0 0)) b B x [] := by
  obtain ⟨A, n, c, h1, h2, h3⟩ := h.rest
  have e1 : (w.setCell ⟨b, 1, none⟩ (.int .i64 x)).cell? ⟨b, 2, none⟩ = some (.slice A n c) := by rw [World.cell?_setCell_other _ _ _ _ (by simp)]; exact h1
  refine ⟨?_, ?_, ⟨none, 0, 0, World.cell?_setCell_same _ _ _ e1, Bs.nil, Nat.le_refl _, by simp [maxLen], by omega⟩, fun A1 n1 c1 hc hn a ha => ?_, ?_, ?_, h.le, fun _ => rfl⟩
  · rw [World.cell?_setCell_other _ _ _ _ (by simp), World.cell?_setCell_other _ _ _ _ (by simp)]; exact h.made
  · rw [World.cell?_setCell_other _ _ _ _ (by simp)]; exact World.cell?_setCell_same _ _ _ h.errno
  · rw [World.cell?_setCell_same _ _ _ e1] at hc
    injection hc with hc
    injection hc with q1 q2 q3
    omega
  · rw [World.frozen?_setCell, World.frozen?_setCell]; exact h.f1
  · rw [World.frozen?_setCell, World.frozen?_setCell]; exact h.f2
/-- Its first bytes are taken. -/
theorem Rd.taken (h : Rd w b B 0 zs) {A A' : Option Addr} {n c k c' : Nat} (h1 : w.cell? ⟨b, 2, none⟩ = some (.slice A n c)) (hk : k ≤ n) (hA : CutAt A A' k (n - k)) (hc : n - k ≤ c') (hc2 : c' ≤ maxLen) :
    Rd (w.setCell ⟨b, 2, none⟩ (.slice A' (n - k) c')) b B 0 (zs.drop k) ∧ Bs (w.setCell ⟨b, 2, none⟩ (.slice A' (n - k) c')) B.hi A k (zs.take k) := by
  obtain ⟨A0, n0, c0, g1, g2, g3, g4, g5⟩ := h.rest
  rw [h1] at g1
  injection g1 with g1
  injection g1 with e1 e2 e3
  subst e1 e2 e3
  have hB := h.le
  refine ⟨⟨?_, ?_, ⟨A', n - k, c', World.cell?_setCell_same _ _ _ h1, ?_, hc, hc2, by omega⟩, fun A1 n1 c1 hc' hn a ha => ?_, ?_, ?_, h.le, fun e => absurd rfl e⟩, ?_⟩
  · rw [World.cell?_setCell_other _ _ _ _ (by simp)]; exact h.made
  · rw [World.cell?_setCell_other _ _ _ _ (by simp)]; exact h.errno
  · have := (g2.cut (k := k) (m := n - k) (by omega) A' hA).setCell (p := ⟨b, 2, none⟩) hB (.slice A' (n - k) c')
    rwa [List.take_of_length_le (by rw [List.length_drop, g2.len]; omega)] at this
  · rw [World.cell?_setCell_same _ _ _ h1] at hc'
    injection hc' with hc'
    injection hc' with q1 q2 q3
    obtain ⟨k0, off, e0, _⟩ := g2.row (by omega)
    have e9 := hA k0 off e0 (by omega)
    have := h.low _ _ _ h1 (by omega) _ e0
    rw [← q1, e9] at ha
    injection ha with ha
    rw [← ha]; exact this
  · rw [World.frozen?_setCell]; exact h.f1
  · rw [World.frozen?_setCell]; exact h.f2
  · have := (g2.cut (k := 0) (m := k) (by omega) A (fun b off e _ => by rw [e]; simp)).setCell (p := ⟨b, 2, none⟩) hB (.slice A' (n - k) c')
    rwa [List.drop_zero] at this
end
/-- A call that tells a value and leaves the world as it is. -/
def Says (v : Value) (w : World) (e : Ending) (w' : World) : Prop := e = .returned v ∧ w = w'
theorem err_any {w : World} {b : Nat} {B : Span} {why : Int} {zs : List Int} (h : Rd w b B why zs) : Calls Try.prog 19 #[.pointer (some ⟨b, 0, none⟩)] w (Says (.int .i64 why) w) := by
  have h0 := h.made
  have h1 := h.errno
  clear h
  go_enter Try.func19, Try.ntmps19
  go_wp2
  go_ret
  exact ⟨rfl, rfl⟩
theorem left_any {w : World} {b : Nat} {B : Span} {why : Int} {zs : List Int} (h : Rd w b B why zs) : Calls Try.prog 17 #[.pointer (some ⟨b, 0, none⟩)] w (Says (.int .i64 (zs.length : Nat)) w) := by
  obtain ⟨A, n, c, h1, h2, _⟩ := h.rest
  rw [h2.len]
  clear h h2
  go_enter Try.func17, Try.ntmps17
  go_wp2
  go_ret
  exact ⟨rfl, rfl⟩
/-- What End tells. -/
def endZ (why : Int) (zs : List Int) : Int := if why ≠ 0 then why else if zs.length = 0 then 0 else 40
theorem end_rd {w : World} {b : Nat} {B : Span} {why : Int} {zs : List Int} (h : Rd w b B why zs) : Calls Try.prog 20 #[.pointer (some ⟨b, 0, none⟩)] w (Says (.int .i64 (endZ why zs)) w) := by
  have HE := Lib.hid (err_any h)
  have HL := Lib.hid (left_any h)
  obtain ⟨n, hn⟩ : ∃ n, zs.length = n := ⟨_, rfl⟩
  by_cases hw : why = 0
  · have HZ : Hid (endZ why zs = if n = 0 then 0 else 40) := Lib.hid (by unfold endZ; rw [if_neg (by simpa using hw), hn])
    rw [hn] at HL
    clear h hn
    rw [hw] at HE
    by_cases h0 : n = 0
    · have HZ2 : Hid (endZ why zs = 0) := Lib.hid (by rw [HZ.out, if_pos h0])
      clear HZ
      go_enter Try.func20, Try.ntmps20
      go_wp2_with (first | (go_at_call 19; refine HE.out.mono ?_; rintro e w' ⟨rfl, rfl⟩) | (go_at_call 17; refine HL.out.mono ?_; rintro e w' ⟨rfl, rfl⟩))
      go_ret
      exact ⟨by rw [HZ2.out]; rfl, rfl⟩
    · have HZ2 : Hid (endZ why zs = 40) := Lib.hid (by rw [HZ.out, if_neg h0])
      have hp : 0 < (n : Int) := by omega
      clear HZ
      go_enter Try.func20, Try.ntmps20
      go_wp2_with (first | (go_at_call 19; refine HE.out.mono ?_; rintro e w' ⟨rfl, rfl⟩) | (go_at_call 17; refine HL.out.mono ?_; rintro e w' ⟨rfl, rfl⟩))
      go_ret
      exact ⟨by rw [HZ2.out]; rfl, rfl⟩
  · have HZ : Hid (endZ why zs = why) := Lib.hid (by unfold endZ; rw [if_pos hw])
    clear h HL hn
    have hw2 : (why == 0) = false := by simpa using hw
    go_enter Try.func20, Try.ntmps20
    go_wp2_with (first | (go_at_call 19; refine HE.out.mono ?_; rintro e w' ⟨rfl, rfl⟩))
    go_ret
    exact ⟨by rw [HZ.out]; rfl, rfl⟩
end Go.Proofs.Ytcihbkdpkhhhcaa
