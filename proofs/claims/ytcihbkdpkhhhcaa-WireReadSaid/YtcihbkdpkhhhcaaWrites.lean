/- What a writer's calls put behind; what Done tells. -/
import Derived.Test.YtcihbkdpkhhhcaaWr
import Derived.Test.YtcihbkdpkhhhcaaReads2
import Derived.Test.YtcihbkdpkhhhcaaStr
namespace Go.Proofs.Ytcihbkdpkhhhcaa
open Go.ChangeShapes Go.WideShapes Go.ChangeAt Go.RowKit
set_option linter.unusedVariables false
open Plain
theorem Puts.from {w w1 w' : World} {b : Nat} {g : Option Nat} {st : Option (List Int)} {e : Ending} (h : w.grownBy w1 none) (k : Puts w1 b g st e w') : Puts w b g st e w' := by
  obtain ⟨k1, g', k2, k3, k4⟩ := k
  exact ⟨k1, g', k2, (Wrote.of_grown h (.inl rfl)).trans k3 (.inl rfl), Fresh.trans (.inl rfl) k4 h.size⟩
theorem lists_one {w : World} {B n : Nat} {A : Option Addr} {zs : List Int} (h : Bs w B A n zs) (hB : B ≤ w.heap.size) (t : TypeId) (c g : Nat) (hg : w.heap.size = g) :
    Lists (w.alloc (.cells #[.slice A n c] t)) (g + 1) (some ⟨g, 0, none⟩) 1 (fun _ => A) (fun _ => n) (fun _ => c) (fun _ => zs) := by
  subst hg
  exact ⟨fun _ => ⟨w.heap.size, 0, rfl, by omega, fun j hj => by
      have hh : (w.alloc (.cells #[.slice A n c] t)).cell? ⟨w.heap.size, 0 + j, none⟩ = (#[Value.slice A n c])[0 + j]? := cell_of_row _ _ _ _ _ _ (heap_alloc_new w _)
      rw [hh]
      match j, hj with
      | 0, _ => rfl⟩, fun j hj => ((h.more hB).alloc (Nat.le_refl _) _).more (by omega)⟩
theorem lists_two {w : World} {B1 B2 n1 n2 : Nat} {A1 A2 : Option Addr} {zs1 zs2 : List Int} (h1 : Bs w B1 A1 n1 zs1) (h2 : Bs w B2 A2 n2 zs2) (hB1 : B1 ≤ w.heap.size) (hB2 : B2 ≤ w.heap.size) (t : TypeId) (c1 c2 g : Nat) (hg : w.heap.size = g) :
    Lists (w.alloc (.cells #[.slice A1 n1 c1, .slice A2 n2 c2] t)) (g + 1) (some ⟨g, 0, none⟩) 2 (fun j => if j = 0 then A1 else A2) (fun j => if j = 0 then n1 else n2) (fun j => if j = 0 then c1 else c2) (fun j => if j = 0 then zs1 else zs2) := by
  subst hg
  exact ⟨fun _ => ⟨w.heap.size, 0, rfl, by omega, fun j hj => by
      have hh : (w.alloc (.cells #[.slice A1 n1 c1, .slice A2 n2 c2] t)).cell? ⟨w.heap.size, 0 + j, none⟩ = (#[Value.slice A1 n1 c1, .slice A2 n2 c2])[0 + j]? := cell_of_row _ _ _ _ _ _ (heap_alloc_new w _)
      rw [hh]
      match j, hj with
      | 0, _ => rfl
      | 1, _ => rfl⟩, fun j hj => by
      match j, hj with
      | 0, _ => exact ((h1.more hB1).alloc (Nat.le_refl _) _).more (by omega)
      | 1, _ => exact ((h2.more hB2).alloc (Nat.le_refl _) _).more (by omega)⟩
theorem apart_new {w : World} {b : Nat} {g : Option Nat} {st : Option (List Int)} (h : Wr w b g st) (k : Nat) (hk : w.heap.size ≤ k) {n : Nat} : Apart b g (some ⟨k, 0, none⟩) n := by
  intro _ a ha
  injection ha with ha
  subst ha
  exact ⟨by have := h.lt; show k ≠ b; omega, fun e => by have := (h.own k e.symm).2; omega⟩
theorem put1 {w : World} {b : Nat} {g : Option Nat} {st : Option (List Int)} (h : Wr w b g st) {B n : Nat} {A : Option Addr} {zs : List Int} (hz : Bs w B A n zs) (hB : B ≤ w.heap.size) (hn : n ≤ 140737488355328) (ha : Apart b g A n) (t : TypeId) (c c' gg : Nat) (hg : w.heap.size = gg) :
    Calls Try.prog 64 #[.pointer (some ⟨b, 0, none⟩), .slice (some ⟨gg, 0, none⟩) 1 c'] (w.alloc (.cells #[.slice A n c] t)) (Puts w b g (wPut st zs)) := by
  have h' : Wr (w.alloc (.cells #[.slice A n c] t)) b g st := h.grown (grown_alloc _ _ none) (by simp) (by simp)
  cases st with
  | none => exact (put_long h' _).mono fun e w' k => Puts.from (grown_alloc _ _ none) k
  | some fs =>
    have := put_ok h' c' (lists_one hz hB t c gg hg) (by simp; omega) (by simp [maxLen]) (fun _ _ => hn) (apart_new h gg (by omega)) (fun _ _ => ha)
    rw [show catTo (fun _ => zs) 1 = zs from List.nil_append _] at this
    exact this.mono fun e w' k => Puts.from (grown_alloc _ _ none) k
theorem put2 {w : World} {b : Nat} {g : Option Nat} {st : Option (List Int)} (h : Wr w b g st) {B1 B2 n1 n2 : Nat} {A1 A2 : Option Addr} {zs1 zs2 : List Int} (h1 : Bs w B1 A1 n1 zs1) (h2 : Bs w B2 A2 n2 zs2) (hB1 : B1 ≤ w.heap.size) (hB2 : B2 ≤ w.heap.size) (hn1 : n1 ≤ 140737488355328) (hn2 : n2 ≤ 140737488355328) (ha1 : Apart b g A1 n1) (ha2 : Apart b g A2 n2) (t : TypeId) (c1 c2 c' gg : Nat) (hg : w.heap.size = gg) :
    Calls Try.prog 64 #[.pointer (some ⟨b, 0, none⟩), .slice (some ⟨gg, 0, none⟩) 2 c'] (w.alloc (.cells #[.slice A1 n1 c1, .slice A2 n2 c2] t)) (Puts w b g (wPut st (zs1 ++ zs2))) := by
  have h' : Wr (w.alloc (.cells #[.slice A1 n1 c1, .slice A2 n2 c2] t)) b g st := h.grown (grown_alloc _ _ none) (by simp) (by simp)
  cases st with
  | none => exact (put_long h' _).mono fun e w' k => Puts.from (grown_alloc _ _ none) k
  | some fs =>
    have := put_ok h' c' (lists_two h1 h2 hB1 hB2 t c1 c2 gg hg) (by simp; omega) (by simp [maxLen]) (fun j _ => by split <;> assumption) (apart_new h gg (by omega)) (fun j _ => by split <;> assumption)
    rw [show catTo (fun j => if j = 0 then zs1 else zs2) 2 = zs1 ++ zs2 from by simp [catTo]] at this
    exact this.mono fun e w' k => Puts.from (grown_alloc _ _ none) k
theorem newwriter_any (w : World) : Calls Try.prog 8 #[] w (fun e w' => e = .returned (.pointer (some ⟨w.heap.size, 0, none⟩)) ∧ Wr w' w.heap.size none (some []) ∧ Below w.heap.size w w' ∧ w.heap.size < w'.heap.size) := by
  go_enter Try.func8, Try.ntmps8
  go_wp2
  go_ret
  have hh := heap_alloc_new w (.cells #[.bool true, .bool false, .slice none 0 0] 49)
  exact ⟨rfl, ⟨by rw [cell_of_row _ _ _ _ _ _ hh]; rfl, by rw [cell_of_row _ _ _ _ _ _ hh]; rfl, ⟨none, 0, 0, by rw [cell_of_row _ _ _ _ _ _ hh]; rfl, World.ownsRow_nil _ _ _ _, rfl, rfl, by omega⟩, IsBytes.nil, frozen_of_row _ _ _ _ _ hh, frozen_of_row _ _ _ _ _ hh⟩, (Below.refl _ _).alloc (Nat.le_refl _) _, by simp⟩
theorem one_byte (x : Int) (h0 : 0 ≤ x) (h1 : x < 256) : IsBytes [x] := by
  intro j hj
  have : j = 0 := by simpa using hj
  subst this
  exact ⟨h0, h1⟩
section
variable {w : World} {b : Nat} {g : Option Nat} {st : Option (List Int)}
theorem byte_wr (h : Wr w b g st) (x : Int) (h0 : 0 ≤ x) (h1 : x < 256) : Calls Try.prog 30 #[.pointer (some ⟨b, 0, none⟩), .int .u8 x] w (Puts w b g (wPut st [x])) := by
  have HC := Lib.hid (put1 (w := w.alloc (.cells (vals [x]).toArray 5)) (h.grown (grown_alloc _ _ none) (by simp) (by simp)) (bs_new w [x] 1 rfl (one_byte x h0 h1) 5 _ rfl) (by simp) (by omega) (apart_new h _ (Nat.le_refl _)) 26 1 1 (w.heap.size + 1) (by simp))
  clear h
  go_enter Try.func30, Try.ntmps30
  go_wp2_with (go_at_call 64; refine HC.out.mono ?_; intro e w' k; replace k := Puts.from (grown_alloc _ _ none) k; obtain ⟨rfl, k⟩ := k)
  go_ret
  exact ⟨rfl, k⟩
/-- A number's eight bytes, below 0 as 2^64 more. -/
def n64 (n : Int) : List Int := putZ (n % 18446744073709551616) 8
theorem int_wr (h : Wr w b g st) (n : Int) (h0 : -9223372036854775808 ≤ n) (h1 : n ≤ 9223372036854775807) : Calls Try.prog 31 #[.pointer (some ⟨b, 0, none⟩), .int .i64 n] w (Puts w b g (wPut st (n64 n))) := by
  have HP := Lib.hid (put64_any (n % 18446744073709551616) (by omega) (by omega) w)
  have HN : Hid (n64 n = putZ (n % 18446744073709551616) 8) := Lib.hid rfl
  have HZ := Lib.hid (putZ_bytes (n % 18446744073709551616) 8)
  have H := Lib.hid h
  clear h
  go_enter Try.func31, Try.ntmps31
  go_wp2_with (go_at_call 65; refine HP.out.mono ?_; intro e w1 hm; obtain ⟨A, c, rfl, ho, hb, _, _⟩ := hm.n (putZ_len ..); clear hm)
  have z1 := Made.bs ho HZ.out
  have W1 := H.out.grown (grown_of_below hb none) (by simp) (by simp)
  have ha : Apart b g A 8 := fun _ a ha => by
    have := ho.lt a.block (by rw [ha]; rfl)
    have l1 := H.out.lt
    exact ⟨by omega, fun e => by have := (H.out.own _ e.symm).2; omega⟩
  refine (put1 W1 z1 (Nat.le_refl _) (by omega) ha 26 c 1 _ rfl).mono ?_
  intro e w' k
  replace k := Puts.from (grown_of_below hb none) k
  obtain ⟨rfl, k⟩ := k
  go_wp2
  go_ret
  exact ⟨rfl, by rw [HN.out]; exact k⟩
theorem flag_wr (h : Wr w b g st) (x : Bool) : Calls Try.prog 32 #[.pointer (some ⟨b, 0, none⟩), .bool x] w (Puts w b g (wPut st [if x then 1 else 0])) := by
  have H1 := Lib.hid (byte_wr h 1 (by omega) (by omega))
  have H0 := Lib.hid (byte_wr h 0 (by omega) (by omega))
  clear h
  cases x
  · go_enter Try.func32, Try.ntmps32
    go_wp2_with (go_at_call 30; refine H0.out.mono ?_; rintro e w' ⟨rfl, k⟩)
    go_ret
    exact ⟨rfl, k⟩
  · go_enter Try.func32, Try.ntmps32
    go_wp2_with (go_at_call 30; refine H1.out.mono ?_; rintro e w' ⟨rfl, k⟩)
    go_ret
    exact ⟨rfl, k⟩
/-- Bytes behind their length. -/
def bytesF (zs : List Int) : List Int := putZ ((zs.length : Nat) % 4294967296) 4 ++ zs
theorem bytes_wr (h : Wr w b g st) {B n : Nat} {A : Option Addr} {zs : List Int} (c : Nat) (hz : Bs w B A n zs) (hB : B ≤ w.heap.size) (hn : n ≤ 140737488355328) (ha : Apart b g A n) : Calls Try.prog 33 #[.pointer (some ⟨b, 0, none⟩), .slice A n c] w (Puts w b g (wPut st (bytesF zs))) := by
  have HP := Lib.hid (put32_any ((n : Int) % 4294967296) (by omega) (by omega) w)
  have HN : Hid (bytesF zs = putZ ((n : Int) % 4294967296) 4 ++ zs) := Lib.hid (by unfold bytesF; rw [hz.len])
  have HZ := Lib.hid (putZ_bytes ((n : Int) % 4294967296) 4)
  have H := Lib.hid h
  have HB := Lib.hid hz
  clear h hz
  go_enter Try.func33, Try.ntmps33
  go_wp2_with (go_at_call 66; refine HP.out.mono ?_; intro e w1 hm; obtain ⟨A1, c1, rfl, ho, hb, _, _⟩ := hm.n (putZ_len ..); clear hm)
  have z1 := Made.bs ho HZ.out
  have W1 := H.out.grown (grown_of_below hb none) (by simp) (by simp)
  have ha1 : Apart b g A1 4 := fun _ a ha => by
    have := ho.lt a.block (by rw [ha]; rfl)
    have l1 := H.out.lt
    exact ⟨by omega, fun e => by have := (H.out.own _ e.symm).2; omega⟩
  refine (put2 W1 z1 (HB.out.below (hb.mono hB)) (Nat.le_refl _) (Nat.le_trans hB hb.size) (by omega) hn ha1 ha 26 c1 c 2 _ rfl).mono ?_
  intro e w' k
  replace k := Puts.from (grown_of_below hb none) k
  obtain ⟨rfl, k⟩ := k
  go_wp2
  go_ret
  exact ⟨rfl, by rw [HN.out]; exact k⟩
theorem text_wr (h : Wr w b g st) (s : ByteArray) (hs : s.size ≤ 140737488355328) : Calls Try.prog 34 #[.pointer (some ⟨b, 0, none⟩), .string s] w (Puts w b g (wPut st (bytesF (strZ s)))) := by
  have hc := run_toBytes w s
  have gb := grown_of_below (bytesW_below w s) none
  have HC := Lib.hid (bytes_wr (h.grown gb (by simp) (by simp)) (grownCap w s.size 0 5) (bytesW_bs w s) (by rw [Go.Lib.bytesWorld_size]; omega) hs (apart_new h _ (Nat.le_refl _)))
  have G := Lib.hid gb
  clear h gb
  go_enter Try.func34, Try.ntmps34
  go_wp2_with (go_at_call 33; refine HC.out.mono ?_; intro e w' k; replace k := Puts.from G.out k; obtain ⟨rfl, k⟩ := k)
  go_ret
  exact ⟨rfl, k⟩
theorem done_ok {fs : List Int} (h : Wr w b g (some fs)) : Calls Try.prog 12 #[.pointer (some ⟨b, 0, none⟩)] w (fun e w' => ∃ x, e = .returned (.tuple #[x, .int .i64 0]) ∧ IsList x w' w.heap.size fs ∧ Below w.heap.size w w') := by
  have h0 := h.made
  have h1 : w.cell? ⟨b, 1, none⟩ = some (.bool false) := h.long
  obtain ⟨A, n, c, h2, ho, _, hn, h5⟩ := h.form
  have z := bs_of_own ho h.bytes
  have HC := Lib.hid (cat1_any (w := w) c 26 z (Nat.le_refl _) (by omega) 1 w.heap.size rfl)
  clear h ho z hn
  go_enter Try.func12, Try.ntmps12
  go_wp2_with (go_at_call 42; refine HC.out.mono ?_; intro e w5 hm; obtain ⟨x, rfl, hx, hb⟩ := IsList.made hm; clear hm)
  go_ret2
  have hb2 : Below w.heap.size w w5 := ((Below.refl _ _).alloc (Nat.le_refl _) _).trans (hb.mono (by simp))
  obtain ⟨D, c5, h1, h2, h3⟩ := hx
  exact ⟨_, rfl, ⟨D, c5, h1, own_base h2 (by simp), h3⟩, hb2⟩
theorem done_long (h : Wr w b g none) : Calls Try.prog 12 #[.pointer (some ⟨b, 0, none⟩)] w (Says (.tuple #[.slice none 0 0, .int .i64 3]) w) := by
  have h0 := h.made
  have h1 : w.cell? ⟨b, 1, none⟩ = some (.bool true) := h.long
  clear h
  go_enter Try.func12, Try.ntmps12
  go_wp2
  go_ret2
  exact ⟨rfl, rfl⟩
end
end Go.Proofs.Ytcihbkdpkhhhcaa
