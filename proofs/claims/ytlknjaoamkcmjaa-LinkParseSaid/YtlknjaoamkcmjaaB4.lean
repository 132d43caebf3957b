/- Texts of the proof, one behind the other: HmacZ Repeat HSame HBlk HSum Str HDer. -/
import Derived.Test.YtlknjaoamkcmjaaB2
import Derived.Test.YtlknjaoamkcmjaaB1
import Derived.Lib.MakeNoZero
import Derived.Lib.SlBuf
import Derived.Test.YtlknjaoamkcmjaaB3
import Derived.Deep.Cut
import Derived.Lib.ConvBytes
/- The HMAC of a key and bytes, plainly. -/
namespace Go.Proofs.Ytlknjaoamkcmjaa
open Go.ChangeShapes Go.WideShapes Go.ChangeAt Go.RowKit
set_option linter.unusedVariables false
open Plain
namespace Sha
/-- A key as the block takes it: a long one as its tag. -/
def shortZ (key : List Int) : List Int := if 64 < key.length then shaZ key else key
def keyZ (key : List Int) : List Int := shortZ key ++ List.replicate (64 - (shortZ key).length) 0
def blockZ (key : List Int) (x : Int) : List Int := xorZ (keyZ key) (List.replicate 64 x)
def hmacZ (key b : List Int) : List Int := shaZ (blockZ key 92 ++ shaZ (blockZ key 54 ++ b))
theorem shaZ_len32 (bs : List Int) : (shaZ bs).length = 32 := by unfold shaZ; exact tagZ_len _
theorem shaZ_bytes (bs : List Int) : IsBytes (shaZ bs) := by unfold shaZ; exact tagZ_bytes _
theorem shortZ_le (key : List Int) : (shortZ key).length ≤ 64 := by
  unfold shortZ
  split
  · rw [shaZ_len32]; omega
  · omega
theorem keyZ_len (key : List Int) : (keyZ key).length = 64 := by
  unfold keyZ
  have := shortZ_le key
  rw [List.length_append, List.length_replicate]; omega
theorem shortZ_bytes {key : List Int} (h : IsBytes key) : IsBytes (shortZ key) := by
  unfold shortZ
  split
  · exact shaZ_bytes _
  · exact h
theorem keyZ_bytes {key : List Int} (h : IsBytes key) : IsBytes (keyZ key) := (shortZ_bytes h).app (rep_bytes _ _ (by omega) (by omega))
theorem blockZ_len (key : List Int) (x : Int) : (blockZ key x).length = 64 := by unfold blockZ; rw [xorZ_len, keyZ_len, List.length_replicate]; omega
theorem blockZ_bytes {key : List Int} (h : IsBytes key) (x : Int) (h0 : 0 ≤ x) (h1 : x < 256) : IsBytes (blockZ key x) := xorZ_bytes (keyZ_bytes h) (rep_bytes _ _ h0 h1)
theorem hmacZ_len (key b : List Int) : (hmacZ key b).length = 32 := shaZ_len32 _
theorem hmacZ_bytes (key b : List Int) : IsBytes (hmacZ key b) := shaZ_bytes _
theorem shortZ_of {key : List Int} (h : key.length ≤ 64) : shortZ key = key := by unfold shortZ; rw [if_neg (by omega)]
theorem shortZ_long {key : List Int} (h : 64 < key.length) : shortZ key = shaZ key := by unfold shortZ; rw [if_pos h]
end Sha
end Go.Proofs.Ytlknjaoamkcmjaa
/- One byte, sixty-four times: what bytes.Repeat returns. -/
namespace Go.Proofs.Ytlknjaoamkcmjaa
open Go.ChangeShapes Go.WideShapes Go.ChangeAt Go.RowKit
set_option linter.unusedVariables false
theorem size_setCells (b : Nat) : ∀ (vs : List Value) (o : Nat) (w : World), (w.setCells b o vs).heap.size = w.heap.size
  | [], _, _ => rfl
  | v :: r, o, w => by rw [World.setCells, size_setCells b r]; simp [World.setCell]
theorem rep_at (n j : Nat) (x : Int) (h : j < n) : (List.replicate n x).getD j 0 = x := by
  rw [List.getD_eq_getElem?_getD, List.getElem?_replicate, if_pos h]; rfl
theorem range_grow {w : World} {g k m : Nat} {x : Int} (h : w.rangeAt g 0 (vals (List.replicate k x))) (ht : w.there g 0 64) (hkm : k + m ≤ 64) : (w.setCells g k (vals (List.replicate m x))).rangeAt g 0 (vals (List.replicate (k + m) x)) := by
  have h1 : (w.setCells g k (vals (List.replicate m x))).rangeAt g 0 (vals (List.replicate k x)) := World.rangeAt_setCells_apart h _ _ _ (by rw [vals_len, List.length_replicate]; right; left; omega)
  have h2 : (w.setCells g k (vals (List.replicate m x))).rangeAt g k (vals (List.replicate m x)) := World.rangeAt_setCells_same w g k _ (there_sub ht (by omega) (by rw [vals_len, List.length_replicate]; omega))
  intro j v hv
  rw [← List.replicate_append_replicate, vals_app] at hv
  by_cases hj : j < k
  · rw [List.getElem?_append_left (by rw [vals_len, List.length_replicate]; exact hj)] at hv
    exact h1 j v hv
  · rw [List.getElem?_append_right (by rw [vals_len, List.length_replicate]; omega), vals_len, List.length_replicate] at hv
    have := h2 (j - k) v hv
    rwa [show k + (j - k) = 0 + j from by omega] at this
theorem range_src {w : World} {g k m : Nat} {x : Int} (h : w.rangeAt g 0 (vals (List.replicate k x))) (hm : m ≤ k) (j : Nat) (v : Value) (hv : (vals (List.replicate m x))[j]? = some v) : w.cell? (({ block := g, off := 0 } : Addr).add j) = some v := by
  have hj : j < m := by have := (List.getElem?_eq_some_iff.1 hv).1; rwa [vals_len, List.length_replicate] at this
  have := h j v (by
    rw [← hv]
    simp [vals, hj, show j < k by omega])
  rwa [← Go.WideShapes.add_plain] at this
theorem there_arr {w : World} {b : Nat} {cs : Array Value} {t : TypeId} {fr : Nat × Nat} (h : w.heap[b]? = some (.cells cs t (0, 0))) (n : Nat) (hn : n ≤ cs.size) : w.there b 0 n := fun j hj => by
  rw [cell_of_row _ _ _ _ _ _ h]
  refine ⟨?_, frozen_of_row _ _ _ _ _ h⟩
  rw [Array.getElem?_eq_getElem (show 0 + j < cs.size by omega)]; rfl
theorem sizeOf_u8 (w : World) : (Go.sizeOf 5).run Try.prog w = .ok 1 w := by
  obtain ⟨i, z, hi, hz, hs, hb, _⟩ := u8_info
  simp [Go.sizeOf, typeInfo, hi, hs]
end Go.Proofs.Ytlknjaoamkcmjaa
/- Two tags are held against each other byte by byte, to the end: what hmac.Same returns. -/
namespace Go.Proofs.Ytlknjaoamkcmjaa
open Go.ChangeShapes Go.WideShapes Go.ChangeAt Go.RowKit
set_option linter.unusedVariables false
theorem bs_new' (w : World) (zs : List Int) (n : Nat) (hn : zs.length = n) (h : IsBytes zs) (t : TypeId) (g : Nat) (hg : w.heap.size = g) : Bs (w.alloc (.cells (vals zs).toArray t)) (g + 1) (some ⟨g, 0, none⟩) n zs := by
  subst hg hn
  refine ⟨rfl, h, fun hn => ⟨w.heap.size, 0, rfl, by omega, fun j hj => ?_⟩⟩
  have e := heap_alloc_new w (.cells (vals zs).toArray t)
  rw [cell_of_row _ _ _ _ _ _ e]
  simp [vals, List.getElem?_map, List.getElem?_eq_getElem hj, List.getD_eq_getElem?_getD]
theorem or_u8 (x y : Int) (h1 : 0 ≤ x) (h2 : x < 256) (h3 : 0 ≤ y) (h4 : y < 256) : 0 ≤ bits .or .u8 x y ∧ bits .or .u8 x y < 256 ∧ (bits .or .u8 x y = 0 ↔ x = 0 ∧ y = 0) := by
  obtain ⟨a, rfl⟩ := Int.eq_ofNat_of_zero_le h1
  obtain ⟨b, rfl⟩ := Int.eq_ofNat_of_zero_le h3
  rw [u8_or _ _ h1 h2 h3 h4]
  have := Nat.or_lt_two_pow (x := a) (y := b) (n := 8) (by omega) (by omega)
  simp only [Int.toNat_natCast]
  refine ⟨by omega, by omega, ?_⟩
  constructor
  · intro h
    have h5 : a ||| b = 0 := by omega
    rw [Nat.or_eq_zero_iff] at h5
    omega
  · rintro ⟨h5, h6⟩
    have e1 : a = 0 := by omega
    have e2 : b = 0 := by omega
    subst e1 e2
    rfl
theorem xor_zero (x y : Int) (h1 : 0 ≤ x) (h2 : x < 256) (h3 : 0 ≤ y) (h4 : y < 256) : bits .xor .u8 x y = 0 ↔ x = y := by
  obtain ⟨a, rfl⟩ := Int.eq_ofNat_of_zero_le h1
  obtain ⟨b, rfl⟩ := Int.eq_ofNat_of_zero_le h3
  rw [u8_xor _ _ h1 h2 h3 h4]
  simp only [Int.toNat_natCast]
  constructor
  · intro h
    have h5 : a ^^^ b = 0 := by omega
    have h6 : a ^^^ b ^^^ b = 0 ^^^ b := by rw [h5]
    rw [Nat.xor_assoc, Nat.xor_self, Nat.xor_zero, Nat.zero_xor] at h6
    omega
  · intro h
    have : a = b := by omega
    subst this
    simp
end Go.Proofs.Ytlknjaoamkcmjaa
/- The block of a key: what makes it. -/
namespace Go.Proofs.Ytlknjaoamkcmjaa
open Go.ChangeShapes Go.WideShapes Go.ChangeAt Go.RowKit
set_option linter.unusedVariables false
open Plain Sha
/-- Block g is the variable that holds a key's block. -/
structure KeyVar (w : World) (g : Nat) (ks : List Int) : Prop where
  lt : g < w.heap.size
  row : ∃ D c, w.cell? ⟨g, 0, none⟩ = some (.slice D 64 c) ∧ Bs w g D 64 ks
theorem KeyVar.below {w w' : World} {g B : Nat} {ks : List Int} (h : KeyVar w g ks) (hb : Below B w w') (hB : g < B) : KeyVar w' g ks := by
  obtain ⟨D, c, h1, h2⟩ := h.row
  exact ⟨Nat.lt_of_lt_of_le h.lt hb.size, D, c, (hb.cell (p := ⟨g, 0, none⟩) hB).trans h1, h2.belowM hb (by omega)⟩
theorem keyVar_new {w : World} {D : Option Addr} {c : Nat} {ks : List Int} (h : Bs w w.heap.size D 64 ks) : KeyVar (w.alloc (.cells #[.slice D 64 c] 22)) w.heap.size ks :=
  ⟨by simp, D, c, by rw [cell_of_row _ _ _ _ _ _ (heap_alloc_new w _)]; rfl, h.alloc (Nat.le_refl _) _⟩
theorem bs_range {w : World} {g n : Nat} {zs : List Int} (h : w.rangeAt g 0 (vals zs)) (hl : zs.length = n) (hb : IsBytes zs) : Bs w (g + 1) (some ⟨g, 0, none⟩) n zs := by
  subst hl
  exact ⟨rfl, hb, fun _ => ⟨g, 0, rfl, by omega, fun j hj => h j _ (vals_at zs j hj)⟩⟩
/-- A key's block, each byte exclusive-or one. -/
def Block64 (w : World) (zs : List Int) (e : Ending) (w' : World) : Prop :=
  ∃ D c, e = .returned (.slice D 64 c) ∧ Bs w' w'.heap.size D 64 zs ∧ Below w.heap.size w w'
end Go.Proofs.Ytlknjaoamkcmjaa
/- The HMAC of a key and bytes, as the program's Sum tells it. -/
namespace Go.Proofs.Ytlknjaoamkcmjaa
open Go.ChangeShapes Go.WideShapes Go.ChangeAt Go.RowKit
set_option linter.unusedVariables false
open Plain Sha
end Go.Proofs.Ytlknjaoamkcmjaa
/- A string's bytes; the slice that a string is turned into. -/
namespace Go.Proofs.Ytlknjaoamkcmjaa
open Go.ChangeShapes Go.WideShapes Go.ChangeAt Go.RowKit
set_option linter.unusedVariables false
open Plain
/-- A string's bytes as numbers. -/
def strZ (s : ByteArray) : List Int := s.data.toList.map fun c => (c.toNat : Int)
theorem strZ_len (s : ByteArray) : (strZ s).length = s.size := by unfold strZ; rw [List.length_map]; rfl
theorem strZ_bytes (s : ByteArray) : IsBytes (strZ s) := by
  rw [isBytes_iff]
  intro z hz
  simp only [strZ, List.mem_map] at hz
  obtain ⟨c, _, rfl⟩ := hz
  have := c.toNat_lt
  omega
theorem bytesW_below (w : World) (s : ByteArray) : Below w.heap.size w (Go.Lib.bytesWorld w 5 s) :=
  ⟨rfl, rfl, rfl, by rw [Go.Lib.bytesWorld_size]; omega, fun k hk => Go.Lib.bytesWorld_at_old w _ s k hk⟩
theorem bytesW_bs (w : World) (s : ByteArray) : Bs (Go.Lib.bytesWorld w 5 s) (w.heap.size + 1) (some ⟨w.heap.size, 0, none⟩) s.size (strZ s) := by
  refine ⟨strZ_len s, fun j hj => strZ_bytes s j (by rw [strZ_len]; exact hj), fun _ => ⟨w.heap.size, 0, rfl, by omega, fun j hj => ?_⟩⟩
  rw [Nat.zero_add, Go.Lib.bytesWorld_cell w _ s j hj]
  have hj' : j < s.data.toList.length := hj
  simp [strZ, List.getD_eq_getElem?_getD, List.getElem?_map, List.getElem?_eq_getElem hj']
theorem run_toBytes (w : World) (s : ByteArray) : (convert 9 22 (.string s)).run Try.prog w = .ok (.slice (some ⟨w.heap.size, 0, none⟩) s.size (grownCap w s.size 0 5)) (Go.Lib.bytesWorld w 5 s) :=
  Go.Lib.run_convert_string_bytes w _ _ 5 s Try.underlying9 Try.underlying22 Try.underlying5
end Go.Proofs.Ytlknjaoamkcmjaa
/- Derived keys: what the program's named and Derive return. -/
namespace Go.Proofs.Ytlknjaoamkcmjaa
open Go.ChangeShapes Go.WideShapes Go.ChangeAt Go.RowKit
set_option linter.unusedVariables false
open Plain Sha
/-- A slice of ints that is read. -/
structure Ns (w : World) (B : Nat) (A : Option Addr) (n : Nat) (xs : List Int) : Prop where
  len : xs.length = n
  rng : ∀ j, j < n → -9223372036854775808 ≤ xs.getD j 0 ∧ xs.getD j 0 ≤ 9223372036854775807
  row : 0 < n → ∃ b off, A = some ⟨b, off, none⟩ ∧ b < B ∧ ∀ j, j < n → w.cell? ⟨b, off + j, none⟩ = some (.int .i64 (xs.getD j 0))
theorem Ns.below {w w' : World} {B B' n : Nat} {A : Option Addr} {xs : List Int} (h : Ns w B A n xs) (hb : Below B' w w') (hB : B ≤ B') : Ns w' B A n xs :=
  ⟨h.len, h.rng, fun hn => by
    obtain ⟨b, off, rfl, hlt, hc⟩ := h.row hn
    exact ⟨b, off, rfl, hlt, fun j hj => (hb.cell (p := ⟨b, off + j, none⟩) (by show b < B'; omega)).trans (hc j hj)⟩⟩
theorem Ns.at_ {w : World} {B n : Nat} {A : Option Addr} {xs : List Int} (h : Ns w B A n xs) {k : Nat} (hk : k < n) :
    ∃ b off u, A = some ⟨b, off, none⟩ ∧ b < B ∧ Hid (xs.getD k 0 = u) ∧ -9223372036854775808 ≤ u ∧ u ≤ 9223372036854775807 ∧ w.cell? ⟨b, off + k, none⟩ = some (.int .i64 u) := by
  obtain ⟨b, off, rfl, hb, hc⟩ := h.row (by omega)
  exact ⟨b, off, _, rfl, hb, rfl, (h.rng k hk).1, (h.rng k hk).2, hc k hk⟩
/-- A number's eight bytes, below 0 as 2^64 more. -/
def numB (x : Int) : List Int := putZ (x % 18446744073709551616) 8
theorem numB_len (x : Int) : (numB x).length = 8 := putZ_len _ _
theorem numB_bytes (x : Int) : IsBytes (numB x) := putZ_bytes _ _
def numsB : List Int → List Int
  | [] => []
  | x :: l => numB x ++ numsB l
theorem numsB_snoc (l : List Int) (x : Int) : numsB (l ++ [x]) = numsB l ++ numB x := by
  induction l with
  | nil => simp [numsB]
  | cons y r ih => simp [numsB, ih]
theorem numsB_len (l : List Int) : (numsB l).length = 8 * l.length := by
  induction l with
  | nil => rfl
  | cons y r ih => simp only [numsB, List.length_append, numB_len, ih, List.length_cons]; omega
theorem numsB_bytes (l : List Int) : IsBytes (numsB l) := by
  induction l with
  | nil => exact IsBytes.nil
  | cons y r ih => exact (numB_bytes y).app ih
/-- What is summed up to derive a key. -/
def formZ (s : ByteArray) (xs : List Int) : List Int := strZ s ++ [0] ++ numsB xs
theorem formZ_len (s : ByteArray) (xs : List Int) : (formZ s xs).length = s.size + 1 + 8 * xs.length := by
  unfold formZ; rw [List.length_append, List.length_append, strZ_len, numsB_len]; rfl
theorem zero_bytes : IsBytes [0] := by unfold IsBytes; decide
theorem formZ_bytes (s : ByteArray) (xs : List Int) : IsBytes (formZ s xs) := ((strZ_bytes s).app zero_bytes).app (numsB_bytes xs)
theorem formZ_snoc (s : ByteArray) (xs : List Int) (k : Nat) (h : k < xs.length) : formZ s (xs.take (k + 1)) = formZ s (xs.take k) ++ numB (xs.getD k 0) := by
  unfold formZ
  rw [take_snoc_getD _ _ h, numsB_snoc]
  simp only [List.append_assoc]
/-- What a call hands back that makes a derived key. -/
def Key32 (w : World) (zs : List Int) (e : Ending) (w' : World) : Prop :=
  ∃ g, e = .returned (.slice (some ⟨g, 0, none⟩) 32 32) ∧ Row8 w' g 0 zs ∧ w.heap.size ≤ g ∧ g < w'.heap.size ∧ Below w.heap.size w w'
def deriveZ (key : List Int) (s : ByteArray) (xs : List Int) : List Int := hmacZ key (formZ s xs)
theorem deriveZ_len (key : List Int) (s : ByteArray) (xs : List Int) : (deriveZ key s xs).length = 32 := hmacZ_len _ _
theorem deriveZ_bytes (key : List Int) (s : ByteArray) (xs : List Int) : IsBytes (deriveZ key s xs) := hmacZ_bytes _ _
end Go.Proofs.Ytlknjaoamkcmjaa
