/- Texts of the proof, one behind the other: Sha Row Row8 TagEq Last Step Ord Ord3. -/
import Derived.Test.YtnnfcbcjepbjiaaB1
import Derived.Deep.MidRow
import Derived.Laws.ShiftsVarLaws
import Derived.Laws.ResultCell
import Derived.Laws.CopyOwn
import Derived.ChangeKeysEq
import Derived.OrdersHeld
import Derived.Lib.AppendZerosOnto
import Derived.Below
/- Plain facts on the hash: the numbers of a block's schedule, its rounds, the blocks of a message, the message's end, the tag. Nothing of the program's text. -/
namespace Go.Proofs.Ytnnfcbcjepbjiaa.Sha
open Go.Proofs.Ytnnfcbcjepbjiaa.Plain
set_option linter.unusedVariables false

def u32s (l : List Nat) : List Value := l.map (fun (x : Nat) => Value.int .u32 (x : Int))
def AllW (l : List Nat) : Prop := ∀ j, l.getD j 0 < 4294967296
def sg0 (x : Nat) : Nat := rotN x 7 ^^^ rotN x 18 ^^^ x / 2 ^ 3
def sg1 (x : Nat) : Nat := rotN x 17 ^^^ rotN x 19 ^^^ x / 2 ^ 10
def bs0 (x : Nat) : Nat := rotN x 2 ^^^ rotN x 13 ^^^ rotN x 22
def bs1 (x : Nat) : Nat := rotN x 6 ^^^ rotN x 11 ^^^ rotN x 25
def ch (e f g : Nat) : Nat := (e &&& f) ||| ((4294967295 - e) &&& g)
def mj (a b c : Nat) : Nat := (a &&& b) ||| (a &&& c) ||| (b &&& c)
def wNext (a b c d : Nat) : Nat := (sg1 a + b + sg0 c + d) % 4294967296
def schedTo (ws : List Nat) : Nat → List Nat
  | 0 => ws
  | k + 1 => schedTo ws k ++ [wNext ((schedTo ws k).getD (k + 14) 0) ((schedTo ws k).getD (k + 9) 0) ((schedTo ws k).getD (k + 1) 0) ((schedTo ws k).getD k 0)]
def wAt (ws : List Nat) (t : Nat) : Nat := (schedTo ws t).getD t 0

def kTab : List Nat := [
  0x428a2f98, 0x71374491, 0xb5c0fbcf, 0xe9b5dba5, 0x3956c25b, 0x59f111f1, 0x923f82a4, 0xab1c5ed5,
  0xd807aa98, 0x12835b01, 0x243185be, 0x550c7dc3, 0x72be5d74, 0x80deb1fe, 0x9bdc06a7, 0xc19bf174,
  0xe49b69c1, 0xefbe4786, 0x0fc19dc6, 0x240ca1cc, 0x2de92c6f, 0x4a7484aa, 0x5cb0a9dc, 0x76f988da,
  0x983e5152, 0xa831c66d, 0xb00327c8, 0xbf597fc7, 0xc6e00bf3, 0xd5a79147, 0x06ca6351, 0x14292967,
  0x27b70a85, 0x2e1b2138, 0x4d2c6dfc, 0x53380d13, 0x650a7354, 0x766a0abb, 0x81c2c92e, 0x92722c85,
  0xa2bfe8a1, 0xa81a664b, 0xc24b8b70, 0xc76c51a3, 0xd192e819, 0xd6990624, 0xf40e3585, 0x106aa070,
  0x19a4c116, 0x1e376c08, 0x2748774c, 0x34b0bcb5, 0x391c0cb3, 0x4ed8aa4a, 0x5b9cca4f, 0x682e6ff3,
  0x748f82ee, 0x78a5636f, 0x84c87814, 0x8cc70208, 0x90befffa, 0xa4506ceb, 0xbef9a3f7, 0xc67178f2]

structure H8 where
  (a b c d e f g h : Nat)
def H8.list (v : H8) : List Nat := [v.a, v.b, v.c, v.d, v.e, v.f, v.g, v.h]
structure H8.ok (v : H8) : Prop where
  a : v.a < 4294967296
  b : v.b < 4294967296
  c : v.c < 4294967296
  d : v.d < 4294967296
  e : v.e < 4294967296
  f : v.f < 4294967296
  g : v.g < 4294967296
  h : v.h < 4294967296
def t1Of (s : H8) (k w : Nat) : Nat := (s.h + bs1 s.e + ch s.e s.f s.g + k + w) % 4294967296
def rnd (s : H8) (k w : Nat) : H8 :=
  { a := (t1Of s k w + bs0 s.a + mj s.a s.b s.c) % 4294967296, b := s.a, c := s.b, d := s.c, e := (s.d + t1Of s k w) % 4294967296, f := s.e, g := s.f, h := s.g }
def rnds (ws : List Nat) (s : H8) : Nat → H8
  | 0 => s
  | t + 1 => rnd (rnds ws s t) (kTab.getD t 0) (wAt ws t)
def addV (v r : H8) : H8 := ⟨(v.a + r.a) % 4294967296, (v.b + r.b) % 4294967296, (v.c + r.c) % 4294967296, (v.d + r.d) % 4294967296, (v.e + r.e) % 4294967296, (v.f + r.f) % 4294967296, (v.g + r.g) % 4294967296, (v.h + r.h) % 4294967296⟩
def blk (v : H8) (ws : List Nat) : H8 := addV v (rnds ws v 64)
def h0 : H8 := ⟨0x6a09e667, 0xbb67ae85, 0x3c6ef372, 0xa54ff53a, 0x510e527f, 0x9b05688c, 0x1f83d9ab, 0x5be0cd19⟩
def wordsAt (bs : List Int) (i : Nat) : List Nat := (List.range 16).map fun t => (numZ ((bs.drop (64 * i + 4 * t)).take 4)).toNat
def behindTo (v : H8) (bs : List Int) : Nat → H8
  | 0 => v
  | i + 1 => blk (behindTo v bs i) (wordsAt bs i)
def behind (v : H8) (bs : List Int) : H8 := behindTo v bs (bs.length / 64)
def padZ (n : Nat) : List Int := 128 :: (List.replicate ((119 - n % 64) % 64) 0 ++ putZ ((8 * n : Nat) : Int) 8)
def tagZ (v : H8) : List Int := putZ v.a 4 ++ putZ v.b 4 ++ putZ v.c 4 ++ putZ v.d 4 ++ putZ v.e 4 ++ putZ v.f 4 ++ putZ v.g 4 ++ putZ v.h 4
def shaZ (bs : List Int) : List Int := tagZ (behind h0 (bs ++ padZ bs.length))

/-! ### bounds -/
theorem rot_lt {x k : Nat} (hx : x < 4294967296) (hk : k ≤ 32) : rotN x k < 4294967296 := rotN_lt x k hx hk
theorem xor_lt {x y : Nat} (hx : x < 4294967296) (hy : y < 4294967296) : x ^^^ y < 4294967296 := Nat.xor_lt_two_pow (n := 32) hx hy
theorem or_lt {x y : Nat} (hx : x < 4294967296) (hy : y < 4294967296) : x ||| y < 4294967296 := Nat.or_lt_two_pow (n := 32) hx hy
theorem and_lt {x y : Nat} (hy : y < 4294967296) : x &&& y < 4294967296 := Nat.and_lt_two_pow (n := 32) x hy
theorem mod_lt (x : Nat) : x % 4294967296 < 4294967296 := Nat.mod_lt _ (by omega)
theorem div_lt {x : Nat} (k : Nat) (hx : x < 4294967296) : x / 2 ^ k < 4294967296 := Nat.lt_of_le_of_lt (Nat.div_le_self _ _) hx
theorem sg0_lt {x : Nat} (h : x < 4294967296) : sg0 x < 4294967296 := xor_lt (xor_lt (rot_lt h (by omega)) (rot_lt h (by omega))) (div_lt _ h)
theorem sg1_lt {x : Nat} (h : x < 4294967296) : sg1 x < 4294967296 := xor_lt (xor_lt (rot_lt h (by omega)) (rot_lt h (by omega))) (div_lt _ h)
theorem bs0_lt {x : Nat} (h : x < 4294967296) : bs0 x < 4294967296 := xor_lt (xor_lt (rot_lt h (by omega)) (rot_lt h (by omega))) (rot_lt h (by omega))
theorem bs1_lt {x : Nat} (h : x < 4294967296) : bs1 x < 4294967296 := xor_lt (xor_lt (rot_lt h (by omega)) (rot_lt h (by omega))) (rot_lt h (by omega))
theorem ch_lt {e f g : Nat} (he : e < 4294967296) (hf : f < 4294967296) (hg : g < 4294967296) : ch e f g < 4294967296 := or_lt (and_lt hf) (and_lt hg)
theorem mj_lt {a b c : Nat} (ha : a < 4294967296) (hb : b < 4294967296) (hc : c < 4294967296) : mj a b c < 4294967296 := or_lt (or_lt (and_lt hb) (and_lt hc)) (and_lt hc)
theorem rnd_ok {s : H8} (h : s.ok) (k w : Nat) : (rnd s k w).ok := ⟨mod_lt _, h.a, h.b, h.c, mod_lt _, h.e, h.f, h.g⟩
theorem rnds_ok (ws : List Nat) {s : H8} (h : s.ok) : ∀ t, (rnds ws s t).ok
  | 0 => h
  | t + 1 => rnd_ok (rnds_ok ws h t) _ _
theorem addV_ok (v r : H8) : (addV v r).ok := ⟨mod_lt _, mod_lt _, mod_lt _, mod_lt _, mod_lt _, mod_lt _, mod_lt _, mod_lt _⟩
theorem blk_ok (v : H8) (ws : List Nat) : (blk v ws).ok := addV_ok _ _
theorem h0_ok : h0.ok := by constructor <;> decide
theorem behindTo_ok {v : H8} (h : v.ok) (bs : List Int) : ∀ i, (behindTo v bs i).ok
  | 0 => h
  | i + 1 => blk_ok _ _
theorem behind_ok {v : H8} (h : v.ok) (bs : List Int) : (behind v bs).ok := behindTo_ok h _ _

/-! ### the schedule -/
theorem schedTo_len (ws : List Nat) (hl : ws.length = 16) : ∀ k, (schedTo ws k).length = 16 + k
  | 0 => hl
  | k + 1 => by simp [schedTo, schedTo_len ws hl k]; omega
theorem getD_app_lt {l r : List Nat} {j : Nat} (h : j < l.length) : (l ++ r).getD j 0 = l.getD j 0 := by
  simp [List.getD_eq_getElem?_getD, List.getElem?_append_left h]
theorem getD_app_at {l : List Nat} {x : Nat} {j : Nat} (h : j = l.length) : (l ++ [x]).getD j 0 = x := by
  subst h; simp [List.getD_eq_getElem?_getD]
theorem schedTo_stay (ws : List Nat) (hl : ws.length = 16) (k : Nat) : ∀ m j, j < 16 + k → (schedTo ws (k + m)).getD j 0 = (schedTo ws k).getD j 0
  | 0, j, h => rfl
  | m + 1, j, h => by
    show (schedTo ws (k + m) ++ _).getD j 0 = _
    rw [getD_app_lt (by rw [schedTo_len ws hl]; omega)]
    exact schedTo_stay ws hl k m j h
theorem sched_at (ws : List Nat) (hl : ws.length = 16) (k j : Nat) (h : j < 16 + k) : (schedTo ws k).getD j 0 = wAt ws j := by
  unfold wAt
  by_cases hk : k ≤ j
  · obtain ⟨m, rfl⟩ := Nat.exists_eq_add_of_le hk
    exact (schedTo_stay ws hl k m _ h).symm
  · obtain ⟨m, rfl⟩ := Nat.exists_eq_add_of_le (Nat.le_of_not_le hk)
    exact schedTo_stay ws hl j m j (by omega)
theorem wAt_lo (ws : List Nat) (hl : ws.length = 16) (t : Nat) (h : t < 16) : wAt ws t = ws.getD t 0 := (sched_at ws hl 0 t (by omega)).symm
theorem wAt_hi (ws : List Nat) (hl : ws.length = 16) (k : Nat) : wAt ws (16 + k) = wNext (wAt ws (k + 14)) (wAt ws (k + 9)) (wAt ws (k + 1)) (wAt ws k) := by
  rw [← sched_at ws hl (k + 1) (16 + k) (by omega)]
  show (schedTo ws k ++ [_]).getD (16 + k) 0 = _
  rw [getD_app_at (by rw [schedTo_len ws hl]), sched_at ws hl k _ (by omega), sched_at ws hl k _ (by omega), sched_at ws hl k _ (by omega), sched_at ws hl k _ (by omega)]
theorem wAt_lt (ws : List Nat) (hl : ws.length = 16) (hw : AllW ws) (t : Nat) : wAt ws t < 4294967296 := by
  by_cases h : t < 16
  · rw [wAt_lo ws hl t h]; exact hw t
  · obtain ⟨k, rfl⟩ := Nat.exists_eq_add_of_le (Nat.le_of_not_lt h)
    rw [wAt_hi ws hl]; exact mod_lt _
theorem wNext_lt (a b c d : Nat) : wNext a b c d < 4294967296 := mod_lt _
theorem u32s_len (l : List Nat) : (u32s l).length = l.length := by simp [u32s]
theorem u32s_at (l : List Nat) (j : Nat) (h : j < l.length) : (u32s l)[j]? = some (.int .u32 ((l.getD j 0 : Nat) : Int)) := by
  simp [u32s, List.getElem?_map, List.getElem?_eq_getElem h, List.getD_eq_getElem?_getD]
theorem u32s_one (l : List Nat) : ∀ v ∈ u32s l, v.oneCell' = true := by
  intro v hv
  simp only [u32s, List.mem_map] at hv
  obtain ⟨x, _, rfl⟩ := hv
  rfl
theorem u32s_set (l : List Nat) (k x : Nat) : (u32s l).toArray.setIfInBounds k (.int .u32 (x : Int)) = (u32s (l.set k x)).toArray := by
  simp [u32s, List.map_set]
theorem getD_setN (l : List Nat) (k j x : Nat) (hk : k < l.length) : (l.set k x).getD j 0 = if k = j then x else l.getD j 0 := by
  simp only [List.getD_eq_getElem?_getD, List.getElem?_set]
  split
  · simp
  · rfl
theorem list_ext_N {a b : List Nat} (hl : a.length = b.length) (h : ∀ j, j < a.length → a.getD j 0 = b.getD j 0) : a = b := by
  apply List.ext_getElem hl
  intro j h1 h2
  have := h j h1
  simpa [List.getD_eq_getElem?_getD, List.getElem?_eq_getElem h1, List.getElem?_eq_getElem h2] using this
theorem kTab_lt (t : Nat) : kTab.getD t 0 < 4294967296 := by
  by_cases h : t < 64
  · have : ∀ t, t < 64 → kTab.getD t 0 < 4294967296 := by decide
    exact this t h
  · rw [List.getD_eq_getElem?_getD, List.getElem?_eq_none (by show 64 ≤ t; omega)]; decide

/-! ### blocks, one behind the other -/
theorem wordsAt_len (bs : List Int) (i : Nat) : (wordsAt bs i).length = 16 := by simp [wordsAt]
theorem wordsAt_at (bs : List Int) (i t : Nat) (h : t < 16) : (wordsAt bs i).getD t 0 = (numZ ((bs.drop (64 * i + 4 * t)).take 4)).toNat := by
  simp [wordsAt, List.getD_eq_getElem?_getD, h]
theorem wordsAt_lt (bs : List Int) (hb : IsBytes bs) (i : Nat) : AllW (wordsAt bs i) := by
  intro j
  by_cases h : j < 16
  · rw [wordsAt_at bs i j h]
    have := numZ_piece_range bs (64 * i + 4 * j) 4 4 (by omega) hb
    omega
  · rw [List.getD_eq_getElem?_getD, List.getElem?_eq_none (by rw [wordsAt_len]; omega)]; decide
theorem wordsAt_app_lo (a b : List Int) (i : Nat) (h : 64 * i + 64 ≤ a.length) : wordsAt (a ++ b) i = wordsAt a i := by
  refine list_ext_N (by rw [wordsAt_len, wordsAt_len]) (fun j hj => ?_)
  rw [wordsAt_len] at hj
  rw [wordsAt_at _ _ _ hj, wordsAt_at _ _ _ hj, List.drop_append_of_le_length (by omega), List.take_append_of_le_length (by simp; omega)]
theorem wordsAt_app_hi (a b : List Int) (n i : Nat) (h : a.length = 64 * n) : wordsAt (a ++ b) (n + i) = wordsAt b i := by
  refine list_ext_N (by rw [wordsAt_len, wordsAt_len]) (fun j hj => ?_)
  rw [wordsAt_len] at hj
  rw [wordsAt_at _ _ _ hj, wordsAt_at _ _ _ hj, show 64 * (n + i) + 4 * j = a.length + (64 * i + 4 * j) from by omega, List.drop_length_add_append]
theorem behindTo_app_lo (v : H8) (a b : List Int) : ∀ i, 64 * i ≤ a.length → behindTo v (a ++ b) i = behindTo v a i
  | 0, _ => rfl
  | i + 1, h => by
    show blk (behindTo v (a ++ b) i) (wordsAt (a ++ b) i) = _
    rw [behindTo_app_lo v a b i (by omega), wordsAt_app_lo a b i (by omega)]; rfl
theorem behindTo_app_hi (v : H8) (a b : List Int) (n : Nat) (h : a.length = 64 * n) : ∀ i, behindTo v (a ++ b) (n + i) = behindTo (behindTo v a n) b i
  | 0 => behindTo_app_lo v a b n (by omega)
  | i + 1 => by
    show blk (behindTo v (a ++ b) (n + i)) (wordsAt (a ++ b) (n + i)) = _
    rw [behindTo_app_hi v a b n h i, wordsAt_app_hi a b n i h]; rfl
/-- The bytes behind the whole blocks. -/
def restZ (bs : List Int) : List Int := bs.drop (64 * (bs.length / 64))
theorem restZ_len (bs : List Int) : (restZ bs).length = bs.length % 64 := by simp [restZ]; omega
theorem behind_more (v : H8) (a b : List Int) : behind (behind v a) (restZ a ++ b) = behind v (a ++ b) := by
  have hl : (a.take (64 * (a.length / 64))).length = 64 * (a.length / 64) := by simp; omega
  have e1 : a ++ b = a.take (64 * (a.length / 64)) ++ (restZ a ++ b) := by
    unfold restZ; rw [← List.append_assoc, List.take_append_drop]
  have e2 : (a ++ b).length / 64 = a.length / 64 + (restZ a ++ b).length / 64 := by
    simp only [List.length_append, restZ_len]; omega
  unfold behind
  rw [e2, e1, behindTo_app_hi v _ _ _ hl]
  congr 1
  have e3 := behindTo_app_lo v (a.take (64 * (a.length / 64))) (restZ a) (a.length / 64) (by omega)
  rw [← e3]
  unfold restZ; rw [List.take_append_drop]
theorem restZ_more (a b : List Int) : restZ (a ++ b) = (restZ a ++ b).drop (64 * ((restZ a ++ b).length / 64)) := by
  have hl : (a.take (64 * (a.length / 64))).length = 64 * (a.length / 64) := by simp; omega
  have e1 : a ++ b = a.take (64 * (a.length / 64)) ++ (restZ a ++ b) := by
    unfold restZ; rw [← List.append_assoc, List.take_append_drop]
  have e2 : (a ++ b).length / 64 = a.length / 64 + (restZ a ++ b).length / 64 := by
    simp only [List.length_append, restZ_len]; omega
  show (a ++ b).drop (64 * ((a ++ b).length / 64)) = _
  rw [e2, e1, show 64 * (a.length / 64 + (restZ a ++ b).length / 64) = (a.take (64 * (a.length / 64))).length + 64 * ((restZ a ++ b).length / 64) from by rw [hl]; omega, List.drop_length_add_append]
theorem restZ_bytes {bs : List Int} (h : IsBytes bs) : IsBytes (restZ bs) := by
  rw [isBytes_iff] at *
  intro z hz
  exact h z (List.mem_of_mem_drop hz)
theorem padZ_len (n : Nat) : (padZ n).length = 9 + (119 - n % 64) % 64 := by simp [padZ, putZ_len]; omega
theorem pad_whole (n : Nat) : (n % 64 + (padZ n).length) % 64 = 0 := by rw [padZ_len]; omega
theorem padZ_bytes (n : Nat) : IsBytes (padZ n) := by
  rw [isBytes_iff]
  intro z hz
  unfold padZ at hz
  rcases List.mem_cons.1 hz with rfl | hz
  · decide
  · rcases List.mem_append.1 hz with hz | hz
    · rw [List.mem_replicate] at hz; omega
    · exact (isBytes_iff.1 (putZ_bytes _ 8)) z hz
theorem shaZ_of (bs : List Int) : tagZ (behind (behind h0 bs) (restZ bs ++ padZ bs.length)) = shaZ bs := by
  rw [behind_more]; rfl
theorem tagZ_len (v : H8) : (tagZ v).length = 32 := by simp [tagZ, putZ_len]
theorem tagZ_bytes (v : H8) : IsBytes (tagZ v) := by
  unfold tagZ
  exact (((((((putZ_bytes _ 4).app (putZ_bytes _ 4)).app (putZ_bytes _ 4)).app (putZ_bytes _ 4)).app (putZ_bytes _ 4)).app (putZ_bytes _ 4)).app (putZ_bytes _ 4)).app (putZ_bytes _ 4)
end Go.Proofs.Ytnnfcbcjepbjiaa.Sha
/- Arrays of numbers of 32 bits in blocks of their own: read whole, read and written cell by cell. -/
namespace Go.Proofs.Ytnnfcbcjepbjiaa
open Go.ChangeShapes Go.WideShapes Go.ChangeAt Go.RowKit
set_option linter.unusedVariables false
open Plain Sha
/-- Block b holds the numbers l from its head on, and they may be written. -/
structure Row32 (w : World) (b : Nat) (l : List Nat) : Prop where
  cells : ∀ j, j < l.length → w.cell? ⟨b, j, none⟩ = some (.int .u32 ((l.getD j 0 : Nat) : Int))
  free : ∀ j, j < l.length → w.frozen? ⟨b, j, none⟩ = false
section
variable {w w' : World} {b B : Nat} {l : List Nat}
theorem Row32.lt (h : Row32 w b l) (hl : 0 < l.length) : b < w.heap.size := World.block_lt_of_cell? _ _ (h.cells 0 hl)
theorem Row32.alloc (h : Row32 w b l) (hl : 0 < l.length) (o : Obj) : Row32 (w.alloc o) b l :=
  ⟨fun j hj => by rw [World.cell?_alloc_lt _ _ _ (h.lt hl)]; exact h.cells j hj, fun j hj => by rw [World.frozen?_alloc_past _ _ _ (h.lt hl)]; exact h.free j hj⟩
theorem Row32.below (h : Row32 w b l) (hb : Below B w w') (hB : b < B) : Row32 w' b l :=
  ⟨fun j hj => (hb.cell (p := ⟨b, j, none⟩) hB).trans (h.cells j hj), fun j hj => (hb.frozen (p := ⟨b, j, none⟩) hB).trans (h.free j hj)⟩
theorem Row32.drewN (h : Row32 w b l) (n : Nat) : Row32 (w.drewN n) b l := ⟨h.1, h.2⟩
theorem Row32.drew (h : Row32 w b l) : Row32 w.drew b l := ⟨h.1, h.2⟩
theorem Row32.other (h : Row32 w b l) {p : Addr} (hp : p.block ≠ b) (u : Value) : Row32 (w.setCell p u) b l :=
  ⟨fun j hj => by rw [World.cell?_setCell_other w p _ u (fun e => by subst e; exact hp rfl)]; exact h.cells j hj, fun j hj => by rw [World.frozen?_setCell]; exact h.free j hj⟩
theorem Row32.set (h : Row32 w b l) (k x : Nat) (hk : k < l.length) : Row32 (w.setCell ⟨b, k, none⟩ (.int .u32 (x : Int))) b (l.set k x) := by
  refine ⟨fun j hj => ?_, fun j hj => ?_⟩
  · rw [List.length_set] at hj
    rw [getD_setN l k j x hk]
    split
    · next e => subst e; exact World.cell?_setCell_same _ _ _ (h.cells k hk)
    · next e => rw [World.cell?_setCell_other _ _ _ _ (fun e' => by injection e' with _ e2; exact e e2)]; exact h.cells j hj
  · rw [List.length_set] at hj
    rw [World.frozen?_setCell]; exact h.free j hj
theorem Row32.new (w : World) (l : List Nat) (t : TypeId) : Row32 (w.alloc (.cells (u32s l).toArray t)) w.heap.size l := by
  refine ⟨fun j hj => ?_, fun j hj => ?_⟩
  · rw [cell_of_row _ _ _ _ _ _ (heap_alloc_new w _)]
    simpa using u32s_at l j hj
  · exact frozen_of_row _ _ _ _ _ (heap_alloc_new w _)
theorem Row32.range (h : Row32 w b l) : w.rangeAt b 0 (u32s l) := fun j v hv => by
  have hj : j < l.length := by have := (List.getElem?_eq_some_iff.1 hv).1; rwa [u32s_len] at this
  rw [u32s_at l j hj] at hv
  rw [Nat.zero_add, h.cells j hj, hv]
theorem Row32.there (h : Row32 w b l) : w.there b 0 l.length := fun j hj => by
  rw [Nat.zero_add, h.cells j hj]; exact ⟨rfl, h.free j hj⟩
theorem Row32.thereFor (h : Row32 w b l) {r : List Nat} (hr : r.length = l.length) : w.there b 0 (u32s r).toArray.size := by
  have e : (u32s r).toArray.size = l.length := by rw [List.size_toArray, u32s_len, hr]
  rw [e]; exact h.there
theorem Row32.of_range (h : w.rangeAt b 0 (u32s l)) (ht : w.there b 0 l.length) : Row32 w b l :=
  ⟨fun j hj => by have := h j _ (u32s_at l j hj); rwa [Nat.zero_add] at this, fun j hj => by have := (ht j hj).2; rwa [Nat.zero_add] at this⟩
/-- The whole row is stored anew. -/
theorem Row32.store (h : Row32 w b l) {r : List Nat} (hr : r.length = l.length) : Row32 (w.setCells b 0 (u32s r)) b r := by
  have ht : w.there b 0 (u32s r).length := by rw [u32s_len, hr]; exact h.there
  exact .of_range (World.rangeAt_setCells_same w b 0 _ ht) (by rw [u32s_len] at ht; exact World.there_setCells ht _ _ _)
theorem Row32.storeOther (h : Row32 w b l) (b' o : Nat) (vs : List Value) (hb : b' ≠ b) : Row32 (w.setCells b' o vs) b l :=
  .of_range (World.rangeAt_setCells_apart h.range _ _ _ (.inl (fun e => hb e.symm))) (World.there_setCells h.there _ _ _)
theorem Row32.cell (h : Row32 w b l) {j : Nat} (hj : j < l.length) : ∃ x : Nat, Hid (l.getD j 0 = x) ∧ w.cell? ⟨b, j, none⟩ = some (.int .u32 (x : Int)) := ⟨_, rfl, h.cells j hj⟩
end
theorem below_setCells {B : Nat} {a : World} {b : Nat} (hb : B ≤ b) : ∀ (vs : List Value) (o : Nat) (w : World), Below B a w → Below B a (w.setCells b o vs)
  | [], _, _, h => h
  | v :: r, o, w, h => by rw [World.setCells]; exact below_setCells hb r (o + 1) _ (h.setCell (p := ⟨b, o, none⟩) hb v)
/-- A whole array is stored; the world behind it has a name of its own. -/
theorem wpList_store_as {P : Program} {ops : Array Oper} {rest : List Oper} {op : Oper} {a : Act} {w : World} {Q : Exit → Act → World → Prop} (hgd : op.guard = none) (ty : TypeId) (x y : Operand) (ho : op.op = .store ty x y)
    (b o : Nat) (cells : Array Value) (hx : a.eval x = .pointer (some ⟨b, o, none⟩)) (hy : a.eval y = .agg cells)
    (ht : w.there b o cells.size) (hi : (P.info? ty).map (·.size) = some cells.size) (h1 : cells.all (·.oneCell') = true)
    (h : ∀ w', Hid (w' = w.setCells b o cells.toList) → wpList P ops Q rest (a.put op.dst undef) w') : wpList P ops Q (op :: rest) a w :=
  wpList_store_mid hgd ty x y ho b o cells hx hy ht hi h1 (h _ (Lib.hid rfl))
theorem u32s_all (l : List Nat) : (u32s l).toArray.all (·.oneCell') = true := all_oneCell_toArray (u32s_one l)
/-- A result that is an array, in a cell of its own. -/
theorem results_mid {P : Program} {fn : Func} {p : Tmp} {ty : TypeId} (h : fn.results = #[.cell p ty]) (tmps : Array Value) (w : World) (b o : Nat) (cs : List Value) (d : TypeDesc)
    (hp : tmps.getD p undef = .pointer (some ⟨b, o, none⟩)) (hc : w.rangeAt b o cs) (hu : P.underlying ty = some d) (hd : d.isRow = true) (hi : (P.info? ty).map (·.size) = some cs.length) :
    (results fn tmps).run P w = .ok (.agg cs.toArray) w := by
  have hp' : tmps[p]?.getD undef = .pointer (some ⟨b, o, none⟩) := by simpa using hp
  simp [results, h, hp', asAddr, run_loadVar_mid w b o ty cs d hc hu hd hi]
theorem results_mid_tmp {P : Program} {fn : Func} {p u : Tmp} {ty : TypeId} (h : fn.results = #[.cell p ty, .tmp u]) (tmps : Array Value) (w : World) (b o : Nat) (cs : List Value) (d : TypeDesc)
    (hp : tmps.getD p undef = .pointer (some ⟨b, o, none⟩)) (hc : w.rangeAt b o cs) (hu : P.underlying ty = some d) (hd : d.isRow = true) (hi : (P.info? ty).map (·.size) = some cs.length) :
    (results fn tmps).run P w = .ok (.tuple #[.agg cs.toArray, tmps.getD u undef]) w := by
  rw [results_cell_tmp h, hp]
  simp [asAddr, run_loadVar_mid w b o ty cs d hc hu hd hi]
end Go.Proofs.Ytnnfcbcjepbjiaa
/- Rows of bytes in the midst of blocks: read, copied into. -/
namespace Go.Proofs.Ytnnfcbcjepbjiaa
open Go.ChangeShapes Go.WideShapes Go.ChangeAt Go.RowKit
set_option linter.unusedVariables false
open Plain Sha
/-- From offset o on block b holds the bytes l, and they may be written. -/
structure Row8 (w : World) (b o : Nat) (l : List Int) : Prop where
  range : w.rangeAt b o (vals l)
  there : w.there b o l.length
theorem vals_at (l : List Int) (j : Nat) (h : j < l.length) : (vals l)[j]? = some (.int .u8 (l.getD j 0)) := by
  simp [vals, List.getElem?_map, List.getElem?_eq_getElem h, List.getD_eq_getElem?_getD]
theorem rangeAt_same {w w' : World} {b o : Nat} {cs : List Value} (h : w.rangeAt b o cs) (e : w'.heap[b]? = w.heap[b]?) : w'.rangeAt b o cs := fun j v hv => (World.cell?_of_block (a := ⟨b, o + j, none⟩) e).trans (h j v hv)
theorem there_same {w w' : World} {b o n : Nat} (h : w.there b o n) (e : w'.heap[b]? = w.heap[b]?) : w'.there b o n := fun j hj => by
  rw [World.cell?_of_block (a := ⟨b, o + j, none⟩) e, World.frozen?_of_block (a := ⟨b, o + j, none⟩) e]; exact h j hj
theorem there_sub {w : World} {b o n o' n' : Nat} (h : w.there b o n) (h1 : o ≤ o') (h2 : o' + n' ≤ o + n) : w.there b o' n' := fun j hj => by
  have := h (o' - o + j) (by omega)
  rwa [show o + (o' - o + j) = o' + j from by omega] at this
theorem Row8.same {w w' : World} {b o : Nat} {l : List Int} (h : Row8 w b o l) (e : w'.heap[b]? = w.heap[b]?) : Row8 w' b o l := ⟨rangeAt_same h.range e, there_same h.there e⟩
theorem Row8.bs {w : World} {b o : Nat} {l : List Int} (h : Row8 w b o l) (hb : IsBytes l) {B : Nat} (hB : b < B) {n : Nat} (hn : n = l.length) : Bs w B (some ⟨b, o, none⟩) n l := by
  subst hn
  exact ⟨rfl, hb, fun _ => ⟨b, o, rfl, hB, fun j hj => h.range j _ (vals_at l j hj)⟩⟩
theorem splice_len {l zs : List Int} {k : Nat} (h : k + zs.length ≤ l.length) : (splice l k zs).length = l.length := length_splice l k zs h
theorem splice_at (l zs : List Int) (k j : Nat) (h : k + zs.length ≤ l.length) : (splice l k zs).getD j 0 = if k ≤ j ∧ j < k + zs.length then zs.getD (j - k) 0 else l.getD j 0 := by
  simp only [splice, List.getD_eq_getElem?_getD]
  by_cases h1 : j < k
  · rw [List.getElem?_append_left (by simp; omega), List.getElem?_take_of_lt h1, if_neg (by omega)]
  · have e : (l.take k).length = k := by simp; omega
    rw [List.getElem?_append_right (by omega), e]
    by_cases h2 : j < k + zs.length
    · rw [List.getElem?_append_left (by omega), if_pos ⟨by omega, h2⟩]
    · rw [List.getElem?_append_right (by omega), if_neg (by omega), List.getElem?_drop]
      congr 2; omega
/-- Bytes are laid over some of them. -/
theorem Row8.splice {w : World} {b o : Nat} {l : List Int} (h : Row8 w b o l) (k : Nat) (zs : List Int) (hk : k + zs.length ≤ l.length) : Row8 (w.setCells b (o + k) (vals zs)) b o (splice l k zs) := by
  have hl := splice_len hk
  refine ⟨fun j v hv => ?_, by rw [hl]; exact World.there_setCells h.there _ _ _⟩
  have hj : j < (Go.splice l k zs).length := by have := (List.getElem?_eq_some_iff.1 hv).1; rwa [vals_len] at this
  rw [vals_at _ j hj] at hv
  injection hv with hv
  subst hv
  rw [splice_at l zs k j hk]
  rw [hl] at hj
  split
  · next hc =>
    have := World.rangeAt_setCells_same w b (o + k) (vals zs) (fun i hi => by
      rw [vals_len] at hi
      have := h.there (k + i) (by omega)
      rwa [← Nat.add_assoc] at this) (j - k) _ (vals_at zs (j - k) (by omega))
    rwa [show o + k + (j - k) = o + j from by omega] at this
  · next hc =>
    rw [World.cell?_setCells_out b (vals zs) (o + k) w ⟨b, o + j, none⟩ (fun _ _ => by rw [vals_len]; show o + j < o + k ∨ o + k + zs.length ≤ o + j; omega)]
    exact h.range j _ (vals_at l j hj)
theorem Row8.storeOther {w : World} {b o : Nat} {l : List Int} (h : Row8 w b o l) (b' o' : Nat) (vs : List Value) (hb : b' ≠ b ∨ o + l.length ≤ o' ∨ o' + vs.length ≤ o) : Row8 (w.setCells b' o' vs) b o l :=
  ⟨World.rangeAt_setCells_apart h.range _ _ _ (by rw [vals_len]; rcases hb with h | h | h; exact .inl (fun e => h e.symm); exact .inr (.inl h); exact .inr (.inr h)), World.there_setCells h.there _ _ _⟩
theorem Row8.new (w : World) (l : List Int) (t : TypeId) : Row8 (w.alloc (.cells (vals l).toArray t)) w.heap.size 0 l := by
  refine ⟨fun j v hv => ?_, fun j hj => ?_⟩
  · rw [cell_of_row _ _ _ _ _ _ (heap_alloc_new w _), Nat.zero_add]
    simpa using hv
  · refine ⟨?_, frozen_of_row _ _ _ _ _ (heap_alloc_new w _)⟩
    rw [cell_of_row _ _ _ _ _ _ (heap_alloc_new w _), Nat.zero_add]
    have := vals_at l j hj
    simp [this]
theorem heap_setCells (b : Nat) (k : Nat) (hk : k ≠ b) : ∀ (vs : List Value) (o : Nat) (w : World), (w.setCells b o vs).heap[k]? = w.heap[k]?
  | [], _, _ => rfl
  | v :: r, o, w => by rw [World.setCells, heap_setCells b k hk r (o + 1)]; exact Below.heap_setCell w ⟨b, o, none⟩ v k hk
theorem grown_setCells {a : World} {b : Nat} : ∀ (vs : List Value) (o : Nat) (w : World), a.grownBy w (some b) → a.grownBy (w.setCells b o vs) (some b)
  | [], _, _, h => h
  | v :: r, o, w, h => by
    rw [World.setCells]
    refine grown_setCells r (o + 1) _ ⟨h.os, h.tape, h.output, by simpa [World.setCell] using h.size, fun i hi hne => ?_⟩
    exact (Below.heap_setCell w ⟨b, o, none⟩ v i (fun e => hne (by rw [e]))).trans (h.block i hi hne)
/-- copy, as a law for the walk: the cells go over; the world behind it has a name of its own. -/
theorem wpList_copy_as {P : Program} {w : World} {ops : Array Oper} {rest : List Oper} {o : Oper} {a : Act} {Q : Exit → Act → World → Prop} (hgd : o.guard = none) (d s : Operand) (dT sT : TypeId)
    (ho : o.op = .call { callee := .builtin .copy, args := #[d, s], argTypes := #[dT, sT] }) (elem : TypeId) (hu : P.underlying dT = some (.slice elem)) (hsz : (P.info? elem).map (·.size) = some 1)
    (dp sp : Option Addr) (dLen dCap sLen sCap : Nat) (hd : a.eval d = .slice dp dLen dCap) (hs : a.eval s = .slice sp sLen sCap)
    (g off : Nat) (cs : List Value) (hn : cs.length = Nat.min sLen dLen) (ht : w.there g off cs.length)
    (hpos : 0 < cs.length → dp = some ⟨g, off, none⟩ ∧ ∃ ad, sp = some ad ∧ ∀ j v, cs[j]? = some v → w.cell? (ad.add j) = some v)
    (h1 : ∀ v ∈ cs, v.oneCell' = true)
    (h : ∀ w', Hid (w' = w.setCells g off cs) → wpList P ops Q rest (a.put o.dst (goInt cs.length)) w') :
    wpList P ops Q (o :: rest) a w := by
  by_cases h0 : cs.length = 0
  · obtain rfl : cs = [] := List.eq_nil_of_length_eq_zero h0
    exact wpList_copy_nothing hgd d s dT sT ho elem hu hsz dp sp dLen dCap sLen sCap hd hs (by simpa using hn.symm) (h w (Lib.hid rfl))
  · obtain ⟨rfl, ad, rfl, hsrc⟩ := hpos (by omega)
    refine wpList_plain hgd fun K hK => ?_
    have hrun := run_copy_cells (P := P) w dT sT o.type elem g off dLen dCap ad sLen sCap cs hu hsz hn hsrc (fun j hj => (ht j hj).1) (fun j hj => (ht j hj).2) h1
    unfold Oper.wp
    simp [execOp, ho, resolve, invoke, builtin, hd, hs, hrun, Result.andThen]
    exact hK _ _ (h _ (Lib.hid rfl))
theorem step_copy_as {P : Program} {ops : Array Oper} {o : Oper} {a : Act} {w : World} {K : Act → World → Prop} {Q : Exit → Act → World → Prop} {E : Prop} (hgd : o.guard = none) (d s : Operand) (dT sT : TypeId)
    (ho : o.op = .call { callee := .builtin .copy, args := #[d, s], argTypes := #[dT, sT] }) (elem : TypeId) (hu : P.underlying dT = some (.slice elem)) (hsz : (P.info? elem).map (·.size) = some 1)
    (dp sp : Option Addr) (dLen dCap sLen sCap : Nat) (hd : a.eval d = .slice dp dLen dCap) (hs : a.eval s = .slice sp sLen sCap)
    (g off : Nat) (cs : List Value) (hn : cs.length = Nat.min sLen dLen) (ht : w.there g off cs.length)
    (hpos : 0 < cs.length → dp = some ⟨g, off, none⟩ ∧ ∃ ad, sp = some ad ∧ ∀ j v, cs[j]? = some v → w.cell? (ad.add j) = some v)
    (h1 : ∀ v ∈ cs, v.oneCell' = true)
    (h : ∀ w', Hid (w' = w.setCells g off cs) → K (a.put o.dst (goInt cs.length)) w') :
    if Region.wanted o (yielded ops a.tmps) = true then Oper.wp P o a w K Q else E := by
  have hw : Region.wanted o (yielded ops a.tmps) = true := by simp [Region.wanted, hgd]
  rw [if_pos hw]
  by_cases h0 : cs.length = 0
  · obtain rfl : cs = [] := List.eq_nil_of_length_eq_zero h0
    have hrun := run_copy_none (P := P) w dT sT o.type elem dp sp dLen dCap sLen sCap hu hsz (by simpa using hn.symm)
    unfold Oper.wp
    simp [execOp, ho, resolve, invoke, builtin, hd, hs, hrun, Result.andThen]
    exact h w (Lib.hid rfl)
  · obtain ⟨rfl, ad, rfl, hsrc⟩ := hpos (by omega)
    have hrun := run_copy_cells (P := P) w dT sT o.type elem g off dLen dCap ad sLen sCap cs hu hsz hn hsrc (fun j hj => (ht j hj).1) (fun j hj => (ht j hj).2) h1
    unfold Oper.wp
    simp [execOp, ho, resolve, invoke, builtin, hd, hs, hrun, Result.andThen]
    exact h _ (Lib.hid rfl)
end Go.Proofs.Ytnnfcbcjepbjiaa
/- Two tags are held against each other. -/
namespace Go.Proofs.Ytnnfcbcjepbjiaa
open Go.ChangeShapes Go.WideShapes Go.ChangeAt Go.RowKit
set_option linter.unusedVariables false
open Plain Sha
theorem run_part8 (a : List Int) (i : Nat) (hi : i < a.length) (w : World) : (part 5 (vals a).toArray (i * 1)).run Try.prog w = .ok (.int .u8 (a.getD i 0)) w := by
  have hx := vals_at a i hi
  simp [part, isAgg, run_underlying Try.underlying5, hx, go_sem]
theorem run_eqItems8 (d : Nat) (a b : List Int) (hl : a.length = b.length) (w : World) : ∀ (is : List Nat), (∀ i ∈ is, i < a.length) →
    (Op.eqItems (d + 1) 5 1 (vals a).toArray (vals b).toArray is).run Try.prog w = .ok (is.all fun i => a.getD i 0 == b.getD i 0) w
  | [], _ => by simp [Op.eqItems]
  | i :: is, h => by
    have hi := h i (by simp)
    simp only [Op.eqItems, Sem.run_bind, run_part8 a i hi w, run_part8 b i (by omega) w, Result.andThen_ok, run_equalIn_int w d 5 .u8 .u8 _ _ Try.underlying5, List.all_cons]
    have ih := run_eqItems8 d a b hl w is (fun j hj => h j (by simp [hj]))
    cases hc : (a.getD i 0 == b.getD i 0)
    · simp
    · simp only [Bool.not_true, Bool.false_eq_true, if_false, Bool.true_and]
      exact ih
theorem eqB_range (a b : List Int) (hl : a.length = b.length) : ((List.range a.length).all fun i => a.getD i 0 == b.getD i 0) = eqB a b := by
  rw [Bool.eq_iff_iff]
  simp only [List.all_eq_true, List.mem_range, beq_iff_eq, eqB, decide_eq_true_eq]
  exact ⟨fun h => list_ext_getD hl h, fun h _ _ => by rw [h]⟩
theorem u8_cells : Try.prog.cellsOf 5 = 1 := by kernel_rfl
/-- A guarded load of a long array, whose guard holds. -/
theorem wpList_load_guard {P : Program} {ops : Array Oper} {rest : List Oper} {op : Oper} {a : Act} {w : World} {Q : Exit → Act → World → Prop} (hw : Region.wanted op (yielded ops a.tmps) = true) (ty : TypeId) (x : Operand) (ho : op.op = .load ty x)
    (b o : Nat) (hx : a.eval x = .pointer (some ⟨b, o, none⟩)) (cs : List Value) (d : TypeDesc) (hc : w.rangeAt b o cs)
    (hu : P.underlying ty = some d) (hd : d.isRow = true) (hi : (P.info? ty).map (·.size) = some cs.length)
    (h : wpList P ops Q rest (a.put op.dst (.agg cs.toArray)) w) : wpList P ops Q (op :: rest) a w := by
  simp only [wpList, hw, if_true]
  exact .inl (wp_load_mid ty x ho b o hx cs d hc hu hd hi h)
theorem shaZ_len (bs : List Int) : (shaZ bs).length = 32 := by unfold shaZ; exact tagZ_len _
end Go.Proofs.Ytnnfcbcjepbjiaa
/- A drawn region whose last operations write what its loads read: what holds of the world (S) is asked for only till those last ones come up; each of them waits for every load that is taken first. -/
namespace Go.Proofs.Ytnnfcbcjepbjiaa
open Go.ChangeShapes Go.WideShapes Go.ChangeAt Go.RowKit
set_option linter.unusedVariables false
section
variable {P : Program} {ops : Array Oper} {Q : Exit → Act → World → Prop} {md : Region.Mode} {S : World → Prop} {ks : List Nat}
/-- Operation k waits for operation i. -/
def waitsB (md : Region.Mode) (ops : Array Oper) (k i : Nat) : Bool := ((ops[k]?).map fun o => o.after.any fun e => Region.binds md e && e.on == i).getD false
/-- Of two that may come up now neither waits for the other. -/
theorem ready_free {k i : Nat} {listed : Array Bool} (hi : i ∈ Region.ready md ops listed) (hk : k ∈ Region.ready md ops listed) : waitsB md ops k i = false := by
  cases hw : waitsB md ops k i with
  | false => rfl
  | true =>
    exfalso
    obtain ⟨o, ho, hall⟩ := (mem_ready.1 hk).2
    rw [waitsB, ho] at hw
    simp only [Option.map_some, Option.getD_some, Array.any_eq_true, Bool.and_eq_true, beq_iff_eq] at hw
    obtain ⟨n, hn, h1, h2⟩ := hw
    have yes := hall _ (Array.getElem_mem hn) h1
    have no := (mem_ready.1 hi).1
    rw [h2, Array.getD_eq_getD_getElem?] at yes
    rw [Array.getD_eq_getD_getElem?] at no
    cases hl : listed[i]? with
    | none => rw [hl] at yes; cases yes
    | some x => rw [hl] at yes no; exact absurd (yes.symm.trans no) (by decide)
/-- Whatever comes up from here on; behind each operation, but the last ones, S holds. -/
def Late (P : Program) (md : Region.Mode) (ops : Array Oper) (Q : Exit → Act → World → Prop) (S : World → Prop) (ks : List Nat) : Nat → Array Bool → Act → World → Prop
  | 0, listed, a, w => Region.ready md ops listed = [] ∧ Q .normal a w
  | f + 1, listed, a, w => (Region.ready md ops listed = [] → Q .normal a w) ∧
      ∀ i ∈ Region.ready md ops listed, wpOp P ops Q i (fun a' w' => (ks.contains i = false → S w') ∧ Late P md ops Q S ks f (listed.setIfInBounds i true) a' w') a w
theorem Late.any : ∀ (f : Nat) (listed : Array Bool) (a : Act) (w : World), Late P md ops Q S ks f listed a w → wpAny P md ops Q f listed a w
  | 0, _, _, _, h => h
  | f + 1, _, _, _, h => ⟨h.1, fun i hi => wpOp_mono (fun a' w' h' => Late.any f _ a' w' h'.2) (h.2 i hi)⟩
/-- What may stand apart from operation i while it has not come up: whoever neither waits for it nor has come up. -/
def ApartFrom (md : Region.Mode) (ops : Array Oper) (listed : Array Bool) (i : Nat) (oi : Oper) : Prop :=
  ∀ j oj, ops[j]? = some oj → j ≠ i → listed.getD j true = false → waitsB md ops j i = false → oi.apart ops oj = true
theorem ApartFrom.more {listed : Array Bool} {i j : Nat} {oi : Oper} (h : ApartFrom md ops listed i oi) (hj : listed.getD j true = false) : ApartFrom md ops (listed.setIfInBounds j true) i oi := by
  intro k ok hk hne hun hw
  by_cases e : j = k
  · rw [e] at hj; exact h k ok hk hne hj hw
  · exact h k ok hk hne (by rwa [getD_set_ne true e] at hun) hw
theorem Late.first {i : Nat} {oi : Oper} {v : Value} (hi : ops[i]? = some oi) (hsel : ∀ (j : Nat) (o : Oper) cs b, ops[j]? = some o → o.op ≠ .select cs b)
    (hQ : ∀ c a w, Q (.panic c) (a.put oi.dst v) w → Q (.panic c) a w) (hks : ∀ k ∈ ks, waitsB md ops k i = true) :
    ∀ (f : Nat) (listed : Array Bool) (a : Act) (w : World), ApartFrom md ops listed i oi → i ∈ Region.ready md ops listed → YieldsIf P ops S oi v a → S w →
      Late P md ops Q S ks f (listed.setIfInBounds i true) (a.put oi.dst v) w → Late P md ops Q S ks (f + 1) listed a w
  | f, listed, a, w, hap, hr, hy, hS, H => by
    refine ⟨fun e => absurd hr (by rw [e]; simp), fun j hj => ?_⟩
    rcases Nat.decEq j i with hne | he
    · -- another one comes up ahead of i: it is none of the last ones, for those wait for i
      have hj2 := ready_mono hj hne
      match f, H with
      | 0, H => exact absurd hj2 (by rw [H.1]; simp)
      | f + 1, H =>
        have hnk : ks.contains j = false := by
          cases hc : ks.contains j with
          | false => rfl
          | true => exact absurd (ready_free hr hj) (by rw [hks j (by simpa using hc)]; simp)
        obtain ⟨hun, oj, hoj, _⟩ := mem_ready.1 hj
        have hput := wpOp_putIf hoj (hap j oj hoj hne hun (ready_free hr hj)) (fun cs b => hsel i oi cs b hi) (fun cs b => hsel j oj cs b hoj) hQ hy (H.2 j hj2)
        refine wpOp_mono (fun a' w' ⟨y', s', l'⟩ => ⟨s', Late.first hi hsel hQ hks f _ a' w' (hap.more hun) (ready_mono hr (Ne.symm hne)) y' (s' hnk) ?_⟩) hput
        rw [Array.setIfInBounds_comm _ _ hne]
        exact l'
    · subst he
      exact hy.wpOp hi hS ⟨fun _ => hS, H⟩
/-- Take number i first. -/
theorem Late.take {i : Nat} {oi : Oper} {v : Value} {f : Nat} {listed : Array Bool} {a : Act} {w : World} (hi : ops[i]? = some oi)
    (hs : Region.noSelect ops = true) (hf : Region.free md ops listed i = true) (hr : (Region.ready md ops listed).contains i = true) (hk : (ks.all fun k => waitsB md ops k i) = true)
    (hQ : ∀ c a w, Q (.panic c) (a.put oi.dst v) w → Q (.panic c) a w) (hy : YieldsIf P ops S oi v a) (hS : S w)
    (h : Late P md ops Q S ks f (listed.setIfInBounds i true) (a.put oi.dst v) w) : Late P md ops Q S ks (f + 1) listed a w :=
  Late.first hi (Region.noSelect_spec hs) hQ (fun k hk' => List.all_eq_true.1 hk k hk') f listed a w (fun j oj h1 h2 h3 h4 => Region.free_spec hi hf j oj h1 h2 h3 (fun e he hb heq => by
    rw [waitsB, h1] at h4
    simp only [Option.map_some, Option.getD_some, Array.any_eq_false, Bool.and_eq_true, beq_iff_eq, not_and] at h4
    obtain ⟨n, hn, rfl⟩ := Array.mem_iff_getElem.1 he
    exact h4 n hn hb heq)) (by simpa using hr) hy hS h
theorem Late.done {listed : Array Bool} {a : Act} {w : World} (hr : Region.ready md ops listed = []) (h : Q .normal a w) : ∀ f, Late P md ops Q S ks f listed a w
  | 0 => ⟨hr, h⟩
  | _ + 1 => ⟨fun _ => h, by rw [hr]; simp⟩
/-- One operation alone may come up, and S holds behind it. -/
theorem Late.one {i : Nat} {o : Oper} {f : Nat} {listed : Array Bool} {a : Act} {w : World} (hr : Region.ready md ops listed = [i]) (ho : ops[i]? = some o)
    (h : ∀ K : Act → World → Prop, Hid (∀ a w, S w → (S w → Late P md ops Q S ks f (listed.setIfInBounds i true) a w) → K a w) → if Region.wanted o (yielded ops a.tmps) = true then Oper.wp P o a w K Q else K (a.put o.dst undef) w) : Late P md ops Q S ks (f + 1) listed a w :=
  ⟨fun h0 => (by rw [hr] at h0; cases h0), fun j hj => by
    rw [hr] at hj
    obtain rfl : j = i := by simpa using hj
    exact wpOp_step ho fun K hK => h K (Lib.hid fun a w h1 h2 => hK a w ⟨fun _ => h1, h2 h1⟩)⟩
/-- One of the last operations comes up. -/
theorem Late.end_ {i : Nat} {o : Oper} {f : Nat} {listed : Array Bool} {a : Act} {w : World} (hr : Region.ready md ops listed = [i]) (ho : ops[i]? = some o) (hk : ks.contains i = true)
    (h : ∀ K : Act → World → Prop, Hid (∀ a w, Late P md ops Q S ks f (listed.setIfInBounds i true) a w → K a w) → if Region.wanted o (yielded ops a.tmps) = true then Oper.wp P o a w K Q else K (a.put o.dst undef) w) : Late P md ops Q S ks (f + 1) listed a w :=
  ⟨fun h0 => (by rw [hr] at h0; cases h0), fun j hj => by
    rw [hr] at hj
    obtain rfl : j = i := by simpa using hj
    exact wpOp_step ho fun K hK => h K (Lib.hid fun a w h1 => hK a w ⟨fun e => (by rw [hk] at e; cases e), h1⟩)⟩
theorem Late.region (S : World → Prop) (ks : List Nat) {id : Nat} {a : Act} {w : World} (hm : P.follows .mixedOrders = true) (hS : S w.drew)
    (h : S w.drew → Late P .any ops (NoPanic Q) S ks ops.size (Array.replicate ops.size false) a w.drew) : (Code.region id ops true).wp P Q a w :=
  wp_region_noPanic (wp_region_any hm (Late.any _ _ _ _ (h hS)))
end
end Go.Proofs.Ytnnfcbcjepbjiaa
/- append onto a row of the call's own, of elements that may be none, in a plain region and in one that draws; what lies in a block stays there. -/
namespace Go.Proofs.Ytnnfcbcjepbjiaa
open Go.ChangeShapes Go.WideShapes Go.ChangeAt Go.RowKit
set_option linter.unusedVariables false
/-- append onto an own row, of elements that may be none; where the new row stands. -/
theorem run_app {P : Program} (w : World) (t ty : TypeId) (base : Nat) (e : TypeId) (size bytes : Nat) (ht : P.underlying t = some (.slice e)) (hinfo : ∃ i z, P.info? e = some i ∧ i.zero = some z ∧ i.size = size ∧ i.bytes = bytes ∧ z.cells.size = size) (hsz : 0 < size)
    (v : Value) (n : Nat) (xs : List Value) (hown : w.ownsRow base e size v n xs)
    (A : Option Addr) (m c : Nat) (news : List Value) (hr : Lies w size A m news) (hso : Sourced A m) (h1 : ∀ u ∈ news, u.oneCell' = true)
    (h63 : n + m ≤ maxLen) (hbytes : (n + m) * bytes ≤ 140737488355328) (hbase : base ≤ w.heap.size) :
    ∃ v' w', (Builtin.append_ #[t, t] ty #[v, .slice A m c]).run P w = .ok v' w' ∧ w'.ownsRow base e size v' (n + m) (xs ++ news) ∧ w.grownBy w' v.ownBlock ∧ (v'.ownBlock = v.ownBlock ∨ v'.ownBlock = some w.heap.size) := by
  obtain ⟨i, z, hi, hz, hsize, hby, hzs⟩ := hinfo
  cases A with
  | none =>
    have hm : m = 0 := hso rfl
    subst hm
    have hn : news = [] := List.eq_nil_of_length_eq_zero (by simpa using hr.1)
    subst hn
    exact ⟨v, w, run_append_nothing (P := P) w base t ty e i size ht hi v n xs hown c, by simpa using hown, World.grownBy.refl w _, .inl rfl⟩
  | some ad =>
    obtain ⟨v', w', q1, q2, q3, _, q5⟩ := run_append_own_at (P := P) w base t ty e i z size bytes ht hi hz hsize hby hzs hsz v n xs hown ad m c news hr.1 (hr.2 ad rfl) h1 h63 hbytes hbase
    exact ⟨v', w', q1, q2, q3, q5⟩
theorem wpList_appA {P : Program} (w : World) {ops : Array Oper} {rest : List Oper} {o : Oper} {a : Act} {Q : Exit → Act → World → Prop} (hgd : o.guard = none) (s x : Operand) (t : TypeId)
    (ho : o.op = .call { callee := .builtin .append, args := #[s, x], argTypes := #[t, t] })
    (base : Nat) (e : TypeId) (size bytes : Nat) (ht : P.underlying t = some (.slice e)) (hinfo : ∃ i z, P.info? e = some i ∧ i.zero = some z ∧ i.size = size ∧ i.bytes = bytes ∧ z.cells.size = size) (hsz : 0 < size)
    (v : Value) (n : Nat) (xs : List Value) (hs : a.eval s = v) (hown : w.ownsRow base e size v n xs)
    (A : Option Addr) (m c : Nat) (news : List Value) (hx : a.eval x = .slice A m c) (hr : Lies w size A m news) (hso : Sourced A m) (h1 : ∀ u ∈ news, u.oneCell' = true)
    (h63 : n + m ≤ maxLen) (hbytes : (n + m) * bytes ≤ 140737488355328) (hbase : base ≤ w.heap.size)
    (h : ∀ v' w', w'.ownsRow base e size v' (n + m) (xs ++ news) → w.grownBy w' v.ownBlock → (v'.ownBlock = v.ownBlock ∨ v'.ownBlock = some w.heap.size) → wpList P ops Q rest (a.put o.dst v') w') : wpList P ops Q (o :: rest) a w := by
  obtain ⟨v', w', q1, q2, q3, q4⟩ := run_app (P := P) w t o.type base e size bytes ht hinfo hsz v n xs hown A m c news hr hso h1 h63 hbytes hbase
  exact Lib.wpList_append_run w hgd s x t t ho _ _ hs hx v' w' q1 (h v' w' q2 q3 q4)
/-- The same at a step of a drawn region. -/
theorem step_app {P : Program} (w : World) {ops : Array Oper} {o : Oper} {a : Act} {K : Act → World → Prop} {Q : Exit → Act → World → Prop} {E : Prop} (hgd : o.guard = none) (s x : Operand) (t : TypeId)
    (ho : o.op = .call { callee := .builtin .append, args := #[s, x], argTypes := #[t, t] })
    (base : Nat) (e : TypeId) (size bytes : Nat) (ht : P.underlying t = some (.slice e)) (hinfo : ∃ i z, P.info? e = some i ∧ i.zero = some z ∧ i.size = size ∧ i.bytes = bytes ∧ z.cells.size = size) (hsz : 0 < size)
    (v : Value) (n : Nat) (xs : List Value) (hs : a.eval s = v) (hown : w.ownsRow base e size v n xs)
    (A : Option Addr) (m c : Nat) (news : List Value) (hx : a.eval x = .slice A m c) (hr : Lies w size A m news) (hso : Sourced A m) (h1 : ∀ u ∈ news, u.oneCell' = true)
    (h63 : n + m ≤ maxLen) (hbytes : (n + m) * bytes ≤ 140737488355328) (hbase : base ≤ w.heap.size)
    (h : ∀ v' w', w'.ownsRow base e size v' (n + m) (xs ++ news) → w.grownBy w' v.ownBlock → (v'.ownBlock = v.ownBlock ∨ v'.ownBlock = some w.heap.size) → K (a.put o.dst v') w') : if Region.wanted o (yielded ops a.tmps) = true then Oper.wp P o a w K Q else E := by
  have hw : Region.wanted o (yielded ops a.tmps) = true := by simp [Region.wanted, hgd]
  rw [if_pos hw]
  obtain ⟨v', w', q1, q2, q3, q4⟩ := run_app (P := P) w t o.type base e size bytes ht hinfo hsz v n xs hown A m c news hr hso h1 h63 hbytes hbase
  exact Lib.wp_append_run w s x t t ho _ _ hs hx v' w' q1 (h v' w' q2 q3 q4)
theorem Lies.alloc {w : World} {size m b : Nat} {vs : List Value} (h : Lies w size (some ⟨b, 0, none⟩) m vs) (hb : b < w.heap.size) (o : Obj) : Lies (w.alloc o) size (some ⟨b, 0, none⟩) m vs :=
  ⟨h.1, fun ad hA j u hu => by
    injection hA with hA; subst hA
    have := h.2 _ rfl j u hu
    rw [Go.WideShapes.add_plain] at this ⊢
    rw [World.cell?_alloc_lt _ _ _ hb]; exact this⟩
theorem Lies.grown {w w' : World} {size m b : Nat} {vs : List Value} {row : Option Nat} (h : Lies w size (some ⟨b, 0, none⟩) m vs) (hg : w.grownBy w' row) (hne : row ≠ some b) : Lies w' size (some ⟨b, 0, none⟩) m vs :=
  ⟨h.1, fun ad hA j u hu => by
    injection hA with hA; subst hA
    have := h.2 _ rfl j u hu
    rw [Go.WideShapes.add_plain] at this ⊢
    exact hg.cell this (fun e => hne e.symm)⟩
end Go.Proofs.Ytnnfcbcjepbjiaa
/- A drawn region's operations that make memory, in whatever order they come up: each has a fact on its value that stands whatever grows behind it. One goal an operation, whatever the orders. -/
namespace Go.Proofs.Ytnnfcbcjepbjiaa
open Go.ChangeShapes Go.WideShapes Go.ChangeAt Go.RowKit
set_option linter.unusedVariables false
def slotOf (ops : Array Oper) (i : Nat) : Nat := ((ops[i]?).bind (·.dst)).getD 0
/-- The value that operation i has left. -/
def valOf (ops : Array Oper) (a : Act) (i : Nat) : Value := a.tmps.getD (slotOf ops i) undef
/-- Two activations are the same but for these slots. -/
structure Agree (a0 a : Act) (ss : List Nat) : Prop where
  defers : a.defers = a0.defers
  size : a.tmps.size = a0.tmps.size
  same : ∀ t, ss.contains t = false → a.tmps[t]? = a0.tmps[t]?
theorem Agree.refl (a : Act) (ss : List Nat) : Agree a a ss := ⟨rfl, rfl, fun _ _ => rfl⟩
theorem Agree.put {a0 a : Act} {ss : List Nat} (h : Agree a0 a ss) (s : Nat) (hs : ss.contains s = true) (v : Value) : Agree a0 (a.put (some s) v) ss := by
  refine ⟨h.defers, by simp [Act.put, h.size], fun t ht => ?_⟩
  have hne : s ≠ t := fun e => by subst e; rw [hs] at ht; cases ht
  simp only [Act.put, Array.getElem?_setIfInBounds_ne hne]
  exact h.same t ht
theorem Agree.get {a0 a : Act} {ss : List Nat} (h : Agree a0 a ss) (t : Nat) (ht : ss.contains t = false) : a.tmps[t]?.getD undef = a0.tmps[t]?.getD undef := by rw [h.same t ht]
/-- The activation, written out. -/
theorem Agree.eq {a0 a : Act} {ss : List Nat} (h : Agree a0 a ss) : a = ss.foldl (fun b s => b.put (some s) (a.tmps[s]?.getD undef)) a0 := by
  have key : ∀ (ss : List Nat) (b : Act), b.tmps.size = a.tmps.size → b.defers = a.defers → (∀ t, ss.contains t = false → a.tmps[t]? = b.tmps[t]?) → a = ss.foldl (fun b s => b.put (some s) (a.tmps[s]?.getD undef)) b := by
    intro ss
    induction ss with
    | nil =>
      intro b h1 h2 h3
      obtain ⟨bt, bd⟩ := b
      obtain ⟨at_, ad⟩ := a
      simp only at h1 h2 h3
      subst h2
      have : at_ = bt := Array.ext_getElem? (fun t => h3 t rfl)
      rw [this]; rfl
    | cons s r ih =>
      intro b h1 h2 h3
      rw [List.foldl_cons]
      refine ih _ (by simpa [Act.put] using h1) h2 (fun t ht => ?_)
      by_cases e : s = t
      · subst e
        by_cases hb : s < b.tmps.size
        · simp only [Act.put, Array.getElem?_setIfInBounds_self_of_lt hb]
          rw [Array.getElem?_eq_getElem (by omega)]; rfl
        · rw [Array.getElem?_eq_none (by omega), Array.getElem?_eq_none (by simp [Act.put]; omega)]
      · simp only [Act.put, Array.getElem?_setIfInBounds_ne e]
        refine h3 t ?_
        rw [List.contains_cons, ht, Bool.or_false, beq_eq_false_iff_ne]
        exact fun e' => e e'.symm
  exact key ss a0 h.size.symm h.defers.symm h.same
def setAll (L : Array Bool) (is : List Nat) : Array Bool := is.foldl (fun L i => L.setIfInBounds i true) L
theorem setAll_size (is : List Nat) : ∀ L, (setAll L is).size = L.size := by
  induction is with
  | nil => intro L; rfl
  | cons i r ih => intro L; show (setAll (L.setIfInBounds i true) r).size = _; rw [ih]; simp
theorem setAll_at (is : List Nat) : ∀ (L : Array Bool) (t : Nat), (setAll L is)[t]? = if is.contains t = true ∧ t < L.size then some true else L[t]? := by
  induction is with
  | nil => intro L t; rw [if_neg (by simp)]; rfl
  | cons i r ih =>
    intro L t
    show (setAll (L.setIfInBounds i true) r)[t]? = _
    rw [ih, Array.size_setIfInBounds, List.contains_cons]
    by_cases hr : r.contains t = true ∧ t < L.size
    · rw [if_pos hr, if_pos ⟨by rw [hr.1, Bool.or_true], hr.2⟩]
    · rw [if_neg hr]
      by_cases e : t = i
      · subst e
        by_cases hl : t < L.size
        · rw [if_pos ⟨by simp, hl⟩, Array.getElem?_setIfInBounds_self_of_lt hl]
        · rw [if_neg (fun h => hl h.2), Array.getElem?_eq_none (by simp; omega), Array.getElem?_eq_none (by omega)]
      · rw [Array.getElem?_setIfInBounds_ne (fun h => e h.symm)]
        by_cases hc : r.contains t = true
        · have hl : ¬ t < L.size := fun h => hr ⟨hc, h⟩
          rw [if_neg (fun h => hl h.2)]
        · rw [if_neg]
          rintro ⟨h1, h2⟩
          rw [Bool.or_eq_true, beq_iff_eq] at h1
          exact h1.elim e hc
theorem setAll_set (is : List Nat) (L : Array Bool) (i : Nat) (hi : is.contains i = true) : setAll (L.setIfInBounds i true) is = setAll L is := by
  apply Array.ext_getElem?
  intro t
  rw [setAll_at, setAll_at, Array.size_setIfInBounds]
  split
  · rfl
  · next h =>
    by_cases e : i = t
    · subst e
      have hl : ¬ i < L.size := fun hl => h ⟨hi, hl⟩
      rw [Array.getElem?_eq_none (by simp; omega), Array.getElem?_eq_none (by omega)]
    · rw [Array.getElem?_setIfInBounds_ne e]
theorem setAll_full (is : List Nat) (L : Array Bool) (h : ∀ i, is.contains i = true → L.getD i false = true) : setAll L is = L := by
  apply Array.ext_getElem?
  intro t
  rw [setAll_at]
  split
  · next hc =>
    have := h t hc.1
    rw [Array.getD_eq_getD_getElem?, Array.getElem?_eq_getElem hc.2] at this
    rw [Array.getElem?_eq_getElem hc.2]
    exact congrArg some this.symm
  · rfl
section
variable {P : Program} {ops : Array Oper} {Q : Exit → Act → World → Prop} {md : Region.Mode} {S : World → Prop} {ks : List Nat}
/-- From this state on the operations 'is' alone come up, till all of them have. -/
def ordB (md : Region.Mode) (ops : Array Oper) (is : List Nat) : Nat → Array Bool → Bool
  | 0, L => is.all fun i => L.getD i false
  | f + 1, L => (Region.ready md ops L).length != 0 && (Region.ready md ops L).all fun i => is.contains i && ordB md ops is f (L.setIfInBounds i true)
def slotsB (ops : Array Oper) (is : List Nat) (n : Nat) : Bool :=
  is.all fun i => ((ops[i]?).bind (·.dst)).isSome && decide (slotOf ops i < n) && is.all fun j => i == j || slotOf ops i != slotOf ops j
/-- A fact on a value that stands whatever grows. -/
structure SF where
  F : Value → World → Prop
  st : ∀ v w w', F v w → Below w.heap.size w w' → F v w'
def sfTrue : SF := ⟨fun _ _ => True, fun _ _ _ _ _ => trivial⟩
theorem valOf_at {ops : Array Oper} {i s : Nat} (h : slotOf ops i = s) (a : Act) : valOf ops a i = a.tmps[s]?.getD undef := by
  unfold valOf
  rw [h, Array.getD_eq_getD_getElem?]
/-- What is asked of an operation that may come up at any time: its value meets its fact, nothing that was there turns. -/
def Step (P : Program) (ops : Array Oper) (Q : Exit → Act → World → Prop) (md : Region.Mode) (S : World → Prop) (fs : Nat → SF) (is : List Nat) (a0 : Act) (i : Nat) : Prop :=
  ∀ o, ops[i]? = some o → ∀ (a : Act) (w : World) (K : Act → World → Prop), S w → Agree a0 a (is.map (slotOf ops)) → (∀ j s, is.contains j = true → waitsB md ops i j = true → slotOf ops j = s → (fs j).F (a.tmps[s]?.getD undef) w) →
    Hid (∀ v w', Below w.heap.size w w' → (fs i).F v w' → K (a.put o.dst v) w') → if Region.wanted o (yielded ops a.tmps) = true then Oper.wp P o a w K Q else K (a.put o.dst undef) w
theorem Step.of {fs : Nat → SF} {is : List Nat} {a0 : Act} {i : Nat} {o : Oper} (ho : ops[i]? = some o)
    (h : ∀ (a : Act) (w : World) (K : Act → World → Prop), S w → Agree a0 a (is.map (slotOf ops)) → (∀ j s, is.contains j = true → waitsB md ops i j = true → slotOf ops j = s → (fs j).F (a.tmps[s]?.getD undef) w) →
      Hid (∀ v w', Below w.heap.size w w' → (fs i).F v w' → K (a.put o.dst v) w') → if Region.wanted o (yielded ops a.tmps) = true then Oper.wp P o a w K Q else K (a.put o.dst undef) w) : Step P ops Q md S fs is a0 i := by
  intro o' ho'
  obtain rfl := Option.some.inj (ho.symm.trans ho')
  exact h
def Steps (P : Program) (ops : Array Oper) (Q : Exit → Act → World → Prop) (md : Region.Mode) (S : World → Prop) (fs : Nat → SF) (is : List Nat) (a0 : Act) : List Nat → Prop
  | [] => True
  | i :: r => Step P ops Q md S fs is a0 i ∧ Steps P ops Q md S fs is a0 r
theorem Steps.at_ {fs : Nat → SF} {is : List Nat} {a0 : Act} : ∀ (l : List Nat), Steps P ops Q md S fs is a0 l → ∀ i, i ∈ l → Step P ops Q md S fs is a0 i
  | [], _, i, hi => by cases hi
  | j :: r, h, i, hi => by
    rcases List.mem_cons.1 hi with rfl | hi
    · exact h.1
    · exact Steps.at_ r h.2 i hi
theorem Late.orders_go {fs : Nat → SF} (is : List Nat) (a0 : Act) (L0 : Array Bool) (f0 : Nat) (hsl : slotsB ops is a0.tmps.size = true)
    (hSs : ∀ w w', S w → Below w.heap.size w w' → S w')
    (hst : Steps P ops Q md S fs is a0 is)
    (hend : ∀ a w, S w → Agree a0 a (is.map (slotOf ops)) → (∀ j, is.contains j = true → (fs j).F (valOf ops a j) w) → Late P md ops Q S ks f0 (setAll L0 is) a w) :
    ∀ (f : Nat) (L : Array Bool) (a : Act) (w : World), ordB md ops is f L = true → setAll L is = setAll L0 is → S w → Agree a0 a (is.map (slotOf ops)) →
      (∀ j, is.contains j = true → L.getD j false = true → (fs j).F (valOf ops a j) w) → Late P md ops Q S ks (f + f0) L a w
  | 0, L, a, w, ho, hL, hS, hA, hV => by
    rw [Nat.zero_add]
    have hall : ∀ i, is.contains i = true → L.getD i false = true := fun i hi => by
      simp only [ordB, List.all_eq_true] at ho
      exact ho i (by simpa using hi)
    rw [← setAll_full is L hall, hL]
    exact hend a w hS hA (fun j hj => hV j hj (hall j hj))
  | f + 1, L, a, w, ho, hL, hS, hA, hV => by
    simp only [ordB, Bool.and_eq_true, List.all_eq_true, bne_iff_ne] at ho
    obtain ⟨h1, h2⟩ := ho
    rw [show f + 1 + f0 = (f + f0) + 1 by omega]
    refine ⟨fun e => absurd (by rw [e]; rfl) h1, fun i hi => ?_⟩
    obtain ⟨hc, hor⟩ := h2 i hi
    obtain ⟨hun, o, hoi, hall⟩ := mem_ready.1 hi
    have hs := hsl
    simp only [slotsB, List.all_eq_true, Bool.and_eq_true, decide_eq_true_eq, Bool.or_eq_true, beq_iff_eq, bne_iff_ne] at hs
    have hmem : i ∈ is := by simpa using hc
    obtain ⟨⟨hd1, hd2⟩, hd3⟩ := hs i hmem
    obtain ⟨d, hd⟩ := Option.isSome_iff_exists.1 hd1
    have hod : o.dst = some d := by rw [hoi] at hd; exact hd
    have hsd : slotOf ops i = d := by unfold slotOf; rw [hd]; rfl
    refine wpOp_step hoi fun K hK => Steps.at_ is hst i hmem o hoi a w K hS hA (fun j s hj hw hsj => valOf_at hsj a ▸ hV j hj ?_) (Lib.hid fun v w' hb hg => hK _ _ ⟨fun _ => hSs w w' hS hb, ?_⟩)
    · rw [waitsB, hoi] at hw
      simp only [Option.map_some, Option.getD_some, Array.any_eq_true, Bool.and_eq_true, beq_iff_eq] at hw
      obtain ⟨n, hn, e1, e2⟩ := hw
      have := hall _ (Array.getElem_mem hn) e1
      rwa [e2] at this
    · rw [hod]
      have hput : ∀ t, d ≠ t → (a.put (some d) v).tmps.getD t undef = a.tmps.getD t undef := fun t ht => by
        rw [Array.getD_eq_getD_getElem?, Array.getD_eq_getD_getElem?]
        simp only [Act.put, Array.getElem?_setIfInBounds_ne ht]
      refine Late.orders_go is a0 L0 f0 hsl hSs hst hend f _ _ _ hor ((setAll_set is L i hc).trans hL) (hSs w w' hS hb) (hA.put d (by
        rw [List.contains_iff_mem, List.mem_map]; exact ⟨i, hmem, hsd⟩) v) (fun j hj hlj => ?_)
      by_cases e : i = j
      · subst e
        have : valOf ops (a.put (some d) v) i = v := by
          unfold valOf
          rw [hsd, Array.getD_eq_getD_getElem?]
          simp only [Act.put]
          rw [Array.getElem?_setIfInBounds_self_of_lt (by rw [hA.size, ← hsd]; exact hd2)]
          rfl
        rw [this]; exact hg
      · rw [getD_set_ne false e] at hlj
        have h5 := hV j hj hlj
        have hne : d ≠ slotOf ops j := by
          have := hd3 j (by simpa using hj)
          rw [← hsd]
          exact this.resolve_left e
        have : valOf ops (a.put (some d) v) j = valOf ops a j := hput _ hne
        rw [this]
        exact (fs j).st _ _ _ h5 hb
/-- The operations 'is' in any order, then the rest. ss: their slots. -/
theorem Late.orders (fs : Nat → SF) (is ss : List Nat) {f f0 : Nat} {a0 : Act} {L0 : Array Bool} {w0 : World} (hss : is.map (slotOf ops) = ss) (hf : f = is.length + f0) (hor : ordB md ops is is.length L0 = true) (hsl : slotsB ops is a0.tmps.size = true) (hun : (is.all fun i => !L0.getD i false) = true)
    (hS : S w0) (hSs : ∀ w w', S w → Below w.heap.size w w' → S w')
    (hst : Steps P ops Q md S fs is a0 is)
    (hend : ∀ a w, S w → Agree a0 a ss → (∀ j s, is.contains j = true → slotOf ops j = s → (fs j).F (a.tmps[s]?.getD undef) w) → Late P md ops Q S ks f0 (setAll L0 is) a w) : Late P md ops Q S ks f L0 a0 w0 := by
  subst hf hss
  refine Late.orders_go is a0 L0 f0 hsl hSs hst (fun a w h1 h2 h3 => hend a w h1 h2 (fun j s hj hs => valOf_at hs a ▸ h3 j hj)) is.length L0 a0 w0 hor rfl hS (Agree.refl _ _) (fun j hj hl => ?_)
  simp only [List.all_eq_true] at hun
  have := hun j (by simpa using hj)
  rw [hl] at this
  cases this
end
end Go.Proofs.Ytnnfcbcjepbjiaa
/- A drawn region's operations that make memory, in whatever order they come up, with one among them that may turn what the others have made. -/
namespace Go.Proofs.Ytnnfcbcjepbjiaa
open Go.ChangeShapes Go.WideShapes Go.ChangeAt Go.RowKit
set_option linter.unusedVariables false
section
variable {P : Program} {ops : Array Oper} {Q : Exit → Act → World → Prop} {md : Region.Mode} {S : World → Prop} {ks : List Nat}
/-- From this state on the operations 'is' and z alone come up, till all of them have; behind z only those of post. -/
def ordZ (md : Region.Mode) (ops : Array Oper) (is post : List Nat) (z : Nat) : Nat → Array Bool → Bool
  | 0, L => (z :: is).all fun i => L.getD i false
  | f + 1, L => (Region.ready md ops L).length != 0 && (Region.ready md ops L).all fun i => (i == z || is.contains i && (!L.getD z false || post.contains i)) && ordZ md ops is post z f (L.setIfInBounds i true)
/-- As Step; zb: z has come up. -/
def StepZ (P : Program) (ops : Array Oper) (Q : Exit → Act → World → Prop) (md : Region.Mode) (S : World → Prop) (fs : Bool → Nat → SF) (is post : List Nat) (z : Nat) (a0 : Act) (i : Nat) : Prop :=
  ∀ o, ops[i]? = some o → ∀ (zb : Bool) (a : Act) (w : World) (K : Act → World → Prop), (zb = true → post.contains i = true) → S w → Agree a0 a ((z :: is).map (slotOf ops)) → (∀ j s, (z :: is).contains j = true → waitsB md ops i j = true → slotOf ops j = s → (fs zb j).F (a.tmps[s]?.getD undef) w) →
    Hid (∀ v w', Below w.heap.size w w' → (fs zb i).F v w' → K (a.put o.dst v) w') → if Region.wanted o (yielded ops a.tmps) = true then Oper.wp P o a w K Q else K (a.put o.dst undef) w
theorem StepZ.of {fs : Bool → Nat → SF} {is post : List Nat} {z : Nat} {a0 : Act} {i : Nat} {o : Oper} (ho : ops[i]? = some o)
    (h : ∀ (zb : Bool) (a : Act) (w : World) (K : Act → World → Prop), (zb = true → post.contains i = true) → S w → Agree a0 a ((z :: is).map (slotOf ops)) → (∀ j s, (z :: is).contains j = true → waitsB md ops i j = true → slotOf ops j = s → (fs zb j).F (a.tmps[s]?.getD undef) w) →
      Hid (∀ v w', Below w.heap.size w w' → (fs zb i).F v w' → K (a.put o.dst v) w') → if Region.wanted o (yielded ops a.tmps) = true then Oper.wp P o a w K Q else K (a.put o.dst undef) w) : StepZ P ops Q md S fs is post z a0 i := by
  intro o' ho'
  obtain rfl := Option.some.inj (ho.symm.trans ho')
  exact h
/-- What is asked of z. -/
def TurnZ (P : Program) (ops : Array Oper) (Q : Exit → Act → World → Prop) (md : Region.Mode) (S : World → Prop) (fs : Bool → Nat → SF) (is : List Nat) (z : Nat) (a0 : Act) : Prop :=
  ∀ o, ops[z]? = some o → ∀ (a : Act) (w : World) (K : Act → World → Prop), S w → Agree a0 a ((z :: is).map (slotOf ops)) → (∀ j s, is.contains j = true → waitsB md ops z j = true → slotOf ops j = s → (fs false j).F (a.tmps[s]?.getD undef) w) →
    Hid (∀ v w', S w' → (fs true z).F v w' → (∀ j s, is.contains j = true → slotOf ops j = s → (fs false j).F (a.tmps[s]?.getD undef) w → (fs true j).F (a.tmps[s]?.getD undef) w') → K (a.put o.dst v) w') → if Region.wanted o (yielded ops a.tmps) = true then Oper.wp P o a w K Q else K (a.put o.dst undef) w
theorem TurnZ.of {fs : Bool → Nat → SF} {is : List Nat} {z : Nat} {a0 : Act} {o : Oper} (ho : ops[z]? = some o)
    (h : ∀ (a : Act) (w : World) (K : Act → World → Prop), S w → Agree a0 a ((z :: is).map (slotOf ops)) → (∀ j s, is.contains j = true → waitsB md ops z j = true → slotOf ops j = s → (fs false j).F (a.tmps[s]?.getD undef) w) →
      Hid (∀ v w', S w' → (fs true z).F v w' → (∀ j s, is.contains j = true → slotOf ops j = s → (fs false j).F (a.tmps[s]?.getD undef) w → (fs true j).F (a.tmps[s]?.getD undef) w') → K (a.put o.dst v) w') → if Region.wanted o (yielded ops a.tmps) = true then Oper.wp P o a w K Q else K (a.put o.dst undef) w) : TurnZ P ops Q md S fs is z a0 := by
  intro o' ho'
  obtain rfl := Option.some.inj (ho.symm.trans ho')
  exact h
theorem Late.ordersZ_go {fs : Bool → Nat → SF} (is post : List Nat) (z : Nat) (a0 : Act) (L0 : Array Bool) (f0 : Nat) (hsl : slotsB ops (z :: is) a0.tmps.size = true) (hzi : is.contains z = false)
    (hSs : ∀ w w', S w → Below w.heap.size w w' → S w')
    (hst : ∀ i, i ∈ is → StepZ P ops Q md S fs is post z a0 i) (htz : TurnZ P ops Q md S fs is z a0)
    (hend : ∀ a w, S w → Agree a0 a ((z :: is).map (slotOf ops)) → (∀ j, (z :: is).contains j = true → (fs true j).F (valOf ops a j) w) → Late P md ops Q S ks f0 (setAll L0 (z :: is)) a w) :
    ∀ (f : Nat) (L : Array Bool) (a : Act) (w : World), ordZ md ops is post z f L = true → setAll L (z :: is) = setAll L0 (z :: is) → S w → Agree a0 a ((z :: is).map (slotOf ops)) →
      (∀ j, (z :: is).contains j = true → L.getD j false = true → (fs (L.getD z false) j).F (valOf ops a j) w) → Late P md ops Q S ks (f + f0) L a w
  | 0, L, a, w, ho, hL, hS, hA, hV => by
    rw [Nat.zero_add]
    have hall : ∀ i, (z :: is).contains i = true → L.getD i false = true := fun i hi => by
      simp only [ordZ, List.all_eq_true] at ho
      exact ho i (by simpa using hi)
    rw [← setAll_full (z :: is) L hall, hL]
    have hz : L.getD z false = true := hall z (by simp)
    exact hend a w hS hA (fun j hj => by have := hV j hj (hall j hj); rwa [hz] at this)
  | f + 1, L, a, w, ho, hL, hS, hA, hV => by
    simp only [ordZ, Bool.and_eq_true, List.all_eq_true, bne_iff_ne] at ho
    obtain ⟨h1, h2⟩ := ho
    rw [show f + 1 + f0 = (f + f0) + 1 by omega]
    refine ⟨fun e => absurd (by rw [e]; rfl) h1, fun i hi => ?_⟩
    obtain ⟨hc, hor⟩ := h2 i hi
    obtain ⟨hun, o, hoi, hall⟩ := mem_ready.1 hi
    have hs := hsl
    simp only [slotsB, List.all_eq_true, Bool.and_eq_true, decide_eq_true_eq, Bool.or_eq_true, beq_iff_eq, bne_iff_ne] at hs
    have hmemz : i ∈ z :: is := by
      rw [Bool.or_eq_true, beq_iff_eq] at hc
      rcases hc with rfl | hc
      · simp
      · rw [Bool.and_eq_true] at hc
        exact List.mem_cons_of_mem _ (by simpa using hc.1)
    obtain ⟨⟨hd1, hd2⟩, hd3⟩ := hs i hmemz
    obtain ⟨d, hd⟩ := Option.isSome_iff_exists.1 hd1
    have hod : o.dst = some d := by rw [hoi] at hd; exact hd
    have hsd : slotOf ops i = d := by unfold slotOf; rw [hd]; rfl
    have hlist : ∀ j, waitsB md ops i j = true → L.getD j false = true := fun j hw => by
      rw [waitsB, hoi] at hw
      simp only [Option.map_some, Option.getD_some, Array.any_eq_true, Bool.and_eq_true, beq_iff_eq] at hw
      obtain ⟨n, hn, e1, e2⟩ := hw
      have := hall _ (Array.getElem_mem hn) e1
      rwa [e2] at this
    have hput : ∀ v t, d ≠ t → (a.put (some d) v).tmps.getD t undef = a.tmps.getD t undef := fun v t ht => by
      rw [Array.getD_eq_getD_getElem?, Array.getD_eq_getD_getElem?]
      simp only [Act.put, Array.getElem?_setIfInBounds_ne ht]
    have hself : ∀ v, valOf ops (a.put (some d) v) i = v := fun v => by
      unfold valOf
      rw [hsd, Array.getD_eq_getD_getElem?]
      simp only [Act.put]
      rw [Array.getElem?_setIfInBounds_self_of_lt (by rw [hA.size, ← hsd]; exact hd2)]
      rfl
    have hother : ∀ v j, i ≠ j → j ∈ z :: is → valOf ops (a.put (some d) v) j = valOf ops a j := fun v j e hj => by
      have hne : d ≠ slotOf ops j := by
        have := hd3 j hj
        rw [← hsd]
        exact this.resolve_left e
      exact hput v _ hne
    have hmz : ∀ j, is.contains j = true → (z :: is).contains j = true := fun j hj => by rw [List.contains_cons, hj, Bool.or_true]
    have hAp : ∀ v, Agree a0 (a.put (some d) v) ((z :: is).map (slotOf ops)) := fun v => hA.put d (by
      rw [List.contains_iff_mem, List.mem_map]; exact ⟨i, hmemz, hsd⟩) v
    have hset : setAll (L.setIfInBounds i true) (z :: is) = setAll L0 (z :: is) := (setAll_set (z :: is) L i (by simpa using hmemz)).trans hL
    by_cases hiz : i = z
    · subst hiz
      have hzL : L.getD i false = false := by
        by_cases hsz : i < L.size
        · rw [Array.getD_eq_getD_getElem?, Array.getElem?_eq_getElem hsz]
          rw [Array.getD_eq_getD_getElem?, Array.getElem?_eq_getElem hsz] at hun
          exact hun
        · rw [Array.getD_eq_getD_getElem?, Array.getElem?_eq_none (by omega)]; rfl
      have hzb : i < L.size := by
        by_cases hsz : i < L.size
        · exact hsz
        · rw [Array.getD_eq_getD_getElem?, Array.getElem?_eq_none (by omega)] at hun
          cases hun
      have hzL2 : (L.setIfInBounds i true).getD i false = true := by
        rw [Array.getD_eq_getD_getElem?, Array.getElem?_setIfInBounds_self_of_lt hzb]; rfl
      refine wpOp_step hoi fun K hK => htz o hoi a w K hS hA (fun j s hj hw hsj => valOf_at hsj a ▸ (by have := hV j (hmz j hj) (hlist j hw); rwa [hzL] at this)) (Lib.hid fun v w' hS' hg hpre => hK _ _ ⟨fun _ => hS', ?_⟩)
      rw [hod]
      refine Late.ordersZ_go is post i a0 L0 f0 hsl hzi hSs hst htz hend f _ _ _ hor hset hS' (hAp v) (fun j hj hlj => ?_)
      rw [hzL2]
      by_cases e : i = j
      · subst e
        rw [hself]; exact hg
      · rw [getD_set_ne false e] at hlj
        have hji : is.contains j = true := by
          rw [List.contains_cons, Bool.or_eq_true, beq_iff_eq] at hj
          exact hj.resolve_left (fun h => e h.symm)
        have h5 := hV j hj hlj
        rw [hzL] at h5
        rw [hother v j e (by simpa using hj)]
        have := hpre j _ hji rfl (by rw [valOf_at rfl a] at h5; exact h5)
        rw [valOf_at rfl a]; exact this
    · have hmem : i ∈ is := (List.mem_cons.1 hmemz).resolve_left hiz
      have hpost : L.getD z false = true → post.contains i = true := fun hz => by
        rw [Bool.or_eq_true, beq_iff_eq] at hc
        have := hc.resolve_left hiz
        rw [Bool.and_eq_true, hz] at this
        simpa using this.2
      have hzz : (L.setIfInBounds i true).getD z false = L.getD z false := getD_set_ne false hiz
      refine wpOp_step hoi fun K hK => hst i hmem o hoi (L.getD z false) a w K hpost hS hA (fun j s hj hw hsj => valOf_at hsj a ▸ hV j hj (hlist j hw)) (Lib.hid fun v w' hb hg => hK _ _ ⟨fun _ => hSs w w' hS hb, ?_⟩)
      rw [hod]
      refine Late.ordersZ_go is post z a0 L0 f0 hsl hzi hSs hst htz hend f _ _ _ hor hset (hSs w w' hS hb) (hAp v) (fun j hj hlj => ?_)
      rw [hzz]
      by_cases e : i = j
      · subst e
        rw [hself]; exact hg
      · rw [getD_set_ne false e] at hlj
        rw [hother v j e (by simpa using hj)]
        exact (fs _ j).st _ _ _ (hV j hj hlj) hb
/-- The operations 'is' and z in any order, then the rest. ss: their slots, z's first. -/
theorem Late.ordersZ (fs : Bool → Nat → SF) (is post : List Nat) (z : Nat) (ss : List Nat) {f f0 : Nat} {a0 : Act} {L0 : Array Bool} {w0 : World} (hss : (z :: is).map (slotOf ops) = ss) (hf : f = is.length + 1 + f0) (hzi : is.contains z = false) (hor : ordZ md ops is post z (is.length + 1) L0 = true) (hsl : slotsB ops (z :: is) a0.tmps.size = true) (hun : ((z :: is).all fun i => !L0.getD i false) = true)
    (hS : S w0) (hSs : ∀ w w', S w → Below w.heap.size w w' → S w')
    (hst : ∀ i, i ∈ is → StepZ P ops Q md S fs is post z a0 i) (htz : TurnZ P ops Q md S fs is z a0)
    (hend : ∀ a w, S w → Agree a0 a ss → (∀ j s, (z :: is).contains j = true → slotOf ops j = s → (fs true j).F (a.tmps[s]?.getD undef) w) → Late P md ops Q S ks f0 (setAll L0 (z :: is)) a w) : Late P md ops Q S ks f L0 a0 w0 := by
  subst hf hss
  refine Late.ordersZ_go is post z a0 L0 f0 hsl hzi hSs hst htz (fun a w h1 h2 h3 => hend a w h1 h2 (fun j s hj hs => valOf_at hs a ▸ h3 j hj)) (is.length + 1) L0 a0 w0 hor rfl hS (Agree.refl _ _) (fun j hj hl => ?_)
  simp only [List.all_eq_true] at hun
  have := hun j (by simpa using hj)
  rw [hl] at this
  cases this
end
end Go.Proofs.Ytnnfcbcjepbjiaa
