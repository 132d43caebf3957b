/- Texts of the proof, one behind the other: Sha Row Row8 Rd Wr Take Reads Reads2 Str Writes. -/
import Derived.Test.YtfihiandifnkpaaB1
import Derived.Deep.MidRow
import Derived.Laws.ShiftsVarLaws
import Derived.Laws.ResultCell
import Derived.Laws.CopyOwn
import Derived.Laws.BytesArg
import Derived.Lib.ConvBytes
/- Plain facts on the hash: the numbers of a block's schedule, its rounds, the blocks of a message, the message's end, the tag. Nothing of the program's text. -/
namespace Go.Proofs.Ytfihiandifnkpaa.Sha
open Go.Proofs.Ytfihiandifnkpaa.Plain
set_option linter.unusedVariables false

def u32s (l : List Nat) : List Value := l.map (fun (x : Nat) => Value.int .u32 (x : Int))
def AllW (l : List Nat) : Prop := ∀ j, l.getD j 0 < 4294967296
def sg0 (x : Nat) : Nat := rotN x 7 ^^^ rotN x 18 ^^^ x / 2 ^ 3
def sg1 (x : Nat) : Nat := rotN x 17 ^^^ rotN x 19 ^^^ x / 2 ^ 10
def bs0 (x : Nat) : Nat := rotN x 2 ^^^ rotN x 13 ^^^ rotN x 22
def bs1 (x : Nat) : Nat := rotN x 6 ^^^ rotN x 11 ^^^ rotN x 25
def ch (e f g : Nat) : Nat := (e &&& f) ||| ((4294967295 - e) &&& g)
def mj (a b c : Nat) : Nat := (a &&& b) ||| (a &&& c) ||| (b &&& c)
def wNext (a b c d : Nat) : Nat := (sg1 a + b + sg0 c + d) % 4294967296
def schedTo (ws : List Nat) : Nat → List Nat
  | 0 => ws
  | k + 1 => schedTo ws k ++ [wNext ((schedTo ws k).getD (k + 14) 0) ((schedTo ws k).getD (k + 9) 0) ((schedTo ws k).getD (k + 1) 0) ((schedTo ws k).getD k 0)]
def wAt (ws : List Nat) (t : Nat) : Nat := (schedTo ws t).getD t 0

def kTab : List Nat := [
  0x428a2f98, 0x71374491, 0xb5c0fbcf, 0xe9b5dba5, 0x3956c25b, 0x59f111f1, 0x923f82a4, 0xab1c5ed5,
  0xd807aa98, 0x12835b01, 0x243185be, 0x550c7dc3, 0x72be5d74, 0x80deb1fe, 0x9bdc06a7, 0xc19bf174,
  0xe49b69c1, 0xefbe4786, 0x0fc19dc6, 0x240ca1cc, 0x2de92c6f, 0x4a7484aa, 0x5cb0a9dc, 0x76f988da,
  0x983e5152, 0xa831c66d, 0xb00327c8, 0xbf597fc7, 0xc6e00bf3, 0xd5a79147, 0x06ca6351, 0x14292967,
  0x27b70a85, 0x2e1b2138, 0x4d2c6dfc, 0x53380d13, 0x650a7354, 0x766a0abb, 0x81c2c92e, 0x92722c85,
  0xa2bfe8a1, 0xa81a664b, 0xc24b8b70, 0xc76c51a3, 0xd192e819, 0xd6990624, 0xf40e3585, 0x106aa070,
  0x19a4c116, 0x1e376c08, 0x2748774c, 0x34b0bcb5, 0x391c0cb3, 0x4ed8aa4a, 0x5b9cca4f, 0x682e6ff3,
  0x748f82ee, 0x78a5636f, 0x84c87814, 0x8cc70208, 0x90befffa, 0xa4506ceb, 0xbef9a3f7, 0xc67178f2]

structure H8 where
  (a b c d e f g h : Nat)
def H8.list (v : H8) : List Nat := [v.a, v.b, v.c, v.d, v.e, v.f, v.g, v.h]
structure H8.ok (v : H8) : Prop where
  a : v.a < 4294967296
  b : v.b < 4294967296
  c : v.c < 4294967296
  d : v.d < 4294967296
  e : v.e < 4294967296
  f : v.f < 4294967296
  g : v.g < 4294967296
  h : v.h < 4294967296
def t1Of (s : H8) (k w : Nat) : Nat := (s.h + bs1 s.e + ch s.e s.f s.g + k + w) % 4294967296
def rnd (s : H8) (k w : Nat) : H8 :=
  { a := (t1Of s k w + bs0 s.a + mj s.a s.b s.c) % 4294967296, b := s.a, c := s.b, d := s.c, e := (s.d + t1Of s k w) % 4294967296, f := s.e, g := s.f, h := s.g }
def rnds (ws : List Nat) (s : H8) : Nat → H8
  | 0 => s
  | t + 1 => rnd (rnds ws s t) (kTab.getD t 0) (wAt ws t)
def addV (v r : H8) : H8 := ⟨(v.a + r.a) % 4294967296, (v.b + r.b) % 4294967296, (v.c + r.c) % 4294967296, (v.d + r.d) % 4294967296, (v.e + r.e) % 4294967296, (v.f + r.f) % 4294967296, (v.g + r.g) % 4294967296, (v.h + r.h) % 4294967296⟩
def blk (v : H8) (ws : List Nat) : H8 := addV v (rnds ws v 64)
def h0 : H8 := ⟨0x6a09e667, 0xbb67ae85, 0x3c6ef372, 0xa54ff53a, 0x510e527f, 0x9b05688c, 0x1f83d9ab, 0x5be0cd19⟩
def wordsAt (bs : List Int) (i : Nat) : List Nat := (List.range 16).map fun t => (numZ ((bs.drop (64 * i + 4 * t)).take 4)).toNat
def behindTo (v : H8) (bs : List Int) : Nat → H8
  | 0 => v
  | i + 1 => blk (behindTo v bs i) (wordsAt bs i)
def behind (v : H8) (bs : List Int) : H8 := behindTo v bs (bs.length / 64)
def padZ (n : Nat) : List Int := 128 :: (List.replicate ((119 - n % 64) % 64) 0 ++ putZ ((8 * n : Nat) : Int) 8)
def tagZ (v : H8) : List Int := putZ v.a 4 ++ putZ v.b 4 ++ putZ v.c 4 ++ putZ v.d 4 ++ putZ v.e 4 ++ putZ v.f 4 ++ putZ v.g 4 ++ putZ v.h 4
def shaZ (bs : List Int) : List Int := tagZ (behind h0 (bs ++ padZ bs.length))

/-! ### bounds -/
theorem rot_lt {x k : Nat} (hx : x < 4294967296) (hk : k ≤ 32) : rotN x k < 4294967296 := rotN_lt x k hx hk
theorem xor_lt {x y : Nat} (hx : x < 4294967296) (hy : y < 4294967296) : x ^^^ y < 4294967296 := Nat.xor_lt_two_pow (n := 32) hx hy
theorem or_lt {x y : Nat} (hx : x < 4294967296) (hy : y < 4294967296) : x ||| y < 4294967296 := Nat.or_lt_two_pow (n := 32) hx hy
theorem and_lt {x y : Nat} (hy : y < 4294967296) : x &&& y < 4294967296 := Nat.and_lt_two_pow (n := 32) x hy
theorem mod_lt (x : Nat) : x % 4294967296 < 4294967296 := Nat.mod_lt _ (by omega)
theorem div_lt {x : Nat} (k : Nat) (hx : x < 4294967296) : x / 2 ^ k < 4294967296 := Nat.lt_of_le_of_lt (Nat.div_le_self _ _) hx
theorem sg0_lt {x : Nat} (h : x < 4294967296) : sg0 x < 4294967296 := xor_lt (xor_lt (rot_lt h (by omega)) (rot_lt h (by omega))) (div_lt _ h)
theorem sg1_lt {x : Nat} (h : x < 4294967296) : sg1 x < 4294967296 := xor_lt (xor_lt (rot_lt h (by omega)) (rot_lt h (by omega))) (div_lt _ h)
theorem bs0_lt {x : Nat} (h : x < 4294967296) : bs0 x < 4294967296 := xor_lt (xor_lt (rot_lt h (by omega)) (rot_lt h (by omega))) (rot_lt h (by omega))
theorem bs1_lt {x : Nat} (h : x < 4294967296) : bs1 x < 4294967296 := xor_lt (xor_lt (rot_lt h (by omega)) (rot_lt h (by omega))) (rot_lt h (by omega))
theorem ch_lt {e f g : Nat} (he : e < 4294967296) (hf : f < 4294967296) (hg : g < 4294967296) : ch e f g < 4294967296 := or_lt (and_lt hf) (and_lt hg)
theorem mj_lt {a b c : Nat} (ha : a < 4294967296) (hb : b < 4294967296) (hc : c < 4294967296) : mj a b c < 4294967296 := or_lt (or_lt (and_lt hb) (and_lt hc)) (and_lt hc)
theorem rnd_ok {s : H8} (h : s.ok) (k w : Nat) : (rnd s k w).ok := ⟨mod_lt _, h.a, h.b, h.c, mod_lt _, h.e, h.f, h.g⟩
theorem rnds_ok (ws : List Nat) {s : H8} (h : s.ok) : ∀ t, (rnds ws s t).ok
  | 0 => h
  | t + 1 => rnd_ok (rnds_ok ws h t) _ _
theorem addV_ok (v r : H8) : (addV v r).ok := ⟨mod_lt _, mod_lt _, mod_lt _, mod_lt _, mod_lt _, mod_lt _, mod_lt _, mod_lt _⟩
theorem blk_ok (v : H8) (ws : List Nat) : (blk v ws).ok := addV_ok _ _
theorem h0_ok : h0.ok := by constructor <;> decide
theorem behindTo_ok {v : H8} (h : v.ok) (bs : List Int) : ∀ i, (behindTo v bs i).ok
  | 0 => h
  | i + 1 => blk_ok _ _
theorem behind_ok {v : H8} (h : v.ok) (bs : List Int) : (behind v bs).ok := behindTo_ok h _ _

/-! ### the schedule -/
theorem schedTo_len (ws : List Nat) (hl : ws.length = 16) : ∀ k, (schedTo ws k).length = 16 + k
  | 0 => hl
  | k + 1 => by simp [schedTo, schedTo_len ws hl k]; omega
theorem getD_app_lt {l r : List Nat} {j : Nat} (h : j < l.length) : (l ++ r).getD j 0 = l.getD j 0 := by
  simp [List.getD_eq_getElem?_getD, List.getElem?_append_left h]
theorem getD_app_at {l : List Nat} {x : Nat} {j : Nat} (h : j = l.length) : (l ++ [x]).getD j 0 = x := by
  subst h; simp [List.getD_eq_getElem?_getD]
theorem schedTo_stay (ws : List Nat) (hl : ws.length = 16) (k : Nat) : ∀ m j, j < 16 + k → (schedTo ws (k + m)).getD j 0 = (schedTo ws k).getD j 0
  | 0, j, h => rfl
  | m + 1, j, h => by
    show (schedTo ws (k + m) ++ _).getD j 0 = _
    rw [getD_app_lt (by rw [schedTo_len ws hl]; omega)]
    exact schedTo_stay ws hl k m j h
theorem sched_at (ws : List Nat) (hl : ws.length = 16) (k j : Nat) (h : j < 16 + k) : (schedTo ws k).getD j 0 = wAt ws j := by
  unfold wAt
  by_cases hk : k ≤ j
  · obtain ⟨m, rfl⟩ := Nat.exists_eq_add_of_le hk
    exact (schedTo_stay ws hl k m _ h).symm
  · obtain ⟨m, rfl⟩ := Nat.exists_eq_add_of_le (Nat.le_of_not_le hk)
    exact schedTo_stay ws hl j m j (by omega)
theorem wAt_lo (ws : List Nat) (hl : ws.length = 16) (t : Nat) (h : t < 16) : wAt ws t = ws.getD t 0 := (sched_at ws hl 0 t (by omega)).symm
theorem wAt_hi (ws : List Nat) (hl : ws.length = 16) (k : Nat) : wAt ws (16 + k) = wNext (wAt ws (k + 14)) (wAt ws (k + 9)) (wAt ws (k + 1)) (wAt ws k) := by
  rw [← sched_at ws hl (k + 1) (16 + k) (by omega)]
  show (schedTo ws k ++ [_]).getD (16 + k) 0 = _
  rw [getD_app_at (by rw [schedTo_len ws hl]), sched_at ws hl k _ (by omega), sched_at ws hl k _ (by omega), sched_at ws hl k _ (by omega), sched_at ws hl k _ (by omega)]
theorem wAt_lt (ws : List Nat) (hl : ws.length = 16) (hw : AllW ws) (t : Nat) : wAt ws t < 4294967296 := by
  by_cases h : t < 16
  · rw [wAt_lo ws hl t h]; exact hw t
  · obtain ⟨k, rfl⟩ := Nat.exists_eq_add_of_le (Nat.le_of_not_lt h)
    rw [wAt_hi ws hl]; exact mod_lt _
theorem wNext_lt (a b c d : Nat) : wNext a b c d < 4294967296 := mod_lt _
theorem u32s_len (l : List Nat) : (u32s l).length = l.length := by simp [u32s]
theorem u32s_at (l : List Nat) (j : Nat) (h : j < l.length) : (u32s l)[j]? = some (.int .u32 ((l.getD j 0 : Nat) : Int)) := by
  simp [u32s, List.getElem?_map, List.getElem?_eq_getElem h, List.getD_eq_getElem?_getD]
theorem u32s_one (l : List Nat) : ∀ v ∈ u32s l, v.oneCell' = true := by
  intro v hv
  simp only [u32s, List.mem_map] at hv
  obtain ⟨x, _, rfl⟩ := hv
  rfl
theorem u32s_set (l : List Nat) (k x : Nat) : (u32s l).toArray.setIfInBounds k (.int .u32 (x : Int)) = (u32s (l.set k x)).toArray := by
  simp [u32s, List.map_set]
theorem getD_setN (l : List Nat) (k j x : Nat) (hk : k < l.length) : (l.set k x).getD j 0 = if k = j then x else l.getD j 0 := by
  simp only [List.getD_eq_getElem?_getD, List.getElem?_set]
  split
  · simp
  · rfl
theorem list_ext_N {a b : List Nat} (hl : a.length = b.length) (h : ∀ j, j < a.length → a.getD j 0 = b.getD j 0) : a = b := by
  apply List.ext_getElem hl
  intro j h1 h2
  have := h j h1
  simpa [List.getD_eq_getElem?_getD, List.getElem?_eq_getElem h1, List.getElem?_eq_getElem h2] using this
theorem kTab_lt (t : Nat) : kTab.getD t 0 < 4294967296 := by
  by_cases h : t < 64
  · have : ∀ t, t < 64 → kTab.getD t 0 < 4294967296 := by decide
    exact this t h
  · rw [List.getD_eq_getElem?_getD, List.getElem?_eq_none (by show 64 ≤ t; omega)]; decide

/-! ### blocks, one behind the other -/
theorem wordsAt_len (bs : List Int) (i : Nat) : (wordsAt bs i).length = 16 := by simp [wordsAt]
theorem wordsAt_at (bs : List Int) (i t : Nat) (h : t < 16) : (wordsAt bs i).getD t 0 = (numZ ((bs.drop (64 * i + 4 * t)).take 4)).toNat := by
  simp [wordsAt, List.getD_eq_getElem?_getD, h]
theorem wordsAt_lt (bs : List Int) (hb : IsBytes bs) (i : Nat) : AllW (wordsAt bs i) := by
  intro j
  by_cases h : j < 16
  · rw [wordsAt_at bs i j h]
    have := numZ_piece_range bs (64 * i + 4 * j) 4 4 (by omega) hb
    omega
  · rw [List.getD_eq_getElem?_getD, List.getElem?_eq_none (by rw [wordsAt_len]; omega)]; decide
theorem wordsAt_app_lo (a b : List Int) (i : Nat) (h : 64 * i + 64 ≤ a.length) : wordsAt (a ++ b) i = wordsAt a i := by
  refine list_ext_N (by rw [wordsAt_len, wordsAt_len]) (fun j hj => ?_)
  rw [wordsAt_len] at hj
  rw [wordsAt_at _ _ _ hj, wordsAt_at _ _ _ hj, List.drop_append_of_le_length (by omega), List.take_append_of_le_length (by simp; omega)]
theorem wordsAt_app_hi (a b : List Int) (n i : Nat) (h : a.length = 64 * n) : wordsAt (a ++ b) (n + i) = wordsAt b i := by
  refine list_ext_N (by rw [wordsAt_len, wordsAt_len]) (fun j hj => ?_)
  rw [wordsAt_len] at hj
  rw [wordsAt_at _ _ _ hj, wordsAt_at _ _ _ hj, show 64 * (n + i) + 4 * j = a.length + (64 * i + 4 * j) from by omega, List.drop_length_add_append]
theorem behindTo_app_lo (v : H8) (a b : List Int) : ∀ i, 64 * i ≤ a.length → behindTo v (a ++ b) i = behindTo v a i
  | 0, _ => rfl
  | i + 1, h => by
    show blk (behindTo v (a ++ b) i) (wordsAt (a ++ b) i) = _
    rw [behindTo_app_lo v a b i (by omega), wordsAt_app_lo a b i (by omega)]; rfl
theorem behindTo_app_hi (v : H8) (a b : List Int) (n : Nat) (h : a.length = 64 * n) : ∀ i, behindTo v (a ++ b) (n + i) = behindTo (behindTo v a n) b i
  | 0 => behindTo_app_lo v a b n (by omega)
  | i + 1 => by
    show blk (behindTo v (a ++ b) (n + i)) (wordsAt (a ++ b) (n + i)) = _
    rw [behindTo_app_hi v a b n h i, wordsAt_app_hi a b n i h]; rfl
/-- The bytes behind the whole blocks. -/
def restZ (bs : List Int) : List Int := bs.drop (64 * (bs.length / 64))
theorem restZ_len (bs : List Int) : (restZ bs).length = bs.length % 64 := by simp [restZ]; omega
theorem behind_more (v : H8) (a b : List Int) : behind (behind v a) (restZ a ++ b) = behind v (a ++ b) := by
  have hl : (a.take (64 * (a.length / 64))).length = 64 * (a.length / 64) := by simp; omega
  have e1 : a ++ b = a.take (64 * (a.length / 64)) ++ (restZ a ++ b) := by
    unfold restZ; rw [← List.append_assoc, List.take_append_drop]
  have e2 : (a ++ b).length / 64 = a.length / 64 + (restZ a ++ b).length / 64 := by
    simp only [List.length_append, restZ_len]; omega
  unfold behind
  rw [e2, e1, behindTo_app_hi v _ _ _ hl]
  congr 1
  have e3 := behindTo_app_lo v (a.take (64 * (a.length / 64))) (restZ a) (a.length / 64) (by omega)
  rw [← e3]
  unfold restZ; rw [List.take_append_drop]
theorem restZ_more (a b : List Int) : restZ (a ++ b) = (restZ a ++ b).drop (64 * ((restZ a ++ b).length / 64)) := by
  have hl : (a.take (64 * (a.length / 64))).length = 64 * (a.length / 64) := by simp; omega
  have e1 : a ++ b = a.take (64 * (a.length / 64)) ++ (restZ a ++ b) := by
    unfold restZ; rw [← List.append_assoc, List.take_append_drop]
  have e2 : (a ++ b).length / 64 = a.length / 64 + (restZ a ++ b).length / 64 := by
    simp only [List.length_append, restZ_len]; omega
  show (a ++ b).drop (64 * ((a ++ b).length / 64)) = _
  rw [e2, e1, show 64 * (a.length / 64 + (restZ a ++ b).length / 64) = (a.take (64 * (a.length / 64))).length + 64 * ((restZ a ++ b).length / 64) from by rw [hl]; omega, List.drop_length_add_append]
theorem restZ_bytes {bs : List Int} (h : IsBytes bs) : IsBytes (restZ bs) := by
  rw [isBytes_iff] at *
  intro z hz
  exact h z (List.mem_of_mem_drop hz)
theorem padZ_len (n : Nat) : (padZ n).length = 9 + (119 - n % 64) % 64 := by simp [padZ, putZ_len]; omega
theorem pad_whole (n : Nat) : (n % 64 + (padZ n).length) % 64 = 0 := by rw [padZ_len]; omega
theorem padZ_bytes (n : Nat) : IsBytes (padZ n) := by
  rw [isBytes_iff]
  intro z hz
  unfold padZ at hz
  rcases List.mem_cons.1 hz with rfl | hz
  · decide
  · rcases List.mem_append.1 hz with hz | hz
    · rw [List.mem_replicate] at hz; omega
    · exact (isBytes_iff.1 (putZ_bytes _ 8)) z hz
theorem shaZ_of (bs : List Int) : tagZ (behind (behind h0 bs) (restZ bs ++ padZ bs.length)) = shaZ bs := by
  rw [behind_more]; rfl
theorem tagZ_len (v : H8) : (tagZ v).length = 32 := by simp [tagZ, putZ_len]
theorem tagZ_bytes (v : H8) : IsBytes (tagZ v) := by
  unfold tagZ
  exact (((((((putZ_bytes _ 4).app (putZ_bytes _ 4)).app (putZ_bytes _ 4)).app (putZ_bytes _ 4)).app (putZ_bytes _ 4)).app (putZ_bytes _ 4)).app (putZ_bytes _ 4)).app (putZ_bytes _ 4)
end Go.Proofs.Ytfihiandifnkpaa.Sha
/- Arrays of numbers of 32 bits in blocks of their own: read whole, read and written cell by cell. -/
namespace Go.Proofs.Ytfihiandifnkpaa
open Go.ChangeShapes Go.WideShapes Go.ChangeAt Go.RowKit
set_option linter.unusedVariables false
open Plain Sha
/-- Block b holds the numbers l from its head on, and they may be written. -/
structure Row32 (w : World) (b : Nat) (l : List Nat) : Prop where
  cells : ∀ j, j < l.length → w.cell? ⟨b, j, none⟩ = some (.int .u32 ((l.getD j 0 : Nat) : Int))
  free : ∀ j, j < l.length → w.frozen? ⟨b, j, none⟩ = false
section
variable {w w' : World} {b B : Nat} {l : List Nat}
theorem Row32.lt (h : Row32 w b l) (hl : 0 < l.length) : b < w.heap.size := World.block_lt_of_cell? _ _ (h.cells 0 hl)
theorem Row32.alloc (h : Row32 w b l) (hl : 0 < l.length) (o : Obj) : Row32 (w.alloc o) b l :=
  ⟨fun j hj => by rw [World.cell?_alloc_lt _ _ _ (h.lt hl)]; exact h.cells j hj, fun j hj => by rw [World.frozen?_alloc_past _ _ _ (h.lt hl)]; exact h.free j hj⟩
theorem Row32.below (h : Row32 w b l) (hb : Below B w w') (hB : b < B) : Row32 w' b l :=
  ⟨fun j hj => (hb.cell (p := ⟨b, j, none⟩) hB).trans (h.cells j hj), fun j hj => (hb.frozen (p := ⟨b, j, none⟩) hB).trans (h.free j hj)⟩
theorem Row32.drewN (h : Row32 w b l) (n : Nat) : Row32 (w.drewN n) b l := ⟨h.1, h.2⟩
theorem Row32.drew (h : Row32 w b l) : Row32 w.drew b l := ⟨h.1, h.2⟩
theorem Row32.other (h : Row32 w b l) {p : Addr} (hp : p.block ≠ b) (u : Value) : Row32 (w.setCell p u) b l :=
  ⟨fun j hj => by rw [World.cell?_setCell_other w p _ u (fun e => by subst e; exact hp rfl)]; exact h.cells j hj, fun j hj => by rw [World.frozen?_setCell]; exact h.free j hj⟩
theorem Row32.set (h : Row32 w b l) (k x : Nat) (hk : k < l.length) : Row32 (w.setCell ⟨b, k, none⟩ (.int .u32 (x : Int))) b (l.set k x) := by
  refine ⟨fun j hj => ?_, fun j hj => ?_⟩
  · rw [List.length_set] at hj
    rw [getD_setN l k j x hk]
    split
    · next e => subst e; exact World.cell?_setCell_same _ _ _ (h.cells k hk)
    · next e => rw [World.cell?_setCell_other _ _ _ _ (fun e' => by injection e' with _ e2; exact e e2)]; exact h.cells j hj
  · rw [List.length_set] at hj
    rw [World.frozen?_setCell]; exact h.free j hj
theorem Row32.new (w : World) (l : List Nat) (t : TypeId) : Row32 (w.alloc (.cells (u32s l).toArray t)) w.heap.size l := by
  refine ⟨fun j hj => ?_, fun j hj => ?_⟩
  · rw [cell_of_row _ _ _ _ _ _ (heap_alloc_new w _)]
    simpa using u32s_at l j hj
  · exact frozen_of_row _ _ _ _ _ (heap_alloc_new w _)
theorem Row32.range (h : Row32 w b l) : w.rangeAt b 0 (u32s l) := fun j v hv => by
  have hj : j < l.length := by have := (List.getElem?_eq_some_iff.1 hv).1; rwa [u32s_len] at this
  rw [u32s_at l j hj] at hv
  rw [Nat.zero_add, h.cells j hj, hv]
theorem Row32.there (h : Row32 w b l) : w.there b 0 l.length := fun j hj => by
  rw [Nat.zero_add, h.cells j hj]; exact ⟨rfl, h.free j hj⟩
theorem Row32.thereFor (h : Row32 w b l) {r : List Nat} (hr : r.length = l.length) : w.there b 0 (u32s r).toArray.size := by
  have e : (u32s r).toArray.size = l.length := by rw [List.size_toArray, u32s_len, hr]
  rw [e]; exact h.there
theorem Row32.of_range (h : w.rangeAt b 0 (u32s l)) (ht : w.there b 0 l.length) : Row32 w b l :=
  ⟨fun j hj => by have := h j _ (u32s_at l j hj); rwa [Nat.zero_add] at this, fun j hj => by have := (ht j hj).2; rwa [Nat.zero_add] at this⟩
/-- The whole row is stored anew. -/
theorem Row32.store (h : Row32 w b l) {r : List Nat} (hr : r.length = l.length) : Row32 (w.setCells b 0 (u32s r)) b r := by
  have ht : w.there b 0 (u32s r).length := by rw [u32s_len, hr]; exact h.there
  exact .of_range (World.rangeAt_setCells_same w b 0 _ ht) (by rw [u32s_len] at ht; exact World.there_setCells ht _ _ _)
theorem Row32.storeOther (h : Row32 w b l) (b' o : Nat) (vs : List Value) (hb : b' ≠ b) : Row32 (w.setCells b' o vs) b l :=
  .of_range (World.rangeAt_setCells_apart h.range _ _ _ (.inl (fun e => hb e.symm))) (World.there_setCells h.there _ _ _)
theorem Row32.cell (h : Row32 w b l) {j : Nat} (hj : j < l.length) : ∃ x : Nat, Hid (l.getD j 0 = x) ∧ w.cell? ⟨b, j, none⟩ = some (.int .u32 (x : Int)) := ⟨_, rfl, h.cells j hj⟩
end
theorem below_setCells {B : Nat} {a : World} {b : Nat} (hb : B ≤ b) : ∀ (vs : List Value) (o : Nat) (w : World), Below B a w → Below B a (w.setCells b o vs)
  | [], _, _, h => h
  | v :: r, o, w, h => by rw [World.setCells]; exact below_setCells hb r (o + 1) _ (h.setCell (p := ⟨b, o, none⟩) hb v)
/-- A whole array is stored; the world behind it has a name of its own. -/
theorem wpList_store_as {P : Program} {ops : Array Oper} {rest : List Oper} {op : Oper} {a : Act} {w : World} {Q : Exit → Act → World → Prop} (hgd : op.guard = none) (ty : TypeId) (x y : Operand) (ho : op.op = .store ty x y)
    (b o : Nat) (cells : Array Value) (hx : a.eval x = .pointer (some ⟨b, o, none⟩)) (hy : a.eval y = .agg cells)
    (ht : w.there b o cells.size) (hi : (P.info? ty).map (·.size) = some cells.size) (h1 : cells.all (·.oneCell') = true)
    (h : ∀ w', Hid (w' = w.setCells b o cells.toList) → wpList P ops Q rest (a.put op.dst undef) w') : wpList P ops Q (op :: rest) a w :=
  wpList_store_mid hgd ty x y ho b o cells hx hy ht hi h1 (h _ (Lib.hid rfl))
theorem u32s_all (l : List Nat) : (u32s l).toArray.all (·.oneCell') = true := all_oneCell_toArray (u32s_one l)
/-- A result that is an array, in a cell of its own. -/
theorem results_mid {P : Program} {fn : Func} {p : Tmp} {ty : TypeId} (h : fn.results = #[.cell p ty]) (tmps : Array Value) (w : World) (b o : Nat) (cs : List Value) (d : TypeDesc)
    (hp : tmps.getD p undef = .pointer (some ⟨b, o, none⟩)) (hc : w.rangeAt b o cs) (hu : P.underlying ty = some d) (hd : d.isRow = true) (hi : (P.info? ty).map (·.size) = some cs.length) :
    (results fn tmps).run P w = .ok (.agg cs.toArray) w := by
  have hp' : tmps[p]?.getD undef = .pointer (some ⟨b, o, none⟩) := by simpa using hp
  simp [results, h, hp', asAddr, run_loadVar_mid w b o ty cs d hc hu hd hi]
theorem results_mid_tmp {P : Program} {fn : Func} {p u : Tmp} {ty : TypeId} (h : fn.results = #[.cell p ty, .tmp u]) (tmps : Array Value) (w : World) (b o : Nat) (cs : List Value) (d : TypeDesc)
    (hp : tmps.getD p undef = .pointer (some ⟨b, o, none⟩)) (hc : w.rangeAt b o cs) (hu : P.underlying ty = some d) (hd : d.isRow = true) (hi : (P.info? ty).map (·.size) = some cs.length) :
    (results fn tmps).run P w = .ok (.tuple #[.agg cs.toArray, tmps.getD u undef]) w := by
  rw [results_cell_tmp h, hp]
  simp [asAddr, run_loadVar_mid w b o ty cs d hc hu hd hi]
end Go.Proofs.Ytfihiandifnkpaa
/- Rows of bytes in the midst of blocks: read, copied into. -/
namespace Go.Proofs.Ytfihiandifnkpaa
open Go.ChangeShapes Go.WideShapes Go.ChangeAt Go.RowKit
set_option linter.unusedVariables false
open Plain Sha
/-- From offset o on block b holds the bytes l, and they may be written. -/
structure Row8 (w : World) (b o : Nat) (l : List Int) : Prop where
  range : w.rangeAt b o (vals l)
  there : w.there b o l.length
theorem vals_at (l : List Int) (j : Nat) (h : j < l.length) : (vals l)[j]? = some (.int .u8 (l.getD j 0)) := by
  simp [vals, List.getElem?_map, List.getElem?_eq_getElem h, List.getD_eq_getElem?_getD]
theorem rangeAt_same {w w' : World} {b o : Nat} {cs : List Value} (h : w.rangeAt b o cs) (e : w'.heap[b]? = w.heap[b]?) : w'.rangeAt b o cs := fun j v hv => (World.cell?_of_block (a := ⟨b, o + j, none⟩) e).trans (h j v hv)
theorem there_same {w w' : World} {b o n : Nat} (h : w.there b o n) (e : w'.heap[b]? = w.heap[b]?) : w'.there b o n := fun j hj => by
  rw [World.cell?_of_block (a := ⟨b, o + j, none⟩) e, World.frozen?_of_block (a := ⟨b, o + j, none⟩) e]; exact h j hj
theorem there_sub {w : World} {b o n o' n' : Nat} (h : w.there b o n) (h1 : o ≤ o') (h2 : o' + n' ≤ o + n) : w.there b o' n' := fun j hj => by
  have := h (o' - o + j) (by omega)
  rwa [show o + (o' - o + j) = o' + j from by omega] at this
theorem Row8.same {w w' : World} {b o : Nat} {l : List Int} (h : Row8 w b o l) (e : w'.heap[b]? = w.heap[b]?) : Row8 w' b o l := ⟨rangeAt_same h.range e, there_same h.there e⟩
theorem Row8.bs {w : World} {b o : Nat} {l : List Int} (h : Row8 w b o l) (hb : IsBytes l) {B : Nat} (hB : b < B) {n : Nat} (hn : n = l.length) : Bs w B (some ⟨b, o, none⟩) n l := by
  subst hn
  exact ⟨rfl, hb, fun _ => ⟨b, o, rfl, hB, fun j hj => h.range j _ (vals_at l j hj)⟩⟩
theorem splice_len {l zs : List Int} {k : Nat} (h : k + zs.length ≤ l.length) : (splice l k zs).length = l.length := length_splice l k zs h
theorem splice_at (l zs : List Int) (k j : Nat) (h : k + zs.length ≤ l.length) : (splice l k zs).getD j 0 = if k ≤ j ∧ j < k + zs.length then zs.getD (j - k) 0 else l.getD j 0 := by
  simp only [splice, List.getD_eq_getElem?_getD]
  by_cases h1 : j < k
  · rw [List.getElem?_append_left (by simp; omega), List.getElem?_take_of_lt h1, if_neg (by omega)]
  · have e : (l.take k).length = k := by simp; omega
    rw [List.getElem?_append_right (by omega), e]
    by_cases h2 : j < k + zs.length
    · rw [List.getElem?_append_left (by omega), if_pos ⟨by omega, h2⟩]
    · rw [List.getElem?_append_right (by omega), if_neg (by omega), List.getElem?_drop]
      congr 2; omega
/-- Bytes are laid over some of them. -/
theorem Row8.splice {w : World} {b o : Nat} {l : List Int} (h : Row8 w b o l) (k : Nat) (zs : List Int) (hk : k + zs.length ≤ l.length) : Row8 (w.setCells b (o + k) (vals zs)) b o (splice l k zs) := by
  have hl := splice_len hk
  refine ⟨fun j v hv => ?_, by rw [hl]; exact World.there_setCells h.there _ _ _⟩
  have hj : j < (Go.splice l k zs).length := by have := (List.getElem?_eq_some_iff.1 hv).1; rwa [vals_len] at this
  rw [vals_at _ j hj] at hv
  injection hv with hv
  subst hv
  rw [splice_at l zs k j hk]
  rw [hl] at hj
  split
  · next hc =>
    have := World.rangeAt_setCells_same w b (o + k) (vals zs) (fun i hi => by
      rw [vals_len] at hi
      have := h.there (k + i) (by omega)
      rwa [← Nat.add_assoc] at this) (j - k) _ (vals_at zs (j - k) (by omega))
    rwa [show o + k + (j - k) = o + j from by omega] at this
  · next hc =>
    rw [World.cell?_setCells_out b (vals zs) (o + k) w ⟨b, o + j, none⟩ (fun _ _ => by rw [vals_len]; show o + j < o + k ∨ o + k + zs.length ≤ o + j; omega)]
    exact h.range j _ (vals_at l j hj)
theorem Row8.storeOther {w : World} {b o : Nat} {l : List Int} (h : Row8 w b o l) (b' o' : Nat) (vs : List Value) (hb : b' ≠ b ∨ o + l.length ≤ o' ∨ o' + vs.length ≤ o) : Row8 (w.setCells b' o' vs) b o l :=
  ⟨World.rangeAt_setCells_apart h.range _ _ _ (by rw [vals_len]; rcases hb with h | h | h; exact .inl (fun e => h e.symm); exact .inr (.inl h); exact .inr (.inr h)), World.there_setCells h.there _ _ _⟩
theorem Row8.new (w : World) (l : List Int) (t : TypeId) : Row8 (w.alloc (.cells (vals l).toArray t)) w.heap.size 0 l := by
  refine ⟨fun j v hv => ?_, fun j hj => ?_⟩
  · rw [cell_of_row _ _ _ _ _ _ (heap_alloc_new w _), Nat.zero_add]
    simpa using hv
  · refine ⟨?_, frozen_of_row _ _ _ _ _ (heap_alloc_new w _)⟩
    rw [cell_of_row _ _ _ _ _ _ (heap_alloc_new w _), Nat.zero_add]
    have := vals_at l j hj
    simp [this]
theorem heap_setCells (b : Nat) (k : Nat) (hk : k ≠ b) : ∀ (vs : List Value) (o : Nat) (w : World), (w.setCells b o vs).heap[k]? = w.heap[k]?
  | [], _, _ => rfl
  | v :: r, o, w => by rw [World.setCells, heap_setCells b k hk r (o + 1)]; exact Below.heap_setCell w ⟨b, o, none⟩ v k hk
theorem grown_setCells {a : World} {b : Nat} : ∀ (vs : List Value) (o : Nat) (w : World), a.grownBy w (some b) → a.grownBy (w.setCells b o vs) (some b)
  | [], _, _, h => h
  | v :: r, o, w, h => by
    rw [World.setCells]
    refine grown_setCells r (o + 1) _ ⟨h.os, h.tape, h.output, by simpa [World.setCell] using h.size, fun i hi hne => ?_⟩
    exact (Below.heap_setCell w ⟨b, o, none⟩ v i (fun e => hne (by rw [e]))).trans (h.block i hi hne)
/-- copy, as a law for the walk: the cells go over; the world behind it has a name of its own. -/
theorem wpList_copy_as {P : Program} {w : World} {ops : Array Oper} {rest : List Oper} {o : Oper} {a : Act} {Q : Exit → Act → World → Prop} (hgd : o.guard = none) (d s : Operand) (dT sT : TypeId)
    (ho : o.op = .call { callee := .builtin .copy, args := #[d, s], argTypes := #[dT, sT] }) (elem : TypeId) (hu : P.underlying dT = some (.slice elem)) (hsz : (P.info? elem).map (·.size) = some 1)
    (dp sp : Option Addr) (dLen dCap sLen sCap : Nat) (hd : a.eval d = .slice dp dLen dCap) (hs : a.eval s = .slice sp sLen sCap)
    (g off : Nat) (cs : List Value) (hn : cs.length = Nat.min sLen dLen) (ht : w.there g off cs.length)
    (hpos : 0 < cs.length → dp = some ⟨g, off, none⟩ ∧ ∃ ad, sp = some ad ∧ ∀ j v, cs[j]? = some v → w.cell? (ad.add j) = some v)
    (h1 : ∀ v ∈ cs, v.oneCell' = true)
    (h : ∀ w', Hid (w' = w.setCells g off cs) → wpList P ops Q rest (a.put o.dst (goInt cs.length)) w') :
    wpList P ops Q (o :: rest) a w := by
  by_cases h0 : cs.length = 0
  · obtain rfl : cs = [] := List.eq_nil_of_length_eq_zero h0
    exact wpList_copy_nothing hgd d s dT sT ho elem hu hsz dp sp dLen dCap sLen sCap hd hs (by simpa using hn.symm) (h w (Lib.hid rfl))
  · obtain ⟨rfl, ad, rfl, hsrc⟩ := hpos (by omega)
    refine wpList_plain hgd fun K hK => ?_
    have hrun := run_copy_cells (P := P) w dT sT o.type elem g off dLen dCap ad sLen sCap cs hu hsz hn hsrc (fun j hj => (ht j hj).1) (fun j hj => (ht j hj).2) h1
    unfold Oper.wp
    simp [execOp, ho, resolve, invoke, builtin, hd, hs, hrun, Result.andThen]
    exact hK _ _ (h _ (Lib.hid rfl))
theorem step_copy_as {P : Program} {ops : Array Oper} {o : Oper} {a : Act} {w : World} {K : Act → World → Prop} {Q : Exit → Act → World → Prop} {E : Prop} (hgd : o.guard = none) (d s : Operand) (dT sT : TypeId)
    (ho : o.op = .call { callee := .builtin .copy, args := #[d, s], argTypes := #[dT, sT] }) (elem : TypeId) (hu : P.underlying dT = some (.slice elem)) (hsz : (P.info? elem).map (·.size) = some 1)
    (dp sp : Option Addr) (dLen dCap sLen sCap : Nat) (hd : a.eval d = .slice dp dLen dCap) (hs : a.eval s = .slice sp sLen sCap)
    (g off : Nat) (cs : List Value) (hn : cs.length = Nat.min sLen dLen) (ht : w.there g off cs.length)
    (hpos : 0 < cs.length → dp = some ⟨g, off, none⟩ ∧ ∃ ad, sp = some ad ∧ ∀ j v, cs[j]? = some v → w.cell? (ad.add j) = some v)
    (h1 : ∀ v ∈ cs, v.oneCell' = true)
    (h : ∀ w', Hid (w' = w.setCells g off cs) → K (a.put o.dst (goInt cs.length)) w') :
    if Region.wanted o (yielded ops a.tmps) = true then Oper.wp P o a w K Q else E := by
  have hw : Region.wanted o (yielded ops a.tmps) = true := by simp [Region.wanted, hgd]
  rw [if_pos hw]
  by_cases h0 : cs.length = 0
  · obtain rfl : cs = [] := List.eq_nil_of_length_eq_zero h0
    have hrun := run_copy_none (P := P) w dT sT o.type elem dp sp dLen dCap sLen sCap hu hsz (by simpa using hn.symm)
    unfold Oper.wp
    simp [execOp, ho, resolve, invoke, builtin, hd, hs, hrun, Result.andThen]
    exact h w (Lib.hid rfl)
  · obtain ⟨rfl, ad, rfl, hsrc⟩ := hpos (by omega)
    have hrun := run_copy_cells (P := P) w dT sT o.type elem g off dLen dCap ad sLen sCap cs hu hsz hn hsrc (fun j hj => (ht j hj).1) (fun j hj => (ht j hj).2) h1
    unfold Oper.wp
    simp [execOp, ho, resolve, invoke, builtin, hd, hs, hrun, Result.andThen]
    exact h _ (Lib.hid rfl)
end Go.Proofs.Ytfihiandifnkpaa
/- A reader as it lies in memory; why it is bad, what is left. -/
namespace Go.Proofs.Ytfihiandifnkpaa
open Go.ChangeShapes Go.WideShapes Go.ChangeAt Go.RowKit
set_option linter.unusedVariables false
open Plain
theorem grown_refl (w : World) (r : Option Nat) : w.grownBy w r := ⟨rfl, rfl, rfl, Nat.le_refl _, fun _ _ _ => rfl⟩
theorem grown_trans {a b c : World} {r : Option Nat} (h : a.grownBy b r) (k : b.grownBy c r) : a.grownBy c r :=
  ⟨k.os.trans h.os, k.tape.trans h.tape, k.output.trans h.output, Nat.le_trans h.size k.size, fun i hi hr => (k.block i (Nat.lt_of_lt_of_le hi h.size) hr).trans (h.block i hi hr)⟩
theorem grown_more {a b : World} {r : Option Nat} (h : a.grownBy b none) : a.grownBy b r := ⟨h.os, h.tape, h.output, h.size, fun i hi _ => h.block i hi (by simp)⟩
theorem grown_cell (w : World) (p : Addr) (v : Value) : w.grownBy (w.setCell p v) (some p.block) :=
  ⟨rfl, rfl, rfl, by simp [World.setCell], fun k _ hr => Below.heap_setCell _ _ _ _ (fun e => hr (by rw [e]))⟩
theorem grown_alloc (w : World) (o : Obj) (r : Option Nat) : w.grownBy (w.alloc o) r := ⟨rfl, rfl, rfl, by simp, fun k hk _ => Below.heap_alloc _ _ _ hk⟩
theorem grown_drewN (w : World) (n : Nat) (r : Option Nat) : w.grownBy (w.drewN n) r := ⟨rfl, rfl, rfl, Nat.le_refl _, fun _ _ _ => rfl⟩
theorem grown_of_below {w w' : World} (h : Below w.heap.size w w') (r : Option Nat) : w.grownBy w' r := ⟨h.os, h.tape, h.output, h.size, fun k hk _ => h.block k hk⟩
theorem below_of_grown {w w' : World} {B : Nat} {r : Option Nat} (h : w.grownBy w' r) (hB : B ≤ w.heap.size) (hr : ∀ k, r = some k → B ≤ k) : Below B w w' :=
  ⟨h.os, h.tape, h.output, h.size, fun k hk => h.block k (by omega) (fun e => by have := hr k e.symm; omega)⟩
/-- Blocks from lo on, below hi. -/
structure Span where
  lo : Nat
  hi : Nat
/-- Block b holds a reader: why it is bad (0: it isn't); what is left of it stands in the blocks of B, below b. -/
structure Rd (w : World) (b : Nat) (B : Span) (why : Int) (zs : List Int) : Prop where
  made : w.cell? ⟨b, 0, none⟩ = some (.bool true)
  errno : w.cell? ⟨b, 1, none⟩ = some (.int .i64 why)
  rest : ∃ A n c, w.cell? ⟨b, 2, none⟩ = some (.slice A n c) ∧ Bs w B.hi A n zs ∧ n ≤ c ∧ c ≤ maxLen ∧ n ≤ 65536
  low : ∀ A n c, w.cell? ⟨b, 2, none⟩ = some (.slice A n c) → 0 < n → ∀ a, A = some a → B.lo ≤ a.block
  f1 : w.frozen? ⟨b, 1, none⟩ = false
  f2 : w.frozen? ⟨b, 2, none⟩ = false
  le : B.hi ≤ b
  bad : why ≠ 0 → zs = []
section
variable {w w' : World} {b : Nat} {B : Span} {why : Int} {zs : List Int}
theorem Rd.lt (h : Rd w b B why zs) : b < w.heap.size := World.block_lt_of_cell? _ _ h.made
theorem Rd.small (h : Rd w b B why zs) : zs.length ≤ 65536 := by
  obtain ⟨A, n, c, _, h2, _, _, h5⟩ := h.rest
  rw [h2.len]; exact h5
theorem Rd.isBytes (h : Rd w b B why zs) : IsBytes zs := by
  obtain ⟨A, n, c, _, h2, _, _, h5⟩ := h.rest
  exact h2.isBytes
theorem Rd.keep (h : Rd w b B why zs) (hb : w'.heap[b]? = w.heap[b]?) (hB : ∀ k, B.lo ≤ k → k < B.hi → w'.heap[k]? = w.heap[k]?) : Rd w' b B why zs := by
  obtain ⟨A, n, c, h1, h2, h3⟩ := h.rest
  refine ⟨(World.cell?_of_block (a := ⟨b, 0, none⟩) hb).trans h.made, (World.cell?_of_block (a := ⟨b, 1, none⟩) hb).trans h.errno,
    ⟨A, n, c, (World.cell?_of_block (a := ⟨b, 2, none⟩) hb).trans h1, ⟨h2.len, h2.rng, fun hn => ?_⟩, h3⟩,
    fun A n c hc => h.low A n c ((World.cell?_of_block (a := ⟨b, 2, none⟩) hb).symm.trans hc),
    (World.frozen?_of_block (a := ⟨b, 1, none⟩) hb).trans h.f1, (World.frozen?_of_block (a := ⟨b, 2, none⟩) hb).trans h.f2, h.le, h.bad⟩
  obtain ⟨k, off, rfl, hk, hc⟩ := h2.row hn
  have hl := h.low _ _ _ h1 hn _ rfl
  exact ⟨k, off, rfl, hk, fun j hj => (World.cell?_of_block (a := ⟨k, off + j, none⟩) (hB k hl hk)).trans (hc j hj)⟩
theorem Rd.grown {r : Option Nat} (h : Rd w b B why zs) (hg : w.grownBy w' r) (hr : ∀ k, r = some k → k ≠ b ∧ (b < k ∨ k < B.lo ∨ B.hi ≤ k)) : Rd w' b B why zs :=
  h.keep (hg.block b h.lt (fun e => (hr b e.symm).1 rfl)) (fun k hl hk => hg.block k (by have := h.lt; have := h.le; omega) (fun e => by have := (hr k e.symm).2; have := h.le; omega))
theorem Rd.below {B' : Nat} (h : Rd w b B why zs) (hb : Below B' w w') (hB : b < B') : Rd w' b B why zs :=
  h.keep (hb.block b hB) (fun k _ hk => hb.block k (by have := h.le; omega))
theorem Rd.drewN (h : Rd w b B why zs) (n : Nat) : Rd (w.drewN n) b B why zs := h.keep rfl (fun _ _ _ => rfl)
/-- It is bad from now on. -/
theorem Rd.spoilt (h : Rd w b B why zs) (x : Int) (hx : x ≠ 0) : Rd ((w.setCell ⟨b, 1, none⟩ (.int .i64 x)).setCell ⟨b, 2, none⟩ (.slice none 0 0)) b B x [] := by
  obtain ⟨A, n, c, h1, h2, h3⟩ := h.rest
  have e1 : (w.setCell ⟨b, 1, none⟩ (.int .i64 x)).cell? ⟨b, 2, none⟩ = some (.slice A n c) := by rw [World.cell?_setCell_other _ _ _ _ (by simp)]; exact h1
  refine ⟨?_, ?_, ⟨none, 0, 0, World.cell?_setCell_same _ _ _ e1, Bs.nil, Nat.le_refl _, by simp [maxLen], by omega⟩, fun A1 n1 c1 hc hn a ha => ?_, ?_, ?_, h.le, fun _ => rfl⟩
  · rw [World.cell?_setCell_other _ _ _ _ (by simp), World.cell?_setCell_other _ _ _ _ (by simp)]; exact h.made
  · rw [World.cell?_setCell_other _ _ _ _ (by simp)]; exact World.cell?_setCell_same _ _ _ h.errno
  · rw [World.cell?_setCell_same _ _ _ e1] at hc
    injection hc with hc
    injection hc with q1 q2 q3
    omega
  · rw [World.frozen?_setCell, World.frozen?_setCell]; exact h.f1
  · rw [World.frozen?_setCell, World.frozen?_setCell]; exact h.f2
/-- Its first bytes are taken. -/
theorem Rd.taken (h : Rd w b B 0 zs) {A A' : Option Addr} {n c k c' : Nat} (h1 : w.cell? ⟨b, 2, none⟩ = some (.slice A n c)) (hk : k ≤ n) (hA : CutAt A A' k (n - k)) (hc : n - k ≤ c') (hc2 : c' ≤ maxLen) :
    Rd (w.setCell ⟨b, 2, none⟩ (.slice A' (n - k) c')) b B 0 (zs.drop k) ∧ Bs (w.setCell ⟨b, 2, none⟩ (.slice A' (n - k) c')) B.hi A k (zs.take k) := by
  obtain ⟨A0, n0, c0, g1, g2, g3, g4, g5⟩ := h.rest
  rw [h1] at g1
  injection g1 with g1
  injection g1 with e1 e2 e3
  subst e1 e2 e3
  have hB := h.le
  refine ⟨⟨?_, ?_, ⟨A', n - k, c', World.cell?_setCell_same _ _ _ h1, ?_, hc, hc2, by omega⟩, fun A1 n1 c1 hc' hn a ha => ?_, ?_, ?_, h.le, fun e => absurd rfl e⟩, ?_⟩
  · rw [World.cell?_setCell_other _ _ _ _ (by simp)]; exact h.made
  · rw [World.cell?_setCell_other _ _ _ _ (by simp)]; exact h.errno
  · have := (g2.cut (k := k) (m := n - k) (by omega) A' hA).setCell (p := ⟨b, 2, none⟩) hB (.slice A' (n - k) c')
    rwa [List.take_of_length_le (by rw [List.length_drop, g2.len]; omega)] at this
  · rw [World.cell?_setCell_same _ _ _ h1] at hc'
    injection hc' with hc'
    injection hc' with q1 q2 q3
    obtain ⟨k0, off, e0, _⟩ := g2.row (by omega)
    have e9 := hA k0 off e0 (by omega)
    have := h.low _ _ _ h1 (by omega) _ e0
    rw [← q1, e9] at ha
    injection ha with ha
    rw [← ha]; exact this
  · rw [World.frozen?_setCell]; exact h.f1
  · rw [World.frozen?_setCell]; exact h.f2
  · have := (g2.cut (k := 0) (m := k) (by omega) A (fun b off e _ => by rw [e]; simp)).setCell (p := ⟨b, 2, none⟩) hB (.slice A' (n - k) c')
    rwa [List.drop_zero] at this
end
/-- A call that tells a value and leaves the world as it is. -/
def Says (v : Value) (w : World) (e : Ending) (w' : World) : Prop := e = .returned v ∧ w = w'
theorem err_any {w : World} {b : Nat} {B : Span} {why : Int} {zs : List Int} (h : Rd w b B why zs) : Calls Try.prog 69 #[.pointer (some ⟨b, 0, none⟩)] w (Says (.int .i64 why) w) := by
  have h0 := h.made
  have h1 := h.errno
  clear h
  go_enter Try.func69, Try.ntmps69
  go_wp2
  go_ret
  exact ⟨rfl, rfl⟩
theorem left_any {w : World} {b : Nat} {B : Span} {why : Int} {zs : List Int} (h : Rd w b B why zs) : Calls Try.prog 72 #[.pointer (some ⟨b, 0, none⟩)] w (Says (.int .i64 (zs.length : Nat)) w) := by
  obtain ⟨A, n, c, h1, h2, _⟩ := h.rest
  rw [h2.len]
  clear h h2
  go_enter Try.func72, Try.ntmps72
  go_wp2
  go_ret
  exact ⟨rfl, rfl⟩
/-- What End tells. -/
def endZ (why : Int) (zs : List Int) : Int := if why ≠ 0 then why else if zs.length = 0 then 0 else 40
theorem end_rd {w : World} {b : Nat} {B : Span} {why : Int} {zs : List Int} (h : Rd w b B why zs) : Calls Try.prog 36 #[.pointer (some ⟨b, 0, none⟩)] w (Says (.int .i64 (endZ why zs)) w) := by
  have HE := Lib.hid (err_any h)
  have HL := Lib.hid (left_any h)
  obtain ⟨n, hn⟩ : ∃ n, zs.length = n := ⟨_, rfl⟩
  by_cases hw : why = 0
  · have HZ : Hid (endZ why zs = if n = 0 then 0 else 40) := Lib.hid (by unfold endZ; rw [if_neg (by simpa using hw), hn])
    rw [hn] at HL
    clear h hn
    rw [hw] at HE
    by_cases h0 : n = 0
    · have HZ2 : Hid (endZ why zs = 0) := Lib.hid (by rw [HZ.out, if_pos h0])
      clear HZ
      go_enter Try.func36, Try.ntmps36
      go_wp2_with (first | (go_at_call 69; refine HE.out.mono ?_; rintro e w' ⟨rfl, rfl⟩) | (go_at_call 72; refine HL.out.mono ?_; rintro e w' ⟨rfl, rfl⟩))
      go_ret
      exact ⟨by rw [HZ2.out]; rfl, rfl⟩
    · have HZ2 : Hid (endZ why zs = 40) := Lib.hid (by rw [HZ.out, if_neg h0])
      have hp : 0 < (n : Int) := by omega
      clear HZ
      go_enter Try.func36, Try.ntmps36
      go_wp2_with (first | (go_at_call 69; refine HE.out.mono ?_; rintro e w' ⟨rfl, rfl⟩) | (go_at_call 72; refine HL.out.mono ?_; rintro e w' ⟨rfl, rfl⟩))
      go_ret
      exact ⟨by rw [HZ2.out]; rfl, rfl⟩
  · have HZ : Hid (endZ why zs = why) := Lib.hid (by unfold endZ; rw [if_pos hw])
    clear h HL hn
    have hw2 : (why == 0) = false := by simpa using hw
    go_enter Try.func36, Try.ntmps36
    go_wp2_with (first | (go_at_call 69; refine HE.out.mono ?_; rintro e w' ⟨rfl, rfl⟩))
    go_ret
    exact ⟨by rw [HZ.out]; rfl, rfl⟩
end Go.Proofs.Ytfihiandifnkpaa
/- A writer as it lies in memory; what puts bytes behind. -/
namespace Go.Proofs.Ytfihiandifnkpaa
open Go.ChangeShapes Go.WideShapes Go.ChangeAt Go.RowKit
set_option linter.unusedVariables false
open Plain
/-- Where a row stands that was appended to: where it stood, or in a new block. -/
theorem append_where {P : Program} (w : World) (base : Nat) (t ty e : TypeId) (i : TypeInfo) (z : Value) (size bytes : Nat) (ht : P.underlying t = some (.slice e)) (hi : P.info? e = some i) (hz : i.zero = some z)
    (hsize : i.size = size) (hby : i.bytes = bytes) (hzs : z.cells.size = size) (hsz : 0 < size)
    (v : Value) (n : Nat) (xs : List Value) (hown : w.ownsRow base e size v n xs)
    (a : Addr) (m c : Nat) (news : List Value) (hl : news.length = m * size) (hnews : ∀ j u, news[j]? = some u → w.cell? (a.add j) = some u) (h1 : ∀ u ∈ news, u.oneCell' = true)
    (h63 : n + m ≤ maxLen) (hbytes : (n + m) * bytes ≤ 140737488355328) (hbase : base ≤ w.heap.size) {v' : Value} {w' : World}
    (hr : (Builtin.append_ #[t, t] ty #[v, .slice (some a) m c]).run P w = .ok v' w') : v'.ownBlock = v.ownBlock ∨ ∀ k, v'.ownBlock = some k → w.heap.size ≤ k := by
  have h63' : n + m ≤ 9223372036854775807 := by simp only [maxLen] at h63; omega
  rcases hown.2 with ⟨rfl, rfl⟩ | ⟨g, cap, cur, rfl, hbg, hg, hnc, hcm, hcs, htake⟩
  · right
    have hx : xs = [] := List.eq_nil_of_length_eq_zero (by simpa using hown.1)
    subst hx
    obtain ⟨v2, w2, hr2, ho2, _⟩ := run_append_own (P := P) w w.heap.size t ty e i z size bytes ht hi hz hsize hby hzs hsz (.slice none 0 0) 0 [] (World.ownsRow_nil _ _ _ _) a m c news hl hnews h1 h63 hbytes (Nat.le_refl _)
    rw [hr] at hr2
    injection hr2 with e1 e2
    subst e1 e2
    exact fun k hk => (ho2.lt k hk).1
  · by_cases hroom : n + m ≤ cap
    · left
      have hfit : n * i.size + news.length ≤ cur.size := by rw [hl, hcs, hsize, ← Nat.add_mul]; exact Nat.mul_le_mul_right _ hroom
      have hr2 := run_append_room (P := P) w t ty e i ht hi g n cap cur hg a m c news (by rw [hl, hsize]) hnews h1 hroom hfit
      rw [hr] at hr2
      injection hr2 with e1 e2
      rw [e1]; rfl
    · right
      have holds : ∀ j u, xs[j]? = some u → w.cell? ((⟨g, 0, none⟩ : Addr).add j) = some u := hown.cells (g := g) rfl
      have hr2 := run_append_grow (P := P) w t ty e i z ht hi hz ⟨g, 0, none⟩ n cap xs (by rw [hown.1, hsize]) holds a m c news (by rw [hl, hsize]) hnews (by omega) (by omega) (growslice_fits (by omega) (by rw [hby]; exact hbytes))
      rw [hr] at hr2
      injection hr2 with e1 e2
      rw [e1]
      intro k hk
      simp only [Value.ownBlock, Option.some.injEq] at hk
      omega
/-- The law for the walk: as wpList_app, and where the row stands. -/
theorem wpList_appW {P : Program} (w : World) {ops : Array Oper} {rest : List Oper} {o : Oper} {a : Act} {Q : Exit → Act → World → Prop} (hgd : o.guard = none) (s x : Operand) (t : TypeId)
    (ho : o.op = .call { callee := .builtin .append, args := #[s, x], argTypes := #[t, t] })
    (base : Nat) (e : TypeId) (size bytes : Nat) (ht : P.underlying t = some (.slice e)) (hinfo : ∃ i z, P.info? e = some i ∧ i.zero = some z ∧ i.size = size ∧ i.bytes = bytes ∧ z.cells.size = size) (hsz : 0 < size)
    (v : Value) (n : Nat) (xs : List Value) (hs : a.eval s = v) (hown : w.ownsRow base e size v n xs)
    (A : Option Addr) (m c : Nat) (news : List Value) (hx : a.eval x = .slice A m c) (hr : Lies w size A m news) (hso : Sourced A m) (h1 : ∀ u ∈ news, u.oneCell' = true)
    (h63 : n + m ≤ maxLen) (hbytes : (n + m) * bytes ≤ 140737488355328) (hbase : base ≤ w.heap.size)
    (h : ∀ v' w', w'.ownsRow base e size v' (n + m) (xs ++ news) → w.grownBy w' v.ownBlock → (v'.ownBlock = v.ownBlock ∨ ∀ k, v'.ownBlock = some k → w.heap.size ≤ k) → wpList P ops Q rest (a.put o.dst v') w') : wpList P ops Q (o :: rest) a w := by
  obtain ⟨i, z, hi, hz, hsize, hby, hzs⟩ := hinfo
  cases A with
  | none =>
    have hm : m = 0 := hso rfl
    subst hm
    have hn : news = [] := List.eq_nil_of_length_eq_zero (by simpa using hr.1)
    subst hn
    refine wpList_plain hgd fun K hK => ?_
    have hrun := run_append_nothing (P := P) w base t o.type e i size ht hi v n xs hown c
    unfold Oper.wp
    simp only [execOp, ho, resolve, invoke, builtin, Sem.run_bind, Sem.run_pure, Result.andThen_ok, List.map_toArray, List.map_cons, List.map_nil, hs, hx, hrun]
    exact hK _ _ (h v w (by simpa using hown) (World.grownBy.refl w _) (.inl rfl))
  | some ad =>
    obtain ⟨v', w', hrun, h2, h3, h4⟩ := run_append_own (P := P) w base t o.type e i z size bytes ht hi hz hsize hby hzs hsz v n xs hown ad m c news hr.1 (hr.2 ad rfl) h1 h63 hbytes hbase
    have h5 := append_where (P := P) w base t o.type e i z size bytes ht hi hz hsize hby hzs hsz v n xs hown ad m c news hr.1 (hr.2 ad rfl) h1 h63 hbytes hbase hrun
    refine wpList_plain hgd fun K hK => ?_
    unfold Oper.wp
    simp only [execOp, ho, resolve, invoke, builtin, Sem.run_bind, Sem.run_pure, Result.andThen_ok, List.map_toArray, List.map_cons, List.map_nil, hs, hx, hrun]
    exact hK _ _ (h v' w' h2 h3 h5)
/-- Block b holds a writer: its form so far, or none if it is too long; block g has the form's bytes. -/
structure Wr (w : World) (b : Nat) (g : Option Nat) (st : Option (List Int)) : Prop where
  made : w.cell? ⟨b, 0, none⟩ = some (.bool true)
  long : w.cell? ⟨b, 1, none⟩ = some (.bool st.isNone)
  form : ∃ A n c, w.cell? ⟨b, 2, none⟩ = some (.slice A n c) ∧ w.ownsRow (b + 1) 5 1 (.slice A n c) n (vals (st.getD [])) ∧ (Value.slice A n c).ownBlock = g ∧ (st.getD []).length = n ∧ n ≤ 65536
  bytes : IsBytes (st.getD [])
  f1 : w.frozen? ⟨b, 1, none⟩ = false
  f2 : w.frozen? ⟨b, 2, none⟩ = false
/-- But for a writer's blocks all stands as it stood. -/
structure Wrote (w w' : World) (b : Nat) (g : Option Nat) : Prop where
  os : w'.os = w.os
  tape : w'.tape = w.tape
  output : w'.output = w.output
  size : w.heap.size ≤ w'.heap.size
  block : ∀ k, k < w.heap.size → k ≠ b → some k ≠ g → w'.heap[k]? = w.heap[k]?
theorem Wrote.refl (w : World) (b : Nat) (g : Option Nat) : Wrote w w b g := ⟨rfl, rfl, rfl, Nat.le_refl _, fun _ _ _ _ => rfl⟩
/-- A block of a writer's form, or a new one. -/
def Fresh (w : World) (g g' : Option Nat) : Prop := g' = g ∨ ∀ k, g' = some k → w.heap.size ≤ k
theorem Wrote.trans {w w1 w2 : World} {b : Nat} {g g1 : Option Nat} (h : Wrote w w1 b g) (k : Wrote w1 w2 b g1) (hf : Fresh w g g1) : Wrote w w2 b g :=
  ⟨k.os.trans h.os, k.tape.trans h.tape, k.output.trans h.output, Nat.le_trans h.size k.size, fun i hi h1 h2 => (k.block i (Nat.lt_of_lt_of_le hi h.size) h1 (fun e => by
    rcases hf with hf | hf
    · exact h2 (e.trans hf)
    · have := hf i e.symm; omega)).trans (h.block i hi h1 h2)⟩
theorem Fresh.trans {w w1 : World} {g g1 g2 : Option Nat} (h : Fresh w g g1) (k : Fresh w1 g1 g2) (hs : w.heap.size ≤ w1.heap.size) : Fresh w g g2 := by
  rcases k with rfl | k
  · exact h
  · exact .inr (fun i hi => Nat.le_trans hs (k i hi))
theorem Wrote.of_grown {w w' : World} {b : Nat} {g r : Option Nat} (h : w.grownBy w' r) (hr : r = none ∨ r = some b ∨ r = g) : Wrote w w' b g :=
  ⟨h.os, h.tape, h.output, h.size, fun k hk h1 h2 => h.block k hk (fun e => by
    rcases hr with rfl | rfl | rfl
    · cases e
    · injection e with e; exact h1 e
    · exact h2 e)⟩
section
variable {w w' : World} {b : Nat} {g : Option Nat} {st : Option (List Int)}
theorem Wr.lt (h : Wr w b g st) : b < w.heap.size := World.block_lt_of_cell? _ _ h.made
theorem Wr.own (h : Wr w b g st) : ∀ k, g = some k → b < k ∧ k < w.heap.size := by
  obtain ⟨A, n, c, _, ho, hg, _⟩ := h.form
  intro k hk
  have := ho.lt k (hg.trans hk)
  omega
theorem Wr.keep (h : Wr w b g st) (hb : w'.heap[b]? = w.heap[b]?) (hg : ∀ k, g = some k → w'.heap[k]? = w.heap[k]?) : Wr w' b g st := by
  obtain ⟨A, n, c, h1, h2, h3, h4⟩ := h.form
  refine ⟨(World.cell?_of_block (a := ⟨b, 0, none⟩) hb).trans h.made, (World.cell?_of_block (a := ⟨b, 1, none⟩) hb).trans h.long,
    ⟨A, n, c, (World.cell?_of_block (a := ⟨b, 2, none⟩) hb).trans h1, ?_, h3, h4⟩, h.bytes,
    (World.frozen?_of_block (a := ⟨b, 1, none⟩) hb).trans h.f1, (World.frozen?_of_block (a := ⟨b, 2, none⟩) hb).trans h.f2⟩
  obtain ⟨o1, o2⟩ := h2
  refine ⟨o1, ?_⟩
  rcases o2 with o2 | ⟨k, cap, cur, hv, hk, hh, r⟩
  · exact .inl o2
  · refine .inr ⟨k, cap, cur, hv, hk, ?_, r⟩
    rw [hg k (by rw [← h3, hv]; rfl)]
    exact hh
theorem Wr.grown {r : Option Nat} (h : Wr w b g st) (hg : w.grownBy w' r) (h1 : r ≠ some b) (h2 : ∀ k, g = some k → r ≠ some k) : Wr w' b g st :=
  h.keep (hg.block b h.lt (fun e => h1 e.symm)) (fun k hk => hg.block k (h.own k hk).2 (fun e => h2 k hk e.symm))
end
def wPut (st : Option (List Int)) (zs : List Int) : Option (List Int) := match st with
  | some fs => if fs.length + zs.length ≤ 65536 then some (fs ++ zs) else none
  | none => none
theorem wPut_yes (fs zs : List Int) (h : fs.length + zs.length ≤ 65536) : wPut (some fs) zs = some (fs ++ zs) := by simp [wPut, h]
theorem wPut_no (fs zs : List Int) (h : 65536 < fs.length + zs.length) : wPut (some fs) zs = none := by unfold wPut; exact if_neg (by omega)
/-- It is too long from now on. -/
theorem Wr.tooLong {w : World} {b : Nat} {g : Option Nat} {st : Option (List Int)} (h : Wr w b g st) : Wr ((w.setCell ⟨b, 1, none⟩ (.bool true)).setCell ⟨b, 2, none⟩ (.slice none 0 0)) b none none := by
  obtain ⟨A, n, c, h1, h2, h3⟩ := h.form
  have e1 : (w.setCell ⟨b, 1, none⟩ (.bool true)).cell? ⟨b, 2, none⟩ = some (.slice A n c) := by rw [World.cell?_setCell_other _ _ _ _ (by simp)]; exact h1
  refine ⟨?_, ?_, ⟨none, 0, 0, World.cell?_setCell_same _ _ _ e1, World.ownsRow_nil _ _ _ _, rfl, rfl, by omega⟩, IsBytes.nil, ?_, ?_⟩
  · rw [World.cell?_setCell_other _ _ _ _ (by simp), World.cell?_setCell_other _ _ _ _ (by simp)]; exact h.made
  · rw [World.cell?_setCell_other _ _ _ _ (by simp)]; exact World.cell?_setCell_same _ _ _ h.long
  · rw [World.frozen?_setCell, World.frozen?_setCell]; exact h.f1
  · rw [World.frozen?_setCell, World.frozen?_setCell]; exact h.f2
/-- Bytes were appended, and the slice is stored. -/
theorem Wr.appended {w w2 : World} {b n m : Nat} {g : Option Nat} {fs zs : List Int} {v2 : Value} (h : Wr w b g (some fs)) (hn : fs.length = n) (hm : zs.length = m) (hz : IsBytes zs) (ho : w2.ownsRow (b + 1) 5 1 v2 (n + m) (vals fs ++ vals zs)) (hg : w.grownBy w2 g) (hl : n + m ≤ 65536) :
    Wr (w2.setCell ⟨b, 2, none⟩ v2) b v2.ownBlock (some (fs ++ zs)) := by
  have hb : w2.heap[b]? = w.heap[b]? := hg.block b h.lt (fun e => by have := h.own b e.symm; omega)
  obtain ⟨A, n0, c, h1, h2, h3⟩ := h.form
  obtain ⟨A2, c2, rfl, q1, q2⟩ := own_shape ho
  have e1 : w2.cell? ⟨b, 2, none⟩ = some (.slice A n0 c) := (World.cell?_of_block (a := ⟨b, 2, none⟩) hb).trans h1
  refine ⟨?_, ?_, ⟨A2, n + m, c2, World.cell?_setCell_same _ _ _ e1, ?_, rfl, by show (fs ++ zs).length = _; rw [List.length_append, hn, hm], hl⟩, h.bytes.app hz, ?_, ?_⟩
  · rw [World.cell?_setCell_other _ _ _ _ (by simp)]; exact (World.cell?_of_block (a := ⟨b, 0, none⟩) hb).trans h.made
  · rw [World.cell?_setCell_other _ _ _ _ (by simp)]; exact (World.cell?_of_block (a := ⟨b, 1, none⟩) hb).trans h.long
  · have := ownsRow_setCell_below ho (a := ⟨b, 2, none⟩) (by show b < b + 1; omega) (.slice A2 (n + m) c2)
    show World.ownsRow _ _ _ _ _ _ (vals (fs ++ zs))
    rw [vals_app]
    exact this
  · rw [World.frozen?_setCell]; exact (World.frozen?_of_block (a := ⟨b, 1, none⟩) hb).trans h.f1
  · rw [World.frozen?_setCell]; exact (World.frozen?_of_block (a := ⟨b, 2, none⟩) hb).trans h.f2
/-- A writer's call: the writer is answered. -/
def Puts (w : World) (b : Nat) (g : Option Nat) (st' : Option (List Int)) (e : Ending) (w' : World) : Prop :=
  e = .returned (.pointer (some ⟨b, 0, none⟩)) ∧ ∃ g', Wr w' b g' st' ∧ Wrote w w' b g ∧ Fresh w g g'
theorem Bs.keepAt {w w' : World} {B n : Nat} {A : Option Addr} {zs : List Int} (h : Bs w B A n zs) (hk : ∀ a, A = some a → w'.heap[a.block]? = w.heap[a.block]?) : Bs w' B A n zs :=
  ⟨h.len, h.rng, fun hn => by
    obtain ⟨b, off, rfl, hb, hc⟩ := h.row hn
    exact ⟨b, off, rfl, hb, fun j hj => (World.cell?_of_block (a := ⟨b, off + j, none⟩) (hk ⟨b, off, none⟩ rfl)).trans (hc j hj)⟩⟩
/-- A slice stands apart from a writer's blocks. -/
def Apart (b : Nat) (g : Option Nat) (A : Option Addr) (n : Nat) : Prop := 0 < n → ∀ a, A = some a → a.block ≠ b ∧ some a.block ≠ g
theorem Bs.wrote {w w' : World} {b B n : Nat} {g : Option Nat} {A : Option Addr} {zs : List Int} (h : Bs w B A n zs) (hw : Wrote w w' b g) (ha : Apart b g A n) (hB : B ≤ w.heap.size) : Bs w' B A n zs := by
  refine ⟨h.len, h.rng, fun hn => ?_⟩
  obtain ⟨k, off, rfl, hk, hc⟩ := h.row hn
  exact ⟨k, off, rfl, hk, fun j hj => (World.cell?_of_block (a := ⟨k, off + j, none⟩) (hw.block k (by omega) (ha hn _ rfl).1 (ha hn _ rfl).2)).trans (hc j hj)⟩
theorem Lists.wrote {w w' : World} {b B m : Nat} {g : Option Nat} {A : Option Addr} {As : Nat → Option Addr} {Ns Cs : Nat → Nat} {Zs : Nat → List Int} (h : Lists w B A m As Ns Cs Zs) (hw : Wrote w w' b g) (ha : Apart b g A m) (hs : ∀ j, j < m → Apart b g (As j) (Ns j)) (hB : B ≤ w.heap.size) : Lists w' B A m As Ns Cs Zs :=
  ⟨fun hm => by
    obtain ⟨k, off, rfl, hlt, hc⟩ := h.row hm
    exact ⟨k, off, rfl, hlt, fun j hj => (World.cell?_of_block (a := ⟨k, off + j, none⟩) (hw.block k (by omega) (ha hm _ rfl).1 (ha hm _ rfl).2)).trans (hc j hj)⟩, fun j hj => (h.bs j hj).wrote hw (hs j hj) hB⟩
set_option maxHeartbeats 1000000 in
theorem put_long {w : World} {b : Nat} {g : Option Nat} (h : Wr w b g none) (l : Value) : Calls Try.prog 74 #[.pointer (some ⟨b, 0, none⟩), l] w (Puts w b g none) := by
  have h0 := h.made
  have h1 : w.cell? ⟨b, 1, none⟩ = some (.bool true) := h.long
  have H := Lib.hid h
  clear h
  go_enter Try.func74, Try.ntmps74
  go_wp2
  go_ret
  exact ⟨rfl, g, H.out, Wrote.refl _ _ _, .inl rfl⟩
set_option maxHeartbeats 2000000 in
theorem put_ok {w : World} {b : Nat} {g : Option Nat} {fs : List Int} (h : Wr w b g (some fs)) {B : Nat} {A : Option Addr} {m : Nat} (c : Nat) {As : Nat → Option Addr} {Ns Cs : Nat → Nat} {Zs : Nat → List Int} (hl : Lists w B A m As Ns Cs Zs) (hB : B ≤ w.heap.size) (hm : m ≤ maxLen)
    (hN : ∀ j, j < m → Ns j ≤ 140737488355328) (ha : Apart b g A m) (hs : ∀ j, j < m → Apart b g (As j) (Ns j)) :
    Calls Try.prog 74 #[.pointer (some ⟨b, 0, none⟩), .slice A m c] w (Puts w b g (wPut (some fs) (catTo Zs m))) := by
  unfold maxLen at hm
  have h0 := h.made
  have h1 : w.cell? ⟨b, 1, none⟩ = some (.bool false) := h.long
  have HW := Lib.hid h
  have HL := Lib.hid hl
  have HLen : Hid (∀ k, k ≤ m → (catTo Zs k).length = sumTo Ns k) := Lib.hid (fun k hk => catTo_len Zs Ns k (fun j hj => (hl.bs j (by omega)).len))
  have HSum : Hid (∀ k, k ≤ m → sumTo Ns k ≤ sumTo Ns m) := Lib.hid (fun k hk => sumTo_le Ns k m hk)
  have HN := Lib.hid hN
  clear h hl hN
  go_enter Try.func74, Try.ntmps74
  go_wp2
  go_loopw [25] (fun i wr => ∃ k : Nat, k ≤ m ∧ i = .int .i64 k ∧ ∃ g', Hid (Wr wr b g' (some (fs ++ catTo Zs k))) ∧ Hid (Wrote w wr b g) ∧ Hid (Fresh w g g')) (fun i _ => m - (intOf i).toNat)
  case atStart => exact ⟨0, by omega, rfl, g, Lib.hid (by show Wr w b g (some (fs ++ [])); rw [List.append_nil]; exact HW.out), Lib.hid (Wrote.refl _ _ _), Lib.hid (.inl rfl)⟩
  case round =>
    obtain ⟨k, hk, rfl, g', RW, RO, RF⟩ := hrel
    by_cases hlt : k < m
    · have LL := HL.out.wrote RO.out ha hs hB
      obtain ⟨bl, off, rfl, hbl, hc⟩ := LL.at_ hlt
      have HZ := Lib.hid (LL.bs k hlt)
      have hnk := HN.out k hlt
      have hap := hs k hlt
      obtain ⟨A2, n2, c2, f1, f2, f3, f4, f5⟩ := RW.out.form
      have g1 := RW.out.f1
      have g2 := RW.out.f2
      have c1 := RW.out.long
      have hlen : Hid ((fs ++ catTo Zs k).length = n2) := Lib.hid f4
      have F2 := Lib.hid f2
      have F3 := Lib.hid f3
      have hsz := RW.out.lt
      have hst : Hid (fs ++ catTo Zs (k + 1) = fs ++ catTo Zs k ++ Zs k) := Lib.hid (by show fs ++ (catTo Zs k ++ Zs k) = _; rw [List.append_assoc])
      have hsl : Hid (sumTo Ns (k + 1) = sumTo Ns k + Ns k) := Lib.hid rfl
      clear LL f2 f3 f4
      generalize hnn : Ns k = nk at *
      generalize Cs k = ck at *
      generalize As k = ak at *
      by_cases hfit : n2 + nk ≤ 65536
      · have hfi : ¬ (65536 - (n2 : Int)) < (nk : Int) := by omega
        have hnb : some b ≠ (Value.slice A2 n2 c2).ownBlock := fun e => by have := RW.out.own b (F3.out.symm.trans e.symm); omega
        go_wp2_with (at_builtin; refine wpList_appW _ rfl (.tmp 49) (.tmp 50) 22 rfl (b + 1) 5 1 1 Try.underlying22 u8_info (by omega) (.slice A2 n2 c2) n2 (vals (fs ++ catTo Zs k)) rfl F2.out ak nk ck (vals (Zs k)) rfl HZ.out.lies.1 HZ.out.lies.2 (vals_one _) (by unfold maxLen; omega) (by omega) (by omega) ?_; intro v2 w2 ho2 hg2 hw2; obtain ⟨A3, c3, rfl, _, _⟩ := own_shape ho2; have d1 : w2.cell? ⟨b, 2, none⟩ = some (.slice A2 n2 c2) := (World.cell?_of_block (a := ⟨b, 2, none⟩) (hg2.block b hsz hnb)).trans f1; have d2 : w2.frozen? ⟨b, 2, none⟩ = false := (World.frozen?_of_block (a := ⟨b, 2, none⟩) (hg2.block b hsz hnb)).trans g2; have HO := Lib.hid ho2; have HG := Lib.hid hg2; have HWh : Hid ((Value.slice A3 (n2 + nk) c3).ownBlock = (Value.slice A2 n2 c2).ownBlock ∨ ∀ k, (Value.slice A3 (n2 + nk) c3).ownBlock = some k → wr.heap.size ≤ k) := Lib.hid hw2; clear ho2 hg2 hw2)
        have hg3 : wr.grownBy w2 g' := by rw [← F3.out]; exact HG.out
        have W3 := Lib.hid (RW.out.appended hlen.out (HZ.out.len) HZ.out.isBytes HO.out hg3 hfit)
        have O3 : Hid (Wrote w (w2.setCell ⟨b, 2, none⟩ (.slice A3 (n2 + nk) c3)) b g) := Lib.hid (RO.out.trans ((Wrote.of_grown hg3 (.inr (.inr rfl))).trans (Wrote.of_grown (grown_cell w2 ⟨b, 2, none⟩ _) (.inr (.inl rfl))) (.inl rfl)) RF.out)
        have F4 : Hid (Fresh w g (Value.slice A3 (n2 + nk) c3).ownBlock) := Lib.hid (RF.out.trans (by rw [F3.out] at HWh; exact HWh.out) RO.out.size)
        clear hg3
        go_roundw
        case rel => exact ⟨k + 1, by omega, by go_num, _, Lib.hid (by rw [hst.out]; exact W3.out), O3, F4⟩
        case measure => simp [intOf]; omega
      · have hfi : (65536 - (n2 : Int)) < (nk : Int) := by omega
        have W3 := Lib.hid RW.out.tooLong
        have O3 : Hid (Wrote w ((wr.setCell ⟨b, 1, none⟩ (.bool true)).setCell ⟨b, 2, none⟩ (.slice none 0 0)) b g) := Lib.hid (RO.out.trans ((Wrote.of_grown (grown_cell wr ⟨b, 1, none⟩ _) (.inr (.inl rfl))).trans (Wrote.of_grown (grown_cell _ ⟨b, 2, none⟩ _) (.inr (.inl rfl))) (.inl rfl)) RF.out)
        have HP : Hid (wPut (some fs) (catTo Zs m) = none) := Lib.hid (wPut_no _ _ (by
          have e1 := HLen.out m (Nat.le_refl _)
          have e2 := HSum.out (k + 1) (by omega)
          have e3 := HLen.out k hk
          have e4 := hlen.out
          rw [List.length_append, e3] at e4
          have e5 := hsl.out
          omega))
        go_wp2
        go_ret
        exact ⟨rfl, none, by rw [HP.out]; exact W3.out, O3.out, .inr (fun k hk => by cases hk)⟩
    · have hkm : k = m := by omega
      have HP : Hid (wPut (some fs) (catTo Zs m) = some (fs ++ catTo Zs k)) := Lib.hid (by
        rw [← hkm]
        obtain ⟨A2, n2, c2, _, _, _, f4, f5⟩ := RW.out.form
        refine wPut_yes _ _ ?_
        rw [← List.length_append]
        have f6 : (fs ++ catTo Zs k).length = n2 := f4
        omega)
      clear hkm
      go_wp2
      go_ret
      exact ⟨rfl, g', by rw [HP.out]; exact RW.out, RO.out, RF.out⟩
end Go.Proofs.Ytfihiandifnkpaa
/- What a reader's next bytes are taken by: of one that is bad, or too short; of one that has them. -/
namespace Go.Proofs.Ytfihiandifnkpaa
open Go.ChangeShapes Go.WideShapes Go.ChangeAt Go.RowKit
set_option linter.unusedVariables false
open Plain
/-- A reader's call: what it tells, and the reader behind it. -/
def Takes (w : World) (b : Nat) (B : Span) (why : Int) (zs : List Int) (v : Value) (e : Ending) (w' : World) : Prop := e = .returned v ∧ Rd w' b B why zs ∧ w.grownBy w' (some b)
/-- What is made of the next bytes. -/
def Makes (w1 : World) (ok : Bool) (Post : Value → World → Prop) (e : Ending) (w2 : World) : Prop := ∃ x, e = .returned (.tuple #[x, .bool ok]) ∧ w1.grownBy w2 none ∧ Post x w2
theorem take_u8_none (p F : Value) (why size : Int) (hw : why ≠ 0) (w : World) (h : Calls Try.prog 69 #[p] w (Says (.int .i64 why) w)) :
    Calls Try.prog 79 #[p, .int .i64 size, F] w (Says (.int .u8 0) w) := by
  have HE := Lib.hid h
  have hw2 : (why == 0) = false := by simpa using hw
  clear h
  go_enter Try.func79, Try.ntmps79
  go_wp2_with (go_at_call 69; refine HE.out.mono ?_; rintro e w' ⟨rfl, rfl⟩)
  go_ret
  exact ⟨rfl, rfl⟩
theorem take_u8_short {w : World} {b : Nat} {B : Span} {zs : List Int} (F : Value) (size : Int) (h : Rd w b B 0 zs) (hs : (zs.length : Int) < size) :
    Calls Try.prog 79 #[.pointer (some ⟨b, 0, none⟩), .int .i64 size, F] w (Takes w b B 40 [] (.int .u8 0)) := by
  have HE := Lib.hid (err_any h)
  have HL := Lib.hid (left_any h)
  have HS := Lib.hid (h.spoilt 40 (by omega))
  obtain ⟨A, n, c, h2, _⟩ := h.rest
  have h1 := h.errno
  have g1 := h.f1
  have g2 := h.f2
  obtain ⟨m, hm⟩ : ∃ m, zs.length = m := ⟨_, rfl⟩
  rw [hm] at HL hs
  clear h hm
  have hlt : ¬ size ≤ (m : Int) := by omega
  go_enter Try.func79, Try.ntmps79
  go_wp2_with (first | (go_at_call 69; refine HE.out.mono ?_; rintro e w' ⟨rfl, rfl⟩) | (go_at_call 72; refine HL.out.mono ?_; rintro e w' ⟨rfl, rfl⟩))
  go_ret
  exact ⟨rfl, HS.out, grown_trans (grown_cell _ ⟨b, 1, none⟩ _) (grown_cell _ ⟨b, 2, none⟩ _)⟩
set_option maxHeartbeats 1000000 in
theorem take_u8_no {w : World} {b : Nat} {B : Span} {zs : List Int} (k : Nat) (f : FuncId) (caps : Array Value) (hin : ∀ args W, (callFunc f args).run Try.prog W = .ok (.enter f args) W) (h : Rd w b B 0 zs) (hs : k ≤ zs.length) (Post : Value → World → Prop)
    (hf : ∀ w1 A c, Rd w1 b B 0 (zs.drop k) → w.grownBy w1 (some b) → Bs w1 B.hi A k (zs.take k) → k ≤ c → c ≤ maxLen → Calls Try.prog f (#[.slice A k c] ++ caps) w1 (Makes w1 false Post)) :
    Calls Try.prog 79 #[.pointer (some ⟨b, 0, none⟩), .int .i64 k, .func (.func f) #[] caps] w (Takes w b B 40 [] (.int .u8 0)) := by
  have HE := Lib.hid (err_any h)
  have HL := Lib.hid (left_any h)
  obtain ⟨A, n, c, h2, hz, hnc, hcm, hn5⟩ := h.rest
  rw [hz.len] at HL hs
  have h1 := h.errno
  have g1 := h.f1
  have g2 := h.f2
  have C1 := cut_h A n c k k rfl (by omega)
  obtain ⟨A2, C2, hA2⟩ := cut_l A n c k k rfl hs hnc
  have HT := Lib.hid (h.taken (c' := c - k) h2 hs hA2 (by omega) (by omega))
  have HF := Lib.hid hf
  clear h hz hf
  have hle : (k : Int) ≤ (n : Int) := by omega
  go_enter Try.func79, Try.ntmps79
  go_wp2_with (first | (go_at_call 69; refine HE.out.mono ?_; rintro e w' ⟨rfl, rfl⟩) | (go_at_call 72; refine HL.out.mono ?_; rintro e w' ⟨rfl, rfl⟩))
  have C := Lib.hid (HF.out _ A c HT.out.1 (grown_cell w ⟨b, 2, none⟩ _) HT.out.2 (by omega) hcm)
  clear HF
  refine C.out.mono ?_
  rintro e w2 ⟨x, rfl, hg, hp⟩
  have r2 := HT.out.1.grown hg (fun k hk => by cases hk)
  have HS := Lib.hid (r2.spoilt 40 (by omega))
  have gg : Hid (w.grownBy w2 (some b)) := Lib.hid (grown_trans (grown_cell w ⟨b, 2, none⟩ _) (grown_more hg))
  obtain ⟨A3, n3, c3, h5, _⟩ := r2.rest
  have h4 := r2.errno
  have g3 := r2.f1
  have g4 := r2.f2
  clear C HT r2 hg h1 h2 g1 g2 hp
  go_wp2
  go_ret
  exact ⟨rfl, HS.out, grown_trans gg.out (grown_trans (grown_cell _ ⟨b, 1, none⟩ _) (grown_cell _ ⟨b, 2, none⟩ _))⟩
set_option maxHeartbeats 1000000 in
theorem take_u8_ok {w : World} {b : Nat} {B : Span} {zs : List Int} (k : Nat) (f : FuncId) (caps : Array Value) (hin : ∀ args W, (callFunc f args).run Try.prog W = .ok (.enter f args) W) (h : Rd w b B 0 zs) (hs : k ≤ zs.length) (Post : Value → World → Prop)
    (hf : ∀ w1 A c, Rd w1 b B 0 (zs.drop k) → w.grownBy w1 (some b) → Bs w1 B.hi A k (zs.take k) → k ≤ c → c ≤ maxLen → Calls Try.prog f (#[.slice A k c] ++ caps) w1 (Makes w1 true Post)) :
    Calls Try.prog 79 #[.pointer (some ⟨b, 0, none⟩), .int .i64 k, .func (.func f) #[] caps] w (fun e w' => ∃ x, Takes w b B 0 (zs.drop k) x e w' ∧ Post x w') := by
  have HE := Lib.hid (err_any h)
  have HL := Lib.hid (left_any h)
  obtain ⟨A, n, c, h2, hz, hnc, hcm, hn5⟩ := h.rest
  rw [hz.len] at HL hs
  have h1 := h.errno
  have g1 := h.f1
  have g2 := h.f2
  have C1 := cut_h A n c k k rfl (by omega)
  obtain ⟨A2, C2, hA2⟩ := cut_l A n c k k rfl hs hnc
  have HT := Lib.hid (h.taken (c' := c - k) h2 hs hA2 (by omega) (by omega))
  have HF := Lib.hid hf
  clear h hz hf
  have hle : (k : Int) ≤ (n : Int) := by omega
  go_enter Try.func79, Try.ntmps79
  go_wp2_with (first | (go_at_call 69; refine HE.out.mono ?_; rintro e w' ⟨rfl, rfl⟩) | (go_at_call 72; refine HL.out.mono ?_; rintro e w' ⟨rfl, rfl⟩))
  have C := Lib.hid (HF.out _ A c HT.out.1 (grown_cell w ⟨b, 2, none⟩ _) HT.out.2 (by omega) hcm)
  clear HF
  refine C.out.mono ?_
  rintro e w2 ⟨x, rfl, hg, hp⟩
  have r2 := HT.out.1.grown hg (fun k hk => by cases hk)
  have gg : Hid (w.grownBy w2 (some b)) := Lib.hid (grown_trans (grown_cell w ⟨b, 2, none⟩ _) (grown_more hg))
  go_wp2
  go_ret
  exact ⟨x, ⟨rfl, r2, gg.out⟩, hp⟩
theorem take_i_none (p F : Value) (why size : Int) (hw : why ≠ 0) (w : World) (h : Calls Try.prog 69 #[p] w (Says (.int .i64 why) w)) :
    Calls Try.prog 84 #[p, .int .i64 size, F] w (Says (.int .i64 0) w) := by
  have HE := Lib.hid h
  have hw2 : (why == 0) = false := by simpa using hw
  clear h
  go_enter Try.func84, Try.ntmps84
  go_wp2_with (go_at_call 69; refine HE.out.mono ?_; rintro e w' ⟨rfl, rfl⟩)
  go_ret
  exact ⟨rfl, rfl⟩
theorem take_i_short {w : World} {b : Nat} {B : Span} {zs : List Int} (F : Value) (size : Int) (h : Rd w b B 0 zs) (hs : (zs.length : Int) < size) :
    Calls Try.prog 84 #[.pointer (some ⟨b, 0, none⟩), .int .i64 size, F] w (Takes w b B 40 [] (.int .i64 0)) := by
  have HE := Lib.hid (err_any h)
  have HL := Lib.hid (left_any h)
  have HS := Lib.hid (h.spoilt 40 (by omega))
  obtain ⟨A, n, c, h2, _⟩ := h.rest
  have h1 := h.errno
  have g1 := h.f1
  have g2 := h.f2
  obtain ⟨m, hm⟩ : ∃ m, zs.length = m := ⟨_, rfl⟩
  rw [hm] at HL hs
  clear h hm
  have hlt : ¬ size ≤ (m : Int) := by omega
  go_enter Try.func84, Try.ntmps84
  go_wp2_with (first | (go_at_call 69; refine HE.out.mono ?_; rintro e w' ⟨rfl, rfl⟩) | (go_at_call 72; refine HL.out.mono ?_; rintro e w' ⟨rfl, rfl⟩))
  go_ret
  exact ⟨rfl, HS.out, grown_trans (grown_cell _ ⟨b, 1, none⟩ _) (grown_cell _ ⟨b, 2, none⟩ _)⟩
set_option maxHeartbeats 1000000 in
theorem take_i_no {w : World} {b : Nat} {B : Span} {zs : List Int} (k : Nat) (f : FuncId) (caps : Array Value) (hin : ∀ args W, (callFunc f args).run Try.prog W = .ok (.enter f args) W) (h : Rd w b B 0 zs) (hs : k ≤ zs.length) (Post : Value → World → Prop)
    (hf : ∀ w1 A c, Rd w1 b B 0 (zs.drop k) → w.grownBy w1 (some b) → Bs w1 B.hi A k (zs.take k) → k ≤ c → c ≤ maxLen → Calls Try.prog f (#[.slice A k c] ++ caps) w1 (Makes w1 false Post)) :
    Calls Try.prog 84 #[.pointer (some ⟨b, 0, none⟩), .int .i64 k, .func (.func f) #[] caps] w (Takes w b B 40 [] (.int .i64 0)) := by
  have HE := Lib.hid (err_any h)
  have HL := Lib.hid (left_any h)
  obtain ⟨A, n, c, h2, hz, hnc, hcm, hn5⟩ := h.rest
  rw [hz.len] at HL hs
  have h1 := h.errno
  have g1 := h.f1
  have g2 := h.f2
  have C1 := cut_h A n c k k rfl (by omega)
  obtain ⟨A2, C2, hA2⟩ := cut_l A n c k k rfl hs hnc
  have HT := Lib.hid (h.taken (c' := c - k) h2 hs hA2 (by omega) (by omega))
  have HF := Lib.hid hf
  clear h hz hf
  have hle : (k : Int) ≤ (n : Int) := by omega
  go_enter Try.func84, Try.ntmps84
  go_wp2_with (first | (go_at_call 69; refine HE.out.mono ?_; rintro e w' ⟨rfl, rfl⟩) | (go_at_call 72; refine HL.out.mono ?_; rintro e w' ⟨rfl, rfl⟩))
  have C := Lib.hid (HF.out _ A c HT.out.1 (grown_cell w ⟨b, 2, none⟩ _) HT.out.2 (by omega) hcm)
  clear HF
  refine C.out.mono ?_
  rintro e w2 ⟨x, rfl, hg, hp⟩
  have r2 := HT.out.1.grown hg (fun k hk => by cases hk)
  have HS := Lib.hid (r2.spoilt 40 (by omega))
  have gg : Hid (w.grownBy w2 (some b)) := Lib.hid (grown_trans (grown_cell w ⟨b, 2, none⟩ _) (grown_more hg))
  obtain ⟨A3, n3, c3, h5, _⟩ := r2.rest
  have h4 := r2.errno
  have g3 := r2.f1
  have g4 := r2.f2
  clear C HT r2 hg h1 h2 g1 g2 hp
  go_wp2
  go_ret
  exact ⟨rfl, HS.out, grown_trans gg.out (grown_trans (grown_cell _ ⟨b, 1, none⟩ _) (grown_cell _ ⟨b, 2, none⟩ _))⟩
set_option maxHeartbeats 1000000 in
theorem take_i_ok {w : World} {b : Nat} {B : Span} {zs : List Int} (k : Nat) (f : FuncId) (caps : Array Value) (hin : ∀ args W, (callFunc f args).run Try.prog W = .ok (.enter f args) W) (h : Rd w b B 0 zs) (hs : k ≤ zs.length) (Post : Value → World → Prop)
    (hf : ∀ w1 A c, Rd w1 b B 0 (zs.drop k) → w.grownBy w1 (some b) → Bs w1 B.hi A k (zs.take k) → k ≤ c → c ≤ maxLen → Calls Try.prog f (#[.slice A k c] ++ caps) w1 (Makes w1 true Post)) :
    Calls Try.prog 84 #[.pointer (some ⟨b, 0, none⟩), .int .i64 k, .func (.func f) #[] caps] w (fun e w' => ∃ x, Takes w b B 0 (zs.drop k) x e w' ∧ Post x w') := by
  have HE := Lib.hid (err_any h)
  have HL := Lib.hid (left_any h)
  obtain ⟨A, n, c, h2, hz, hnc, hcm, hn5⟩ := h.rest
  rw [hz.len] at HL hs
  have h1 := h.errno
  have g1 := h.f1
  have g2 := h.f2
  have C1 := cut_h A n c k k rfl (by omega)
  obtain ⟨A2, C2, hA2⟩ := cut_l A n c k k rfl hs hnc
  have HT := Lib.hid (h.taken (c' := c - k) h2 hs hA2 (by omega) (by omega))
  have HF := Lib.hid hf
  clear h hz hf
  have hle : (k : Int) ≤ (n : Int) := by omega
  go_enter Try.func84, Try.ntmps84
  go_wp2_with (first | (go_at_call 69; refine HE.out.mono ?_; rintro e w' ⟨rfl, rfl⟩) | (go_at_call 72; refine HL.out.mono ?_; rintro e w' ⟨rfl, rfl⟩))
  have C := Lib.hid (HF.out _ A c HT.out.1 (grown_cell w ⟨b, 2, none⟩ _) HT.out.2 (by omega) hcm)
  clear HF
  refine C.out.mono ?_
  rintro e w2 ⟨x, rfl, hg, hp⟩
  have r2 := HT.out.1.grown hg (fun k hk => by cases hk)
  have gg : Hid (w.grownBy w2 (some b)) := Lib.hid (grown_trans (grown_cell w ⟨b, 2, none⟩ _) (grown_more hg))
  go_wp2
  go_ret
  exact ⟨x, ⟨rfl, r2, gg.out⟩, hp⟩
theorem take_b_none (p F : Value) (why size : Int) (hw : why ≠ 0) (w : World) (h : Calls Try.prog 69 #[p] w (Says (.int .i64 why) w)) :
    Calls Try.prog 88 #[p, .int .i64 size, F] w (Says (.bool false) w) := by
  have HE := Lib.hid h
  have hw2 : (why == 0) = false := by simpa using hw
  clear h
  go_enter Try.func88, Try.ntmps88
  go_wp2_with (go_at_call 69; refine HE.out.mono ?_; rintro e w' ⟨rfl, rfl⟩)
  go_ret
  exact ⟨rfl, rfl⟩
theorem take_b_short {w : World} {b : Nat} {B : Span} {zs : List Int} (F : Value) (size : Int) (h : Rd w b B 0 zs) (hs : (zs.length : Int) < size) :
    Calls Try.prog 88 #[.pointer (some ⟨b, 0, none⟩), .int .i64 size, F] w (Takes w b B 40 [] (.bool false)) := by
  have HE := Lib.hid (err_any h)
  have HL := Lib.hid (left_any h)
  have HS := Lib.hid (h.spoilt 40 (by omega))
  obtain ⟨A, n, c, h2, _⟩ := h.rest
  have h1 := h.errno
  have g1 := h.f1
  have g2 := h.f2
  obtain ⟨m, hm⟩ : ∃ m, zs.length = m := ⟨_, rfl⟩
  rw [hm] at HL hs
  clear h hm
  have hlt : ¬ size ≤ (m : Int) := by omega
  go_enter Try.func88, Try.ntmps88
  go_wp2_with (first | (go_at_call 69; refine HE.out.mono ?_; rintro e w' ⟨rfl, rfl⟩) | (go_at_call 72; refine HL.out.mono ?_; rintro e w' ⟨rfl, rfl⟩))
  go_ret
  exact ⟨rfl, HS.out, grown_trans (grown_cell _ ⟨b, 1, none⟩ _) (grown_cell _ ⟨b, 2, none⟩ _)⟩
set_option maxHeartbeats 1000000 in
theorem take_b_no {w : World} {b : Nat} {B : Span} {zs : List Int} (k : Nat) (f : FuncId) (caps : Array Value) (hin : ∀ args W, (callFunc f args).run Try.prog W = .ok (.enter f args) W) (h : Rd w b B 0 zs) (hs : k ≤ zs.length) (Post : Value → World → Prop)
    (hf : ∀ w1 A c, Rd w1 b B 0 (zs.drop k) → w.grownBy w1 (some b) → Bs w1 B.hi A k (zs.take k) → k ≤ c → c ≤ maxLen → Calls Try.prog f (#[.slice A k c] ++ caps) w1 (Makes w1 false Post)) :
    Calls Try.prog 88 #[.pointer (some ⟨b, 0, none⟩), .int .i64 k, .func (.func f) #[] caps] w (Takes w b B 40 [] (.bool false)) := by
  have HE := Lib.hid (err_any h)
  have HL := Lib.hid (left_any h)
  obtain ⟨A, n, c, h2, hz, hnc, hcm, hn5⟩ := h.rest
  rw [hz.len] at HL hs
  have h1 := h.errno
  have g1 := h.f1
  have g2 := h.f2
  have C1 := cut_h A n c k k rfl (by omega)
  obtain ⟨A2, C2, hA2⟩ := cut_l A n c k k rfl hs hnc
  have HT := Lib.hid (h.taken (c' := c - k) h2 hs hA2 (by omega) (by omega))
  have HF := Lib.hid hf
  clear h hz hf
  have hle : (k : Int) ≤ (n : Int) := by omega
  go_enter Try.func88, Try.ntmps88
  go_wp2_with (first | (go_at_call 69; refine HE.out.mono ?_; rintro e w' ⟨rfl, rfl⟩) | (go_at_call 72; refine HL.out.mono ?_; rintro e w' ⟨rfl, rfl⟩))
  have C := Lib.hid (HF.out _ A c HT.out.1 (grown_cell w ⟨b, 2, none⟩ _) HT.out.2 (by omega) hcm)
  clear HF
  refine C.out.mono ?_
  rintro e w2 ⟨x, rfl, hg, hp⟩
  have r2 := HT.out.1.grown hg (fun k hk => by cases hk)
  have HS := Lib.hid (r2.spoilt 40 (by omega))
  have gg : Hid (w.grownBy w2 (some b)) := Lib.hid (grown_trans (grown_cell w ⟨b, 2, none⟩ _) (grown_more hg))
  obtain ⟨A3, n3, c3, h5, _⟩ := r2.rest
  have h4 := r2.errno
  have g3 := r2.f1
  have g4 := r2.f2
  clear C HT r2 hg h1 h2 g1 g2 hp
  go_wp2
  go_ret
  exact ⟨rfl, HS.out, grown_trans gg.out (grown_trans (grown_cell _ ⟨b, 1, none⟩ _) (grown_cell _ ⟨b, 2, none⟩ _))⟩
set_option maxHeartbeats 1000000 in
theorem take_b_ok {w : World} {b : Nat} {B : Span} {zs : List Int} (k : Nat) (f : FuncId) (caps : Array Value) (hin : ∀ args W, (callFunc f args).run Try.prog W = .ok (.enter f args) W) (h : Rd w b B 0 zs) (hs : k ≤ zs.length) (Post : Value → World → Prop)
    (hf : ∀ w1 A c, Rd w1 b B 0 (zs.drop k) → w.grownBy w1 (some b) → Bs w1 B.hi A k (zs.take k) → k ≤ c → c ≤ maxLen → Calls Try.prog f (#[.slice A k c] ++ caps) w1 (Makes w1 true Post)) :
    Calls Try.prog 88 #[.pointer (some ⟨b, 0, none⟩), .int .i64 k, .func (.func f) #[] caps] w (fun e w' => ∃ x, Takes w b B 0 (zs.drop k) x e w' ∧ Post x w') := by
  have HE := Lib.hid (err_any h)
  have HL := Lib.hid (left_any h)
  obtain ⟨A, n, c, h2, hz, hnc, hcm, hn5⟩ := h.rest
  rw [hz.len] at HL hs
  have h1 := h.errno
  have g1 := h.f1
  have g2 := h.f2
  have C1 := cut_h A n c k k rfl (by omega)
  obtain ⟨A2, C2, hA2⟩ := cut_l A n c k k rfl hs hnc
  have HT := Lib.hid (h.taken (c' := c - k) h2 hs hA2 (by omega) (by omega))
  have HF := Lib.hid hf
  clear h hz hf
  have hle : (k : Int) ≤ (n : Int) := by omega
  go_enter Try.func88, Try.ntmps88
  go_wp2_with (first | (go_at_call 69; refine HE.out.mono ?_; rintro e w' ⟨rfl, rfl⟩) | (go_at_call 72; refine HL.out.mono ?_; rintro e w' ⟨rfl, rfl⟩))
  have C := Lib.hid (HF.out _ A c HT.out.1 (grown_cell w ⟨b, 2, none⟩ _) HT.out.2 (by omega) hcm)
  clear HF
  refine C.out.mono ?_
  rintro e w2 ⟨x, rfl, hg, hp⟩
  have r2 := HT.out.1.grown hg (fun k hk => by cases hk)
  have gg : Hid (w.grownBy w2 (some b)) := Lib.hid (grown_trans (grown_cell w ⟨b, 2, none⟩ _) (grown_more hg))
  go_wp2
  go_ret
  exact ⟨x, ⟨rfl, r2, gg.out⟩, hp⟩
theorem take_l_none (p F : Value) (why size : Int) (hw : why ≠ 0) (w : World) (h : Calls Try.prog 69 #[p] w (Says (.int .i64 why) w)) :
    Calls Try.prog 112 #[p, .int .i64 size, F] w (Says (.slice none 0 0) w) := by
  have HE := Lib.hid h
  have hw2 : (why == 0) = false := by simpa using hw
  clear h
  go_enter Try.func112, Try.ntmps112
  go_wp2_with (go_at_call 69; refine HE.out.mono ?_; rintro e w' ⟨rfl, rfl⟩)
  go_ret
  exact ⟨rfl, rfl⟩
theorem take_l_short {w : World} {b : Nat} {B : Span} {zs : List Int} (F : Value) (size : Int) (h : Rd w b B 0 zs) (hs : (zs.length : Int) < size) :
    Calls Try.prog 112 #[.pointer (some ⟨b, 0, none⟩), .int .i64 size, F] w (Takes w b B 40 [] (.slice none 0 0)) := by
  have HE := Lib.hid (err_any h)
  have HL := Lib.hid (left_any h)
  have HS := Lib.hid (h.spoilt 40 (by omega))
  obtain ⟨A, n, c, h2, _⟩ := h.rest
  have h1 := h.errno
  have g1 := h.f1
  have g2 := h.f2
  obtain ⟨m, hm⟩ : ∃ m, zs.length = m := ⟨_, rfl⟩
  rw [hm] at HL hs
  clear h hm
  have hlt : ¬ size ≤ (m : Int) := by omega
  go_enter Try.func112, Try.ntmps112
  go_wp2_with (first | (go_at_call 69; refine HE.out.mono ?_; rintro e w' ⟨rfl, rfl⟩) | (go_at_call 72; refine HL.out.mono ?_; rintro e w' ⟨rfl, rfl⟩))
  go_ret
  exact ⟨rfl, HS.out, grown_trans (grown_cell _ ⟨b, 1, none⟩ _) (grown_cell _ ⟨b, 2, none⟩ _)⟩
set_option maxHeartbeats 1000000 in
theorem take_l_no {w : World} {b : Nat} {B : Span} {zs : List Int} (k : Nat) (f : FuncId) (caps : Array Value) (hin : ∀ args W, (callFunc f args).run Try.prog W = .ok (.enter f args) W) (h : Rd w b B 0 zs) (hs : k ≤ zs.length) (Post : Value → World → Prop)
    (hf : ∀ w1 A c, Rd w1 b B 0 (zs.drop k) → w.grownBy w1 (some b) → Bs w1 B.hi A k (zs.take k) → k ≤ c → c ≤ maxLen → Calls Try.prog f (#[.slice A k c] ++ caps) w1 (Makes w1 false Post)) :
    Calls Try.prog 112 #[.pointer (some ⟨b, 0, none⟩), .int .i64 k, .func (.func f) #[] caps] w (Takes w b B 40 [] (.slice none 0 0)) := by
  have HE := Lib.hid (err_any h)
  have HL := Lib.hid (left_any h)
  obtain ⟨A, n, c, h2, hz, hnc, hcm, hn5⟩ := h.rest
  rw [hz.len] at HL hs
  have h1 := h.errno
  have g1 := h.f1
  have g2 := h.f2
  have C1 := cut_h A n c k k rfl (by omega)
  obtain ⟨A2, C2, hA2⟩ := cut_l A n c k k rfl hs hnc
  have HT := Lib.hid (h.taken (c' := c - k) h2 hs hA2 (by omega) (by omega))
  have HF := Lib.hid hf
  clear h hz hf
  have hle : (k : Int) ≤ (n : Int) := by omega
  go_enter Try.func112, Try.ntmps112
  go_wp2_with (first | (go_at_call 69; refine HE.out.mono ?_; rintro e w' ⟨rfl, rfl⟩) | (go_at_call 72; refine HL.out.mono ?_; rintro e w' ⟨rfl, rfl⟩))
  have C := Lib.hid (HF.out _ A c HT.out.1 (grown_cell w ⟨b, 2, none⟩ _) HT.out.2 (by omega) hcm)
  clear HF
  refine C.out.mono ?_
  rintro e w2 ⟨x, rfl, hg, hp⟩
  have r2 := HT.out.1.grown hg (fun k hk => by cases hk)
  have HS := Lib.hid (r2.spoilt 40 (by omega))
  have gg : Hid (w.grownBy w2 (some b)) := Lib.hid (grown_trans (grown_cell w ⟨b, 2, none⟩ _) (grown_more hg))
  obtain ⟨A3, n3, c3, h5, _⟩ := r2.rest
  have h4 := r2.errno
  have g3 := r2.f1
  have g4 := r2.f2
  clear C HT r2 hg h1 h2 g1 g2 hp
  go_wp2
  go_ret
  exact ⟨rfl, HS.out, grown_trans gg.out (grown_trans (grown_cell _ ⟨b, 1, none⟩ _) (grown_cell _ ⟨b, 2, none⟩ _))⟩
set_option maxHeartbeats 1000000 in
theorem take_l_ok {w : World} {b : Nat} {B : Span} {zs : List Int} (k : Nat) (f : FuncId) (caps : Array Value) (hin : ∀ args W, (callFunc f args).run Try.prog W = .ok (.enter f args) W) (h : Rd w b B 0 zs) (hs : k ≤ zs.length) (Post : Value → World → Prop)
    (hf : ∀ w1 A c, Rd w1 b B 0 (zs.drop k) → w.grownBy w1 (some b) → Bs w1 B.hi A k (zs.take k) → k ≤ c → c ≤ maxLen → Calls Try.prog f (#[.slice A k c] ++ caps) w1 (Makes w1 true Post)) :
    Calls Try.prog 112 #[.pointer (some ⟨b, 0, none⟩), .int .i64 k, .func (.func f) #[] caps] w (fun e w' => ∃ x, Takes w b B 0 (zs.drop k) x e w' ∧ Post x w') := by
  have HE := Lib.hid (err_any h)
  have HL := Lib.hid (left_any h)
  obtain ⟨A, n, c, h2, hz, hnc, hcm, hn5⟩ := h.rest
  rw [hz.len] at HL hs
  have h1 := h.errno
  have g1 := h.f1
  have g2 := h.f2
  have C1 := cut_h A n c k k rfl (by omega)
  obtain ⟨A2, C2, hA2⟩ := cut_l A n c k k rfl hs hnc
  have HT := Lib.hid (h.taken (c' := c - k) h2 hs hA2 (by omega) (by omega))
  have HF := Lib.hid hf
  clear h hz hf
  have hle : (k : Int) ≤ (n : Int) := by omega
  go_enter Try.func112, Try.ntmps112
  go_wp2_with (first | (go_at_call 69; refine HE.out.mono ?_; rintro e w' ⟨rfl, rfl⟩) | (go_at_call 72; refine HL.out.mono ?_; rintro e w' ⟨rfl, rfl⟩))
  have C := Lib.hid (HF.out _ A c HT.out.1 (grown_cell w ⟨b, 2, none⟩ _) HT.out.2 (by omega) hcm)
  clear HF
  refine C.out.mono ?_
  rintro e w2 ⟨x, rfl, hg, hp⟩
  have r2 := HT.out.1.grown hg (fun k hk => by cases hk)
  have gg : Hid (w.grownBy w2 (some b)) := Lib.hid (grown_trans (grown_cell w ⟨b, 2, none⟩ _) (grown_more hg))
  go_wp2
  go_ret
  exact ⟨x, ⟨rfl, r2, gg.out⟩, hp⟩
theorem in_any (f : FuncId) (h : (Try.prog.funcs[f]?.map fun fn => (fn.name == "runtime.NumGoroutine", fn.body.isSome)) = some (false, true)) (args : Array Value) (W : World) : (callFunc f args).run Try.prog W = .ok (.enter f args) W := by
  cases hf : Try.prog.funcs[f]? with
  | none => rw [hf] at h; cases h
  | some fn =>
    rw [hf] at h
    simp only [Option.map_some, Option.some.injEq, Prod.mk.injEq] at h
    obtain ⟨h1, h2⟩ := h
    obtain ⟨c, hc⟩ := Option.isSome_iff_exists.1 h2
    have h3 : fn.name ≠ "runtime.NumGoroutine" := by simpa using h1
    simp [callFunc, hf, hc, h3]
theorem in_byte : ∀ args W, (callFunc 80 args).run Try.prog W = .ok (.enter 80 args) W := in_any _ (by kernel_rfl)
end Go.Proofs.Ytfihiandifnkpaa
/- What a reader's calls tell: a field of one cell. -/
namespace Go.Proofs.Ytfihiandifnkpaa
open Go.ChangeShapes Go.WideShapes Go.ChangeAt Go.RowKit
set_option linter.unusedVariables false
open Plain
/-- The next k bytes are read: what is told, why the reader is bad behind it, what is left. -/
def tk {α : Type} (k : Nat) (okf : List Int → List Int → Bool) (val : List Int → α) (nv : α) (s : Int × List Int) : α × Int × List Int :=
  if s.1 = 0 ∧ k ≤ s.2.length ∧ okf (s.2.take k) (s.2.drop k) = true then (val (s.2.take k), 0, s.2.drop k) else (nv, if s.1 = 0 then 40 else s.1, [])
theorem tk_bad {α : Type} (k : Nat) (okf : List Int → List Int → Bool) (val : List Int → α) (nv : α) (why : Int) (zs : List Int) (h : why ≠ 0) : tk k okf val nv (why, zs) = (nv, why, []) := by
  unfold tk; rw [if_neg (by rintro ⟨h1, _⟩; exact h h1)]; simp only; rw [if_neg h]
theorem tk_short {α : Type} (k : Nat) (okf : List Int → List Int → Bool) (val : List Int → α) (nv : α) (zs : List Int) (h : zs.length < k) : tk k okf val nv (0, zs) = (nv, 40, []) := by
  unfold tk; rw [if_neg (by rintro ⟨_, h1, _⟩; simp only at h1; omega)]; rfl
theorem tk_no {α : Type} (k : Nat) (okf : List Int → List Int → Bool) (val : List Int → α) (nv : α) (zs : List Int) (h : okf (zs.take k) (zs.drop k) = false) : tk k okf val nv (0, zs) = (nv, 40, []) := by
  unfold tk; rw [if_neg (by rintro ⟨_, _, h1⟩; simp only at h1; rw [h] at h1; cases h1)]; rfl
theorem tk_ok {α : Type} (k : Nat) (okf : List Int → List Int → Bool) (val : List Int → α) (nv : α) (zs : List Int) (hk : k ≤ zs.length) (h : okf (zs.take k) (zs.drop k) = true) : tk k okf val nv (0, zs) = (val (zs.take k), 0, zs.drop k) := by
  unfold tk; rw [if_pos ⟨rfl, hk, h⟩]
/-- A reader's call whose answer is a value. -/
def Reads (w : World) (b : Nat) (B : Span) (v : Value) (s : Int × List Int) (e : Ending) (w' : World) : Prop := e = .returned v ∧ Rd w' b B s.1 s.2 ∧ w.grownBy w' (some b)
theorem take_u8_any {α : Type} (mk : α → Value) (nv : α) (hn : mk nv = .int .u8 0) {w : World} {b : Nat} {B : Span} {why : Int} {zs : List Int} (k : Nat) (okf : List Int → List Int → Bool) (val : List Int → α) (f : FuncId) (caps : Array Value) (hin : ∀ args W, (callFunc f args).run Try.prog W = .ok (.enter f args) W)
    (h : Rd w b B why zs)
    (hf : why = 0 → k ≤ zs.length → ∀ w1 A c, Rd w1 b B 0 (zs.drop k) → w.grownBy w1 (some b) → Bs w1 B.hi A k (zs.take k) → k ≤ c → c ≤ maxLen → Calls Try.prog f (#[.slice A k c] ++ caps) w1 (Makes w1 (okf (zs.take k) (zs.drop k)) (fun x _ => x = mk (val (zs.take k))))) :
    Calls Try.prog 79 #[.pointer (some ⟨b, 0, none⟩), .int .i64 k, .func (.func f) #[] caps] w (Reads w b B (mk (tk k okf val nv (why, zs)).1) (tk k okf val nv (why, zs)).2) := by
  by_cases hw : why = 0
  · subst hw
    by_cases hk : k ≤ zs.length
    · cases hok : okf (zs.take k) (zs.drop k)
      · rw [tk_no _ _ _ _ _ hok]
        rw [hok] at hf
        refine (take_u8_no k f caps hin h hk _ (hf rfl hk)).mono ?_
        rintro e w' ⟨rfl, r, g⟩
        exact ⟨by rw [hn], r, g⟩
      · rw [tk_ok _ _ _ _ _ hk hok]
        rw [hok] at hf
        refine (take_u8_ok k f caps hin h hk _ (hf rfl hk)).mono ?_
        rintro e w' ⟨x, ⟨rfl, r, g⟩, rfl⟩
        exact ⟨rfl, r, g⟩
    · rw [tk_short _ _ _ _ _ (by omega)]
      refine (take_u8_short _ _ h (by omega)).mono ?_
      rintro e w' ⟨rfl, r, g⟩
      exact ⟨by rw [hn], r, g⟩
  · rw [tk_bad _ _ _ _ _ _ hw]
    refine (take_u8_none _ _ why _ hw w (err_any h)).mono ?_
    rintro e w' ⟨rfl, rfl⟩
    refine ⟨by rw [hn], ?_, grown_refl _ _⟩
    have := h.bad hw
    subst this
    exact h
theorem take_i_any {α : Type} (mk : α → Value) (nv : α) (hn : mk nv = .int .i64 0) {w : World} {b : Nat} {B : Span} {why : Int} {zs : List Int} (k : Nat) (okf : List Int → List Int → Bool) (val : List Int → α) (f : FuncId) (caps : Array Value) (hin : ∀ args W, (callFunc f args).run Try.prog W = .ok (.enter f args) W)
    (h : Rd w b B why zs)
    (hf : why = 0 → k ≤ zs.length → ∀ w1 A c, Rd w1 b B 0 (zs.drop k) → w.grownBy w1 (some b) → Bs w1 B.hi A k (zs.take k) → k ≤ c → c ≤ maxLen → Calls Try.prog f (#[.slice A k c] ++ caps) w1 (Makes w1 (okf (zs.take k) (zs.drop k)) (fun x _ => x = mk (val (zs.take k))))) :
    Calls Try.prog 84 #[.pointer (some ⟨b, 0, none⟩), .int .i64 k, .func (.func f) #[] caps] w (Reads w b B (mk (tk k okf val nv (why, zs)).1) (tk k okf val nv (why, zs)).2) := by
  by_cases hw : why = 0
  · subst hw
    by_cases hk : k ≤ zs.length
    · cases hok : okf (zs.take k) (zs.drop k)
      · rw [tk_no _ _ _ _ _ hok]
        rw [hok] at hf
        refine (take_i_no k f caps hin h hk _ (hf rfl hk)).mono ?_
        rintro e w' ⟨rfl, r, g⟩
        exact ⟨by rw [hn], r, g⟩
      · rw [tk_ok _ _ _ _ _ hk hok]
        rw [hok] at hf
        refine (take_i_ok k f caps hin h hk _ (hf rfl hk)).mono ?_
        rintro e w' ⟨x, ⟨rfl, r, g⟩, rfl⟩
        exact ⟨rfl, r, g⟩
    · rw [tk_short _ _ _ _ _ (by omega)]
      refine (take_i_short _ _ h (by omega)).mono ?_
      rintro e w' ⟨rfl, r, g⟩
      exact ⟨by rw [hn], r, g⟩
  · rw [tk_bad _ _ _ _ _ _ hw]
    refine (take_i_none _ _ why _ hw w (err_any h)).mono ?_
    rintro e w' ⟨rfl, rfl⟩
    refine ⟨by rw [hn], ?_, grown_refl _ _⟩
    have := h.bad hw
    subst this
    exact h
theorem take_b_any {α : Type} (mk : α → Value) (nv : α) (hn : mk nv = .bool false) {w : World} {b : Nat} {B : Span} {why : Int} {zs : List Int} (k : Nat) (okf : List Int → List Int → Bool) (val : List Int → α) (f : FuncId) (caps : Array Value) (hin : ∀ args W, (callFunc f args).run Try.prog W = .ok (.enter f args) W)
    (h : Rd w b B why zs)
    (hf : why = 0 → k ≤ zs.length → ∀ w1 A c, Rd w1 b B 0 (zs.drop k) → w.grownBy w1 (some b) → Bs w1 B.hi A k (zs.take k) → k ≤ c → c ≤ maxLen → Calls Try.prog f (#[.slice A k c] ++ caps) w1 (Makes w1 (okf (zs.take k) (zs.drop k)) (fun x _ => x = mk (val (zs.take k))))) :
    Calls Try.prog 88 #[.pointer (some ⟨b, 0, none⟩), .int .i64 k, .func (.func f) #[] caps] w (Reads w b B (mk (tk k okf val nv (why, zs)).1) (tk k okf val nv (why, zs)).2) := by
  by_cases hw : why = 0
  · subst hw
    by_cases hk : k ≤ zs.length
    · cases hok : okf (zs.take k) (zs.drop k)
      · rw [tk_no _ _ _ _ _ hok]
        rw [hok] at hf
        refine (take_b_no k f caps hin h hk _ (hf rfl hk)).mono ?_
        rintro e w' ⟨rfl, r, g⟩
        exact ⟨by rw [hn], r, g⟩
      · rw [tk_ok _ _ _ _ _ hk hok]
        rw [hok] at hf
        refine (take_b_ok k f caps hin h hk _ (hf rfl hk)).mono ?_
        rintro e w' ⟨x, ⟨rfl, r, g⟩, rfl⟩
        exact ⟨rfl, r, g⟩
    · rw [tk_short _ _ _ _ _ (by omega)]
      refine (take_b_short _ _ h (by omega)).mono ?_
      rintro e w' ⟨rfl, r, g⟩
      exact ⟨by rw [hn], r, g⟩
  · rw [tk_bad _ _ _ _ _ _ hw]
    refine (take_b_none _ _ why _ hw w (err_any h)).mono ?_
    rintro e w' ⟨rfl, rfl⟩
    refine ⟨by rw [hn], ?_, grown_refl _ _⟩
    have := h.bad hw
    subst this
    exact h
/-- Each reading, of why a reader is bad and what is left of it. -/
def yes2 (_ _ : List Int) : Bool := true
def intZ (b : List Int) : Int := wrap64 (numZ b)
def rByte := tk 1 yes2 (fun b => b.getD 0 0) 0
def rInt := tk 8 yes2 intZ 0
def rFlag := tk 1 (fun b _ => decide (b.getD 0 0 ≤ 1)) (fun b => b.getD 0 0 == 1) false
def rLen := tk 4 (fun b _ => decide (numZ b ≤ 65536)) numZ 0
def rCount (most : Int) := tk 8 (fun b r => decide (0 ≤ intZ b ∧ intZ b ≤ most ∧ intZ b ≤ (r.length : Nat))) intZ 0
def rBytes (s : Int × List Int) : List Int × Int × List Int := tk (rLen s).1.toNat yes2 id [] (rLen s).2
def rTag := tk 32 yes2 id (List.replicate 32 0)
theorem getD_take (zs : List Int) (k j : Nat) (h : j < k) : (zs.take k).getD j 0 = zs.getD j 0 := by
  simp [List.getD_eq_getElem?_getD, h]
theorem byte_mk {w : World} {B c : Nat} {A : Option Addr} {zs : List Int} (h : Bs w B A 1 zs) : Calls Try.prog 80 #[.slice A 1 c] w (Makes w true (fun x _ => x = .int .u8 (zs.getD 0 0))) := by
  obtain ⟨b, off, u, rfl, _, hu, _, _, hc⟩ := h.at_ (k := 0) (by omega)
  have HU := hu
  clear hu h
  rw [Nat.add_zero] at hc
  go_enter Try.func80, Try.ntmps80
  go_wp2
  go_ret2
  exact ⟨_, rfl, grown_refl _ _, by show _ = _; rw [HU.out]; rfl⟩
theorem byte_rd {w : World} {b : Nat} {B : Span} {why : Int} {zs : List Int} (h : Rd w b B why zs) : Calls Try.prog 56 #[.pointer (some ⟨b, 0, none⟩)] w (Reads w b B (.int .u8 (rByte (why, zs)).1) (rByte (why, zs)).2) := by
  have HC := Lib.hid (take_u8_any (Value.int .u8) 0 rfl 1 yes2 (fun b => b.getD 0 0) 80 #[] (in_any _ (by kernel_rfl)) h (fun _ _ w1 A c _ _ hb _ _ => byte_mk hb))
  clear h
  go_enter Try.func56, Try.ntmps56
  go_wp2_with (go_at_call 79; refine HC.out.mono ?_; rintro e w' ⟨rfl, r, g⟩)
  go_ret
  exact ⟨rfl, r, g⟩
theorem flag_mk {w : World} {B c : Nat} {A : Option Addr} {zs : List Int} (h : Bs w B A 1 zs) : Calls Try.prog 89 #[.slice A 1 c] w (Makes w (decide (zs.getD 0 0 ≤ 1)) (fun x _ => x = .bool (zs.getD 0 0 == 1))) := by
  obtain ⟨b, off, u, rfl, _, hu, _, _, hc⟩ := h.at_ (k := 0) (by omega)
  rw [hu.out]
  clear hu h
  rw [Nat.add_zero] at hc
  go_enter Try.func89, Try.ntmps89
  go_wp2
  go_quiet (fail)
  go_wp2
  go_ret2
  exact ⟨_, rfl, grown_drewN _ _ _, rfl⟩
theorem flag_rd {w : World} {b : Nat} {B : Span} {why : Int} {zs : List Int} (h : Rd w b B why zs) : Calls Try.prog 71 #[.pointer (some ⟨b, 0, none⟩)] w (Reads w b B (.bool (rFlag (why, zs)).1) (rFlag (why, zs)).2) := by
  have HC := Lib.hid (take_b_any Value.bool false rfl 1 (fun b _ => decide (b.getD 0 0 ≤ 1)) (fun b => b.getD 0 0 == 1) 89 #[] (in_any _ (by kernel_rfl)) h (fun _ _ w1 A c _ _ hb _ _ => flag_mk hb))
  clear h
  go_enter Try.func71, Try.ntmps71
  go_wp2_with (go_at_call 88; refine HC.out.mono ?_; rintro e w' ⟨rfl, r, g⟩)
  go_ret
  exact ⟨rfl, r, g⟩
theorem number_any {w : World} {B c : Nat} {A : Option Addr} {zs : List Int} (h : Bs w B A 8 zs) : Calls Try.prog 86 #[.slice A 8 c] w (fun e w' => e = .returned (.int .i64 (intZ zs)) ∧ ∃ m, w' = w.drewN m) := by
  have HC := Lib.hid (load64_any c h (by simp [maxLen]) 0 (by omega))
  have e1 : loadZ zs 0 8 = numZ zs := by
    have := loadZ_yes zs 0 8 (by rw [h.len]; omega)
    rw [List.drop_zero, List.take_of_length_le (by rw [h.len]; omega)] at this
    exact this
  rw [e1] at HC
  have HI : Hid (intZ zs = wrap64 (numZ zs)) := Lib.hid rfl
  generalize numZ zs = u at *
  generalize loadOk 8 0 8 = ok at *
  clear h e1
  go_enter Try.func86, Try.ntmps86
  go_wp2_with (go_at_call 115; refine HC.out.mono ?_; rintro e w' ⟨rfl, m, rfl⟩)
  go_ret
  exact ⟨by rw [HI.out]; rfl, m, rfl⟩
theorem int_mk {w : World} {B c : Nat} {A : Option Addr} {zs : List Int} (h : Bs w B A 8 zs) : Calls Try.prog 85 #[.slice A 8 c] w (Makes w true (fun x _ => x = .int .i64 (intZ zs))) := by
  have HC := Lib.hid (number_any (c := c) h)
  clear h
  go_enter Try.func85, Try.ntmps85
  go_wp2_with (go_at_call 86; refine HC.out.mono ?_; rintro e w' ⟨rfl, m, rfl⟩)
  go_ret2
  exact ⟨_, rfl, grown_drewN _ _ _, rfl⟩
theorem int_rd {w : World} {b : Nat} {B : Span} {why : Int} {zs : List Int} (h : Rd w b B why zs) : Calls Try.prog 68 #[.pointer (some ⟨b, 0, none⟩)] w (Reads w b B (.int .i64 (rInt (why, zs)).1) (rInt (why, zs)).2) := by
  have HC := Lib.hid (take_i_any (Value.int .i64) 0 rfl 8 yes2 intZ 85 #[] (in_any _ (by kernel_rfl)) h (fun _ _ w1 A c _ _ hb _ _ => int_mk hb))
  clear h
  go_enter Try.func68, Try.ntmps68
  go_wp2_with (go_at_call 84; refine HC.out.mono ?_; rintro e w' ⟨rfl, r, g⟩)
  go_ret
  exact ⟨rfl, r, g⟩
theorem len_mk {w : World} {B c : Nat} {A : Option Addr} {zs : List Int} (h : Bs w B A 4 zs) : Calls Try.prog 118 #[.slice A 4 c] w (Makes w (decide (numZ zs ≤ 65536)) (fun x _ => x = .int .i64 (numZ zs))) := by
  have HC := Lib.hid (load32_any c h (by simp [maxLen]) 0 (by omega))
  have hr := loadZ_range zs 0 4 h.rng'
  have e1 : loadZ zs 0 4 = numZ zs := by
    have := loadZ_yes zs 0 4 (by rw [h.len]; omega)
    rw [List.drop_zero, List.take_of_length_le (by rw [h.len]; omega)] at this
    exact this
  rw [e1] at HC hr
  generalize numZ zs = u at *
  generalize loadOk 4 0 4 = ok at *
  have h0 : 0 ≤ u := hr.1
  have h4 : u < 4294967296 := by omega
  clear h e1 hr
  go_enter Try.func118, Try.ntmps118
  go_wp2_with (go_at_call 119; refine HC.out.mono ?_; rintro e w' ⟨rfl, m, rfl⟩)
  go_ret2
  exact ⟨_, rfl, grown_drewN _ _ _, rfl⟩
theorem len_rd {w : World} {b : Nat} {B : Span} {why : Int} {zs : List Int} (h : Rd w b B why zs) : Calls Try.prog 113 #[.pointer (some ⟨b, 0, none⟩)] w (Reads w b B (.int .i64 (rLen (why, zs)).1) (rLen (why, zs)).2) := by
  have HC := Lib.hid (take_i_any (Value.int .i64) 0 rfl 4 (fun b _ => decide (numZ b ≤ 65536)) numZ 118 #[] (in_any _ (by kernel_rfl)) h (fun _ _ w1 A c _ _ hb _ _ => len_mk hb))
  clear h
  go_enter Try.func113, Try.ntmps113
  go_wp2_with (go_at_call 84; refine HC.out.mono ?_; rintro e w' ⟨rfl, r, g⟩)
  go_ret
  exact ⟨rfl, r, g⟩
theorem run_str {w : World} {B n : Nat} {A : Option Addr} (c : Nat) {zs : List Int} (h : Bs w B A n zs) : (convert 22 9 (.slice A n c)).run Try.prog w = .ok (.string (strOfNums zs)) w := by
  cases A with
  | none =>
    have hn : n = 0 := h.lies.2 rfl
    subst hn
    have hz : zs = [] := List.eq_nil_of_length_eq_zero h.len
    subst hz
    exact run_convert_bytes_nil w _ 5 Try.underlying22 Try.underlying5 _ _ _ Try.underlying9
  | some a =>
    rcases Nat.eq_zero_or_pos n with h0 | h0
    · subst h0
      have hz : zs = [] := List.eq_nil_of_length_eq_zero h.len
      subst hz
      rw [run_convert_bytes_string w _ _ 5 _ _ _ Try.underlying22 Try.underlying5 Try.underlying9, run_bytesToString w a 0 c [] (by simp [loadCells, loadCellsFrom])]
      rfl
    · obtain ⟨b, off, e, _, hc⟩ := h.row h0
      rw [e]
      exact run_convert_bytes_arg w _ 5 Try.underlying22 Try.underlying5 b off n c zs h.len hc _ Try.underlying9
theorem rLen_nonneg {w : World} {b : Nat} {B : Span} {why : Int} {zs : List Int} (h : Rd w b B why zs) : 0 ≤ (rLen (why, zs)).1 := by
  obtain ⟨A, n, c, _, hz, _⟩ := h.rest
  unfold rLen tk
  split
  · have := loadZ_range zs 0 4 hz.rng'
    rw [show (0 : Int) = ((0 : Nat) : Int) from rfl, loadZ_yes zs 0 4 (by next hh => have := hh.2.1; simpa using this), List.drop_zero] at this
    exact this.1
  · exact Int.le_refl _
end Go.Proofs.Ytfihiandifnkpaa
/- What a reader's calls tell: bytes, a count; a new reader; one that nobody made. -/
namespace Go.Proofs.Ytfihiandifnkpaa
open Go.ChangeShapes Go.WideShapes Go.ChangeAt Go.RowKit
set_option linter.unusedVariables false
open Plain
/-- A value that is a list of bytes of its own. -/
def IsList (x : Value) (w : World) (base : Nat) (zs : List Int) : Prop := ∃ A c, x = .slice A zs.length c ∧ w.ownsRow base 5 1 x zs.length (vals zs) ∧ zs.length ≤ c ∧ c ≤ maxLen
theorem IsList.made {w w' : World} {zs : List Int} {e : Ending} (h : Made w zs e w') : ∃ x, e = .returned x ∧ IsList x w' w.heap.size zs ∧ Below w.heap.size w w' := by
  obtain ⟨A, c, rfl, ho, hb, h1, h2⟩ := h
  exact ⟨_, rfl, ⟨A, c, rfl, ho, h1, h2⟩, hb⟩
theorem bytes_mk {w : World} {B n c : Nat} {A : Option Addr} {zs : List Int} (h : Bs w B A n zs) (hB : B ≤ w.heap.size) (hn : n ≤ 1000000) : Calls Try.prog 114 #[.slice A n c] w (Makes w true (fun x w' => IsList x w' w.heap.size zs)) := by
  have HC := Lib.hid (cat1_any (w := w) c 22 h hB (by omega) 1 w.heap.size rfl)
  clear h
  go_enter Try.func114, Try.ntmps114
  go_wp2_with (go_at_call 32; refine HC.out.mono ?_; intro e w5 hm; obtain ⟨x, rfl, hx, hb⟩ := IsList.made hm; clear hm)
  go_ret2
  have hb2 : Below w.heap.size w w5 := ((Below.refl _ _).alloc (Nat.le_refl _) _).trans (hb.mono (by simp))
  obtain ⟨D, c5, h1, h2, h3⟩ := hx
  exact ⟨_, rfl, grown_of_below hb2 _, D, c5, h1, own_base h2 (by simp), h3⟩
theorem rBytes_ok (s : Int × List Int) (k : Nat) (s1 : Int) (s2 : List Int) (h : rLen s = ((k : Int), s1, s2)) : rBytes s = tk k yes2 id [] (s1, s2) := by
  unfold rBytes; rw [h]; rfl
theorem bytes_rd {w : World} {b : Nat} {B : Span} {why : Int} {zs : List Int} (h : Rd w b B why zs) : Calls Try.prog 83 #[.pointer (some ⟨b, 0, none⟩)] w (fun e w' => ∃ x, Reads w b B x (rBytes (why, zs)).2 e w' ∧ IsList x w' w.heap.size (rBytes (why, zs)).1) := by
  have HL := Lib.hid (len_rd h)
  have h0 : Hid (0 ≤ (rLen (why, zs)).1) := Lib.hid (rLen_nonneg h)
  have HR : Hid (rBytes (why, zs) = tk (rLen (why, zs)).1.toNat yes2 id [] (rLen (why, zs)).2) := Lib.hid rfl
  have hlt := h.lt
  generalize rLen (why, zs) = s at *
  obtain ⟨x, s1, s2⟩ := s
  obtain ⟨k, rfl⟩ := Int.eq_ofNat_of_zero_le h0.out
  have HC : Hid (∀ w1, Rd w1 b B s1 s2 → Calls Try.prog 112 #[.pointer (some ⟨b, 0, none⟩), .int .i64 k, .func (.func 114) #[] #[]] w1 (fun e w' => ∃ x, Reads w1 b B x (tk k yes2 id [] (s1, s2)).2 e w' ∧ IsList x w' w1.heap.size (tk k yes2 id [] (s1, s2)).1)) := Lib.hid (by
    intro w1 r
    have nil : ∀ W base, IsList (.slice none 0 0) W base [] := fun W base => ⟨none, 0, rfl, World.ownsRow_nil _ _ _ _, Nat.le_refl _, by simp [maxLen]⟩
    by_cases hw : s1 = 0
    · subst hw
      by_cases hk : k ≤ s2.length
      · rw [tk_ok _ _ _ _ _ hk rfl]
        refine (take_l_ok k 114 #[] (in_any _ (by kernel_rfl)) r hk (fun x w' => IsList x w' w1.heap.size (s2.take k)) (fun w2 A c r2 g2 hb _ _ => ?_)).mono ?_
        · have hs := r.small
          have hbB : B.hi ≤ w2.heap.size := by have := r2.le; have := r2.lt; omega
          refine (bytes_mk (c := c) hb hbB (by omega)).mono ?_
          rintro e w' ⟨x, rfl, g, D, c5, h1, h2, h3⟩
          exact ⟨x, rfl, g, D, c5, h1, own_base h2 g2.size, h3⟩
        · rintro e w' ⟨x, ⟨rfl, r, g⟩, hx⟩
          exact ⟨x, ⟨rfl, r, g⟩, hx⟩
      · rw [tk_short _ _ _ _ _ (by omega)]
        refine (take_l_short _ _ r (by omega)).mono ?_
        rintro e w' ⟨rfl, r, g⟩
        exact ⟨_, ⟨rfl, r, g⟩, nil _ _⟩
    · rw [tk_bad _ _ _ _ _ _ hw]
      refine (take_l_none _ _ s1 _ hw w1 (err_any r)).mono ?_
      rintro e w' ⟨rfl, rfl⟩
      have := r.bad hw
      subst this
      exact ⟨_, ⟨rfl, r, grown_refl _ _⟩, nil _ _⟩)
  clear h h0
  go_enter Try.func83, Try.ntmps83
  go_wp2_with (first | (go_at_call 113; refine HL.out.mono ?_; rintro e w1 ⟨rfl, r1, g1⟩) | (go_at_call 112; refine (HC.out _ r1).mono ?_; rintro e w2 ⟨x, ⟨rfl, r2, g2⟩, hx⟩))
  go_ret
  rw [HR.out]
  obtain ⟨D, c5, h1, h2, h3⟩ := hx
  exact ⟨x, ⟨rfl, r2, grown_trans g1 g2⟩, D, c5, h1, own_base h2 g1.size, h3⟩
def okCount (most : Int) (b r : List Int) : Bool := decide (0 ≤ intZ b ∧ intZ b ≤ most ∧ intZ b ≤ (r.length : Nat))
set_option maxHeartbeats 1000000 in
theorem count_mk {w : World} {B1 c bm br b : Nat} {B : Span} {A : Option Addr} {most : Int} {zs rs : List Int} (h : Bs w B1 A 8 zs) (hr : Rd w b B 0 rs) (h1 : w.cell? ⟨bm, 0, none⟩ = some (.int .i64 most)) (h2 : w.cell? ⟨br, 0, none⟩ = some (.pointer (some ⟨b, 0, none⟩))) :
    Calls Try.prog 87 #[.slice A 8 c, .pointer (some ⟨bm, 0, none⟩), .pointer (some ⟨br, 0, none⟩)] w (Makes w (okCount most zs rs) (fun x _ => x = .int .i64 (intZ zs))) := by
  have HC := Lib.hid (number_any (c := c) h)
  have HL := Lib.hid (fun m => left_any (hr.drewN m))
  have HO : Hid (okCount most zs rs = decide (0 ≤ intZ zs ∧ intZ zs ≤ most ∧ intZ zs ≤ (rs.length : Nat))) := Lib.hid rfl
  generalize okCount most zs rs = ok at *
  generalize intZ zs = z at *
  generalize rs.length = l at *
  clear h hr
  by_cases q1 : 0 ≤ z
  · by_cases q2 : z ≤ most
    · have e : ok = decide (z ≤ (l : Int)) := by rw [HO.out]; simp [q1, q2]
      clear HO
      rw [e]
      go_enter Try.func87, Try.ntmps87
      go_wp2_with (first | (go_at_call 86; refine HC.out.mono ?_; rintro e w' ⟨rfl, m, rfl⟩) | (go_at_call 72; refine (HL.out _).mono ?_; rintro e w' ⟨rfl, rfl⟩))
      go_ret2
      exact ⟨_, rfl, grown_drewN _ _ _, rfl⟩
    · have e : ok = false := by rw [HO.out]; simp [q2]
      clear HO
      rw [e]
      go_enter Try.func87, Try.ntmps87
      go_wp2_with (first | (go_at_call 86; refine HC.out.mono ?_; rintro e w' ⟨rfl, m, rfl⟩))
      go_ret2
      exact ⟨_, rfl, grown_drewN _ _ _, rfl⟩
  · have e : ok = false := by rw [HO.out]; simp [q1]
    clear HO
    rw [e]
    go_enter Try.func87, Try.ntmps87
    go_wp2_with (first | (go_at_call 86; refine HC.out.mono ?_; rintro e w' ⟨rfl, m, rfl⟩))
    go_ret2
    exact ⟨_, rfl, grown_drewN _ _ _, rfl⟩
theorem count_rd {w : World} {b : Nat} {B : Span} {why : Int} {zs : List Int} (most : Int) (h : Rd w b B why zs) : Calls Try.prog 70 #[.pointer (some ⟨b, 0, none⟩), .int .i64 most] w (Reads w b B (.int .i64 (rCount most (why, zs)).1) (rCount most (why, zs)).2) := by
  have hlt := h.lt
  obtain ⟨W, hW⟩ : ∃ W, W = (w.alloc (.cells #[.pointer (some ⟨b, 0, none⟩)] 59)).alloc (.cells #[.int .i64 most] 3) := ⟨_, rfl⟩
  have gW : w.grownBy W none := by rw [hW]; exact grown_trans (grown_alloc _ _ _) (grown_alloc _ _ _)
  have hW2 : W.heap[w.heap.size]? = some (.cells #[.pointer (some ⟨b, 0, none⟩)] 59) := by
    rw [hW, Below.heap_alloc _ _ _ (by simp)]; exact heap_alloc_new _ _
  have hW3 : W.heap[w.heap.size + 1]? = some (.cells #[.int .i64 most] 3) := by
    rw [hW, show w.heap.size + 1 = (w.alloc (.cells #[.pointer (some ⟨b, 0, none⟩)] 59)).heap.size by simp]; exact heap_alloc_new _ _
  have hWs : W.heap.size = w.heap.size + 2 := by rw [hW]; simp
  have r0 : Rd W b B why zs := h.grown gW (fun k hk => by cases hk)
  have HC : Hid (Calls Try.prog 84 #[.pointer (some ⟨b, 0, none⟩), .int .i64 8, .func (.func 87) #[] #[.pointer (some ⟨w.heap.size + 1, 0, none⟩), .pointer (some ⟨w.heap.size, 0, none⟩)]] W (Reads W b B (.int .i64 (rCount most (why, zs)).1) (rCount most (why, zs)).2)) :=
    Lib.hid (take_i_any (Value.int .i64) 0 rfl 8 (okCount most) intZ 87 #[.pointer (some ⟨w.heap.size + 1, 0, none⟩), .pointer (some ⟨w.heap.size, 0, none⟩)] (in_any _ (by kernel_rfl)) r0 (fun _ _ w1 A c r1 g1 hb _ _ => by
      have e2 := (g1.block w.heap.size (by omega) (by simp; omega)).trans hW2
      have e3 := (g1.block (w.heap.size + 1) (by omega) (by simp; omega)).trans hW3
      exact count_mk hb r1 (by rw [cell_of_row _ _ _ _ _ _ e3]; rfl) (by rw [cell_of_row _ _ _ _ _ _ e2]; rfl)))
  have HW := Lib.hid hW
  have G := Lib.hid gW
  clear h r0 hW2 hW3 gW hW
  go_enter Try.func70, Try.ntmps70
  go_wp2_with (go_at_call 84; rw [← HW.out]; refine HC.out.mono ?_; rintro e w' ⟨rfl, r, g⟩)
  go_ret
  exact ⟨rfl, r, grown_trans (grown_more G.out) g⟩
/-- A new reader of bytes. -/
def newWhy (zs : List Int) : Int × List Int := if zs.length ≤ 65536 then (0, zs) else (3, [])
theorem rd_new {w : World} {b n c : Nat} {B : Span} {why : Int} {A : Option Addr} {zs : List Int} {t : TypeId} (h : w.heap[b]? = some (.cells #[.bool true, .int .i64 why, .slice A n c] t)) (hz : Bs w B.hi A n zs) (hB : B.hi ≤ b) (hn : n ≤ c) (hc : c ≤ maxLen) (h5 : n ≤ 65536) (hl : 0 < n → ∀ a, A = some a → B.lo ≤ a.block) (hw : why ≠ 0 → zs = []) : Rd w b B why zs := by
  have h2 : w.cell? ⟨b, 2, none⟩ = some (.slice A n c) := by rw [cell_of_row _ _ _ _ _ _ h]; rfl
  refine ⟨by rw [cell_of_row _ _ _ _ _ _ h]; rfl, by rw [cell_of_row _ _ _ _ _ _ h]; rfl, ⟨A, n, c, h2, hz, hn, hc, h5⟩, fun A1 n1 c1 hc' hn1 a ha => ?_, frozen_of_row _ _ _ _ _ h, frozen_of_row _ _ _ _ _ h, hB, hw⟩
  rw [h2] at hc'
  injection hc' with hc'
  injection hc' with q1 q2 q3
  exact hl (by omega) a (q1.trans ha)
theorem newreader_any {w : World} {B n : Nat} {A : Option Addr} (c : Nat) {zs : List Int} (h : Bs w B A n zs) (hB : B ≤ w.heap.size) (hn : n ≤ 140737488355328) :
    Calls Try.prog 33 #[.slice A n c] w (fun e w' => ∃ b, e = .returned (.pointer (some ⟨b, 0, none⟩)) ∧ Rd w' b ⟨w.heap.size, b⟩ (newWhy zs).1 (newWhy zs).2 ∧ w.heap.size ≤ b ∧ Below w.heap.size w w') := by
  by_cases hl : n ≤ 65536
  · have HN : Hid (newWhy zs = (0, zs)) := Lib.hid (by unfold newWhy; rw [if_pos (by rw [h.len]; exact hl)])
    have HC := Lib.hid (cat1_any (w := w) c 22 h hB (by omega) 1 w.heap.size rfl)
    have HLn := Lib.hid h.len
    have HZ := Lib.hid h.isBytes
    have hli : ¬ 65536 < (n : Int) := by omega
    clear h
    go_enter Try.func33, Try.ntmps33
    go_wp2_with (go_at_call 32; refine HC.out.mono ?_; intro e w5 hm; obtain ⟨D, c5, rfl, ho, hb, h1, h2⟩ := hm.n HLn.out; clear hm)
    go_ret
    have hb2 : Below w.heap.size w w5 := ((Below.refl _ _).alloc (Nat.le_refl _) _).trans (hb.mono (by simp))
    have z5 := Made.bs ho HZ.out
    rw [HN.out]
    exact ⟨_, rfl, rd_new (B := ⟨w.heap.size, w5.heap.size⟩) (heap_alloc_new w5 _) (z5.alloc (Nat.le_refl _) _) (Nat.le_refl _) h1 h2 hl (fun _ a ha => by have := (ho.lt a.block (by rw [ha]; rfl)).1; simp at this; show w.heap.size ≤ _; omega) (fun e => absurd rfl e), hb2.size, hb2.alloc hb2.size _⟩
  · have HN : Hid (newWhy zs = (3, [])) := Lib.hid (by unfold newWhy; rw [if_neg (by rw [h.len]; exact hl)])
    have hli : 65536 < (n : Int) := by omega
    clear h
    go_enter Try.func33, Try.ntmps33
    go_wp2
    go_ret
    rw [HN.out]
    exact ⟨_, rfl, rd_new (B := ⟨w.heap.size, w.heap.size⟩) (heap_alloc_new w _) Bs.nil (Nat.le_refl _) (Nat.le_refl _) (by simp [maxLen]) (by omega) (fun h => absurd h (by omega)) (fun _ => rfl), Nat.le_refl _, (Below.refl _ _).alloc (Nat.le_refl _) _⟩
end Go.Proofs.Ytfihiandifnkpaa
/- A string's bytes; the slice that a string is turned into. -/
namespace Go.Proofs.Ytfihiandifnkpaa
open Go.ChangeShapes Go.WideShapes Go.ChangeAt Go.RowKit
set_option linter.unusedVariables false
open Plain
/-- A string's bytes as numbers. -/
def strZ (s : ByteArray) : List Int := s.data.toList.map fun c => (c.toNat : Int)
theorem strZ_len (s : ByteArray) : (strZ s).length = s.size := by unfold strZ; rw [List.length_map]; rfl
theorem strZ_bytes (s : ByteArray) : IsBytes (strZ s) := by
  rw [isBytes_iff]
  intro z hz
  simp only [strZ, List.mem_map] at hz
  obtain ⟨c, _, rfl⟩ := hz
  have := c.toNat_lt
  omega
theorem bytesW_below (w : World) (s : ByteArray) : Below w.heap.size w (Go.Lib.bytesWorld w 5 s) :=
  ⟨rfl, rfl, rfl, by rw [Go.Lib.bytesWorld_size]; omega, fun k hk => Go.Lib.bytesWorld_at_old w _ s k hk⟩
theorem bytesW_bs (w : World) (s : ByteArray) : Bs (Go.Lib.bytesWorld w 5 s) (w.heap.size + 1) (some ⟨w.heap.size, 0, none⟩) s.size (strZ s) := by
  refine ⟨strZ_len s, fun j hj => strZ_bytes s j (by rw [strZ_len]; exact hj), fun _ => ⟨w.heap.size, 0, rfl, by omega, fun j hj => ?_⟩⟩
  rw [Nat.zero_add, Go.Lib.bytesWorld_cell w _ s j hj]
  have hj' : j < s.data.toList.length := hj
  simp [strZ, List.getD_eq_getElem?_getD, List.getElem?_map, List.getElem?_eq_getElem hj']
theorem run_toBytes (w : World) (s : ByteArray) : (convert 9 22 (.string s)).run Try.prog w = .ok (.slice (some ⟨w.heap.size, 0, none⟩) s.size (grownCap w s.size 0 5)) (Go.Lib.bytesWorld w 5 s) :=
  Go.Lib.run_convert_string_bytes w _ _ 5 s Try.underlying9 Try.underlying22 Try.underlying5
end Go.Proofs.Ytfihiandifnkpaa
/- What a writer's calls put behind; what Done tells. -/
namespace Go.Proofs.Ytfihiandifnkpaa
open Go.ChangeShapes Go.WideShapes Go.ChangeAt Go.RowKit
set_option linter.unusedVariables false
open Plain
theorem Puts.from {w w1 w' : World} {b : Nat} {g : Option Nat} {st : Option (List Int)} {e : Ending} (h : w.grownBy w1 none) (k : Puts w1 b g st e w') : Puts w b g st e w' := by
  obtain ⟨k1, g', k2, k3, k4⟩ := k
  exact ⟨k1, g', k2, (Wrote.of_grown h (.inl rfl)).trans k3 (.inl rfl), Fresh.trans (.inl rfl) k4 h.size⟩
theorem lists_one {w : World} {B n : Nat} {A : Option Addr} {zs : List Int} (h : Bs w B A n zs) (hB : B ≤ w.heap.size) (t : TypeId) (c g : Nat) (hg : w.heap.size = g) :
    Lists (w.alloc (.cells #[.slice A n c] t)) (g + 1) (some ⟨g, 0, none⟩) 1 (fun _ => A) (fun _ => n) (fun _ => c) (fun _ => zs) := by
  subst hg
  exact ⟨fun _ => ⟨w.heap.size, 0, rfl, by omega, fun j hj => by
      have hh : (w.alloc (.cells #[.slice A n c] t)).cell? ⟨w.heap.size, 0 + j, none⟩ = (#[Value.slice A n c])[0 + j]? := cell_of_row _ _ _ _ _ _ (heap_alloc_new w _)
      rw [hh]
      match j, hj with
      | 0, _ => rfl⟩, fun j hj => ((h.more hB).alloc (Nat.le_refl _) _).more (by omega)⟩
theorem lists_two {w : World} {B1 B2 n1 n2 : Nat} {A1 A2 : Option Addr} {zs1 zs2 : List Int} (h1 : Bs w B1 A1 n1 zs1) (h2 : Bs w B2 A2 n2 zs2) (hB1 : B1 ≤ w.heap.size) (hB2 : B2 ≤ w.heap.size) (t : TypeId) (c1 c2 g : Nat) (hg : w.heap.size = g) :
    Lists (w.alloc (.cells #[.slice A1 n1 c1, .slice A2 n2 c2] t)) (g + 1) (some ⟨g, 0, none⟩) 2 (fun j => if j = 0 then A1 else A2) (fun j => if j = 0 then n1 else n2) (fun j => if j = 0 then c1 else c2) (fun j => if j = 0 then zs1 else zs2) := by
  subst hg
  exact ⟨fun _ => ⟨w.heap.size, 0, rfl, by omega, fun j hj => by
      have hh : (w.alloc (.cells #[.slice A1 n1 c1, .slice A2 n2 c2] t)).cell? ⟨w.heap.size, 0 + j, none⟩ = (#[Value.slice A1 n1 c1, .slice A2 n2 c2])[0 + j]? := cell_of_row _ _ _ _ _ _ (heap_alloc_new w _)
      rw [hh]
      match j, hj with
      | 0, _ => rfl
      | 1, _ => rfl⟩, fun j hj => by
      match j, hj with
      | 0, _ => exact ((h1.more hB1).alloc (Nat.le_refl _) _).more (by omega)
      | 1, _ => exact ((h2.more hB2).alloc (Nat.le_refl _) _).more (by omega)⟩
theorem apart_new {w : World} {b : Nat} {g : Option Nat} {st : Option (List Int)} (h : Wr w b g st) (k : Nat) (hk : w.heap.size ≤ k) {n : Nat} : Apart b g (some ⟨k, 0, none⟩) n := by
  intro _ a ha
  injection ha with ha
  subst ha
  exact ⟨by have := h.lt; show k ≠ b; omega, fun e => by have := (h.own k e.symm).2; omega⟩
theorem put1 {w : World} {b : Nat} {g : Option Nat} {st : Option (List Int)} (h : Wr w b g st) {B n : Nat} {A : Option Addr} {zs : List Int} (hz : Bs w B A n zs) (hB : B ≤ w.heap.size) (hn : n ≤ 140737488355328) (ha : Apart b g A n) (t : TypeId) (c c' gg : Nat) (hg : w.heap.size = gg) :
    Calls Try.prog 74 #[.pointer (some ⟨b, 0, none⟩), .slice (some ⟨gg, 0, none⟩) 1 c'] (w.alloc (.cells #[.slice A n c] t)) (Puts w b g (wPut st zs)) := by
  have h' : Wr (w.alloc (.cells #[.slice A n c] t)) b g st := h.grown (grown_alloc _ _ none) (by simp) (by simp)
  cases st with
  | none => exact (put_long h' _).mono fun e w' k => Puts.from (grown_alloc _ _ none) k
  | some fs =>
    have := put_ok h' c' (lists_one hz hB t c gg hg) (by simp; omega) (by simp [maxLen]) (fun _ _ => hn) (apart_new h gg (by omega)) (fun _ _ => ha)
    rw [show catTo (fun _ => zs) 1 = zs from List.nil_append _] at this
    exact this.mono fun e w' k => Puts.from (grown_alloc _ _ none) k
theorem put2 {w : World} {b : Nat} {g : Option Nat} {st : Option (List Int)} (h : Wr w b g st) {B1 B2 n1 n2 : Nat} {A1 A2 : Option Addr} {zs1 zs2 : List Int} (h1 : Bs w B1 A1 n1 zs1) (h2 : Bs w B2 A2 n2 zs2) (hB1 : B1 ≤ w.heap.size) (hB2 : B2 ≤ w.heap.size) (hn1 : n1 ≤ 140737488355328) (hn2 : n2 ≤ 140737488355328) (ha1 : Apart b g A1 n1) (ha2 : Apart b g A2 n2) (t : TypeId) (c1 c2 c' gg : Nat) (hg : w.heap.size = gg) :
    Calls Try.prog 74 #[.pointer (some ⟨b, 0, none⟩), .slice (some ⟨gg, 0, none⟩) 2 c'] (w.alloc (.cells #[.slice A1 n1 c1, .slice A2 n2 c2] t)) (Puts w b g (wPut st (zs1 ++ zs2))) := by
  have h' : Wr (w.alloc (.cells #[.slice A1 n1 c1, .slice A2 n2 c2] t)) b g st := h.grown (grown_alloc _ _ none) (by simp) (by simp)
  cases st with
  | none => exact (put_long h' _).mono fun e w' k => Puts.from (grown_alloc _ _ none) k
  | some fs =>
    have := put_ok h' c' (lists_two h1 h2 hB1 hB2 t c1 c2 gg hg) (by simp; omega) (by simp [maxLen]) (fun j _ => by split <;> assumption) (apart_new h gg (by omega)) (fun j _ => by split <;> assumption)
    rw [show catTo (fun j => if j = 0 then zs1 else zs2) 2 = zs1 ++ zs2 from by simp [catTo]] at this
    exact this.mono fun e w' k => Puts.from (grown_alloc _ _ none) k
theorem newwriter_any (w : World) : Calls Try.prog 21 #[] w (fun e w' => e = .returned (.pointer (some ⟨w.heap.size, 0, none⟩)) ∧ Wr w' w.heap.size none (some []) ∧ Below w.heap.size w w' ∧ w.heap.size < w'.heap.size) := by
  go_enter Try.func21, Try.ntmps21
  go_wp2
  go_ret
  have hh := heap_alloc_new w (.cells #[.bool true, .bool false, .slice none 0 0] 89)
  exact ⟨rfl, ⟨by rw [cell_of_row _ _ _ _ _ _ hh]; rfl, by rw [cell_of_row _ _ _ _ _ _ hh]; rfl, ⟨none, 0, 0, by rw [cell_of_row _ _ _ _ _ _ hh]; rfl, World.ownsRow_nil _ _ _ _, rfl, rfl, by omega⟩, IsBytes.nil, frozen_of_row _ _ _ _ _ hh, frozen_of_row _ _ _ _ _ hh⟩, (Below.refl _ _).alloc (Nat.le_refl _) _, by simp⟩
theorem one_byte (x : Int) (h0 : 0 ≤ x) (h1 : x < 256) : IsBytes [x] := by
  intro j hj
  have : j = 0 := by simpa using hj
  subst this
  exact ⟨h0, h1⟩
section
variable {w : World} {b : Nat} {g : Option Nat} {st : Option (List Int)}
theorem byte_wr (h : Wr w b g st) (x : Int) (h0 : 0 ≤ x) (h1 : x < 256) : Calls Try.prog 42 #[.pointer (some ⟨b, 0, none⟩), .int .u8 x] w (Puts w b g (wPut st [x])) := by
  have HC := Lib.hid (put1 (w := w.alloc (.cells (vals [x]).toArray 5)) (h.grown (grown_alloc _ _ none) (by simp) (by simp)) (bs_new w [x] 1 rfl (one_byte x h0 h1) 5 _ rfl) (by simp) (by omega) (apart_new h _ (Nat.le_refl _)) 22 1 1 (w.heap.size + 1) (by simp))
  clear h
  go_enter Try.func42, Try.ntmps42
  go_wp2_with (go_at_call 74; refine HC.out.mono ?_; intro e w' k; replace k := Puts.from (grown_alloc _ _ none) k; obtain ⟨rfl, k⟩ := k)
  go_ret
  exact ⟨rfl, k⟩
/-- A number's eight bytes, below 0 as 2^64 more. -/
def n64 (n : Int) : List Int := putZ (n % 18446744073709551616) 8
theorem int_wr (h : Wr w b g st) (n : Int) (h0 : -9223372036854775808 ≤ n) (h1 : n ≤ 9223372036854775807) : Calls Try.prog 59 #[.pointer (some ⟨b, 0, none⟩), .int .i64 n] w (Puts w b g (wPut st (n64 n))) := by
  have HP := Lib.hid (put64_any (n % 18446744073709551616) (by omega) (by omega) w)
  have HN : Hid (n64 n = putZ (n % 18446744073709551616) 8) := Lib.hid rfl
  have HZ := Lib.hid (putZ_bytes (n % 18446744073709551616) 8)
  have H := Lib.hid h
  clear h
  go_enter Try.func59, Try.ntmps59
  go_wp2_with (go_at_call 82; refine HP.out.mono ?_; intro e w1 hm; obtain ⟨A, c, rfl, ho, hb, _, _⟩ := hm.n (putZ_len ..); clear hm)
  have z1 := Made.bs ho HZ.out
  have W1 := H.out.grown (grown_of_below hb none) (by simp) (by simp)
  have ha : Apart b g A 8 := fun _ a ha => by
    have := ho.lt a.block (by rw [ha]; rfl)
    have l1 := H.out.lt
    exact ⟨by omega, fun e => by have := (H.out.own _ e.symm).2; omega⟩
  refine (put1 W1 z1 (Nat.le_refl _) (by omega) ha 22 c 1 _ rfl).mono ?_
  intro e w' k
  replace k := Puts.from (grown_of_below hb none) k
  obtain ⟨rfl, k⟩ := k
  go_wp2
  go_ret
  exact ⟨rfl, by rw [HN.out]; exact k⟩
theorem flag_wr (h : Wr w b g st) (x : Bool) : Calls Try.prog 60 #[.pointer (some ⟨b, 0, none⟩), .bool x] w (Puts w b g (wPut st [if x then 1 else 0])) := by
  have H1 := Lib.hid (byte_wr h 1 (by omega) (by omega))
  have H0 := Lib.hid (byte_wr h 0 (by omega) (by omega))
  clear h
  cases x
  · go_enter Try.func60, Try.ntmps60
    go_wp2_with (go_at_call 42; refine H0.out.mono ?_; rintro e w' ⟨rfl, k⟩)
    go_ret
    exact ⟨rfl, k⟩
  · go_enter Try.func60, Try.ntmps60
    go_wp2_with (go_at_call 42; refine H1.out.mono ?_; rintro e w' ⟨rfl, k⟩)
    go_ret
    exact ⟨rfl, k⟩
/-- Bytes behind their length. -/
def bytesF (zs : List Int) : List Int := putZ ((zs.length : Nat) % 4294967296) 4 ++ zs
theorem bytes_wr (h : Wr w b g st) {B n : Nat} {A : Option Addr} {zs : List Int} (c : Nat) (hz : Bs w B A n zs) (hB : B ≤ w.heap.size) (hn : n ≤ 140737488355328) (ha : Apart b g A n) : Calls Try.prog 81 #[.pointer (some ⟨b, 0, none⟩), .slice A n c] w (Puts w b g (wPut st (bytesF zs))) := by
  have HP := Lib.hid (put32_any ((n : Int) % 4294967296) (by omega) (by omega) w)
  have HN : Hid (bytesF zs = putZ ((n : Int) % 4294967296) 4 ++ zs) := Lib.hid (by unfold bytesF; rw [hz.len])
  have HZ := Lib.hid (putZ_bytes ((n : Int) % 4294967296) 4)
  have H := Lib.hid h
  have HB := Lib.hid hz
  clear h hz
  go_enter Try.func81, Try.ntmps81
  go_wp2_with (go_at_call 110; refine HP.out.mono ?_; intro e w1 hm; obtain ⟨A1, c1, rfl, ho, hb, _, _⟩ := hm.n (putZ_len ..); clear hm)
  have z1 := Made.bs ho HZ.out
  have W1 := H.out.grown (grown_of_below hb none) (by simp) (by simp)
  have ha1 : Apart b g A1 4 := fun _ a ha => by
    have := ho.lt a.block (by rw [ha]; rfl)
    have l1 := H.out.lt
    exact ⟨by omega, fun e => by have := (H.out.own _ e.symm).2; omega⟩
  refine (put2 W1 z1 (HB.out.below (hb.mono hB)) (Nat.le_refl _) (Nat.le_trans hB hb.size) (by omega) hn ha1 ha 22 c1 c 2 _ rfl).mono ?_
  intro e w' k
  replace k := Puts.from (grown_of_below hb none) k
  obtain ⟨rfl, k⟩ := k
  go_wp2
  go_ret
  exact ⟨rfl, by rw [HN.out]; exact k⟩
theorem done_ok {fs : List Int} (h : Wr w b g (some fs)) : Calls Try.prog 22 #[.pointer (some ⟨b, 0, none⟩)] w (fun e w' => ∃ x, e = .returned (.tuple #[x, .int .i64 0]) ∧ IsList x w' w.heap.size fs ∧ Below w.heap.size w w') := by
  have h0 := h.made
  have h1 : w.cell? ⟨b, 1, none⟩ = some (.bool false) := h.long
  obtain ⟨A, n, c, h2, ho, _, hn, h5⟩ := h.form
  have z := bs_of_own ho h.bytes
  have HC := Lib.hid (cat1_any (w := w) c 22 z (Nat.le_refl _) (by omega) 1 w.heap.size rfl)
  clear h ho z hn
  go_enter Try.func22, Try.ntmps22
  go_wp2_with (go_at_call 32; refine HC.out.mono ?_; intro e w5 hm; obtain ⟨x, rfl, hx, hb⟩ := IsList.made hm; clear hm)
  go_ret2
  have hb2 : Below w.heap.size w w5 := ((Below.refl _ _).alloc (Nat.le_refl _) _).trans (hb.mono (by simp))
  obtain ⟨D, c5, h1, h2, h3⟩ := hx
  exact ⟨_, rfl, ⟨D, c5, h1, own_base h2 (by simp), h3⟩, hb2⟩
theorem done_long (h : Wr w b g none) : Calls Try.prog 22 #[.pointer (some ⟨b, 0, none⟩)] w (Says (.tuple #[.slice none 0 0, .int .i64 3]) w) := by
  have h0 := h.made
  have h1 : w.cell? ⟨b, 1, none⟩ = some (.bool true) := h.long
  clear h
  go_enter Try.func22, Try.ntmps22
  go_wp2
  go_ret2
  exact ⟨rfl, rfl⟩
end
end Go.Proofs.Ytfihiandifnkpaa
