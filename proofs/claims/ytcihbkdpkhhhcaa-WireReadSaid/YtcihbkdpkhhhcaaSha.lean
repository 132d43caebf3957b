/- Plain facts on the hash: the numbers of a block's schedule, its rounds, the blocks of a message, the message's end, the tag. Nothing of the program's text. -/
import Derived.Test.YtcihbkdpkhhhcaaPut
namespace Go.Proofs.Ytcihbkdpkhhhcaa.Sha
open Go.Proofs.Ytcihbkdpkhhhcaa.Plain
set_option linter.unusedVariables false

def u32s (l : List Nat) : List Value := l.map (fun (x : Nat) => Value.int .u32 (x : Int))
def AllW (l : List Nat) : Prop := ∀ j, l.getD j 0 < 4294967296
def sg0 (x : Nat) : Nat := rotN x 7 ^^^ rotN x 18 ^^^ x / 2 ^ 3
def sg1 (x : Nat) : Nat := rotN x 17 ^^^ rotN x 19 ^^^ x / 2 ^ 10
def bs0 (x : Nat) : Nat := rotN x 2 ^^^ rotN x 13 ^^^ rotN x 22
def bs1 (x : Nat) : Nat := rotN x 6 ^^^ rotN x 11 ^^^ rotN x 25
def ch (e f g : Nat) : Nat := (e &&& f) ||| ((4294967295 - e) &&& g)
def mj (a b c : Nat) : Nat := (a &&& b) ||| (a &&& c) ||| (b &&& c)
def wNext (a b c d : Nat) : Nat := (sg1 a + b + sg0 c + d) % 4294967296
def schedTo (ws : List Nat) : Nat → List Nat
  | 0 => ws
  | k + 1 => schedTo ws k ++ [wNext ((schedTo ws k).getD (k + 14) 0) ((schedTo ws k).getD (k + 9) 0) ((schedTo ws k).getD (k + 1) 0) ((schedTo ws k).getD k 0)]
def wAt (ws : List Nat) (t : Nat) : Nat := (schedTo ws t).getD t 0

def kTab : List Nat := [
  0x428a2f98, 0x71374491, 0xb5c0fbcf, 0xe9b5dba5, 0x3956c25b, 0x59f111f1, 0x923f82a4, 0xab1c5ed5,
  0xd807aa98, 0x12835b01, 0x243185be, 0x550c7dc3, 0x72be5d74, 0x80deb1fe, 0x9bdc06a7, 0xc19bf174,
  0xe49b69c1, 0xefbe4786, 0x0fc19dc6, 0x240ca1cc, 0x2de92c6f, 0x4a7484aa, 0x5cb0a9dc, 0x76f988da,
  0x983e5152, 0xa831c66d, 0xb00327c8, 0xbf597fc7, 0xc6e00bf3, 0xd5a79147, 0x06ca6351, 0x14292967,
  0x27b70a85, 0x2e1b2138, 0x4d2c6dfc, 0x53380d13, 0x650a7354, 0x766a0abb, 0x81c2c92e, 0x92722c85,
  0xa2bfe8a1, 0xa81a664b, 0xc24b8b70, 0xc76c51a3, 0xd192e819, 0xd6990624, 0xf40e3585, 0x106aa070,
  0x19a4c116, 0x1e376c08, 0x2748774c, 0x34b0bcb5, 0x391c0cb3, 0x4ed8aa4a, 0x5b9cca4f, 0x682e6ff3,
  0x748f82ee, 0x78a5636f, 0x84c87814, 0x8cc70208, 0x90befffa, 0xa4506ceb, 0xbef9a3f7, 0xc67178f2]

structure H8 where
  (a b c d e f g h : Nat)
def H8.list (v : H8) : List Nat := [v.a, v.b, v.c, v.d, v.e, v.f, v.g, v.h]
structure H8.ok (v : H8) : Prop where
  a : v.a < 4294967296
  b : v.b < 4294967296
  c : v.c < 4294967296
  d : v.d < 4294967296
  e : v.e < 4294967296
  f : v.f < 4294967296
  g : v.g < 4294967296
  h : v.h < 4294967296
def t1Of (s : H8) (k w : Nat) : Nat := (s.h + bs1 s.e + ch s.e s.f s.g + k + w) % 4294967296
def rnd (s : H8) (k w : Nat) : H8 :=
  { a := (t1Of s k w + bs0 s.a + mj s.a s.b s.c) % 4294967296, b := s.a, c := s.b, d := s.c, e := (s.d + t1Of s k w) % 4294967296, f := s.e, g := s.f, h := s.g }
def rnds (ws : List Nat) (s : H8) : Nat → H8
  | 0 => s
  | t + 1 => rnd (rnds ws s t) (kTab.getD t 0) (wAt ws t)
def addV (v r : H8) : H8 := ⟨(v.a + r.a) % 4294967296, (v.b + r.b) % 4294967296, (v.c + r.c) % 4294967296, (v.d + r.d) % 4294967296, (v.e + r.e) % 4294967296, (v.f + r.f) % 4294967296, (v.g + r.g) % 4294967296, (v.h + r.h) % 4294967296⟩
def blk (v : H8) (ws : List Nat) : H8 := addV v (rnds ws v 64)
def h0 : H8 := ⟨0x6a09e667, 0xbb67ae85, 0x3c6ef372, 0xa54ff53a, 0x510e527f, 0x9b05688c, 0x1f83d9ab, 0x5be0cd19⟩
def wordsAt (bs : List Int) (i : Nat) : List Nat := (List.range 16).map fun t => (numZ ((bs.drop (64 * i + 4 * t)).take 4)).toNat
def behindTo (v : H8) (bs : List Int) : Nat → H8
  | 0 => v
  | i + 1 => blk (behindTo v bs i) (wordsAt bs i)
def behind (v : H8) (bs : List Int) : H8 := behindTo v bs (bs.length / 64)
def padZ (n : Nat) : List Int := 128 :: (List.replicate ((119 - n % 64) % 64) 0 ++ putZ ((8 * n : Nat) : Int) 8)
def tagZ (v : H8) : List Int := putZ v.a 4 ++ putZ v.b 4 ++ putZ v.c 4 ++ putZ v.d 4 ++ putZ v.e 4 ++ putZ v.f 4 ++ putZ v.g 4 ++ putZ v.h 4
def shaZ (bs : List Int) : List Int := tagZ (behind h0 (bs ++ padZ bs.length))

/-! ### bounds -/
theorem rot_lt {x k : Nat} (hx : x < 4294967296) (hk : k ≤ 32) : rotN x k < 4294967296 := rotN_lt x k hx hk
theorem xor_lt {x y : Nat} (hx : x < 4294967296) (hy : y < 4294967296) : x ^^^ y < 4294967296 := Nat.xor_lt_two_pow (n := 32) hx hy
theorem or_lt {x y : Nat} (hx : x < 4294967296) (hy : y < 4294967296) : x ||| y < 4294967296 := Nat.or_lt_two_pow (n := 32) hx hy
theorem and_lt {x y : Nat} (hy : y < 4294967296) : x &&& y < 4294967296 := Nat.and_lt_two_pow (n := 32) x hy
theorem mod_lt (x : Nat) : x % 4294967296 < 4294967296 := Nat.mod_lt _ (by omega)
theorem div_lt {x : Nat} (k : Nat) (hx : x < 4294967296) : x / 2 ^ k < 4294967296 := Nat.lt_of_le_of_lt (Nat.div_le_self _ _) hx
theorem sg0_lt {x : Nat} (h : x < 4294967296) : sg0 x < 4294967296 := xor_lt (xor_lt (rot_lt h (by omega)) (rot_lt h (by omega))) (div_lt _ h)
theorem sg1_lt {x : Nat} (h : x < 4294967296) : sg1 x < 4294967296 := xor_lt (xor_lt (rot_lt h (by omega)) (rot_lt h (by omega))) (div_lt _ h)
theorem bs0_lt {x : Nat} (h : x < 4294967296) : bs0 x < 4294967296 := xor_lt (xor_lt (rot_lt h (by omega)) (rot_lt h (by omega))) (rot_lt h (by omega))
theorem bs1_lt {x : Nat} (h : x < 4294967296) : bs1 x < 4294967296 := xor_lt (xor_lt (rot_lt h (by omega)) (rot_lt h (by omega))) (rot_lt h (by omega))
theorem ch_lt {e f g : Nat} (he : e < 4294967296) (hf : f < 4294967296) (hg : g < 4294967296) : ch e f g < 4294967296 := or_lt (and_lt hf) (and_lt hg)
theorem mj_lt {a b c : Nat} (ha : a < 4294967296) (hb : b < 4294967296) (hc : c < 4294967296) : mj a b c < 4294967296 := or_lt (or_lt (and_lt hb) (and_lt hc)) (and_lt hc)
theorem rnd_ok {s : H8} (h : s.ok) (k w : Nat) : (rnd s k w).ok := ⟨mod_lt _, h.a, h.b, h.c, mod_lt _, h.e, h.f, h.g⟩
theorem rnds_ok (ws : List Nat) {s : H8} (h : s.ok) : ∀ t, (rnds ws s t).ok
  | 0 => h
  | t + 1 => rnd_ok (rnds_ok ws h t) _ _
theorem addV_ok (v r : H8) : (addV v r).ok := ⟨mod_lt _, mod_lt _, mod_lt _, mod_lt _, mod_lt _, mod_lt _, mod_lt _, mod_lt _⟩
theorem blk_ok (v : H8) (ws : List Nat) : (blk v ws).ok := addV_ok _ _
theorem h0_ok : h0.ok := by constructor <;> decide
theorem behindTo_ok {v : H8} (h : v.ok) (bs : List Int) : ∀ i, (behindTo v bs i).ok
  | 0 => h
  | i + 1 => blk_ok _ _
theorem behind_ok {v : H8} (h : v.ok) (bs : List Int) : (behind v bs).ok := behindTo_ok h _ _

/-! ### the schedule -/
theorem schedTo_len (ws : List Nat) (hl : ws.length = 16) : ∀ k, (schedTo ws k).length = 16 + k
  | 0 => hl
  | k + 1 => by simp [schedTo, schedTo_len ws hl k]; omega
theorem getD_app_lt {l r : List Nat} {j : Nat} (h : j < l.length) : (l ++ r).getD j 0 = l.getD j 0 := by
  simp [List.getD_eq_getElem?_getD, List.getElem?_append_left h]
theorem getD_app_at {l : List Nat} {x : Nat} {j : Nat} (h : j = l.length) : (l ++ [x]).getD j 0 = x := by
  subst h; simp [List.getD_eq_getElem?_getD]
theorem schedTo_stay (ws : List Nat) (hl : ws.length = 16) (k : Nat) : ∀ m j, j < 16 + k → (schedTo ws (k + m)).getD j 0 = (schedTo ws k).getD j 0
  | 0, j, h => rfl
  | m + 1, j, h => by
    show (schedTo ws (k + m) ++ _).getD j 0 = _
    rw [getD_app_lt (by rw [schedTo_len ws hl]; omega)]
    exact schedTo_stay ws hl k m j h
theorem sched_at (ws : List Nat) (hl : ws.length = 16) (k j : Nat) (h : j < 16 + k) : (schedTo ws k).getD j 0 = wAt ws j := by
  unfold wAt
  by_cases hk : k ≤ j
  · obtain ⟨m, rfl⟩ := Nat.exists_eq_add_of_le hk
    exact (schedTo_stay ws hl k m _ h).symm
  · obtain ⟨m, rfl⟩ := Nat.exists_eq_add_of_le (Nat.le_of_not_le hk)
    exact schedTo_stay ws hl j m j (by omega)
theorem wAt_lo (ws : List Nat) (hl : ws.length = 16) (t : Nat) (h : t < 16) : wAt ws t = ws.getD t 0 := (sched_at ws hl 0 t (by omega)).symm
theorem wAt_hi (ws : List Nat) (hl : ws.length = 16) (k : Nat) : wAt ws (16 + k) = wNext (wAt ws (k + 14)) (wAt ws (k + 9)) (wAt ws (k + 1)) (wAt ws k) := by
  rw [← sched_at ws hl (k + 1) (16 + k) (by omega)]
  show (schedTo ws k ++ [_]).getD (16 + k) 0 = _
  rw [getD_app_at (by rw [schedTo_len ws hl]), sched_at ws hl k _ (by omega), sched_at ws hl k _ (by omega), sched_at ws hl k _ (by omega), sched_at ws hl k _ (by omega)]
theorem wAt_lt (ws : List Nat) (hl : ws.length = 16) (hw : AllW ws) (t : Nat) : wAt ws t < 4294967296 := by
  by_cases h : t < 16
  · rw [wAt_lo ws hl t h]; exact hw t
  · obtain ⟨k, rfl⟩ := Nat.exists_eq_add_of_le (Nat.le_of_not_lt h)
    rw [wAt_hi ws hl]; exact mod_lt _
theorem wNext_lt (a b c d : Nat) : wNext a b c d < 4294967296 := mod_lt _
theorem u32s_len (l : List Nat) : (u32s l).length = l.length := by simp [u32s]
theorem u32s_at (l : List Nat) (j : Nat) (h : j < l.length) : (u32s l)[j]? = some (.int .u32 ((l.getD j 0 : Nat) : Int)) := by
  simp [u32s, List.getElem?_map, List.getElem?_eq_getElem h, List.getD_eq_getElem?_getD]
theorem u32s_one (l : List Nat) : ∀ v ∈ u32s l, v.oneCell' = true := by
  intro v hv
  simp only [u32s, List.mem_map] at hv
  obtain ⟨x, _, rfl⟩ := hv
  rfl
theorem u32s_set (l : List Nat) (k x : Nat) : (u32s l).toArray.setIfInBounds k (.int .u32 (x : Int)) = (u32s (l.set k x)).toArray := by
  simp [u32s, List.map_set]
theorem getD_setN (l : List Nat) (k j x : Nat) (hk : k < l.length) : (l.set k x).getD j 0 = if k = j then x else l.getD j 0 := by
  simp only [List.getD_eq_getElem?_getD, List.getElem?_set]
  split
  · simp
  · rfl
theorem list_ext_N {a b : List Nat} (hl : a.length = b.length) (h : ∀ j, j < a.length → a.getD j 0 = b.getD j 0) : a = b := by
  apply List.ext_getElem hl
  intro j h1 h2
  have := h j h1
  simpa [List.getD_eq_getElem?_getD, List.getElem?_eq_getElem h1, List.getElem?_eq_getElem h2] using this
theorem kTab_lt (t : Nat) : kTab.getD t 0 < 4294967296 := by
  by_cases h : t < 64
  · have : ∀ t, t < 64 → kTab.getD t 0 < 4294967296 := by decide
    exact this t h
  · rw [List.getD_eq_getElem?_getD, List.getElem?_eq_none (by show 64 ≤ t; omega)]; decide

/-! ### blocks, one behind the other -/
theorem wordsAt_len (bs : List Int) (i : Nat) : (wordsAt bs i).length = 16 := by simp [wordsAt]
theorem wordsAt_at (bs : List Int) (i t : Nat) (h : t < 16) : (wordsAt bs i).getD t 0 = (numZ ((bs.drop (64 * i + 4 * t)).take 4)).toNat := by
  simp [wordsAt, List.getD_eq_getElem?_getD, h]
theorem wordsAt_lt (bs : List Int) (hb : IsBytes bs) (i : Nat) : AllW (wordsAt bs i) := by
  intro j
  by_cases h : j < 16
  · rw [wordsAt_at bs i j h]
    have := numZ_piece_range bs (64 * i + 4 * j) 4 4 (by omega) hb
    omega
  · rw [List.getD_eq_getElem?_getD, List.getElem?_eq_none (by rw [wordsAt_len]; omega)]; decide
theorem wordsAt_app_lo (a b : List Int) (i : Nat) (h : 64 * i + 64 ≤ a.length) : wordsAt (a ++ b) i = wordsAt a i := by
  refine list_ext_N (by rw [wordsAt_len, wordsAt_len]) (fun j hj => ?_)
  rw [wordsAt_len] at hj
  rw [wordsAt_at _ _ _ hj, wordsAt_at _ _ _ hj, List.drop_append_of_le_length (by omega), List.take_append_of_le_length (by simp; omega)]
theorem wordsAt_app_hi (a b : List Int) (n i : Nat) (h : a.length = 64 * n) : wordsAt (a ++ b) (n + i) = wordsAt b i := by
  refine list_ext_N (by rw [wordsAt_len, wordsAt_len]) (fun j hj => ?_)
  rw [wordsAt_len] at hj
  rw [wordsAt_at _ _ _ hj, wordsAt_at _ _ _ hj, show 64 * (n + i) + 4 * j = a.length + (64 * i + 4 * j) from by omega, List.drop_length_add_append]
theorem behindTo_app_lo (v : H8) (a b : List Int) : ∀ i, 64 * i ≤ a.length → behindTo v (a ++ b) i = behindTo v a i
  | 0, _ => rfl
  | i + 1, h => by
    show blk (behindTo v (a ++ b) i) (wordsAt (a ++ b) i) = _
    rw [behindTo_app_lo v a b i (by omega), wordsAt_app_lo a b i (by omega)]; rfl
theorem behindTo_app_hi (v : H8) (a b : List Int) (n : Nat) (h : a.length = 64 * n) : ∀ i, behindTo v (a ++ b) (n + i) = behindTo (behindTo v a n) b i
  | 0 => behindTo_app_lo v a b n (by omega)
  | i + 1 => by
    show blk (behindTo v (a ++ b) (n + i)) (wordsAt (a ++ b) (n + i)) = _
    rw [behindTo_app_hi v a b n h i, wordsAt_app_hi a b n i h]; rfl
/-- The bytes behind the whole blocks. -/
def restZ (bs : List Int) : List Int := bs.drop (64 * (bs.length / 64))
theorem restZ_len (bs : List Int) : (restZ bs).length = bs.length % 64 := by simp [restZ]; omega
theorem behind_more (v : H8) (a b : List Int) : behind (behind v a) (restZ a ++ b) = behind v (a ++ b) := by
  have hl : (a.take (64 * (a.length / 64))).length = 64 * (a.length / 64) := by simp; omega
  have e1 : a ++ b = a.take (64 * (a.length / 64)) ++ (restZ a ++ b) := by
    unfold restZ; rw [← List.append_assoc, List.take_append_drop]
  have e2 : (a ++ b).length / 64 = a.length / 64 + (restZ a ++ b).length / 64 := by
    simp only [List.length_append, restZ_len]; omega
  unfold behind
  rw [e2, e1, behindTo_app_hi v _ _ _ hl]
  congr 1
  have e3 := behindTo_app_lo v (a.take (64 * (a.length / 64))) (restZ a) (a.length / 64) (by omega)
  rw [← e3]
  unfold restZ; rw [List.take_append_drop]
theorem restZ_more (a b : List Int) : restZ (a ++ b) = (restZ a ++ b).drop (64 * ((restZ a ++ b).length / 64)) := by
  have hl : (a.take (64 * (a.length / 64))).length = 64 * (a.length / 64) := by simp; omega
  have e1 : a ++ b = a.take (64 * (a.length / 64)) ++ (restZ a ++ b) := by
    unfold restZ; rw [← List.append_assoc, List.take_append_drop]
  have e2 : (a ++ b).length / 64 = a.length / 64 + (restZ a ++ b).length / 64 := by
    simp only [List.length_append, restZ_len]; omega
  show (a ++ b).drop (64 * ((a ++ b).length / 64)) = _
  rw [e2, e1, show 64 * (a.length / 64 + (restZ a ++ b).length / 64) = (a.take (64 * (a.length / 64))).length + 64 * ((restZ a ++ b).length / 64) from by rw [hl]; omega, List.drop_length_add_append]
theorem restZ_bytes {bs : List Int} (h : IsBytes bs) : IsBytes (restZ bs) := by
  rw [isBytes_iff] at *
  intro z hz
  exact h z (List.mem_of_mem_drop hz)
theorem padZ_len (n : Nat) : (padZ n).length = 9 + (119 - n % 64) % 64 := by simp [padZ, putZ_len]; omega
theorem pad_whole (n : Nat) : (n % 64 + (padZ n).length) % 64 = 0 := by rw [padZ_len]; omega
theorem padZ_bytes (n : Nat) : IsBytes (padZ n) := by
  rw [isBytes_iff]
  intro z hz
  unfold padZ at hz
  rcases List.mem_cons.1 hz with rfl | hz
  · decide
  · rcases List.mem_append.1 hz with hz | hz
    · rw [List.mem_replicate] at hz; omega
    · exact (isBytes_iff.1 (putZ_bytes _ 8)) z hz
theorem shaZ_of (bs : List Int) : tagZ (behind (behind h0 bs) (restZ bs ++ padZ bs.length)) = shaZ bs := by
  rw [behind_more]; rfl
theorem tagZ_len (v : H8) : (tagZ v).length = 32 := by simp [tagZ, putZ_len]
theorem tagZ_bytes (v : H8) : IsBytes (tagZ v) := by
  unfold tagZ
  exact (((((((putZ_bytes _ 4).app (putZ_bytes _ 4)).app (putZ_bytes _ 4)).app (putZ_bytes _ 4)).app (putZ_bytes _ 4)).app (putZ_bytes _ 4)).app (putZ_bytes _ 4)).app (putZ_bytes _ 4)
end Go.Proofs.Ytcihbkdpkhhhcaa.Sha
