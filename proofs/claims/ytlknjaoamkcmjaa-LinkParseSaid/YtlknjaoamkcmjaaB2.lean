/- Texts of the proof, one behind the other: Sha Row Spread Block Row8 Blocks Behind. -/
import Derived.Test.YtlknjaoamkcmjaaB1
import Derived.Deep.MidRow
import Derived.Laws.ShiftsVarLaws
import Derived.Laws.ResultCell
import Derived.Laws.CopyOwn
import Derived.RangeFuncNested
import Derived.RangeFuncBound
import Derived.RangeFuncCalls
import Derived.RangeFuncLeaves
import Derived.RangeFuncBox
import Derived.Shelf.Abstract
import Derived.Shelf.RegionOpen
import Derived.OwnWalkIn
import Derived.TacticsInMore
import Derived.LoopNIn
import Derived.LoopIn
/- Plain facts on the hash: the numbers of a block's schedule, its rounds, the blocks of a message, the message's end, the tag. Nothing of the program's text. -/
namespace Go.Proofs.Ytlknjaoamkcmjaa.Sha
open Go.Proofs.Ytlknjaoamkcmjaa.Plain
set_option linter.unusedVariables false

def u32s (l : List Nat) : List Value := l.map (fun (x : Nat) => Value.int .u32 (x : Int))
def AllW (l : List Nat) : Prop := ∀ j, l.getD j 0 < 4294967296
def sg0 (x : Nat) : Nat := rotN x 7 ^^^ rotN x 18 ^^^ x / 2 ^ 3
def sg1 (x : Nat) : Nat := rotN x 17 ^^^ rotN x 19 ^^^ x / 2 ^ 10
def bs0 (x : Nat) : Nat := rotN x 2 ^^^ rotN x 13 ^^^ rotN x 22
def bs1 (x : Nat) : Nat := rotN x 6 ^^^ rotN x 11 ^^^ rotN x 25
def ch (e f g : Nat) : Nat := (e &&& f) ||| ((4294967295 - e) &&& g)
def mj (a b c : Nat) : Nat := (a &&& b) ||| (a &&& c) ||| (b &&& c)
def wNext (a b c d : Nat) : Nat := (sg1 a + b + sg0 c + d) % 4294967296
def schedTo (ws : List Nat) : Nat → List Nat
  | 0 => ws
  | k + 1 => schedTo ws k ++ [wNext ((schedTo ws k).getD (k + 14) 0) ((schedTo ws k).getD (k + 9) 0) ((schedTo ws k).getD (k + 1) 0) ((schedTo ws k).getD k 0)]
def wAt (ws : List Nat) (t : Nat) : Nat := (schedTo ws t).getD t 0

def kTab : List Nat := [
  0x428a2f98, 0x71374491, 0xb5c0fbcf, 0xe9b5dba5, 0x3956c25b, 0x59f111f1, 0x923f82a4, 0xab1c5ed5,
  0xd807aa98, 0x12835b01, 0x243185be, 0x550c7dc3, 0x72be5d74, 0x80deb1fe, 0x9bdc06a7, 0xc19bf174,
  0xe49b69c1, 0xefbe4786, 0x0fc19dc6, 0x240ca1cc, 0x2de92c6f, 0x4a7484aa, 0x5cb0a9dc, 0x76f988da,
  0x983e5152, 0xa831c66d, 0xb00327c8, 0xbf597fc7, 0xc6e00bf3, 0xd5a79147, 0x06ca6351, 0x14292967,
  0x27b70a85, 0x2e1b2138, 0x4d2c6dfc, 0x53380d13, 0x650a7354, 0x766a0abb, 0x81c2c92e, 0x92722c85,
  0xa2bfe8a1, 0xa81a664b, 0xc24b8b70, 0xc76c51a3, 0xd192e819, 0xd6990624, 0xf40e3585, 0x106aa070,
  0x19a4c116, 0x1e376c08, 0x2748774c, 0x34b0bcb5, 0x391c0cb3, 0x4ed8aa4a, 0x5b9cca4f, 0x682e6ff3,
  0x748f82ee, 0x78a5636f, 0x84c87814, 0x8cc70208, 0x90befffa, 0xa4506ceb, 0xbef9a3f7, 0xc67178f2]

structure H8 where
  (a b c d e f g h : Nat)
def H8.list (v : H8) : List Nat := [v.a, v.b, v.c, v.d, v.e, v.f, v.g, v.h]
structure H8.ok (v : H8) : Prop where
  a : v.a < 4294967296
  b : v.b < 4294967296
  c : v.c < 4294967296
  d : v.d < 4294967296
  e : v.e < 4294967296
  f : v.f < 4294967296
  g : v.g < 4294967296
  h : v.h < 4294967296
def t1Of (s : H8) (k w : Nat) : Nat := (s.h + bs1 s.e + ch s.e s.f s.g + k + w) % 4294967296
def rnd (s : H8) (k w : Nat) : H8 :=
  { a := (t1Of s k w + bs0 s.a + mj s.a s.b s.c) % 4294967296, b := s.a, c := s.b, d := s.c, e := (s.d + t1Of s k w) % 4294967296, f := s.e, g := s.f, h := s.g }
def rnds (ws : List Nat) (s : H8) : Nat → H8
  | 0 => s
  | t + 1 => rnd (rnds ws s t) (kTab.getD t 0) (wAt ws t)
def addV (v r : H8) : H8 := ⟨(v.a + r.a) % 4294967296, (v.b + r.b) % 4294967296, (v.c + r.c) % 4294967296, (v.d + r.d) % 4294967296, (v.e + r.e) % 4294967296, (v.f + r.f) % 4294967296, (v.g + r.g) % 4294967296, (v.h + r.h) % 4294967296⟩
def blk (v : H8) (ws : List Nat) : H8 := addV v (rnds ws v 64)
def h0 : H8 := ⟨0x6a09e667, 0xbb67ae85, 0x3c6ef372, 0xa54ff53a, 0x510e527f, 0x9b05688c, 0x1f83d9ab, 0x5be0cd19⟩
def wordsAt (bs : List Int) (i : Nat) : List Nat := (List.range 16).map fun t => (numZ ((bs.drop (64 * i + 4 * t)).take 4)).toNat
def behindTo (v : H8) (bs : List Int) : Nat → H8
  | 0 => v
  | i + 1 => blk (behindTo v bs i) (wordsAt bs i)
def behind (v : H8) (bs : List Int) : H8 := behindTo v bs (bs.length / 64)
def padZ (n : Nat) : List Int := 128 :: (List.replicate ((119 - n % 64) % 64) 0 ++ putZ ((8 * n : Nat) : Int) 8)
def tagZ (v : H8) : List Int := putZ v.a 4 ++ putZ v.b 4 ++ putZ v.c 4 ++ putZ v.d 4 ++ putZ v.e 4 ++ putZ v.f 4 ++ putZ v.g 4 ++ putZ v.h 4
def shaZ (bs : List Int) : List Int := tagZ (behind h0 (bs ++ padZ bs.length))

/-! ### bounds -/
theorem rot_lt {x k : Nat} (hx : x < 4294967296) (hk : k ≤ 32) : rotN x k < 4294967296 := rotN_lt x k hx hk
theorem xor_lt {x y : Nat} (hx : x < 4294967296) (hy : y < 4294967296) : x ^^^ y < 4294967296 := Nat.xor_lt_two_pow (n := 32) hx hy
theorem or_lt {x y : Nat} (hx : x < 4294967296) (hy : y < 4294967296) : x ||| y < 4294967296 := Nat.or_lt_two_pow (n := 32) hx hy
theorem and_lt {x y : Nat} (hy : y < 4294967296) : x &&& y < 4294967296 := Nat.and_lt_two_pow (n := 32) x hy
theorem mod_lt (x : Nat) : x % 4294967296 < 4294967296 := Nat.mod_lt _ (by omega)
theorem div_lt {x : Nat} (k : Nat) (hx : x < 4294967296) : x / 2 ^ k < 4294967296 := Nat.lt_of_le_of_lt (Nat.div_le_self _ _) hx
theorem rnd_ok {s : H8} (h : s.ok) (k w : Nat) : (rnd s k w).ok := ⟨mod_lt _, h.a, h.b, h.c, mod_lt _, h.e, h.f, h.g⟩
theorem rnds_ok (ws : List Nat) {s : H8} (h : s.ok) : ∀ t, (rnds ws s t).ok
  | 0 => h
  | t + 1 => rnd_ok (rnds_ok ws h t) _ _
theorem addV_ok (v r : H8) : (addV v r).ok := ⟨mod_lt _, mod_lt _, mod_lt _, mod_lt _, mod_lt _, mod_lt _, mod_lt _, mod_lt _⟩
theorem blk_ok (v : H8) (ws : List Nat) : (blk v ws).ok := addV_ok _ _
theorem h0_ok : h0.ok := by constructor <;> decide
theorem behindTo_ok {v : H8} (h : v.ok) (bs : List Int) : ∀ i, (behindTo v bs i).ok
  | 0 => h
  | i + 1 => blk_ok _ _
theorem behind_ok {v : H8} (h : v.ok) (bs : List Int) : (behind v bs).ok := behindTo_ok h _ _

/-! ### the schedule -/
theorem schedTo_len (ws : List Nat) (hl : ws.length = 16) : ∀ k, (schedTo ws k).length = 16 + k
  | 0 => hl
  | k + 1 => by simp [schedTo, schedTo_len ws hl k]; omega
theorem getD_app_lt {l r : List Nat} {j : Nat} (h : j < l.length) : (l ++ r).getD j 0 = l.getD j 0 := by
  simp [List.getD_eq_getElem?_getD, List.getElem?_append_left h]
theorem getD_app_at {l : List Nat} {x : Nat} {j : Nat} (h : j = l.length) : (l ++ [x]).getD j 0 = x := by
  subst h; simp [List.getD_eq_getElem?_getD]
theorem schedTo_stay (ws : List Nat) (hl : ws.length = 16) (k : Nat) : ∀ m j, j < 16 + k → (schedTo ws (k + m)).getD j 0 = (schedTo ws k).getD j 0
  | 0, j, h => rfl
  | m + 1, j, h => by
    show (schedTo ws (k + m) ++ _).getD j 0 = _
    rw [getD_app_lt (by rw [schedTo_len ws hl]; omega)]
    exact schedTo_stay ws hl k m j h
theorem sched_at (ws : List Nat) (hl : ws.length = 16) (k j : Nat) (h : j < 16 + k) : (schedTo ws k).getD j 0 = wAt ws j := by
  unfold wAt
  by_cases hk : k ≤ j
  · obtain ⟨m, rfl⟩ := Nat.exists_eq_add_of_le hk
    exact (schedTo_stay ws hl k m _ h).symm
  · obtain ⟨m, rfl⟩ := Nat.exists_eq_add_of_le (Nat.le_of_not_le hk)
    exact schedTo_stay ws hl j m j (by omega)
theorem wAt_lo (ws : List Nat) (hl : ws.length = 16) (t : Nat) (h : t < 16) : wAt ws t = ws.getD t 0 := (sched_at ws hl 0 t (by omega)).symm
theorem wAt_hi (ws : List Nat) (hl : ws.length = 16) (k : Nat) : wAt ws (16 + k) = wNext (wAt ws (k + 14)) (wAt ws (k + 9)) (wAt ws (k + 1)) (wAt ws k) := by
  rw [← sched_at ws hl (k + 1) (16 + k) (by omega)]
  show (schedTo ws k ++ [_]).getD (16 + k) 0 = _
  rw [getD_app_at (by rw [schedTo_len ws hl]), sched_at ws hl k _ (by omega), sched_at ws hl k _ (by omega), sched_at ws hl k _ (by omega), sched_at ws hl k _ (by omega)]
theorem wAt_lt (ws : List Nat) (hl : ws.length = 16) (hw : AllW ws) (t : Nat) : wAt ws t < 4294967296 := by
  by_cases h : t < 16
  · rw [wAt_lo ws hl t h]; exact hw t
  · obtain ⟨k, rfl⟩ := Nat.exists_eq_add_of_le (Nat.le_of_not_lt h)
    rw [wAt_hi ws hl]; exact mod_lt _
theorem wNext_lt (a b c d : Nat) : wNext a b c d < 4294967296 := mod_lt _
theorem u32s_len (l : List Nat) : (u32s l).length = l.length := by simp [u32s]
theorem u32s_at (l : List Nat) (j : Nat) (h : j < l.length) : (u32s l)[j]? = some (.int .u32 ((l.getD j 0 : Nat) : Int)) := by
  simp [u32s, List.getElem?_map, List.getElem?_eq_getElem h, List.getD_eq_getElem?_getD]
theorem u32s_one (l : List Nat) : ∀ v ∈ u32s l, v.oneCell' = true := by
  intro v hv
  simp only [u32s, List.mem_map] at hv
  obtain ⟨x, _, rfl⟩ := hv
  rfl
theorem getD_setN (l : List Nat) (k j x : Nat) (hk : k < l.length) : (l.set k x).getD j 0 = if k = j then x else l.getD j 0 := by
  simp only [List.getD_eq_getElem?_getD, List.getElem?_set]
  split
  · simp
  · rfl
theorem list_ext_N {a b : List Nat} (hl : a.length = b.length) (h : ∀ j, j < a.length → a.getD j 0 = b.getD j 0) : a = b := by
  apply List.ext_getElem hl
  intro j h1 h2
  have := h j h1
  simpa [List.getD_eq_getElem?_getD, List.getElem?_eq_getElem h1, List.getElem?_eq_getElem h2] using this
theorem kTab_lt (t : Nat) : kTab.getD t 0 < 4294967296 := by
  by_cases h : t < 64
  · have : ∀ t, t < 64 → kTab.getD t 0 < 4294967296 := by decide
    exact this t h
  · rw [List.getD_eq_getElem?_getD, List.getElem?_eq_none (by show 64 ≤ t; omega)]; decide

/-! ### blocks, one behind the other -/
theorem wordsAt_len (bs : List Int) (i : Nat) : (wordsAt bs i).length = 16 := by simp [wordsAt]
theorem wordsAt_at (bs : List Int) (i t : Nat) (h : t < 16) : (wordsAt bs i).getD t 0 = (numZ ((bs.drop (64 * i + 4 * t)).take 4)).toNat := by
  simp [wordsAt, List.getD_eq_getElem?_getD, h]
theorem wordsAt_lt (bs : List Int) (hb : IsBytes bs) (i : Nat) : AllW (wordsAt bs i) := by
  intro j
  by_cases h : j < 16
  · rw [wordsAt_at bs i j h]
    have := numZ_piece_range bs (64 * i + 4 * j) 4 4 (by omega) hb
    omega
  · rw [List.getD_eq_getElem?_getD, List.getElem?_eq_none (by rw [wordsAt_len]; omega)]; decide
theorem wordsAt_app_lo (a b : List Int) (i : Nat) (h : 64 * i + 64 ≤ a.length) : wordsAt (a ++ b) i = wordsAt a i := by
  refine list_ext_N (by rw [wordsAt_len, wordsAt_len]) (fun j hj => ?_)
  rw [wordsAt_len] at hj
  rw [wordsAt_at _ _ _ hj, wordsAt_at _ _ _ hj, List.drop_append_of_le_length (by omega), List.take_append_of_le_length (by simp; omega)]
theorem wordsAt_app_hi (a b : List Int) (n i : Nat) (h : a.length = 64 * n) : wordsAt (a ++ b) (n + i) = wordsAt b i := by
  refine list_ext_N (by rw [wordsAt_len, wordsAt_len]) (fun j hj => ?_)
  rw [wordsAt_len] at hj
  rw [wordsAt_at _ _ _ hj, wordsAt_at _ _ _ hj, show 64 * (n + i) + 4 * j = a.length + (64 * i + 4 * j) from by omega, List.drop_length_add_append]
theorem behindTo_app_lo (v : H8) (a b : List Int) : ∀ i, 64 * i ≤ a.length → behindTo v (a ++ b) i = behindTo v a i
  | 0, _ => rfl
  | i + 1, h => by
    show blk (behindTo v (a ++ b) i) (wordsAt (a ++ b) i) = _
    rw [behindTo_app_lo v a b i (by omega), wordsAt_app_lo a b i (by omega)]; rfl
theorem behindTo_app_hi (v : H8) (a b : List Int) (n : Nat) (h : a.length = 64 * n) : ∀ i, behindTo v (a ++ b) (n + i) = behindTo (behindTo v a n) b i
  | 0 => behindTo_app_lo v a b n (by omega)
  | i + 1 => by
    show blk (behindTo v (a ++ b) (n + i)) (wordsAt (a ++ b) (n + i)) = _
    rw [behindTo_app_hi v a b n h i, wordsAt_app_hi a b n i h]; rfl
/-- The bytes behind the whole blocks. -/
def restZ (bs : List Int) : List Int := bs.drop (64 * (bs.length / 64))
theorem restZ_len (bs : List Int) : (restZ bs).length = bs.length % 64 := by simp [restZ]; omega
theorem behind_more (v : H8) (a b : List Int) : behind (behind v a) (restZ a ++ b) = behind v (a ++ b) := by
  have hl : (a.take (64 * (a.length / 64))).length = 64 * (a.length / 64) := by simp; omega
  have e1 : a ++ b = a.take (64 * (a.length / 64)) ++ (restZ a ++ b) := by
    unfold restZ; rw [← List.append_assoc, List.take_append_drop]
  have e2 : (a ++ b).length / 64 = a.length / 64 + (restZ a ++ b).length / 64 := by
    simp only [List.length_append, restZ_len]; omega
  unfold behind
  rw [e2, e1, behindTo_app_hi v _ _ _ hl]
  congr 1
  have e3 := behindTo_app_lo v (a.take (64 * (a.length / 64))) (restZ a) (a.length / 64) (by omega)
  rw [← e3]
  unfold restZ; rw [List.take_append_drop]
theorem restZ_more (a b : List Int) : restZ (a ++ b) = (restZ a ++ b).drop (64 * ((restZ a ++ b).length / 64)) := by
  have hl : (a.take (64 * (a.length / 64))).length = 64 * (a.length / 64) := by simp; omega
  have e1 : a ++ b = a.take (64 * (a.length / 64)) ++ (restZ a ++ b) := by
    unfold restZ; rw [← List.append_assoc, List.take_append_drop]
  have e2 : (a ++ b).length / 64 = a.length / 64 + (restZ a ++ b).length / 64 := by
    simp only [List.length_append, restZ_len]; omega
  show (a ++ b).drop (64 * ((a ++ b).length / 64)) = _
  rw [e2, e1, show 64 * (a.length / 64 + (restZ a ++ b).length / 64) = (a.take (64 * (a.length / 64))).length + 64 * ((restZ a ++ b).length / 64) from by rw [hl]; omega, List.drop_length_add_append]
theorem restZ_bytes {bs : List Int} (h : IsBytes bs) : IsBytes (restZ bs) := by
  rw [isBytes_iff] at *
  intro z hz
  exact h z (List.mem_of_mem_drop hz)
theorem padZ_len (n : Nat) : (padZ n).length = 9 + (119 - n % 64) % 64 := by simp [padZ, putZ_len]; omega
theorem padZ_bytes (n : Nat) : IsBytes (padZ n) := by
  rw [isBytes_iff]
  intro z hz
  unfold padZ at hz
  rcases List.mem_cons.1 hz with rfl | hz
  · decide
  · rcases List.mem_append.1 hz with hz | hz
    · rw [List.mem_replicate] at hz; omega
    · exact (isBytes_iff.1 (putZ_bytes _ 8)) z hz
theorem shaZ_of (bs : List Int) : tagZ (behind (behind h0 bs) (restZ bs ++ padZ bs.length)) = shaZ bs := by
  rw [behind_more]; rfl
theorem tagZ_len (v : H8) : (tagZ v).length = 32 := by simp [tagZ, putZ_len]
theorem tagZ_bytes (v : H8) : IsBytes (tagZ v) := by
  unfold tagZ
  exact (((((((putZ_bytes _ 4).app (putZ_bytes _ 4)).app (putZ_bytes _ 4)).app (putZ_bytes _ 4)).app (putZ_bytes _ 4)).app (putZ_bytes _ 4)).app (putZ_bytes _ 4)).app (putZ_bytes _ 4)
end Go.Proofs.Ytlknjaoamkcmjaa.Sha
/- Arrays of numbers of 32 bits in blocks of their own: read whole, read and written cell by cell. -/
namespace Go.Proofs.Ytlknjaoamkcmjaa
open Go.ChangeShapes Go.WideShapes Go.ChangeAt Go.RowKit
set_option linter.unusedVariables false
open Plain Sha
/-- Block b holds the numbers l from its head on, and they may be written. -/
structure Row32 (w : World) (b : Nat) (l : List Nat) : Prop where
  cells : ∀ j, j < l.length → w.cell? ⟨b, j, none⟩ = some (.int .u32 ((l.getD j 0 : Nat) : Int))
  free : ∀ j, j < l.length → w.frozen? ⟨b, j, none⟩ = false
section
variable {w w' : World} {b B : Nat} {l : List Nat}
theorem Row32.lt (h : Row32 w b l) (hl : 0 < l.length) : b < w.heap.size := World.block_lt_of_cell? _ _ (h.cells 0 hl)
theorem Row32.alloc (h : Row32 w b l) (hl : 0 < l.length) (o : Obj) : Row32 (w.alloc o) b l :=
  ⟨fun j hj => by rw [World.cell?_alloc_lt _ _ _ (h.lt hl)]; exact h.cells j hj, fun j hj => by rw [World.frozen?_alloc_past _ _ _ (h.lt hl)]; exact h.free j hj⟩
theorem Row32.below (h : Row32 w b l) (hb : Below B w w') (hB : b < B) : Row32 w' b l :=
  ⟨fun j hj => (hb.cell (p := ⟨b, j, none⟩) hB).trans (h.cells j hj), fun j hj => (hb.frozen (p := ⟨b, j, none⟩) hB).trans (h.free j hj)⟩
theorem Row32.drewN (h : Row32 w b l) (n : Nat) : Row32 (w.drewN n) b l := ⟨h.1, h.2⟩
theorem Row32.drew (h : Row32 w b l) : Row32 w.drew b l := ⟨h.1, h.2⟩
theorem Row32.other (h : Row32 w b l) {p : Addr} (hp : p.block ≠ b) (u : Value) : Row32 (w.setCell p u) b l :=
  ⟨fun j hj => by rw [World.cell?_setCell_other w p _ u (fun e => by subst e; exact hp rfl)]; exact h.cells j hj, fun j hj => by rw [World.frozen?_setCell]; exact h.free j hj⟩
theorem Row32.set (h : Row32 w b l) (k x : Nat) (hk : k < l.length) : Row32 (w.setCell ⟨b, k, none⟩ (.int .u32 (x : Int))) b (l.set k x) := by
  refine ⟨fun j hj => ?_, fun j hj => ?_⟩
  · rw [List.length_set] at hj
    rw [getD_setN l k j x hk]
    split
    · next e => subst e; exact World.cell?_setCell_same _ _ _ (h.cells k hk)
    · next e => rw [World.cell?_setCell_other _ _ _ _ (fun e' => by injection e' with _ e2; exact e e2)]; exact h.cells j hj
  · rw [List.length_set] at hj
    rw [World.frozen?_setCell]; exact h.free j hj
theorem Row32.new (w : World) (l : List Nat) (t : TypeId) : Row32 (w.alloc (.cells (u32s l).toArray t)) w.heap.size l := by
  refine ⟨fun j hj => ?_, fun j hj => ?_⟩
  · rw [cell_of_row _ _ _ _ _ _ (heap_alloc_new w _)]
    simpa using u32s_at l j hj
  · exact frozen_of_row _ _ _ _ _ (heap_alloc_new w _)
theorem Row32.range (h : Row32 w b l) : w.rangeAt b 0 (u32s l) := fun j v hv => by
  have hj : j < l.length := by have := (List.getElem?_eq_some_iff.1 hv).1; rwa [u32s_len] at this
  rw [u32s_at l j hj] at hv
  rw [Nat.zero_add, h.cells j hj, hv]
theorem Row32.there (h : Row32 w b l) : w.there b 0 l.length := fun j hj => by
  rw [Nat.zero_add, h.cells j hj]; exact ⟨rfl, h.free j hj⟩
theorem Row32.thereFor (h : Row32 w b l) {r : List Nat} (hr : r.length = l.length) : w.there b 0 (u32s r).toArray.size := by
  have e : (u32s r).toArray.size = l.length := by rw [List.size_toArray, u32s_len, hr]
  rw [e]; exact h.there
theorem Row32.of_range (h : w.rangeAt b 0 (u32s l)) (ht : w.there b 0 l.length) : Row32 w b l :=
  ⟨fun j hj => by have := h j _ (u32s_at l j hj); rwa [Nat.zero_add] at this, fun j hj => by have := (ht j hj).2; rwa [Nat.zero_add] at this⟩
/-- The whole row is stored anew. -/
theorem Row32.store (h : Row32 w b l) {r : List Nat} (hr : r.length = l.length) : Row32 (w.setCells b 0 (u32s r)) b r := by
  have ht : w.there b 0 (u32s r).length := by rw [u32s_len, hr]; exact h.there
  exact .of_range (World.rangeAt_setCells_same w b 0 _ ht) (by rw [u32s_len] at ht; exact World.there_setCells ht _ _ _)
theorem Row32.storeOther (h : Row32 w b l) (b' o : Nat) (vs : List Value) (hb : b' ≠ b) : Row32 (w.setCells b' o vs) b l :=
  .of_range (World.rangeAt_setCells_apart h.range _ _ _ (.inl (fun e => hb e.symm))) (World.there_setCells h.there _ _ _)
theorem Row32.cell (h : Row32 w b l) {j : Nat} (hj : j < l.length) : ∃ x : Nat, Hid (l.getD j 0 = x) ∧ w.cell? ⟨b, j, none⟩ = some (.int .u32 (x : Int)) := ⟨_, rfl, h.cells j hj⟩
end
theorem below_setCells {B : Nat} {a : World} {b : Nat} (hb : B ≤ b) : ∀ (vs : List Value) (o : Nat) (w : World), Below B a w → Below B a (w.setCells b o vs)
  | [], _, _, h => h
  | v :: r, o, w, h => by rw [World.setCells]; exact below_setCells hb r (o + 1) _ (h.setCell (p := ⟨b, o, none⟩) hb v)
/-- A whole array is stored; the world behind it has a name of its own. -/
theorem wpList_store_as {P : Program} {ops : Array Oper} {rest : List Oper} {op : Oper} {a : Act} {w : World} {Q : Exit → Act → World → Prop} (hgd : op.guard = none) (ty : TypeId) (x y : Operand) (ho : op.op = .store ty x y)
    (b o : Nat) (cells : Array Value) (hx : a.eval x = .pointer (some ⟨b, o, none⟩)) (hy : a.eval y = .agg cells)
    (ht : w.there b o cells.size) (hi : (P.info? ty).map (·.size) = some cells.size) (h1 : cells.all (·.oneCell') = true)
    (h : ∀ w', Hid (w' = w.setCells b o cells.toList) → wpList P ops Q rest (a.put op.dst undef) w') : wpList P ops Q (op :: rest) a w :=
  wpList_store_mid hgd ty x y ho b o cells hx hy ht hi h1 (h _ (Lib.hid rfl))
theorem u32s_all (l : List Nat) : (u32s l).toArray.all (·.oneCell') = true := all_oneCell_toArray (u32s_one l)
/-- A result that is an array, in a cell of its own. -/
theorem results_mid {P : Program} {fn : Func} {p : Tmp} {ty : TypeId} (h : fn.results = #[.cell p ty]) (tmps : Array Value) (w : World) (b o : Nat) (cs : List Value) (d : TypeDesc)
    (hp : tmps.getD p undef = .pointer (some ⟨b, o, none⟩)) (hc : w.rangeAt b o cs) (hu : P.underlying ty = some d) (hd : d.isRow = true) (hi : (P.info? ty).map (·.size) = some cs.length) :
    (results fn tmps).run P w = .ok (.agg cs.toArray) w := by
  have hp' : tmps[p]?.getD undef = .pointer (some ⟨b, o, none⟩) := by simpa using hp
  simp [results, h, hp', asAddr, run_loadVar_mid w b o ty cs d hc hu hd hi]
theorem results_mid_tmp {P : Program} {fn : Func} {p u : Tmp} {ty : TypeId} (h : fn.results = #[.cell p ty, .tmp u]) (tmps : Array Value) (w : World) (b o : Nat) (cs : List Value) (d : TypeDesc)
    (hp : tmps.getD p undef = .pointer (some ⟨b, o, none⟩)) (hc : w.rangeAt b o cs) (hu : P.underlying ty = some d) (hd : d.isRow = true) (hi : (P.info? ty).map (·.size) = some cs.length) :
    (results fn tmps).run P w = .ok (.tuple #[.agg cs.toArray, tmps.getD u undef]) w := by
  rw [results_cell_tmp h, hp]
  simp [asAddr, run_loadVar_mid w b o ty cs d hc hu hd hi]
end Go.Proofs.Ytlknjaoamkcmjaa
/- The numbers of a block's schedule, as the program makes them. -/
namespace Go.Proofs.Ytlknjaoamkcmjaa
open Go.ChangeShapes Go.WideShapes Go.ChangeAt Go.RowKit
set_option linter.unusedVariables false
open Plain Sha
theorem allW_replicate (n : Nat) : AllW (List.replicate n 0) := fun j => by
  rw [List.getD_eq_getElem?_getD, List.getElem?_replicate]
  split <;> decide
theorem zero64 (w : World) (t : TypeId) : Row32 (w.alloc (.cells (u32s (List.replicate 64 0)).toArray t)) w.heap.size (List.replicate 64 0) := Row32.new w _ t
theorem sg0_bits (x : Nat) (h : x < 4294967296) : bits .xor .u32 (bits .xor .u32 (rotN x 7 : Nat) (rotN x 18 : Nat)) ((x : Int) / 8) = ((sg0 x : Nat) : Int) := by
  rw [show (x : Int) / 8 = ((x / 2 ^ 3 : Nat) : Int) from by omega, u32_xor_nat _ _ (rot_lt h (by omega)) (rot_lt h (by omega)), u32_xor_nat _ _ (xor_lt (rot_lt h (by omega)) (rot_lt h (by omega))) (div_lt 3 h)]
  rfl
theorem sg1_bits (x : Nat) (h : x < 4294967296) : bits .xor .u32 (bits .xor .u32 (rotN x 17 : Nat) (rotN x 19 : Nat)) ((x : Int) / 1024) = ((sg1 x : Nat) : Int) := by
  rw [show (x : Int) / 1024 = ((x / 2 ^ 10 : Nat) : Int) from by omega, u32_xor_nat _ _ (rot_lt h (by omega)) (rot_lt h (by omega)), u32_xor_nat _ _ (xor_lt (rot_lt h (by omega)) (rot_lt h (by omega))) (div_lt 10 h)]
  rfl
end Go.Proofs.Ytlknjaoamkcmjaa
/- A block's rounds, as the program makes them. -/
namespace Go.Proofs.Ytlknjaoamkcmjaa
open Go.ChangeShapes Go.WideShapes Go.ChangeAt Go.RowKit
set_option linter.unusedVariables false
open Plain Sha
theorem bs1_bits (x : Nat) (h : x < 4294967296) : bits .xor .u32 (bits .xor .u32 (rotN x 6 : Nat) (rotN x 11 : Nat)) (rotN x 25 : Nat) = ((bs1 x : Nat) : Int) := by
  rw [u32_xor_nat _ _ (rot_lt h (by omega)) (rot_lt h (by omega)), u32_xor_nat _ _ (xor_lt (rot_lt h (by omega)) (rot_lt h (by omega))) (rot_lt h (by omega))]
  rfl
theorem bs0_bits (x : Nat) (h : x < 4294967296) : bits .xor .u32 (bits .xor .u32 (rotN x 2 : Nat) (rotN x 13 : Nat)) (rotN x 22 : Nat) = ((bs0 x : Nat) : Int) := by
  rw [u32_xor_nat _ _ (rot_lt h (by omega)) (rot_lt h (by omega)), u32_xor_nat _ _ (xor_lt (rot_lt h (by omega)) (rot_lt h (by omega))) (rot_lt h (by omega))]
  rfl
theorem mj_bits (a b c : Nat) (ha : a < 4294967296) (hb : b < 4294967296) (hc : c < 4294967296) :
    bits .or .u32 (bits .or .u32 (bits .and .u32 (a : Int) (b : Int)) (bits .and .u32 (a : Int) (c : Int))) (bits .and .u32 (b : Int) (c : Int)) = ((mj a b c : Nat) : Int) := by
  rw [u32_and_nat _ _ ha hb, u32_and_nat _ _ ha hc, u32_and_nat _ _ hb hc, u32_or_nat _ _ (and_lt hb) (and_lt hc), u32_or_nat _ _ (or_lt (and_lt hb) (and_lt hc)) (and_lt hc)]
  rfl
theorem xor_ones (e : Nat) (h : e < 4294967296) : 4294967295 ^^^ e = 4294967295 - e := by
  apply Nat.eq_of_testBit_eq
  intro i
  have e1 : 4294967295 - e = 2 ^ 32 - (e + 1) := by omega
  rw [Nat.testBit_xor, e1, Nat.testBit_two_pow_sub_succ (n := 32) h, show (4294967295 : Nat) = 2 ^ 32 - 1 from rfl, Nat.testBit_two_pow_sub_one]
  by_cases hi : i < 32
  · simp [hi]
  · have : e.testBit i = false := Nat.testBit_lt_two_pow (Nat.lt_of_lt_of_le h (Nat.pow_le_pow_right (by omega : 2 > 0) (by omega : 32 ≤ i)))
    simp [hi, this]
theorem ch_bits (e f g : Nat) (he : e < 4294967296) (hf : f < 4294967296) (hg : g < 4294967296) :
    bits .or .u32 (bits .and .u32 (e : Int) (f : Int)) (bits .and .u32 (bits .xor .u32 IntKind.u32.max (e : Int)) (g : Int)) = ((ch e f g : Nat) : Int) := by
  have e1 : bits .xor .u32 IntKind.u32.max (e : Int) = ((4294967295 - e : Nat) : Int) := by
    have := u32_xor_nat 4294967295 e (by omega) he
    rw [xor_ones e he] at this
    exact this
  rw [e1, u32_and_nat _ _ he hf, u32_and_nat _ _ (by omega) hg, u32_or_nat _ _ (and_lt hf) (and_lt hg)]
  rfl
end Go.Proofs.Ytlknjaoamkcmjaa
/- Rows of bytes in the midst of blocks: read, copied into. -/
namespace Go.Proofs.Ytlknjaoamkcmjaa
open Go.ChangeShapes Go.WideShapes Go.ChangeAt Go.RowKit
set_option linter.unusedVariables false
open Plain Sha
/-- From offset o on block b holds the bytes l, and they may be written. -/
structure Row8 (w : World) (b o : Nat) (l : List Int) : Prop where
  range : w.rangeAt b o (vals l)
  there : w.there b o l.length
theorem vals_at (l : List Int) (j : Nat) (h : j < l.length) : (vals l)[j]? = some (.int .u8 (l.getD j 0)) := by
  simp [vals, List.getElem?_map, List.getElem?_eq_getElem h, List.getD_eq_getElem?_getD]
theorem rangeAt_same {w w' : World} {b o : Nat} {cs : List Value} (h : w.rangeAt b o cs) (e : w'.heap[b]? = w.heap[b]?) : w'.rangeAt b o cs := fun j v hv => (World.cell?_of_block (a := ⟨b, o + j, none⟩) e).trans (h j v hv)
theorem there_same {w w' : World} {b o n : Nat} (h : w.there b o n) (e : w'.heap[b]? = w.heap[b]?) : w'.there b o n := fun j hj => by
  rw [World.cell?_of_block (a := ⟨b, o + j, none⟩) e, World.frozen?_of_block (a := ⟨b, o + j, none⟩) e]; exact h j hj
theorem there_sub {w : World} {b o n o' n' : Nat} (h : w.there b o n) (h1 : o ≤ o') (h2 : o' + n' ≤ o + n) : w.there b o' n' := fun j hj => by
  have := h (o' - o + j) (by omega)
  rwa [show o + (o' - o + j) = o' + j from by omega] at this
theorem Row8.same {w w' : World} {b o : Nat} {l : List Int} (h : Row8 w b o l) (e : w'.heap[b]? = w.heap[b]?) : Row8 w' b o l := ⟨rangeAt_same h.range e, there_same h.there e⟩
theorem Row8.bs {w : World} {b o : Nat} {l : List Int} (h : Row8 w b o l) (hb : IsBytes l) {B : Nat} (hB : b < B) {n : Nat} (hn : n = l.length) : Bs w B (some ⟨b, o, none⟩) n l := by
  subst hn
  exact ⟨rfl, hb, fun _ => ⟨b, o, rfl, hB, fun j hj => h.range j _ (vals_at l j hj)⟩⟩
theorem splice_len {l zs : List Int} {k : Nat} (h : k + zs.length ≤ l.length) : (splice l k zs).length = l.length := length_splice l k zs h
theorem splice_at (l zs : List Int) (k j : Nat) (h : k + zs.length ≤ l.length) : (splice l k zs).getD j 0 = if k ≤ j ∧ j < k + zs.length then zs.getD (j - k) 0 else l.getD j 0 := by
  simp only [splice, List.getD_eq_getElem?_getD]
  by_cases h1 : j < k
  · rw [List.getElem?_append_left (by simp; omega), List.getElem?_take_of_lt h1, if_neg (by omega)]
  · have e : (l.take k).length = k := by simp; omega
    rw [List.getElem?_append_right (by omega), e]
    by_cases h2 : j < k + zs.length
    · rw [List.getElem?_append_left (by omega), if_pos ⟨by omega, h2⟩]
    · rw [List.getElem?_append_right (by omega), if_neg (by omega), List.getElem?_drop]
      congr 2; omega
/-- Bytes are laid over some of them. -/
theorem Row8.splice {w : World} {b o : Nat} {l : List Int} (h : Row8 w b o l) (k : Nat) (zs : List Int) (hk : k + zs.length ≤ l.length) : Row8 (w.setCells b (o + k) (vals zs)) b o (splice l k zs) := by
  have hl := splice_len hk
  refine ⟨fun j v hv => ?_, by rw [hl]; exact World.there_setCells h.there _ _ _⟩
  have hj : j < (Go.splice l k zs).length := by have := (List.getElem?_eq_some_iff.1 hv).1; rwa [vals_len] at this
  rw [vals_at _ j hj] at hv
  injection hv with hv
  subst hv
  rw [splice_at l zs k j hk]
  rw [hl] at hj
  split
  · next hc =>
    have := World.rangeAt_setCells_same w b (o + k) (vals zs) (fun i hi => by
      rw [vals_len] at hi
      have := h.there (k + i) (by omega)
      rwa [← Nat.add_assoc] at this) (j - k) _ (vals_at zs (j - k) (by omega))
    rwa [show o + k + (j - k) = o + j from by omega] at this
  · next hc =>
    rw [World.cell?_setCells_out b (vals zs) (o + k) w ⟨b, o + j, none⟩ (fun _ _ => by rw [vals_len]; show o + j < o + k ∨ o + k + zs.length ≤ o + j; omega)]
    exact h.range j _ (vals_at l j hj)
theorem Row8.storeOther {w : World} {b o : Nat} {l : List Int} (h : Row8 w b o l) (b' o' : Nat) (vs : List Value) (hb : b' ≠ b ∨ o + l.length ≤ o' ∨ o' + vs.length ≤ o) : Row8 (w.setCells b' o' vs) b o l :=
  ⟨World.rangeAt_setCells_apart h.range _ _ _ (by rw [vals_len]; rcases hb with h | h | h; exact .inl (fun e => h e.symm); exact .inr (.inl h); exact .inr (.inr h)), World.there_setCells h.there _ _ _⟩
theorem Row8.new (w : World) (l : List Int) (t : TypeId) : Row8 (w.alloc (.cells (vals l).toArray t)) w.heap.size 0 l := by
  refine ⟨fun j v hv => ?_, fun j hj => ?_⟩
  · rw [cell_of_row _ _ _ _ _ _ (heap_alloc_new w _), Nat.zero_add]
    simpa using hv
  · refine ⟨?_, frozen_of_row _ _ _ _ _ (heap_alloc_new w _)⟩
    rw [cell_of_row _ _ _ _ _ _ (heap_alloc_new w _), Nat.zero_add]
    have := vals_at l j hj
    simp [this]
theorem heap_setCells (b : Nat) (k : Nat) (hk : k ≠ b) : ∀ (vs : List Value) (o : Nat) (w : World), (w.setCells b o vs).heap[k]? = w.heap[k]?
  | [], _, _ => rfl
  | v :: r, o, w => by rw [World.setCells, heap_setCells b k hk r (o + 1)]; exact Below.heap_setCell w ⟨b, o, none⟩ v k hk
theorem grown_setCells {a : World} {b : Nat} : ∀ (vs : List Value) (o : Nat) (w : World), a.grownBy w (some b) → a.grownBy (w.setCells b o vs) (some b)
  | [], _, _, h => h
  | v :: r, o, w, h => by
    rw [World.setCells]
    refine grown_setCells r (o + 1) _ ⟨h.os, h.tape, h.output, by simpa [World.setCell] using h.size, fun i hi hne => ?_⟩
    exact (Below.heap_setCell w ⟨b, o, none⟩ v i (fun e => hne (by rw [e]))).trans (h.block i hi hne)
/-- copy, as a law for the walk: the cells go over; the world behind it has a name of its own. -/
theorem wpList_copy_as {P : Program} {w : World} {ops : Array Oper} {rest : List Oper} {o : Oper} {a : Act} {Q : Exit → Act → World → Prop} (hgd : o.guard = none) (d s : Operand) (dT sT : TypeId)
    (ho : o.op = .call { callee := .builtin .copy, args := #[d, s], argTypes := #[dT, sT] }) (elem : TypeId) (hu : P.underlying dT = some (.slice elem)) (hsz : (P.info? elem).map (·.size) = some 1)
    (dp sp : Option Addr) (dLen dCap sLen sCap : Nat) (hd : a.eval d = .slice dp dLen dCap) (hs : a.eval s = .slice sp sLen sCap)
    (g off : Nat) (cs : List Value) (hn : cs.length = Nat.min sLen dLen) (ht : w.there g off cs.length)
    (hpos : 0 < cs.length → dp = some ⟨g, off, none⟩ ∧ ∃ ad, sp = some ad ∧ ∀ j v, cs[j]? = some v → w.cell? (ad.add j) = some v)
    (h1 : ∀ v ∈ cs, v.oneCell' = true)
    (h : ∀ w', Hid (w' = w.setCells g off cs) → wpList P ops Q rest (a.put o.dst (goInt cs.length)) w') :
    wpList P ops Q (o :: rest) a w := by
  by_cases h0 : cs.length = 0
  · obtain rfl : cs = [] := List.eq_nil_of_length_eq_zero h0
    exact wpList_copy_nothing hgd d s dT sT ho elem hu hsz dp sp dLen dCap sLen sCap hd hs (by simpa using hn.symm) (h w (Lib.hid rfl))
  · obtain ⟨rfl, ad, rfl, hsrc⟩ := hpos (by omega)
    refine wpList_plain hgd fun K hK => ?_
    have hrun := run_copy_cells (P := P) w dT sT o.type elem g off dLen dCap ad sLen sCap cs hu hsz hn hsrc (fun j hj => (ht j hj).1) (fun j hj => (ht j hj).2) h1
    unfold Oper.wp
    simp [execOp, ho, resolve, invoke, builtin, hd, hs, hrun, Result.andThen]
    exact hK _ _ (h _ (Lib.hid rfl))
theorem step_copy_as {P : Program} {ops : Array Oper} {o : Oper} {a : Act} {w : World} {K : Act → World → Prop} {Q : Exit → Act → World → Prop} {E : Prop} (hgd : o.guard = none) (d s : Operand) (dT sT : TypeId)
    (ho : o.op = .call { callee := .builtin .copy, args := #[d, s], argTypes := #[dT, sT] }) (elem : TypeId) (hu : P.underlying dT = some (.slice elem)) (hsz : (P.info? elem).map (·.size) = some 1)
    (dp sp : Option Addr) (dLen dCap sLen sCap : Nat) (hd : a.eval d = .slice dp dLen dCap) (hs : a.eval s = .slice sp sLen sCap)
    (g off : Nat) (cs : List Value) (hn : cs.length = Nat.min sLen dLen) (ht : w.there g off cs.length)
    (hpos : 0 < cs.length → dp = some ⟨g, off, none⟩ ∧ ∃ ad, sp = some ad ∧ ∀ j v, cs[j]? = some v → w.cell? (ad.add j) = some v)
    (h1 : ∀ v ∈ cs, v.oneCell' = true)
    (h : ∀ w', Hid (w' = w.setCells g off cs) → K (a.put o.dst (goInt cs.length)) w') :
    if Region.wanted o (yielded ops a.tmps) = true then Oper.wp P o a w K Q else E := by
  have hw : Region.wanted o (yielded ops a.tmps) = true := by simp [Region.wanted, hgd]
  rw [if_pos hw]
  by_cases h0 : cs.length = 0
  · obtain rfl : cs = [] := List.eq_nil_of_length_eq_zero h0
    have hrun := run_copy_none (P := P) w dT sT o.type elem dp sp dLen dCap sLen sCap hu hsz (by simpa using hn.symm)
    unfold Oper.wp
    simp [execOp, ho, resolve, invoke, builtin, hd, hs, hrun, Result.andThen]
    exact h w (Lib.hid rfl)
  · obtain ⟨rfl, ad, rfl, hsrc⟩ := hpos (by omega)
    have hrun := run_copy_cells (P := P) w dT sT o.type elem g off dLen dCap ad sLen sCap cs hu hsz hn hsrc (fun j hj => (ht j hj).1) (fun j hj => (ht j hj).2) h1
    unfold Oper.wp
    simp [execOp, ho, resolve, invoke, builtin, hd, hs, hrun, Result.andThen]
    exact h _ (Lib.hid rfl)
end Go.Proofs.Ytlknjaoamkcmjaa
/- The blocks of bytes, told one by one; what stands behind them all. -/
namespace Go.Proofs.Ytlknjaoamkcmjaa
open Go.ChangeShapes Go.WideShapes Go.ChangeAt Go.RowKit Go.Shelf
set_option linter.unusedVariables false
open Plain Sha
attribute [local go_sem] Oper.semAt_some
abbrev Blk := { l : List Nat // l.length = 16 ∧ AllW l }
def blkAt (bs : List Int) (hb : IsBytes bs) (i : Nat) : Blk := ⟨wordsAt bs i, wordsAt_len bs i, wordsAt_lt bs hb i⟩
def upto (f : Nat → Blk) (k : Nat) : List Blk := (List.range k).map f
theorem upto_succ (f : Nat → Blk) (k : Nat) : upto f (k + 1) = upto f k ++ [f k] := by simp [upto, List.range_succ]
theorem upto_length (f : Nat → Blk) (k : Nat) : (upto f k).length = k := by simp [upto]
def Kept (n₀ Bn : Nat) (W W' : World) : Prop := Below n₀ W W' ∧ W'.heap[Bn]? = W.heap[Bn]?
theorem Kept.trans {n₀ Bn : Nat} {A B C : World} (h : Kept n₀ Bn A B) (k : Kept n₀ Bn B C) : Kept n₀ Bn A C := ⟨h.1.trans k.1, k.2.trans h.2⟩
theorem Kept.refl (n₀ Bn : Nat) (A : World) : Kept n₀ Bn A A := ⟨Below.refl _ _, rfl⟩
/-- Of bytes the number at a place. -/
theorem load_at (bs : List Int) (hb : IsBytes bs) (i t : Nat) (h : 64 * i + 64 ≤ bs.length) (ht : t < 16) :
    loadZ bs ((64 * i + 4 * t : Nat) : Int) 4 = (((wordsAt bs i).getD t 0 : Nat) : Int) := by
  rw [loadZ_yes _ _ _ (by omega), wordsAt_at bs i t ht]
  have := numZ_piece_range bs (64 * i + 4 * t) 4 4 (by omega) hb
  omega
/-- A whole array is read, stored, inside a fence. -/
theorem wpListIn_load_mid {F : Fence} {n : Nat} {P : Program} {ops : Array Oper} {rest : List Oper} {o : Oper} {a : Act} {w : World} {Q : Exit → Act → World → Prop} (hg : o.guard = none) (ty : TypeId) (x : Operand) (hop : o.op = .load ty x)
    (b off : Nat) (hx : a.eval x = .pointer (some ⟨b, off, none⟩)) (cs : List Value) (d : TypeDesc) (hc : w.rangeAt b off cs)
    (hu : P.underlying ty = some d) (hd : d.isRow = true) (hi : (P.info? ty).map (·.size) = some cs.length)
    (h : wpListIn F n P ops Q rest (a.put o.dst (.agg cs.toArray)) w) : wpListIn F n P ops Q (o :: rest) a w := by
  refine wpListIn_plain hg fun K hK => ?_
  unfold Oper.wpIn
  refine ⟨?_, ?_⟩
  · simp [Oper.about, hop]
  · rw [Oper.semAt_plain F _ _ (by rw [hop]; intro c hc'; cases hc')]
    unfold execOp
    simp only [hop, hx, Instr.loadAt, Instr.sureAddr, Sem.run_bind, Sem.run_pure, Result.andThen_ok, run_loadVar_mid w b off ty cs d hc hu hd hi]
    exact hK _ _ h
theorem wpListIn_store_as {F : Fence} {n : Nat} {P : Program} {ops : Array Oper} {rest : List Oper} {o : Oper} {a : Act} {w : World} {Q : Exit → Act → World → Prop} (hg : o.guard = none) (ty : TypeId) (x y : Operand) (hop : o.op = .store ty x y)
    (b off : Nat) (cells : Array Value) (hx : a.eval x = .pointer (some ⟨b, off, none⟩)) (hy : a.eval y = .agg cells)
    (ht : w.there b off cells.size) (hi : (P.info? ty).map (·.size) = some cells.size) (h1 : cells.all (·.oneCell') = true)
    (h : ∀ w', Hid (w' = w.setCells b off cells.toList) → wpListIn F n P ops Q rest (a.put o.dst undef) w') : wpListIn F n P ops Q (o :: rest) a w := by
  refine wpListIn_plain hg fun K hK => ?_
  unfold Oper.wpIn
  refine ⟨?_, ?_⟩
  · simp [Oper.about, hop]
  · rw [Oper.semAt_plain F _ _ (by rw [hop]; intro c hc'; cases hc')]
    unfold execOp
    simp only [hop, hx, hy, Instr.storeAt, Instr.sureAddr, Sem.run_bind, Sem.run_pure, Result.andThen_ok, run_storeVar_mid w b off ty cells ht hi h1]
    exact hK _ _ (h _ (Lib.hid rfl))
theorem below_grown {w w' : World} (h : Below w.heap.size w w') : w.grownBy w' none := ⟨h.os, h.tape, h.output, h.size, fun i hi _ => h.block i hi⟩
theorem word_lt (bs : List Int) (hb : IsBytes bs) (i t : Nat) : (wordsAt bs i).getD t 0 < 4294967296 := wordsAt_lt bs hb i t
end Go.Proofs.Ytlknjaoamkcmjaa
/- What stands behind all blocks of some bytes. -/
namespace Go.Proofs.Ytlknjaoamkcmjaa
open Go.ChangeShapes Go.WideShapes Go.ChangeAt Go.RowKit Go.Shelf
set_option linter.unusedVariables false
open Plain Sha
attribute [local go_sem] Oper.semAt_some
theorem Row32.kept {W W' : World} {row : Option Nat} {b : Nat} {l : List Nat} (h : Row32 W b l) (hg : W.grownBy W' row) (hr : ∀ r, row = some r → ∃ o : Obj, W.heap[r]? = some o ∧ o.isCells = false) : Row32 W' b l :=
  ⟨fun j hj => cell_kept (h.cells j hj) hg hr, fun j hj => (frozen_kept (h.cells j hj) hg hr).trans (h.free j hj)⟩
def accB (v : H8) (pre : List Blk) : H8 := pre.foldl (fun v x => blk v x.1) v
theorem accB_snoc (v : H8) (pre : List Blk) (x : Blk) : accB v (pre ++ [x]) = blk (accB v pre) x.1 := by simp [accB]
theorem accB_upto (v : H8) (bs : List Int) (hb : IsBytes bs) : ∀ k, accB v (upto (blkAt bs hb) k) = behindTo v bs k
  | 0 => rfl
  | k + 1 => by rw [upto_succ, accB_snoc, accB_upto v bs hb k]; rfl
theorem accB_ok {v : H8} (h : v.ok) (pre : List Blk) : (accB v pre).ok := by
  rcases pre.eq_nil_or_concat with rfl | ⟨l, x, rfl⟩
  · exact h
  · rw [List.concat_eq_append, accB_snoc]; exact blk_ok _ _
theorem H8.len (v : H8) : v.list.length = 8 := rfl
theorem keeps_below {W W' : World} (h : Below W.heap.size W W') : KeepsOthers W W' := ⟨h.size, fun k o hk _ => (h.block k (Array.getElem?_eq_some_iff.1 hk).1).trans hk⟩
theorem keeps_setCells (b : Nat) : ∀ (vs : List Value) (o : Nat) (w : World), KeepsOthers w (w.setCells b o vs)
  | [], _, w => KeepsOthers.refl w
  | v :: r, o, w => by rw [World.setCells]; exact (KeepsOthers.setCell w ⟨b, o, none⟩ v).trans (keeps_setCells b r (o + 1) _)
end Go.Proofs.Ytlknjaoamkcmjaa
