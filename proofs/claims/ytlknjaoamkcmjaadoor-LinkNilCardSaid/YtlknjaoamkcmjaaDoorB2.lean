/- Texts of the proof, one behind the other: Sha Row Spread Block Row8 Blocks Behind. -/
import Derived.Test.YtlknjaoamkcmjaaDoorB1
import Derived.Deep.MidRow
import Derived.Laws.ShiftsVarLaws
import Derived.Laws.ResultCell
import Derived.Laws.CopyOwn
import Derived.RangeFuncNested
import Derived.RangeFuncBound
import Derived.RangeFuncCalls
import Derived.RangeFuncLeaves
import Derived.RangeFuncBox
import Derived.Shelf.Abstract
import Derived.Shelf.RegionOpen
import Derived.OwnWalkIn
import Derived.TacticsInMore
import Derived.LoopNIn
import Derived.LoopIn
/- Plain facts on the hash: the numbers of a block's schedule, its rounds, the blocks of a message, the message's end, the tag. Nothing of the program's text. -/
namespace Go.Proofs.YtlknjaoamkcmjaaDoor.Sha
open Go.Proofs.YtlknjaoamkcmjaaDoor.Plain
set_option linter.unusedVariables false

def u32s (l : List Nat) : List Value := l.map (fun (x : Nat) => Value.int .u32 (x : Int))
def AllW (l : List Nat) : Prop := ∀ j, l.getD j 0 < 4294967296
def sg0 (x : Nat) : Nat := rotN x 7 ^^^ rotN x 18 ^^^ x / 2 ^ 3
def sg1 (x : Nat) : Nat := rotN x 17 ^^^ rotN x 19 ^^^ x / 2 ^ 10
def bs0 (x : Nat) : Nat := rotN x 2 ^^^ rotN x 13 ^^^ rotN x 22
def bs1 (x : Nat) : Nat := rotN x 6 ^^^ rotN x 11 ^^^ rotN x 25
def ch (e f g : Nat) : Nat := (e &&& f) ||| ((4294967295 - e) &&& g)
def mj (a b c : Nat) : Nat := (a &&& b) ||| (a &&& c) ||| (b &&& c)
def wNext (a b c d : Nat) : Nat := (sg1 a + b + sg0 c + d) % 4294967296
def schedTo (ws : List Nat) : Nat → List Nat
  | 0 => ws
  | k + 1 => schedTo ws k ++ [wNext ((schedTo ws k).getD (k + 14) 0) ((schedTo ws k).getD (k + 9) 0) ((schedTo ws k).getD (k + 1) 0) ((schedTo ws k).getD k 0)]
def wAt (ws : List Nat) (t : Nat) : Nat := (schedTo ws t).getD t 0

def kTab : List Nat := [
  0x428a2f98, 0x71374491, 0xb5c0fbcf, 0xe9b5dba5, 0x3956c25b, 0x59f111f1, 0x923f82a4, 0xab1c5ed5,
  0xd807aa98, 0x12835b01, 0x243185be, 0x550c7dc3, 0x72be5d74, 0x80deb1fe, 0x9bdc06a7, 0xc19bf174,
  0xe49b69c1, 0xefbe4786, 0x0fc19dc6, 0x240ca1cc, 0x2de92c6f, 0x4a7484aa, 0x5cb0a9dc, 0x76f988da,
  0x983e5152, 0xa831c66d, 0xb00327c8, 0xbf597fc7, 0xc6e00bf3, 0xd5a79147, 0x06ca6351, 0x14292967,
  0x27b70a85, 0x2e1b2138, 0x4d2c6dfc, 0x53380d13, 0x650a7354, 0x766a0abb, 0x81c2c92e, 0x92722c85,
  0xa2bfe8a1, 0xa81a664b, 0xc24b8b70, 0xc76c51a3, 0xd192e819, 0xd6990624, 0xf40e3585, 0x106aa070,
  0x19a4c116, 0x1e376c08, 0x2748774c, 0x34b0bcb5, 0x391c0cb3, 0x4ed8aa4a, 0x5b9cca4f, 0x682e6ff3,
  0x748f82ee, 0x78a5636f, 0x84c87814, 0x8cc70208, 0x90befffa, 0xa4506ceb, 0xbef9a3f7, 0xc67178f2]

structure H8 where
  (a b c d e f g h : Nat)
def H8.list (v : H8) : List Nat := [v.a, v.b, v.c, v.d, v.e, v.f, v.g, v.h]
structure H8.ok (v : H8) : Prop where
  a : v.a < 4294967296
  b : v.b < 4294967296
  c : v.c < 4294967296
  d : v.d < 4294967296
  e : v.e < 4294967296
  f : v.f < 4294967296
  g : v.g < 4294967296
  h : v.h < 4294967296
def t1Of (s : H8) (k w : Nat) : Nat := (s.h + bs1 s.e + ch s.e s.f s.g + k + w) % 4294967296
def rnd (s : H8) (k w : Nat) : H8 :=
  { a := (t1Of s k w + bs0 s.a + mj s.a s.b s.c) % 4294967296, b := s.a, c := s.b, d := s.c, e := (s.d + t1Of s k w) % 4294967296, f := s.e, g := s.f, h := s.g }
def rnds (ws : List Nat) (s : H8) : Nat → H8
  | 0 => s
  | t + 1 => rnd (rnds ws s t) (kTab.getD t 0) (wAt ws t)
def addV (v r : H8) : H8 := ⟨(v.a + r.a) % 4294967296, (v.b + r.b) % 4294967296, (v.c + r.c) % 4294967296, (v.d + r.d) % 4294967296, (v.e + r.e) % 4294967296, (v.f + r.f) % 4294967296, (v.g + r.g) % 4294967296, (v.h + r.h) % 4294967296⟩
def blk (v : H8) (ws : List Nat) : H8 := addV v (rnds ws v 64)
def h0 : H8 := ⟨0x6a09e667, 0xbb67ae85, 0x3c6ef372, 0xa54ff53a, 0x510e527f, 0x9b05688c, 0x1f83d9ab, 0x5be0cd19⟩
def wordsAt (bs : List Int) (i : Nat) : List Nat := (List.range 16).map fun t => (numZ ((bs.drop (64 * i + 4 * t)).take 4)).toNat
def behindTo (v : H8) (bs : List Int) : Nat → H8
  | 0 => v
  | i + 1 => blk (behindTo v bs i) (wordsAt bs i)
def behind (v : H8) (bs : List Int) : H8 := behindTo v bs (bs.length / 64)
def padZ (n : Nat) : List Int := 128 :: (List.replicate ((119 - n % 64) % 64) 0 ++ putZ ((8 * n : Nat) : Int) 8)
def tagZ (v : H8) : List Int := putZ v.a 4 ++ putZ v.b 4 ++ putZ v.c 4 ++ putZ v.d 4 ++ putZ v.e 4 ++ putZ v.f 4 ++ putZ v.g 4 ++ putZ v.h 4
def shaZ (bs : List Int) : List Int := tagZ (behind h0 (bs ++ padZ bs.length))

/-! ### bounds -/
theorem rot_lt {x k : Nat} (hx : x < 4294967296) (hk : k ≤ 32) : rotN x k < 4294967296 := rotN_lt x k hx hk
theorem xor_lt {x y : Nat} (hx : x < 4294967296) (hy : y < 4294967296) : x ^^^ y < 4294967296 := Nat.xor_lt_two_pow (n := 32) hx hy
theorem or_lt {x y : Nat} (hx : x < 4294967296) (hy : y < 4294967296) : x ||| y < 4294967296 := Nat.or_lt_two_pow (n := 32) hx hy
theorem and_lt {x y : Nat} (hy : y < 4294967296) : x &&& y < 4294967296 := Nat.and_lt_two_pow (n := 32) x hy
theorem mod_lt (x : Nat) : x % 4294967296 < 4294967296 := Nat.mod_lt _ (by omega)
theorem div_lt {x : Nat} (k : Nat) (hx : x < 4294967296) : x / 2 ^ k < 4294967296 := Nat.lt_of_le_of_lt (Nat.div_le_self _ _) hx
theorem rnd_ok {s : H8} (h : s.ok) (k w : Nat) : (rnd s k w).ok := ⟨mod_lt _, h.a, h.b, h.c, mod_lt _, h.e, h.f, h.g⟩
theorem rnds_ok (ws : List Nat) {s : H8} (h : s.ok) : ∀ t, (rnds ws s t).ok
  | 0 => h
  | t + 1 => rnd_ok (rnds_ok ws h t) _ _
theorem addV_ok (v r : H8) : (addV v r).ok := ⟨mod_lt _, mod_lt _, mod_lt _, mod_lt _, mod_lt _, mod_lt _, mod_lt _, mod_lt _⟩
theorem blk_ok (v : H8) (ws : List Nat) : (blk v ws).ok := addV_ok _ _
theorem h0_ok : h0.ok := by constructor <;> decide
theorem behindTo_ok {v : H8} (h : v.ok) (bs : List Int) : ∀ i, (behindTo v bs i).ok
  | 0 => h
  | i + 1 => blk_ok _ _
theorem behind_ok {v : H8} (h : v.ok) (bs : List Int) : (behind v bs).ok := behindTo_ok h _ _

/-! ### the schedule -/
theorem schedTo_len (ws : List Nat) (hl : ws.length = 16) : ∀ k, (schedTo ws k).length = 16 + k
  | 0 => hl
  | k + 1 => by simp [schedTo, schedTo_len ws hl k]; omega
theorem getD_app_lt {l r : List Nat} {j : Nat} (h : j < l.length) : (l ++ r).getD j 0 = l.getD j 0 := by
  simp [List.getD_eq_getElem?_getD, List.getElem?_append_left h]
theorem getD_app_at {l : List Nat} {x : Nat} {j : Nat} (h : j = l.length) : (l ++ [x]).getD j 0 = x := by
  subst h; simp [List.getD_eq_getElem?_getD]
theorem schedTo_stay (ws : List Nat) (hl : ws.length = 16) (k : Nat) : ∀ m j, j < 16 + k → (schedTo ws (k + m)).getD j 0 = (schedTo ws k).getD j 0
  | 0, j, h => rfl
  | m + 1, j, h => by
    show (schedTo ws (k + m) ++ _).getD j 0 = _
    rw [getD_app_lt (by rw [schedTo_len ws hl]; omega)]
    exact schedTo_stay ws hl k m j h
theorem sched_at (ws : List Nat) (hl : ws.length = 16) (k j : Nat) (h : j < 16 + k) : (schedTo ws k).getD j 0 = wAt ws j := by
  unfold wAt
  by_cases hk : k ≤ j
  · obtain ⟨m, rfl⟩ := Nat.exists_eq_add_of_le hk
    exact (schedTo_stay ws hl k m _ h).symm
  · obtain ⟨m, rfl⟩ := Nat.exists_eq_add_of_le (Nat.le_of_not_le hk)
    exact schedTo_stay ws hl j m j (by omega)
theorem wAt_lo (ws : List Nat) (hl : ws.length = 16) (t : Nat) (h : t < 16) : wAt ws t = ws.getD t 0 := (sched_at ws hl 0 t (by omega)).symm
theorem wAt_hi (ws : List Nat) (hl : ws.length = 16) (k : Nat) : wAt ws (16 + k) = wNext (wAt ws (k + 14)) (wAt ws (k + 9)) (wAt ws (k + 1)) (wAt ws k) := by
  rw [← sched_at ws hl (k + 1) (16 + k) (by omega)]
  show (schedTo ws k ++ [_]).getD (16 + k) 0 = _
  rw [getD_app_at (by rw [schedTo_len ws hl]), sched_at ws hl k _ (by omega), sched_at ws hl k _ (by omega), sched_at ws hl k _ (by omega), sched_at ws hl k _ (by omega)]
theorem wAt_lt (ws : List Nat) (hl : ws.length = 16) (hw : AllW ws) (t : Nat) : wAt ws t < 4294967296 := by
  by_cases h : t < 16
  · rw [wAt_lo ws hl t h]; exact hw t
  · obtain ⟨k, rfl⟩ := Nat.exists_eq_add_of_le (Nat.le_of_not_lt h)
    rw [wAt_hi ws hl]; exact mod_lt _
theorem wNext_lt (a b c d : Nat) : wNext a b c d < 4294967296 := mod_lt _
theorem u32s_len (l : List Nat) : (u32s l).length = l.length := by simp [u32s]
theorem u32s_at (l : List Nat) (j : Nat) (h : j < l.length) : (u32s l)[j]? = some (.int .u32 ((l.getD j 0 : Nat) : Int)) := by
  simp [u32s, List.getElem?_map, List.getElem?_eq_getElem h, List.getD_eq_getElem?_getD]
theorem u32s_one (l : List Nat) : ∀ v ∈ u32s l, v.oneCell' = true := by
  intro v hv
  simp only [u32s, List.mem_map] at hv
  obtain ⟨x, _, rfl⟩ := hv
  rfl
theorem getD_setN (l : List Nat) (k j x : Nat) (hk : k < l.length) : (l.set k x).getD j 0 = if k = j then x else l.getD j 0 := by
  simp only [List.getD_eq_getElem?_getD, List.getElem?_set]
  split
  · simp
  · rfl
theorem list_ext_N {a b : List Nat} (hl : a.length = b.length) (h : ∀ j, j < a.length → a.getD j 0 = b.getD j 0) : a = b := by
  apply List.ext_getElem hl
  intro j h1 h2
  have := h j h1
  simpa [List.getD_eq_getElem?_getD, List.getElem?_eq_getElem h1, List.getElem?_eq_getElem h2] using this
theorem kTab_lt (t : Nat) : kTab.getD t 0 < 4294967296 := by
  by_cases h : t < 64
  · have : ∀ t, t < 64 → kTab.getD t 0 < 4294967296 := by decide
    exact this t h
  · rw [List.getD_eq_getElem?_getD, List.getElem?_eq_none (by show 64 ≤ t; omega)]; decide

/-! ### blocks, one behind the other -/
theorem wordsAt_len (bs : List Int) (i : Nat) : (wordsAt bs i).length = 16 := by simp [wordsAt]
theorem wordsAt_at (bs : List Int) (i t : Nat) (h : t < 16) : (wordsAt bs i).getD t 0 = (numZ ((bs.drop (64 * i + 4 * t)).take 4)).toNat := by
  simp [wordsAt, List.getD_eq_getElem?_getD, h]
theorem wordsAt_lt (bs : List Int) (hb : IsBytes bs) (i : Nat) : AllW (wordsAt bs i) := by
  intro j
  by_cases h : j < 16
  · rw [wordsAt_at bs i j h]
    have := numZ_piece_range bs (64 * i + 4 * j) 4 4 (by omega) hb
    omega
  · rw [List.getD_eq_getElem?_getD, List.getElem?_eq_none (by rw [wordsAt_len]; omega)]; decide
theorem wordsAt_app_lo (a b : List Int) (i : Nat) (h : 64 * i + 64 ≤ a.length) : wordsAt (a ++ b) i = wordsAt a i := by
  refine list_ext_N (by rw [wordsAt_len, wordsAt_len]) (fun j hj => ?_)
  rw [wordsAt_len] at hj
  rw [wordsAt_at _ _ _ hj, wordsAt_at _ _ _ hj, List.drop_append_of_le_length (by omega), List.take_append_of_le_length (by simp; omega)]
theorem wordsAt_app_hi (a b : List Int) (n i : Nat) (h : a.length = 64 * n) : wordsAt (a ++ b) (n + i) = wordsAt b i := by
  refine list_ext_N (by rw [wordsAt_len, wordsAt_len]) (fun j hj => ?_)
  rw [wordsAt_len] at hj
  rw [wordsAt_at _ _ _ hj, wordsAt_at _ _ _ hj, show 64 * (n + i) + 4 * j = a.length + (64 * i + 4 * j) from by omega, List.drop_length_add_append]
theorem behindTo_app_lo (v : H8) (a b : List Int) : ∀ i, 64 * i ≤ a.length → behindTo v (a ++ b) i = behindTo v a i
  | 0, _ => rfl
  | i + 1, h => by
    show blk (behindTo v (a ++ b) i) (wordsAt (a ++ b) i) = _
    rw [behindTo_app_lo v a b i (by omega), wordsAt_app_lo a b i (by omega)]; rfl
theorem behindTo_app_hi (v : H8) (a b : List Int) (n : Nat) (h : a.length = 64 * n) : ∀ i, behindTo v (a ++ b) (n + i) = behindTo (behindTo v a n) b i
  | 0 => behindTo_app_lo v a b n (by omega)
  | i + 1 => by
    show blk (behindTo v (a ++ b) (n + i)) (wordsAt (a ++ b) (n + i)) = _
    rw [behindTo_app_hi v a b n h i, wordsAt_app_hi a b n i h]; rfl
/-- The bytes behind the whole blocks. -/
def restZ (bs : List Int) : List Int := bs.drop (64 * (bs.length / 64))
theorem restZ_len (bs : List Int) : (restZ bs).length = bs.length % 64 := by simp [restZ]; omega
theorem behind_more (v : H8) (a b : List Int) : behind (behind v a) (restZ a ++ b) = behind v (a ++ b) := by
  have hl : (a.take (64 * (a.length / 64))).length = 64 * (a.length / 64) := by simp; omega
  have e1 : a ++ b = a.take (64 * (a.length / 64)) ++ (restZ a ++ b) := by
    unfold restZ; rw [← List.append_assoc, List.take_append_drop]
  have e2 : (a ++ b).length / 64 = a.length / 64 + (restZ a ++ b).length / 64 := by
    simp only [List.length_append, restZ_len]; omega
  unfold behind
  rw [e2, e1, behindTo_app_hi v _ _ _ hl]
  congr 1
  have e3 := behindTo_app_lo v (a.take (64 * (a.length / 64))) (restZ a) (a.length / 64) (by omega)
  rw [← e3]
  unfold restZ; rw [List.take_append_drop]
theorem restZ_more (a b : List Int) : restZ (a ++ b) = (restZ a ++ b).drop (64 * ((restZ a ++ b).length / 64)) := by
  have hl : (a.take (64 * (a.length / 64))).length = 64 * (a.length / 64) := by simp; omega
  have e1 : a ++ b = a.take (64 * (a.length / 64)) ++ (restZ a ++ b) := by
    unfold restZ; rw [← List.append_assoc, List.take_append_drop]
  have e2 : (a ++ b).length / 64 = a.length / 64 + (restZ a ++ b).length / 64 := by
    simp only [List.length_append, restZ_len]; omega
  show (a ++ b).drop (64 * ((a ++ b).length / 64)) = _
  rw [e2, e1, show 64 * (a.length / 64 + (restZ a ++ b).length / 64) = (a.take (64 * (a.length / 64))).length + 64 * ((restZ a ++ b).length / 64) from by rw [hl]; omega, List.drop_length_add_append]
theorem restZ_bytes {bs : List Int} (h : IsBytes bs) : IsBytes (restZ bs) := by
  rw [isBytes_iff] at *
  intro z hz
  exact h z (List.mem_of_mem_drop hz)
theorem padZ_len (n : Nat) : (padZ n).length = 9 + (119 - n % 64) % 64 := by simp [padZ, putZ_len]; omega
theorem padZ_bytes (n : Nat) : IsBytes (padZ n) := by
  rw [isBytes_iff]
  intro z hz
  unfold padZ at hz
  rcases List.mem_cons.1 hz with rfl | hz
  · decide
  · rcases List.mem_append.1 hz with hz | hz
    · rw [List.mem_replicate] at hz; omega
    · exact (isBytes_iff.1 (putZ_bytes _ 8)) z hz
theorem shaZ_of (bs : List Int) : tagZ (behind (behind h0 bs) (restZ bs ++ padZ bs.length)) = shaZ bs := by
  rw [behind_more]; rfl
theorem tagZ_len (v : H8) : (tagZ v).length = 32 := by simp [tagZ, putZ_len]
theorem tagZ_bytes (v : H8) : IsBytes (tagZ v) := by
  unfold tagZ
  exact (((((((putZ_bytes _ 4).app (putZ_bytes _ 4)).app (putZ_bytes _ 4)).app (putZ_bytes _ 4)).app (putZ_bytes _ 4)).app (putZ_bytes _ 4)).app (putZ_bytes _ 4)).app (putZ_bytes _ 4)
end Go.Proofs.YtlknjaoamkcmjaaDoor.Sha
/- Arrays of numbers of 32 bits in blocks of their own: read whole, read and written cell by cell. -/
namespace Go.Proofs.YtlknjaoamkcmjaaDoor
open Go.ChangeShapes Go.WideShapes Go.ChangeAt Go.RowKit
set_option linter.unusedVariables false
open Plain Sha
/-- Block b holds the numbers l from its head on, and they may be written. -/
structure Row32 (w : World) (b : Nat) (l : List Nat) : Prop where
  cells : ∀ j, j < l.length → w.cell? ⟨b, j, none⟩ = some (.int .u32 ((l.getD j 0 : Nat) : Int))
  free : ∀ j, j < l.length → w.frozen? ⟨b, j, none⟩ = false
section
variable {w w' : World} {b B : Nat} {l : List Nat}
theorem Row32.lt (h : Row32 w b l) (hl : 0 < l.length) : b < w.heap.size := World.block_lt_of_cell? _ _ (h.cells 0 hl)
theorem Row32.alloc (h : Row32 w b l) (hl : 0 < l.length) (o : Obj) : Row32 (w.alloc o) b l :=
  ⟨fun j hj => by rw [World.cell?_alloc_lt _ _ _ (h.lt hl)]; exact h.cells j hj, fun j hj => by rw [World.frozen?_alloc_past _ _ _ (h.lt hl)]; exact h.free j hj⟩
theorem Row32.below (h : Row32 w b l) (hb : Below B w w') (hB : b < B) : Row32 w' b l :=
  ⟨fun j hj => (hb.cell (p := ⟨b, j, none⟩) hB).trans (h.cells j hj), fun j hj => (hb.frozen (p := ⟨b, j, none⟩) hB).trans (h.free j hj)⟩
theorem Row32.drewN (h : Row32 w b l) (n : Nat) : Row32 (w.drewN n) b l := ⟨h.1, h.2⟩
theorem Row32.drew (h : Row32 w b l) : Row32 w.drew b l := ⟨h.1, h.2⟩
theorem Row32.other (h : Row32 w b l) {p : Addr} (hp : p.block ≠ b) (u : Value) : Row32 (w.setCell p u) b l :=
  ⟨fun j hj => by rw [World.cell?_setCell_other w p _ u (fun e => by subst e; exact hp rfl)]; exact h.cells j hj, fun j hj => by rw [World.frozen?_setCell]; exact h.free j hj⟩
theorem Row32.set (h : Row32 w b l) (k x : Nat) (hk : k < l.length) : Row32 (w.setCell ⟨b, k, none⟩ (.int .u32 (x : Int))) b (l.set k x) := by
  refine ⟨fun j hj => ?_, fun j hj => ?_⟩
  · rw [List.length_set] at hj
    rw [getD_setN l k j x hk]
    split
    · next e => subst e; exact World.cell?_setCell_same _ _ _ (h.cells k hk)
    · next e => rw [World.cell?_setCell_other _ _ _ _ (fun e' => by injection e' with _ e2; exact e e2)]; exact h.cells j hj
  · rw [List.length_set] at hj
    rw [World.frozen?_setCell]; exact h.free j hj
theorem Row32.new (w : World) (l : List Nat) (t : TypeId) : Row32 (w.alloc (.cells (u32s l).toArray t)) w.heap.size l := by
  refine ⟨fun j hj => ?_, fun j hj => ?_⟩
  · rw [cell_of_row _ _ _ _ _ _ (heap_alloc_new w _)]
    simpa using u32s_at l j hj
  · exact frozen_of_row _ _ _ _ _ (heap_alloc_new w _)
theorem Row32.range (h : Row32 w b l) : w.rangeAt b 0 (u32s l) := fun j v hv => by
  have hj : j < l.length := by have := (List.getElem?_eq_some_iff.1 hv).1; rwa [u32s_len] at this
  rw [u32s_at l j hj] at hv
  rw [Nat.zero_add, h.cells j hj, hv]
theorem Row32.there (h : Row32 w b l) : w.there b 0 l.length := fun j hj => by
  rw [Nat.zero_add, h.cells j hj]; exact ⟨rfl, h.free j hj⟩
theorem Row32.thereFor (h : Row32 w b l) {r : List Nat} (hr : r.length = l.length) : w.there b 0 (u32s r).toArray.size := by
  have e : (u32s r).toArray.size = l.length := by rw [List.size_toArray, u32s_len, hr]
  rw [e]; exact h.there
theorem Row32.of_range (h : w.rangeAt b 0 (u32s l)) (ht : w.there b 0 l.length) : Row32 w b l :=
  ⟨fun j hj => by have := h j _ (u32s_at l j hj); rwa [Nat.zero_add] at this, fun j hj => by have := (ht j hj).2; rwa [Nat.zero_add] at this⟩
/-- The whole row is stored anew. -/
theorem Row32.store (h : Row32 w b l) {r : List Nat} (hr : r.length = l.length) : Row32 (w.setCells b 0 (u32s r)) b r := by
  have ht : w.there b 0 (u32s r).length := by rw [u32s_len, hr]; exact h.there
  exact .of_range (World.rangeAt_setCells_same w b 0 _ ht) (by rw [u32s_len] at ht; exact World.there_setCells ht _ _ _)
theorem Row32.storeOther (h : Row32 w b l) (b' o : Nat) (vs : List Value) (hb : b' ≠ b) : Row32 (w.setCells b' o vs) b l :=
  .of_range (World.rangeAt_setCells_apart h.range _ _ _ (.inl (fun e => hb e.symm))) (World.there_setCells h.there _ _ _)
theorem Row32.cell (h : Row32 w b l) {j : Nat} (hj : j < l.length) : ∃ x : Nat, Hid (l.getD j 0 = x) ∧ w.cell? ⟨b, j, none⟩ = some (.int .u32 (x : Int)) := ⟨_, rfl, h.cells j hj⟩
end
theorem below_setCells {B : Nat} {a : World} {b : Nat} (hb : B ≤ b) : ∀ (vs : List Value) (o : Nat) (w : World), Below B a w → Below B a (w.setCells b o vs)
  | [], _, _, h => h
  | v :: r, o, w, h => by rw [World.setCells]; exact below_setCells hb r (o + 1) _ (h.setCell (p := ⟨b, o, none⟩) hb v)
/-- A whole array is stored; the world behind it has a name of its own. -/
theorem wpList_store_as {P : Program} {ops : Array Oper} {rest : List Oper} {op : Oper} {a : Act} {w : World} {Q : Exit → Act → World → Prop} (hgd : op.guard = none) (ty : TypeId) (x y : Operand) (ho : op.op = .store ty x y)
    (b o : Nat) (cells : Array Value) (hx : a.eval x = .pointer (some ⟨b, o, none⟩)) (hy : a.eval y = .agg cells)
    (ht : w.there b o cells.size) (hi : (P.info? ty).map (·.size) = some cells.size) (h1 : cells.all (·.oneCell') = true)
    (h : ∀ w', Hid (w' = w.setCells b o cells.toList) → wpList P ops Q rest (a.put op.dst undef) w') : wpList P ops Q (op :: rest) a w :=
  wpList_store_mid hgd ty x y ho b o cells hx hy ht hi h1 (h _ (Lib.hid rfl))
theorem u32s_all (l : List Nat) : (u32s l).toArray.all (·.oneCell') = true := all_oneCell_toArray (u32s_one l)
/-- A result that is an array, in a cell of its own. -/
theorem results_mid {P : Program} {fn : Func} {p : Tmp} {ty : TypeId} (h : fn.results = #[.cell p ty]) (tmps : Array Value) (w : World) (b o : Nat) (cs : List Value) (d : TypeDesc)
    (hp : tmps.getD p undef = .pointer (some ⟨b, o, none⟩)) (hc : w.rangeAt b o cs) (hu : P.underlying ty = some d) (hd : d.isRow = true) (hi : (P.info? ty).map (·.size) = some cs.length) :
    (results fn tmps).run P w = .ok (.agg cs.toArray) w := by
  have hp' : tmps[p]?.getD undef = .pointer (some ⟨b, o, none⟩) := by simpa using hp
  simp [results, h, hp', asAddr, run_loadVar_mid w b o ty cs d hc hu hd hi]
theorem results_mid_tmp {P : Program} {fn : Func} {p u : Tmp} {ty : TypeId} (h : fn.results = #[.cell p ty, .tmp u]) (tmps : Array Value) (w : World) (b o : Nat) (cs : List Value) (d : TypeDesc)
    (hp : tmps.getD p undef = .pointer (some ⟨b, o, none⟩)) (hc : w.rangeAt b o cs) (hu : P.underlying ty = some d) (hd : d.isRow = true) (hi : (P.info? ty).map (·.size) = some cs.length) :
    (results fn tmps).run P w = .ok (.tuple #[.agg cs.toArray, tmps.getD u undef]) w := by
  rw [results_cell_tmp h, hp]
  simp [asAddr, run_loadVar_mid w b o ty cs d hc hu hd hi]
/-- Rotr and Shr at a number of 32 bits. -/
theorem rotrN_any (x : Nat) (hx : x < 4294967296) (k : Int) (h0 : 0 ≤ k) (h1 : k < 32) (w : World) :
    Calls Tryd.prog 103 #[.int .u32 (x : Int), .int .i64 k] w (Quiet (.int .u32 ((rotN x k.toNat : Nat) : Int)) w) := by
  have := rotr_any (x : Int) k (by omega) (by omega) w
  have e : rotZ (x : Int) k = ((rotN x k.toNat : Nat) : Int) := by unfold rotZ; rw [Int.emod_eq_of_lt h0 h1]; rfl
  rwa [e] at this
theorem shrN_any (x : Nat) (hx : x < 4294967296) (k : Int) (h0 : 0 ≤ k) (h1 : k < 32) (w : World) :
    Calls Tryd.prog 104 #[.int .u32 (x : Int), .int .i64 k] w (Quiet (.int .u32 ((x / 2 ^ k.toNat : Nat) : Int)) w) := by
  have := shr_any (x : Int) k (by omega) (by omega) w
  have e : shrZ (x : Int) k = ((x / 2 ^ k.toNat : Nat) : Int) := by unfold shrZ; rw [show min k.toNat 32 = k.toNat from by omega]; simp
  rwa [e] at this
end Go.Proofs.YtlknjaoamkcmjaaDoor
/- The numbers of a block's schedule, as the program makes them. -/
namespace Go.Proofs.YtlknjaoamkcmjaaDoor
open Go.ChangeShapes Go.WideShapes Go.ChangeAt Go.RowKit
set_option linter.unusedVariables false
open Plain Sha
theorem allW_replicate (n : Nat) : AllW (List.replicate n 0) := fun j => by
  rw [List.getD_eq_getElem?_getD, List.getElem?_replicate]
  split <;> decide
theorem zero64 (w : World) (t : TypeId) : Row32 (w.alloc (.cells (u32s (List.replicate 64 0)).toArray t)) w.heap.size (List.replicate 64 0) := Row32.new w _ t
theorem sg0_bits (x : Nat) (h : x < 4294967296) : bits .xor .u32 (bits .xor .u32 (rotN x 7 : Nat) (rotN x 18 : Nat)) ((x : Int) / 8) = ((sg0 x : Nat) : Int) := by
  rw [show (x : Int) / 8 = ((x / 2 ^ 3 : Nat) : Int) from by omega, u32_xor_nat _ _ (rot_lt h (by omega)) (rot_lt h (by omega)), u32_xor_nat _ _ (xor_lt (rot_lt h (by omega)) (rot_lt h (by omega))) (div_lt 3 h)]
  rfl
theorem sg1_bits (x : Nat) (h : x < 4294967296) : bits .xor .u32 (bits .xor .u32 (rotN x 17 : Nat) (rotN x 19 : Nat)) ((x : Int) / 1024) = ((sg1 x : Nat) : Int) := by
  rw [show (x : Int) / 1024 = ((x / 2 ^ 10 : Nat) : Int) from by omega, u32_xor_nat _ _ (rot_lt h (by omega)) (rot_lt h (by omega)), u32_xor_nat _ _ (xor_lt (rot_lt h (by omega)) (rot_lt h (by omega))) (div_lt 10 h)]
  rfl
set_option maxRecDepth 100000 in
theorem spread_any (ws : List Nat) (hl : ws.length = 16) (hw : AllW ws) (w : World) :
    Calls Tryd.prog 102 #[.agg (u32s ws).toArray] w fun e w' => e = .returned (.agg (u32s (schedTo ws 48)).toArray) ∧ Below w.heap.size w w' := by
  have HL := Lib.hid hl
  have r0 : Row32 (((w.alloc (.cells (u32s ws).toArray 147)).alloc (.cells (u32s (List.replicate 64 0)).toArray 150)).alloc (.cells (u32s (List.replicate 64 0)).toArray 150)) w.heap.size ws :=
    ((Row32.new w ws 147).alloc (by omega) _).alloc (by omega) _
  have r1 : Row32 (((w.alloc (.cells (u32s ws).toArray 147)).alloc (.cells (u32s (List.replicate 64 0)).toArray 150)).alloc (.cells (u32s (List.replicate 64 0)).toArray 150)) (w.heap.size + 1) (List.replicate 64 0) := by
    have := (zero64 (w.alloc (.cells (u32s ws).toArray 147)) 150).alloc (by simp) (.cells (u32s (List.replicate 64 0)).toArray 150)
    simpa using this
  have r2 : Row32 (((w.alloc (.cells (u32s ws).toArray 147)).alloc (.cells (u32s (List.replicate 64 0)).toArray 150)).alloc (.cells (u32s (List.replicate 64 0)).toArray 150)) (w.heap.size + 1 + 1) (List.replicate 64 0) := by
    have := zero64 ((w.alloc (.cells (u32s ws).toArray 147)).alloc (.cells (u32s (List.replicate 64 0)).toArray 150)) 150
    simpa using this
  have hb : Below w.heap.size w (((w.alloc (.cells (u32s ws).toArray 147)).alloc (.cells (u32s (List.replicate 64 0)).toArray 150)).alloc (.cells (u32s (List.replicate 64 0)).toArray 150)) :=
    (((Below.refl _ _).alloc (Nat.le_refl _) _).alloc (by simp) _).alloc (by simp; omega) _
  have R0 := Lib.hid r0
  have R1 := Lib.hid r1
  have R2 := Lib.hid r2
  have HB := Lib.hid hb
  clear hl r0 r1 r2 hb
  go_enter Tryd.func102, Tryd.ntmps102
  go_wp2
  go_loopw [9] (fun i wr => ∃ t : Nat, t ≤ 64 ∧ i = .int .i64 t ∧ ∃ cs : List Nat, cs.length = 64 ∧ Hid (AllW cs) ∧ Hid (∀ j, j < t → cs.getD j 0 = wAt ws j) ∧ Hid (Row32 wr w.heap.size ws) ∧ Hid (Row32 wr (w.heap.size + 1) (List.replicate 64 0)) ∧ Hid (Row32 wr (w.heap.size + 1 + 1) cs) ∧ Below w.heap.size w wr) (fun i _ => 64 - (intOf i).toNat)
  case atStart => exact ⟨0, by omega, rfl, List.replicate 64 0, List.length_replicate, Lib.hid (allW_replicate 64), Lib.hid (fun j hj => absurd hj (by omega)), R0, R1, R2, HB.out⟩
  case round =>
    obtain ⟨t, ht, rfl, cs, hcs, HA, HX, K0, K1, K2, hbel⟩ := hrel
    have HCS := Lib.hid hcs
    by_cases hlt : t < 64
    · by_cases h16 : t < 16
      · have hc := K0.out.cells t (by rw [HL.out]; omega)
        have hd := K2.out.cells t (by rw [HCS.out]; omega)
        have hf := K2.out.free t (by rw [HCS.out]; omega)
        clear hcs
        have e1 := (wAt_lo ws HL.out t h16).symm
        have HE : Hid (∀ j, j < t + 1 → (cs.set t (ws.getD t 0)).getD j 0 = wAt ws j) := Lib.hid (fun j hj => by
          rw [getD_setN _ _ _ _ (by rw [HCS.out]; omega)]
          split
          · next h => subst h; exact e1
          · exact HX.out j (by omega))
        have HA' : Hid (AllW (cs.set t (ws.getD t 0))) := Lib.hid (fun j => by
          rw [getD_setN _ _ _ _ (by rw [HCS.out]; omega)]
          split
          · exact hw t
          · exact HA.out j)
        clear e1
        go_wp2
        go_roundw
        case rel => exact ⟨t + 1, by omega, by go_num, cs.set t (ws.getD t 0), by rw [List.length_set]; exact HCS.out, HA', HE, Lib.hid (K0.out.other (by simp; omega) _), Lib.hid (K1.out.other (by simp) _), Lib.hid (K2.out.set t _ (by rw [HCS.out]; exact hlt)), hbel.setCell (by simp; omega) _⟩
        case measure => simp [intOf]; omega
      · obtain ⟨k, hk⟩ := Nat.exists_eq_add_of_le (Nat.le_of_not_lt h16)
        have HK := Lib.hid hk
        have c15 := K2.out.cells (k + 1) (by rw [HCS.out]; omega)
        have c2 := K2.out.cells (k + 14) (by rw [HCS.out]; omega)
        have c7 := K2.out.cells (k + 9) (by rw [HCS.out]; omega)
        have c16 := K2.out.cells k (by rw [HCS.out]; omega)
        have hd := K2.out.cells t (by rw [HCS.out]; omega)
        have hf := K2.out.free t (by rw [HCS.out]; omega)
        have b15 := HA.out (k + 1)
        have b2 := HA.out (k + 14)
        have b7 := HA.out (k + 9)
        have b16 := HA.out k
        have E15 := Lib.hid (HX.out (k + 1) (by omega))
        have E2 := Lib.hid (HX.out (k + 14) (by omega))
        have E7 := Lib.hid (HX.out (k + 9) (by omega))
        have E16 := Lib.hid (HX.out k (by omega))
        generalize cs.getD (k + 1) 0 = x15 at *
        generalize cs.getD (k + 14) 0 = x2 at *
        generalize cs.getD (k + 9) 0 = x7 at *
        generalize cs.getD k 0 = x16 at *
        have i1 : (0 : Int) ≤ (t : Int) - 15 := by omega
        have i2 : (t : Int) - 15 < 64 := by omega
        have i3 : (0 : Int) ≤ (t : Int) - 2 := by omega
        have i4 : (t : Int) - 2 < 64 := by omega
        have i5 : (0 : Int) ≤ (t : Int) - 7 := by omega
        have i6 : (t : Int) - 7 < 64 := by omega
        have i7 : (0 : Int) ≤ (t : Int) - 16 := by omega
        have i8 : (t : Int) - 16 < 64 := by omega
        have n1 : ((t : Int) - 15).toNat = k + 1 := by omega
        have n2 : ((t : Int) - 2).toNat = k + 14 := by omega
        have n3 : ((t : Int) - 7).toNat = k + 9 := by omega
        have n4 : ((t : Int) - 16).toNat = k := by omega
        clear hcs hk
        have s0 := sg0_bits x15 b15
        have s1 := sg1_bits x2 b2
        go_wp2
        go_quiet (fail)
        go_wp2_with (first
          | (go_at_call 103; refine (rotrN_any _ (by omega) _ (by omega) (by omega) _).mono ?_; rintro e w' ⟨rfl, m, rfl⟩)
          | (go_at_call 104; refine (shrN_any _ (by omega) _ (by omega) (by omega) _).mono ?_; rintro e w' ⟨rfl, m, rfl⟩))
        obtain ⟨x, hx⟩ : ∃ x, wNext x2 x7 x15 x16 = x := ⟨_, rfl⟩
        have HX1 : Hid (x = wAt ws t) := Lib.hid (by rw [← hx, HK.out, wAt_hi ws HL.out, E2.out, E7.out, E15.out, E16.out])
        have HXlt : x < 4294967296 := by rw [← hx]; exact wNext_lt _ _ _ _
        have HVal : Hid (((sg1 x2 : Nat) + (x7 : Int) + (sg0 x15 : Nat) + (x16 : Int)) % 4294967296 = (x : Int)) := Lib.hid (by rw [← hx]; unfold wNext; omega)
        have HE : Hid (∀ j, j < t + 1 → (cs.set t x).getD j 0 = wAt ws j) := Lib.hid (fun j hj => by
          rw [getD_setN _ _ _ _ (by rw [HCS.out]; omega)]
          split
          · next h => subst h; exact HX1.out
          · exact HX.out j (by omega))
        have HA' : Hid (AllW (cs.set t x)) := Lib.hid (fun j => by
          rw [getD_setN _ _ _ _ (by rw [HCS.out]; omega)]
          split
          · exact HXlt
          · exact HA.out j)
        clear s0 s1 c15 c2 b15 b2 hx HXlt
        go_region
        go_wp2
        go_roundw
        case rel => exact ⟨t + 1, by omega, by go_num, cs.set t x, by rw [List.length_set]; exact HCS.out, HA', HE, Lib.hid ((K0.out.drewN _).other (by simp; omega) _), Lib.hid ((K1.out.drewN _).other (by simp) _), Lib.hid (by rw [HVal.out]; exact (K2.out.drewN _).set t x (by rw [HCS.out]; exact hlt)), (below_drewN hbel _).setCell (by simp; omega) _⟩
        case measure => simp [intOf]; omega
    · have htt : t = 64 := by omega
      have HF : Hid (cs = schedTo ws 48) := Lib.hid (list_ext_N (by rw [HCS.out, schedTo_len ws HL.out]) (fun j hj => by rw [sched_at ws HL.out 48 j (by omega)]; exact HX.out j (by omega)))
      have K3 := Lib.hid K2.out.range
      have T1 : Hid (wr.there (w.heap.size + 1) 0 (u32s cs).toArray.size) := Lib.hid (by have := K1.out.there; simpa [u32s_len, HCS.out] using this)
      have HI : Hid ((Tryd.prog.info? 150).map (·.size) = some (u32s cs).length) := Lib.hid (by rw [u32s_len, HCS.out]; kernel_rfl)
      have HI' : Hid ((Tryd.prog.info? 150).map (·.size) = some (u32s cs).toArray.size) := HI
      have H1 := Lib.hid (all_oneCell_toArray (u32s_one cs))
      clear hcs htt
      go_wp2_with (first
        | (refine wpList_load_mid rfl 150 (.tmp 3) rfl (w.heap.size + 1 + 1) 0 rfl (u32s cs) _ K3.out Tryd.underlying150 rfl HI.out ?_)
        | (refine wpList_store_mid rfl 150 (.tmp 2) (.tmp 59) rfl (w.heap.size + 1) 0 (u32s cs).toArray rfl rfl T1.out HI'.out H1.out ?_))
      have R5 : Row32 (wr.setCells (w.heap.size + 1) 0 (u32s cs)) (w.heap.size + 1) cs := K1.out.store (by rw [HCS.out]; rfl)
      exact bodyPost_ret (v := .agg (u32s cs).toArray) (results_mid (p := 2) (ty := 150) rfl _ _ (w.heap.size + 1) 0 (u32s cs) _ rfl R5.range Tryd.underlying150 rfl HI.out) rfl ⟨by rw [HF.out], below_setCells (by omega) _ _ _ hbel⟩
end Go.Proofs.YtlknjaoamkcmjaaDoor
/- A block's rounds, as the program makes them. -/
namespace Go.Proofs.YtlknjaoamkcmjaaDoor
open Go.ChangeShapes Go.WideShapes Go.ChangeAt Go.RowKit
set_option linter.unusedVariables false
open Plain Sha
/-- The table of the constants lies in its variable. -/
def LaidK (w : World) : Prop := ∀ j, j < 64 → w.cell? ⟨2, j, none⟩ = some (.int .u32 ((kTab.getD j 0 : Nat) : Int))
theorem LaidK.lt {w : World} (h : LaidK w) : 2 < w.heap.size := World.block_lt_of_cell? _ _ (h 0 (by omega))
theorem LaidK.below {w w' : World} {B : Nat} (h : LaidK w) (hb : Below B w w') (hB : 2 < B) : LaidK w' := fun j hj => (hb.cell (p := ⟨2, j, none⟩) hB).trans (h j hj)
theorem bs1_bits (x : Nat) (h : x < 4294967296) : bits .xor .u32 (bits .xor .u32 (rotN x 6 : Nat) (rotN x 11 : Nat)) (rotN x 25 : Nat) = ((bs1 x : Nat) : Int) := by
  rw [u32_xor_nat _ _ (rot_lt h (by omega)) (rot_lt h (by omega)), u32_xor_nat _ _ (xor_lt (rot_lt h (by omega)) (rot_lt h (by omega))) (rot_lt h (by omega))]
  rfl
theorem bs0_bits (x : Nat) (h : x < 4294967296) : bits .xor .u32 (bits .xor .u32 (rotN x 2 : Nat) (rotN x 13 : Nat)) (rotN x 22 : Nat) = ((bs0 x : Nat) : Int) := by
  rw [u32_xor_nat _ _ (rot_lt h (by omega)) (rot_lt h (by omega)), u32_xor_nat _ _ (xor_lt (rot_lt h (by omega)) (rot_lt h (by omega))) (rot_lt h (by omega))]
  rfl
theorem mj_bits (a b c : Nat) (ha : a < 4294967296) (hb : b < 4294967296) (hc : c < 4294967296) :
    bits .or .u32 (bits .or .u32 (bits .and .u32 (a : Int) (b : Int)) (bits .and .u32 (a : Int) (c : Int))) (bits .and .u32 (b : Int) (c : Int)) = ((mj a b c : Nat) : Int) := by
  rw [u32_and_nat _ _ ha hb, u32_and_nat _ _ ha hc, u32_and_nat _ _ hb hc, u32_or_nat _ _ (and_lt hb) (and_lt hc), u32_or_nat _ _ (or_lt (and_lt hb) (and_lt hc)) (and_lt hc)]
  rfl
theorem xor_ones (e : Nat) (h : e < 4294967296) : 4294967295 ^^^ e = 4294967295 - e := by
  apply Nat.eq_of_testBit_eq
  intro i
  have e1 : 4294967295 - e = 2 ^ 32 - (e + 1) := by omega
  rw [Nat.testBit_xor, e1, Nat.testBit_two_pow_sub_succ (n := 32) h, show (4294967295 : Nat) = 2 ^ 32 - 1 from rfl, Nat.testBit_two_pow_sub_one]
  by_cases hi : i < 32
  · simp [hi]
  · have : e.testBit i = false := Nat.testBit_lt_two_pow (Nat.lt_of_lt_of_le h (Nat.pow_le_pow_right (by omega : 2 > 0) (by omega : 32 ≤ i)))
    simp [hi, this]
theorem ch_bits (e f g : Nat) (he : e < 4294967296) (hf : f < 4294967296) (hg : g < 4294967296) :
    bits .or .u32 (bits .and .u32 (e : Int) (f : Int)) (bits .and .u32 (bits .xor .u32 IntKind.u32.max (e : Int)) (g : Int)) = ((ch e f g : Nat) : Int) := by
  have e1 : bits .xor .u32 IntKind.u32.max (e : Int) = ((4294967295 - e : Nat) : Int) := by
    have := u32_xor_nat 4294967295 e (by omega) he
    rw [xor_ones e he] at this
    exact this
  rw [e1, u32_and_nat _ _ he hf, u32_and_nat _ _ (by omega) hg, u32_or_nat _ _ (and_lt hf) (and_lt hg)]
  rfl
set_option maxHeartbeats 2000000 in
set_option maxRecDepth 100000 in
theorem block_any (v : H8) (hv : v.ok) (ws : List Nat) (hl : ws.length = 16) (hw : AllW ws) (w : World) (hK : LaidK w) :
    Calls Tryd.prog 100 #[.agg (u32s v.list).toArray, .agg (u32s ws).toArray] w fun e w' => e = .returned (.agg (u32s (blk v ws).list).toArray) ∧ Below w.heap.size w w' := by
  have HL := Lib.hid hl
  have HV := Lib.hid hv
  have r0 : Row32 (((w.alloc (.cells (u32s v.list).toArray 134)).alloc (.cells (u32s ws).toArray 147)).alloc (.cells (u32s (List.replicate 8 0)).toArray 134)) w.heap.size v.list :=
    ((Row32.new w v.list 134).alloc (by simp [H8.list]) _).alloc (by simp [H8.list]) _
  have r1 : Row32 (((w.alloc (.cells (u32s v.list).toArray 134)).alloc (.cells (u32s ws).toArray 147)).alloc (.cells (u32s (List.replicate 8 0)).toArray 134)) (w.heap.size + 1) ws := by
    have := (Row32.new (w.alloc (.cells (u32s v.list).toArray 134)) ws 147).alloc (by omega) (.cells (u32s (List.replicate 8 0)).toArray 134)
    simpa using this
  have r2 : Row32 (((w.alloc (.cells (u32s v.list).toArray 134)).alloc (.cells (u32s ws).toArray 147)).alloc (.cells (u32s (List.replicate 8 0)).toArray 134)) (w.heap.size + 1 + 1) (List.replicate 8 0) := by
    have := Row32.new ((w.alloc (.cells (u32s v.list).toArray 134)).alloc (.cells (u32s ws).toArray 147)) (List.replicate 8 0) 134
    simpa using this
  have hb : Below w.heap.size w (((w.alloc (.cells (u32s v.list).toArray 134)).alloc (.cells (u32s ws).toArray 147)).alloc (.cells (u32s (List.replicate 8 0)).toArray 134)) :=
    (((Below.refl _ _).alloc (Nat.le_refl _) _).alloc (by simp) _).alloc (by simp; omega) _
  have HI16 : Hid ((Tryd.prog.info? 147).map (·.size) = some (u32s ws).length) := Lib.hid (by rw [u32s_len, hl]; kernel_rfl)
  have hkl := hK.lt
  have HK := Lib.hid hK
  have R0 := Lib.hid r0
  have R1 := Lib.hid r1
  have R2 := Lib.hid r2
  have HB := Lib.hid hb
  clear hl hv r0 r1 r2 hb hK
  go_enter Tryd.func100, Tryd.ntmps100
  have HI64 : Hid ((Tryd.prog.info? 150).map (·.size) = some (u32s (schedTo ws 48)).toArray.size) := Lib.hid (by rw [List.size_toArray, u32s_len, schedTo_len ws HL.out]; kernel_rfl)
  go_wp2_with (refine wpList_load_mid (op := ⟨some 21, _, _, _, _, _⟩) rfl 147 (.tmp 3) rfl (w.heap.size + 1) 0 rfl (u32s ws) _ R1.out.range Tryd.underlying147 rfl HI16.out ?_)
  refine (spread_any ws HL.out hw _).mono ?_
  rintro e w2 ⟨rfl, hb2⟩
  have q0 := R0.out.below hb2 (by simp; omega)
  have q2 := R2.out.below hb2 (by simp)
  have hb3 : Below w.heap.size w w2 := HB.out.trans (hb2.mono (by simp; omega))
  have z64 := zero64 w2 150
  have T64 : Hid ((w2.alloc (.cells (u32s (List.replicate 64 0)).toArray 150)).there w2.heap.size 0 (u32s (schedTo ws 48)).toArray.size) := Lib.hid (z64.thereFor (by rw [schedTo_len ws HL.out]; simp))
  have Q0 := Lib.hid q0
  have Q2 := Lib.hid q2
  have hs2 : w.heap.size + 1 + 1 < w2.heap.size := q2.lt (by simp)
  clear R0 R1 R2 HB hb2 q0 q2 z64 HI16
  go_wp2_with (refine wpList_store_as (op := ⟨none, .store 150 (.tmp 5) (.tmp 22), _, _, _, _⟩) rfl 150 (.tmp 5) (.tmp 22) rfl w2.heap.size 0 (u32s (schedTo ws 48)).toArray rfl rfl T64.out HI64.out (u32s_all _) ?_; intro w3 hw3)
  have p0 : Row32 w3 w.heap.size v.list := by rw [hw3.out]; exact (Q0.out.alloc (by simp [H8.list]) _).storeOther _ _ _ (by omega)
  have p2 : Row32 w3 (w.heap.size + 1 + 1) (List.replicate 8 0) := by rw [hw3.out]; exact (Q2.out.alloc (by simp) _).storeOther _ _ _ (by omega)
  have pA : Row32 w3 w2.heap.size (schedTo ws 48) := by rw [hw3.out]; exact (zero64 w2 150).store (by rw [schedTo_len ws HL.out]; simp)
  have pb : Below w.heap.size w w3 := by rw [hw3.out]; exact below_setCells (by omega) _ _ _ (hb3.alloc (by omega) _)
  have PK := Lib.hid (HK.out.below pb hkl)
  have P0 := Lib.hid p0
  have P2 := Lib.hid p2
  have PA := Lib.hid pA
  clear hw3 p0 p2 pA hb3 T64 HI64 Q0 Q2
  generalize w2.heap.size = bA at *
  have c0 := P0.out.cells 0 (by simp [H8.list])
  have c1 := P0.out.cells 1 (by simp [H8.list])
  have c2 := P0.out.cells 2 (by simp [H8.list])
  have c3 := P0.out.cells 3 (by simp [H8.list])
  have c4 := P0.out.cells 4 (by simp [H8.list])
  have c5 := P0.out.cells 5 (by simp [H8.list])
  have c6 := P0.out.cells 6 (by simp [H8.list])
  have c7 := P0.out.cells 7 (by simp [H8.list])
  simp only [H8.list, List.getD_cons_zero, List.getD_cons_succ] at c0 c1 c2 c3 c4 c5 c6 c7
  go_quiet (fail)
  go_wp2
  clear c0 c1 c2 c3 c4 c5 c6 c7
  go_loopw [6, 7, 8, 9, 10, 11, 12, 13, 39] (fun a b c d e f g h i wr => ∃ t m : Nat, t ≤ 64 ∧ i = .int .i64 t ∧ wr = w3.drewN m ∧ ∃ sa sb sc sd se sf sg sh : Nat, Hid ((⟨sa, sb, sc, sd, se, sf, sg, sh⟩ : H8) = rnds ws v t) ∧ a = .int .u32 (sa : Int) ∧ b = .int .u32 (sb : Int) ∧ c = .int .u32 (sc : Int) ∧ d = .int .u32 (sd : Int) ∧ e = .int .u32 (se : Int) ∧ f = .int .u32 (sf : Int) ∧ g = .int .u32 (sg : Int) ∧ h = .int .u32 (sh : Int)) (fun _ _ _ _ _ _ _ _ i _ => 64 - (intOf i).toNat)
  case atStart => exact ⟨0, _, by omega, rfl, rfl, v.a, v.b, v.c, v.d, v.e, v.f, v.g, v.h, Lib.hid rfl, rfl, rfl, rfl, rfl, rfl, rfl, rfl, rfl⟩
  case round =>
    obtain ⟨t, m, ht, rfl, rfl, sa, sb, sc, sd, se, sf, sg, sh, HS, rfl, rfl, rfl, rfl, rfl, rfl, rfl, rfl⟩ := hrel
    have ok := rnds_ok ws HV.out t
    rw [← HS.out] at ok
    obtain ⟨oa, ob, oc, od, oe, of_, og, oh⟩ := ok
    simp only at oa ob oc od oe of_ og oh
    by_cases hlt : t < 64
    · have ck := PK.out t hlt
      obtain ⟨wt, HWT, bw, ca⟩ : ∃ x : Nat, Hid (x = wAt ws t) ∧ x < 4294967296 ∧ w3.cell? ⟨bA, t, none⟩ = some (.int .u32 (x : Int)) :=
        ⟨_, Lib.hid rfl, wAt_lt ws HL.out hw t, by rw [← sched_at ws HL.out 48 t (by omega)]; exact PA.out.cells t (by rw [schedTo_len ws HL.out]; omega)⟩
      have bk := kTab_lt t
      obtain ⟨kt, hkt⟩ : ∃ k, kTab.getD t 0 = k := ⟨_, rfl⟩
      rw [hkt] at ck bk
      have HKT := Lib.hid hkt
      have s1 := bs1_bits se oe
      have s0 := bs0_bits sa oa
      have s2 := mj_bits sa sb sc oa ob oc
      have s3 := ch_bits se sf sg oe of_ og
      clear hkt
      go_wp2_with (go_at_call 103; refine (rotrN_any _ (by omega) _ (by omega) (by omega) _).mono ?_; rintro e w' ⟨rfl, m, rfl⟩)
      obtain ⟨T1, hT1⟩ : ∃ T, (sh + bs1 se + ch se sf sg + kt + wt) % 4294967296 = T := ⟨_, rfl⟩
      have HN : Hid ((⟨(T1 + bs0 sa + mj sa sb sc) % 4294967296, sa, sb, sc, (sd + T1) % 4294967296, se, sf, sg⟩ : H8) = rnds ws v (t + 1)) := Lib.hid (by
        show _ = rnd (rnds ws v t) (kTab.getD t 0) (wAt ws t)
        rw [← HS.out, ← HWT.out, HKT.out, ← hT1]; rfl)
      have HA1 : Hid ((((sh : Int) + (bs1 se : Nat) + (ch se sf sg : Nat) + kt + wt) % 4294967296 + (((bs0 sa : Nat) : Int) + (mj sa sb sc : Nat)) % 4294967296) % 4294967296 = (((T1 + bs0 sa + mj sa sb sc) % 4294967296 : Nat) : Int)) := Lib.hid (by rw [← hT1]; omega)
      have HA2 : Hid (((sd : Int) + ((sh : Int) + (bs1 se : Nat) + (ch se sf sg : Nat) + kt + wt) % 4294967296) % 4294967296 = (((sd + T1) % 4294967296 : Nat) : Int)) := Lib.hid (by rw [← hT1]; omega)
      clear hT1
      clear s1 s0 s2 s3
      go_quiet (fail)
      go_wp2
      go_roundw
      case rel => exact ⟨t + 1, _, by omega, by go_num, rfl, _, _, _, _, _, _, _, _, HN.out, by rw [HA1.out], rfl, rfl, rfl, by rw [HA2.out], rfl, rfl, rfl⟩
      case measure => simp [intOf]; omega
    · have htt : t = 64 := by omega
      have c0 := P0.out.cells 0 (by simp [H8.list])
      have c1 := P0.out.cells 1 (by simp [H8.list])
      have c2 := P0.out.cells 2 (by simp [H8.list])
      have c3 := P0.out.cells 3 (by simp [H8.list])
      have c4 := P0.out.cells 4 (by simp [H8.list])
      have c5 := P0.out.cells 5 (by simp [H8.list])
      have c6 := P0.out.cells 6 (by simp [H8.list])
      have c7 := P0.out.cells 7 (by simp [H8.list])
      simp only [H8.list, List.getD_cons_zero, List.getD_cons_succ] at c0 c1 c2 c3 c4 c5 c6 c7
      have HF : Hid (blk v ws = addV v ⟨sa, sb, sc, sd, se, sf, sg, sh⟩) := Lib.hid (by unfold blk; rw [HS.out, htt])
      have HE : Hid (Value.agg #[.int .u32 (((v.a : Int) + sa) % 4294967296), .int .u32 (((v.b : Int) + sb) % 4294967296), .int .u32 (((v.c : Int) + sc) % 4294967296), .int .u32 (((v.d : Int) + sd) % 4294967296), .int .u32 (((v.e : Int) + se) % 4294967296), .int .u32 (((v.f : Int) + sf) % 4294967296), .int .u32 (((v.g : Int) + sg) % 4294967296), .int .u32 (((v.h : Int) + sh) % 4294967296)] = .agg (u32s (blk v ws).list).toArray) := Lib.hid (by
        rw [HF.out]; simp [u32s, addV, H8.list])
      have HI8 : Hid ((Tryd.prog.info? 134).map (·.size) = some (u32s (blk v ws).list).toArray.size) := Lib.hid (by rw [List.size_toArray, u32s_len]; simp only [H8.list, List.length_cons, List.length_nil]; kernel_rfl)
      have T8 : Hid (w3.there (w.heap.size + 1 + 1) 0 (u32s (blk v ws).list).toArray.size) := Lib.hid (P2.out.thereFor (by simp [H8.list]))
      clear htt HF HS HV
      go_wp2_with (refine wpList_store_as (op := ⟨none, .store 134 (.tmp 4) (.tmp 138), _, _, _, _⟩) rfl 134 (.tmp 4) (.tmp 138) rfl (w.heap.size + 1 + 1) 0 (u32s (blk v ws).list).toArray rfl HE.out T8.out HI8.out (u32s_all _) ?_; intro w4 hw4)
      have R5 : Row32 w4 (w.heap.size + 1 + 1) (blk v ws).list := by rw [hw4.out]; exact (P2.out.drewN _).store (by simp [H8.list])
      have B5 : Below w.heap.size w w4 := by rw [hw4.out]; exact below_setCells (by omega) _ _ _ (below_drewN pb _)
      exact bodyPost_ret (v := .agg (u32s (blk v ws).list).toArray) (results_mid (p := 4) (ty := 134) rfl _ _ (w.heap.size + 1 + 1) 0 (u32s (blk v ws).list) _ rfl R5.range Tryd.underlying134 rfl HI8.out) rfl ⟨rfl, B5⟩
end Go.Proofs.YtlknjaoamkcmjaaDoor
/- Rows of bytes in the midst of blocks: read, copied into. -/
namespace Go.Proofs.YtlknjaoamkcmjaaDoor
open Go.ChangeShapes Go.WideShapes Go.ChangeAt Go.RowKit
set_option linter.unusedVariables false
open Plain Sha
/-- From offset o on block b holds the bytes l, and they may be written. -/
structure Row8 (w : World) (b o : Nat) (l : List Int) : Prop where
  range : w.rangeAt b o (vals l)
  there : w.there b o l.length
theorem vals_at (l : List Int) (j : Nat) (h : j < l.length) : (vals l)[j]? = some (.int .u8 (l.getD j 0)) := by
  simp [vals, List.getElem?_map, List.getElem?_eq_getElem h, List.getD_eq_getElem?_getD]
theorem rangeAt_same {w w' : World} {b o : Nat} {cs : List Value} (h : w.rangeAt b o cs) (e : w'.heap[b]? = w.heap[b]?) : w'.rangeAt b o cs := fun j v hv => (World.cell?_of_block (a := ⟨b, o + j, none⟩) e).trans (h j v hv)
theorem there_same {w w' : World} {b o n : Nat} (h : w.there b o n) (e : w'.heap[b]? = w.heap[b]?) : w'.there b o n := fun j hj => by
  rw [World.cell?_of_block (a := ⟨b, o + j, none⟩) e, World.frozen?_of_block (a := ⟨b, o + j, none⟩) e]; exact h j hj
theorem there_sub {w : World} {b o n o' n' : Nat} (h : w.there b o n) (h1 : o ≤ o') (h2 : o' + n' ≤ o + n) : w.there b o' n' := fun j hj => by
  have := h (o' - o + j) (by omega)
  rwa [show o + (o' - o + j) = o' + j from by omega] at this
theorem Row8.same {w w' : World} {b o : Nat} {l : List Int} (h : Row8 w b o l) (e : w'.heap[b]? = w.heap[b]?) : Row8 w' b o l := ⟨rangeAt_same h.range e, there_same h.there e⟩
theorem Row8.bs {w : World} {b o : Nat} {l : List Int} (h : Row8 w b o l) (hb : IsBytes l) {B : Nat} (hB : b < B) {n : Nat} (hn : n = l.length) : Bs w B (some ⟨b, o, none⟩) n l := by
  subst hn
  exact ⟨rfl, hb, fun _ => ⟨b, o, rfl, hB, fun j hj => h.range j _ (vals_at l j hj)⟩⟩
theorem splice_len {l zs : List Int} {k : Nat} (h : k + zs.length ≤ l.length) : (splice l k zs).length = l.length := length_splice l k zs h
theorem splice_at (l zs : List Int) (k j : Nat) (h : k + zs.length ≤ l.length) : (splice l k zs).getD j 0 = if k ≤ j ∧ j < k + zs.length then zs.getD (j - k) 0 else l.getD j 0 := by
  simp only [splice, List.getD_eq_getElem?_getD]
  by_cases h1 : j < k
  · rw [List.getElem?_append_left (by simp; omega), List.getElem?_take_of_lt h1, if_neg (by omega)]
  · have e : (l.take k).length = k := by simp; omega
    rw [List.getElem?_append_right (by omega), e]
    by_cases h2 : j < k + zs.length
    · rw [List.getElem?_append_left (by omega), if_pos ⟨by omega, h2⟩]
    · rw [List.getElem?_append_right (by omega), if_neg (by omega), List.getElem?_drop]
      congr 2; omega
/-- Bytes are laid over some of them. -/
theorem Row8.splice {w : World} {b o : Nat} {l : List Int} (h : Row8 w b o l) (k : Nat) (zs : List Int) (hk : k + zs.length ≤ l.length) : Row8 (w.setCells b (o + k) (vals zs)) b o (splice l k zs) := by
  have hl := splice_len hk
  refine ⟨fun j v hv => ?_, by rw [hl]; exact World.there_setCells h.there _ _ _⟩
  have hj : j < (Go.splice l k zs).length := by have := (List.getElem?_eq_some_iff.1 hv).1; rwa [vals_len] at this
  rw [vals_at _ j hj] at hv
  injection hv with hv
  subst hv
  rw [splice_at l zs k j hk]
  rw [hl] at hj
  split
  · next hc =>
    have := World.rangeAt_setCells_same w b (o + k) (vals zs) (fun i hi => by
      rw [vals_len] at hi
      have := h.there (k + i) (by omega)
      rwa [← Nat.add_assoc] at this) (j - k) _ (vals_at zs (j - k) (by omega))
    rwa [show o + k + (j - k) = o + j from by omega] at this
  · next hc =>
    rw [World.cell?_setCells_out b (vals zs) (o + k) w ⟨b, o + j, none⟩ (fun _ _ => by rw [vals_len]; show o + j < o + k ∨ o + k + zs.length ≤ o + j; omega)]
    exact h.range j _ (vals_at l j hj)
theorem Row8.storeOther {w : World} {b o : Nat} {l : List Int} (h : Row8 w b o l) (b' o' : Nat) (vs : List Value) (hb : b' ≠ b ∨ o + l.length ≤ o' ∨ o' + vs.length ≤ o) : Row8 (w.setCells b' o' vs) b o l :=
  ⟨World.rangeAt_setCells_apart h.range _ _ _ (by rw [vals_len]; rcases hb with h | h | h; exact .inl (fun e => h e.symm); exact .inr (.inl h); exact .inr (.inr h)), World.there_setCells h.there _ _ _⟩
theorem Row8.new (w : World) (l : List Int) (t : TypeId) : Row8 (w.alloc (.cells (vals l).toArray t)) w.heap.size 0 l := by
  refine ⟨fun j v hv => ?_, fun j hj => ?_⟩
  · rw [cell_of_row _ _ _ _ _ _ (heap_alloc_new w _), Nat.zero_add]
    simpa using hv
  · refine ⟨?_, frozen_of_row _ _ _ _ _ (heap_alloc_new w _)⟩
    rw [cell_of_row _ _ _ _ _ _ (heap_alloc_new w _), Nat.zero_add]
    have := vals_at l j hj
    simp [this]
theorem heap_setCells (b : Nat) (k : Nat) (hk : k ≠ b) : ∀ (vs : List Value) (o : Nat) (w : World), (w.setCells b o vs).heap[k]? = w.heap[k]?
  | [], _, _ => rfl
  | v :: r, o, w => by rw [World.setCells, heap_setCells b k hk r (o + 1)]; exact Below.heap_setCell w ⟨b, o, none⟩ v k hk
theorem grown_setCells {a : World} {b : Nat} : ∀ (vs : List Value) (o : Nat) (w : World), a.grownBy w (some b) → a.grownBy (w.setCells b o vs) (some b)
  | [], _, _, h => h
  | v :: r, o, w, h => by
    rw [World.setCells]
    refine grown_setCells r (o + 1) _ ⟨h.os, h.tape, h.output, by simpa [World.setCell] using h.size, fun i hi hne => ?_⟩
    exact (Below.heap_setCell w ⟨b, o, none⟩ v i (fun e => hne (by rw [e]))).trans (h.block i hi hne)
/-- copy, as a law for the walk: the cells go over; the world behind it has a name of its own. -/
theorem wpList_copy_as {P : Program} {w : World} {ops : Array Oper} {rest : List Oper} {o : Oper} {a : Act} {Q : Exit → Act → World → Prop} (hgd : o.guard = none) (d s : Operand) (dT sT : TypeId)
    (ho : o.op = .call { callee := .builtin .copy, args := #[d, s], argTypes := #[dT, sT] }) (elem : TypeId) (hu : P.underlying dT = some (.slice elem)) (hsz : (P.info? elem).map (·.size) = some 1)
    (dp sp : Option Addr) (dLen dCap sLen sCap : Nat) (hd : a.eval d = .slice dp dLen dCap) (hs : a.eval s = .slice sp sLen sCap)
    (g off : Nat) (cs : List Value) (hn : cs.length = Nat.min sLen dLen) (ht : w.there g off cs.length)
    (hpos : 0 < cs.length → dp = some ⟨g, off, none⟩ ∧ ∃ ad, sp = some ad ∧ ∀ j v, cs[j]? = some v → w.cell? (ad.add j) = some v)
    (h1 : ∀ v ∈ cs, v.oneCell' = true)
    (h : ∀ w', Hid (w' = w.setCells g off cs) → wpList P ops Q rest (a.put o.dst (goInt cs.length)) w') :
    wpList P ops Q (o :: rest) a w := by
  by_cases h0 : cs.length = 0
  · obtain rfl : cs = [] := List.eq_nil_of_length_eq_zero h0
    exact wpList_copy_nothing hgd d s dT sT ho elem hu hsz dp sp dLen dCap sLen sCap hd hs (by simpa using hn.symm) (h w (Lib.hid rfl))
  · obtain ⟨rfl, ad, rfl, hsrc⟩ := hpos (by omega)
    refine wpList_plain hgd fun K hK => ?_
    have hrun := run_copy_cells (P := P) w dT sT o.type elem g off dLen dCap ad sLen sCap cs hu hsz hn hsrc (fun j hj => (ht j hj).1) (fun j hj => (ht j hj).2) h1
    unfold Oper.wp
    simp [execOp, ho, resolve, invoke, builtin, hd, hs, hrun, Result.andThen]
    exact hK _ _ (h _ (Lib.hid rfl))
theorem step_copy_as {P : Program} {ops : Array Oper} {o : Oper} {a : Act} {w : World} {K : Act → World → Prop} {Q : Exit → Act → World → Prop} {E : Prop} (hgd : o.guard = none) (d s : Operand) (dT sT : TypeId)
    (ho : o.op = .call { callee := .builtin .copy, args := #[d, s], argTypes := #[dT, sT] }) (elem : TypeId) (hu : P.underlying dT = some (.slice elem)) (hsz : (P.info? elem).map (·.size) = some 1)
    (dp sp : Option Addr) (dLen dCap sLen sCap : Nat) (hd : a.eval d = .slice dp dLen dCap) (hs : a.eval s = .slice sp sLen sCap)
    (g off : Nat) (cs : List Value) (hn : cs.length = Nat.min sLen dLen) (ht : w.there g off cs.length)
    (hpos : 0 < cs.length → dp = some ⟨g, off, none⟩ ∧ ∃ ad, sp = some ad ∧ ∀ j v, cs[j]? = some v → w.cell? (ad.add j) = some v)
    (h1 : ∀ v ∈ cs, v.oneCell' = true)
    (h : ∀ w', Hid (w' = w.setCells g off cs) → K (a.put o.dst (goInt cs.length)) w') :
    if Region.wanted o (yielded ops a.tmps) = true then Oper.wp P o a w K Q else E := by
  have hw : Region.wanted o (yielded ops a.tmps) = true := by simp [Region.wanted, hgd]
  rw [if_pos hw]
  by_cases h0 : cs.length = 0
  · obtain rfl : cs = [] := List.eq_nil_of_length_eq_zero h0
    have hrun := run_copy_none (P := P) w dT sT o.type elem dp sp dLen dCap sLen sCap hu hsz (by simpa using hn.symm)
    unfold Oper.wp
    simp [execOp, ho, resolve, invoke, builtin, hd, hs, hrun, Result.andThen]
    exact h w (Lib.hid rfl)
  · obtain ⟨rfl, ad, rfl, hsrc⟩ := hpos (by omega)
    have hrun := run_copy_cells (P := P) w dT sT o.type elem g off dLen dCap ad sLen sCap cs hu hsz hn hsrc (fun j hj => (ht j hj).1) (fun j hj => (ht j hj).2) h1
    unfold Oper.wp
    simp [execOp, ho, resolve, invoke, builtin, hd, hs, hrun, Result.andThen]
    exact h _ (Lib.hid rfl)
end Go.Proofs.YtlknjaoamkcmjaaDoor
/- The blocks of bytes, told one by one; what stands behind them all. -/
namespace Go.Proofs.YtlknjaoamkcmjaaDoor
open Go.ChangeShapes Go.WideShapes Go.ChangeAt Go.RowKit Go.Shelf
set_option linter.unusedVariables false
open Plain Sha
attribute [local go_sem] Oper.semAt_some
abbrev Blk := { l : List Nat // l.length = 16 ∧ AllW l }
def blkAt (bs : List Int) (hb : IsBytes bs) (i : Nat) : Blk := ⟨wordsAt bs i, wordsAt_len bs i, wordsAt_lt bs hb i⟩
def upto (f : Nat → Blk) (k : Nat) : List Blk := (List.range k).map f
theorem upto_succ (f : Nat → Blk) (k : Nat) : upto f (k + 1) = upto f k ++ [f k] := by simp [upto, List.range_succ]
theorem upto_length (f : Nat → Blk) (k : Nat) : (upto f k).length = k := by simp [upto]
def Kept (n₀ Bn : Nat) (W W' : World) : Prop := Below n₀ W W' ∧ W'.heap[Bn]? = W.heap[Bn]?
theorem Kept.trans {n₀ Bn : Nat} {A B C : World} (h : Kept n₀ Bn A B) (k : Kept n₀ Bn B C) : Kept n₀ Bn A C := ⟨h.1.trans k.1, k.2.trans h.2⟩
theorem Kept.refl (n₀ Bn : Nat) (A : World) : Kept n₀ Bn A A := ⟨Below.refl _ _, rfl⟩
/-- Of bytes the number at a place. -/
theorem load_at (bs : List Int) (hb : IsBytes bs) (i t : Nat) (h : 64 * i + 64 ≤ bs.length) (ht : t < 16) :
    loadZ bs ((64 * i + 4 * t : Nat) : Int) 4 = (((wordsAt bs i).getD t 0 : Nat) : Int) := by
  rw [loadZ_yes _ _ _ (by omega), wordsAt_at bs i t ht]
  have := numZ_piece_range bs (64 * i + 4 * t) 4 4 (by omega) hb
  omega
/-- A whole array is read, stored, inside a fence. -/
theorem wpListIn_load_mid {F : Fence} {n : Nat} {P : Program} {ops : Array Oper} {rest : List Oper} {o : Oper} {a : Act} {w : World} {Q : Exit → Act → World → Prop} (hg : o.guard = none) (ty : TypeId) (x : Operand) (hop : o.op = .load ty x)
    (b off : Nat) (hx : a.eval x = .pointer (some ⟨b, off, none⟩)) (cs : List Value) (d : TypeDesc) (hc : w.rangeAt b off cs)
    (hu : P.underlying ty = some d) (hd : d.isRow = true) (hi : (P.info? ty).map (·.size) = some cs.length)
    (h : wpListIn F n P ops Q rest (a.put o.dst (.agg cs.toArray)) w) : wpListIn F n P ops Q (o :: rest) a w := by
  refine wpListIn_plain hg fun K hK => ?_
  unfold Oper.wpIn
  refine ⟨?_, ?_⟩
  · simp [Oper.about, hop]
  · rw [Oper.semAt_plain F _ _ (by rw [hop]; intro c hc'; cases hc')]
    unfold execOp
    simp only [hop, hx, Instr.loadAt, Instr.sureAddr, Sem.run_bind, Sem.run_pure, Result.andThen_ok, run_loadVar_mid w b off ty cs d hc hu hd hi]
    exact hK _ _ h
theorem wpListIn_store_as {F : Fence} {n : Nat} {P : Program} {ops : Array Oper} {rest : List Oper} {o : Oper} {a : Act} {w : World} {Q : Exit → Act → World → Prop} (hg : o.guard = none) (ty : TypeId) (x y : Operand) (hop : o.op = .store ty x y)
    (b off : Nat) (cells : Array Value) (hx : a.eval x = .pointer (some ⟨b, off, none⟩)) (hy : a.eval y = .agg cells)
    (ht : w.there b off cells.size) (hi : (P.info? ty).map (·.size) = some cells.size) (h1 : cells.all (·.oneCell') = true)
    (h : ∀ w', Hid (w' = w.setCells b off cells.toList) → wpListIn F n P ops Q rest (a.put o.dst undef) w') : wpListIn F n P ops Q (o :: rest) a w := by
  refine wpListIn_plain hg fun K hK => ?_
  unfold Oper.wpIn
  refine ⟨?_, ?_⟩
  · simp [Oper.about, hop]
  · rw [Oper.semAt_plain F _ _ (by rw [hop]; intro c hc'; cases hc')]
    unfold execOp
    simp only [hop, hx, hy, Instr.storeAt, Instr.sureAddr, Sem.run_bind, Sem.run_pure, Result.andThen_ok, run_storeVar_mid w b off ty cells ht hi h1]
    exact hK _ _ (h _ (Lib.hid rfl))
theorem below_grown {w w' : World} (h : Below w.heap.size w w') : w.grownBy w' none := ⟨h.os, h.tape, h.output, h.size, fun i hi _ => h.block i hi⟩
theorem word_lt (bs : List Int) (hb : IsBytes bs) (i t : Nat) : (wordsAt bs i).getD t 0 < 4294967296 := wordsAt_lt bs hb i t
set_option maxRecDepth 100000 in
set_option maxHeartbeats 2000000 in
theorem blocks1_in (n : Nat) (hn : 1 ≤ n) (l Bn n₀ : Nat) (A : Option Addr) (len cap : Nat) (bs : List Int) (hbs : IsBytes bs) (J Jx : List Blk → World → Prop)
    (hY : ∀ pre x W, J pre W → pre.length < len / 64 → YieldAt Fence.wide (n - 1) Tryd.prog l #[.agg (u32s x.1).toArray] W fun e W' =>
      (e = .returned (.bool true) ∧ J (pre ++ [x]) W' ∧ Kept n₀ Bn W W') ∨ (e = .returned (.bool false) ∧ Jx (pre ++ [x]) W'))
    (W : World) (hJ : AbidesFrom W.heap.size J) (hBn : Boxed W Bn 22 (.slice A len cap)) (hB : Bs W n₀ A len bs) (hn₀ : n₀ ≤ W.heap.size) (hlen : len ≤ 140737488355328) (h0 : J [] W) :
    CallsIn Fence.wide n Tryd.prog 101 #[.func (.yield l) #[] #[], .pointer (some ⟨Bn, 0, none⟩)] W fun e W' => (∃ v, e = .returned v) ∧
      ((∃ ys, ys = upto (blkAt bs hbs) (len / 64) ∧ J ys W') ∨ (∃ pre, Jx pre W')) := by
  have cB := hBn.cell
  have HL := Lib.hid hB.len
  refine callsIn_of_wp Tryd.func101 rfl trivial ?_ rfl
  simp only [Tryd.ntmps101, List.size_toArray, List.length_cons, List.length_nil, Nat.reduceAdd, Nat.reduceSub, Array.replicate_succ, Array.replicate_zero, List.push_toArray, List.append_toArray, List.nil_append, List.cons_append]
  have HQ : Hid (len / 64 * 64 ≤ len) := Lib.hid (by omega)
  obtain ⟨q, hq⟩ : ∃ q : Nat, len / 64 = q := ⟨_, rfl⟩
  have hq' : ((len : Int) / 64) = (q : Int) := by omega
  rw [hq] at hY ⊢
  have hq64 : 64 * q ≤ len := by omega
  clear hq
  gi_wp2
  clear hq' cB
  gi_loopw [9] (fun i wr => ∃ k : Nat, k ≤ q ∧ i = .int .i64 k ∧ J (upto (blkAt bs hbs) k) wr ∧ Kept n₀ Bn W wr) (fun i _ => q - (intOf i).toNat)
  case atStart => exact ⟨0, Nat.zero_le _, rfl, h0, Kept.refl _ _ _⟩
  case round =>
    obtain ⟨wo, hwo⟩ : ∃ wo, wo = wr := ⟨_, rfl⟩
    subst hwo
    obtain ⟨k, hk, rfl, hJs, hkn⟩ := hrel
    by_cases hlt : k < q
    · have hb1 : Boxed wo Bn 22 (.slice A len cap) := hkn.2.trans hBn
      have hB1 : Bs wo n₀ A len bs := hB.below hkn.1
      have r16 : Row32 (wo.alloc (.cells (u32s (List.replicate 16 0)).toArray 147)) wo.heap.size (List.replicate 16 0) := Row32.new wo _ _
      have R16 := Lib.hid r16
      clear r16
      gi_wp2
      gi_loopw [12] (fun i wr => ∃ t : Nat, t ≤ 16 ∧ i = .int .i64 t ∧ ∃ cs : List Nat, Hid (cs.length = 16) ∧ Hid (∀ j, j < t → cs.getD j 0 = (wordsAt bs k).getD j 0) ∧ Hid (Row32 wr wo.heap.size cs) ∧ Below wo.heap.size wo wr) (fun i _ => 16 - (intOf i).toNat)
      case atStart => exact ⟨0, by omega, rfl, List.replicate 16 0, Lib.hid (List.length_replicate ..), Lib.hid (fun j hj => absurd hj (by omega)), R16, (Below.refl _ _).alloc (Nat.le_refl _) _⟩
      case round =>
        obtain ⟨t, ht, rfl, cs, HC, HX, HR, hbw⟩ := hrel
        have hs1 := hkn.1.size
        have hb2 : Boxed wr Bn 22 (.slice A len cap) := (hbw.block Bn hb1.lt).trans hb1
        have hB2 : Bs wr n₀ A len bs := hB1.belowM hbw (by omega)
        have cb2 := hb2.cell
        by_cases hlt2 : t < 16
        · have hld := load_at bs hbs k t (by rw [HL.out]; omega) hlt2
          have hc0 := HR.out.cells t (by rw [HC.out]; omega)
          have hf0 := HR.out.free t (by rw [HC.out]; omega)
          have hxl := word_lt bs hbs k t
          have HCX : Hid (∀ j, j < t + 1 → (cs.set t ((wordsAt bs k).getD t 0)).getD j 0 = (wordsAt bs k).getD j 0) := Lib.hid (fun j hj => by
            rw [getD_setN _ _ _ _ (by rw [HC.out]; omega)]
            split
            · next h => subst h; rfl
            · exact HX.out j (by omega))
          obtain ⟨x, hx⟩ : ∃ x, (wordsAt bs k).getD t 0 = x := ⟨_, rfl⟩
          rw [hx] at hld hxl HCX
          have HLD : Hid (loadZ bs (64 * (k : Int) + 4 * (t : Int)) 4 = (x : Int)) := Lib.hid (by rw [← hld]; congr 1)
          have HB2 := Lib.hid hB2
          clear hx hld hB2
          gi_wp2_with (refine ⟨trivial, ?_⟩; gi_at_call 83; refine (callsIn_wide.2 (load32_any cap HB2.out (by unfold maxLen; omega) _ (by omega))).mono ?_; rw [HLD.out]; rintro e w' ⟨rfl, m, rfl⟩)
          go_roundw
          case rel => exact ⟨t + 1, by omega, by go_num, cs.set t x, Lib.hid (by rw [List.length_set]; exact HC.out), HCX, Lib.hid ((HR.out.drewN _).set t x (by rw [HC.out]; exact hlt2)), (below_drewN hbw _).setCell (by simp) _⟩
          case measure => simp [intOf]; omega
        · have htt : t = 16 := by omega
          have HE : Hid (cs = wordsAt bs k) := Lib.hid (list_ext_N (by rw [HC.out, wordsAt_len]) (fun j hj => HX.out j (by rw [HC.out] at hj; omega)))
          have hJ2 : J (upto (blkAt bs hbs) k) wr := hJ _ _ _ none hJs (below_grown hbw) (fun r e => by cases e)
          obtain ⟨fn, tmps, assign, body, hy, hR⟩ := hY _ (blkAt bs hbs k) wr hJ2 (by rw [upto_length]; exact hlt)
          simp only [blkAt] at hy
          have hI : (Tryd.prog.info? 147).map (·.size) = some (u32s (wordsAt bs k)).length := by rw [u32s_len, wordsAt_len]; kernel_rfl
          have hld : wr.rangeAt wo.heap.size 0 (u32s (wordsAt bs k)) := by rw [← HE.out]; exact HR.out.range
          have HLd := Lib.hid hld
          have HI := Lib.hid hI
          clear htt hI hld
          gi_wp2_with (refine wpListIn_load_mid (o := ⟨some 29, _, _, _, _, _⟩) rfl 147 (.tmp 4) rfl wo.heap.size 0 rfl (u32s (wordsAt bs k)) _ HLd.out Tryd.underlying147 rfl HI.out ?_)
          refine hR.mono ?_
          have hk1 : Kept n₀ Bn W wr := hkn.trans ⟨hbw.mono (by omega), hbw.block Bn hb1.lt⟩
          rintro e W3 (⟨rfl, hJ3, hk3⟩ | ⟨rfl, hJx3⟩)
          · gi_wp2
            go_roundw
            case rel => exact ⟨k + 1, by omega, by go_num, by rw [upto_succ]; exact hJ3, hk1.trans hk3⟩
            case measure => simp [intOf]; omega
          · gi_wp2
            refine bodyPost_ret (results_none rfl _ _ _) rfl ?_
            exact ⟨⟨_, rfl⟩, .inr ⟨_, hJx3⟩⟩
    · obtain rfl : k = q := by omega
      gi_wp2
      go_end0
      exact ⟨⟨_, rfl⟩, .inl ⟨_, rfl, hJs⟩⟩
set_option maxRecDepth 100000 in
theorem blocks_any (A : Option Addr) (len cap : Nat) (w : World) :
    Calls Tryd.prog 99 #[.slice A len cap] w fun e w' => e = .returned (.func (.func 101) #[] #[.pointer (some ⟨w.heap.size, 0, none⟩)]) ∧ w' = w.alloc (.cells #[.slice A len cap] 22) := by
  go_enter Tryd.func99, Tryd.ntmps99
  go_wp2
  go_ret
  exact ⟨rfl, rfl⟩
theorem blocks_stops (n : Nat) (hn : 1 ≤ n) (Bn n₀ : Nat) (A : Option Addr) (len cap : Nat) (bs : List Int) (hbs : IsBytes bs) (w : World) (hBn : Boxed w Bn 22 (.slice A len cap)) (hB : Bs w n₀ A len bs) (hn₀ : n₀ ≤ w.heap.size) (hlen : len ≤ 140737488355328) :
    SeqStopsK Fence.wide n Tryd.prog 101 #[.pointer (some ⟨Bn, 0, none⟩)] (fun x : Blk => #[Value.agg (u32s x.1).toArray]) (Kept n₀ Bn) (fun ys => ys = upto (blkAt bs hbs) (len / 64)) (fun _ => True) (len / 64) w := fun l J Jx W hW hJ _ hY h0 => by
  have h1 : Boxed W Bn 22 (.slice A len cap) := (hW.block Bn hBn.lt).trans hBn
  refine (blocks1_in n hn l Bn n₀ A len cap bs hbs J Jx hY W hJ h1 (hB.belowM hW hn₀) (Nat.le_trans hn₀ hW.size) hlen h0).mono ?_
  rintro e W' ⟨he, ⟨ys, rfl, hj⟩ | ⟨pre, hj⟩⟩
  · exact ⟨he, .inl ⟨_, rfl, hj⟩⟩
  · exact ⟨he, .inr ⟨_, trivial, hj⟩⟩
end Go.Proofs.YtlknjaoamkcmjaaDoor
/- What stands behind all blocks of some bytes. -/
namespace Go.Proofs.YtlknjaoamkcmjaaDoor
open Go.ChangeShapes Go.WideShapes Go.ChangeAt Go.RowKit Go.Shelf
set_option linter.unusedVariables false
open Plain Sha
attribute [local go_sem] Oper.semAt_some
theorem Row32.kept {W W' : World} {row : Option Nat} {b : Nat} {l : List Nat} (h : Row32 W b l) (hg : W.grownBy W' row) (hr : ∀ r, row = some r → ∃ o : Obj, W.heap[r]? = some o ∧ o.isCells = false) : Row32 W' b l :=
  ⟨fun j hj => cell_kept (h.cells j hj) hg hr, fun j hj => (frozen_kept (h.cells j hj) hg hr).trans (h.free j hj)⟩
def accB (v : H8) (pre : List Blk) : H8 := pre.foldl (fun v x => blk v x.1) v
theorem accB_snoc (v : H8) (pre : List Blk) (x : Blk) : accB v (pre ++ [x]) = blk (accB v pre) x.1 := by simp [accB]
theorem accB_upto (v : H8) (bs : List Int) (hb : IsBytes bs) : ∀ k, accB v (upto (blkAt bs hb) k) = behindTo v bs k
  | 0 => rfl
  | k + 1 => by rw [upto_succ, accB_snoc, accB_upto v bs hb k]; rfl
theorem accB_ok {v : H8} (h : v.ok) (pre : List Blk) : (accB v pre).ok := by
  rcases pre.eq_nil_or_concat with rfl | ⟨l, x, rfl⟩
  · exact h
  · rw [List.concat_eq_append, accB_snoc]; exact blk_ok _ _
theorem H8.len (v : H8) : v.list.length = 8 := rfl
theorem keeps_below {W W' : World} (h : Below W.heap.size W W') : KeepsOthers W W' := ⟨h.size, fun k o hk _ => (h.block k (Array.getElem?_eq_some_iff.1 hk).1).trans hk⟩
theorem keeps_setCells (b : Nat) : ∀ (vs : List Value) (o : Nat) (w : World), KeepsOthers w (w.setCells b o vs)
  | [], _, w => KeepsOthers.refl w
  | v :: r, o, w => by rw [World.setCells]; exact (KeepsOthers.setCell w ⟨b, o, none⟩ v).trans (keeps_setCells b r (o + 1) _)
set_option maxRecDepth 100000 in
set_option maxHeartbeats 4000000 in
theorem behind_any (v : H8) (hv : v.ok) {B : Nat} {A : Option Addr} {n : Nat} (c : Nat) {bs : List Int} {w : World} (hB : Bs w B A n bs) (hBw : B ≤ w.heap.size) (hn : n ≤ 140737488355328) (hK : LaidK w) :
    Calls Tryd.prog 94 #[.agg (u32s v.list).toArray, .slice A n c] w fun e w' => e = .returned (.agg (u32s (behind v bs).list).toArray) ∧ Below w.heap.size w w' := by
  have hbs := hB.isBytes
  have HN := Lib.hid hB.len
  have HKL := Lib.hid hK.lt
  refine (callsIn_wide (n := 10)).1 ?_
  refine callsIn_of_wp_marks Tryd.func94 rfl trivial ?_ rfl
  simp only [Tryd.ntmps94, List.size_toArray, List.length_cons, List.length_nil, Nat.reduceAdd, Nat.reduceSub, Array.replicate_succ, Array.replicate_zero, List.push_toArray, List.append_toArray, List.nil_append, List.cons_append]
  gi_wp2_with (refine ⟨trivial, ?_⟩; gi_at_call 99; refine (callsIn_wide.2 (blocks_any _ _ _ _)).mono ?_; rintro e w' ⟨rfl, rfl⟩)
  have r0 : Row32 (((w.alloc (.cells (u32s v.list).toArray 134)).alloc (.cells (u32s (List.replicate 8 0)).toArray 134)).alloc (.cells #[.slice A n c] 22)) w.heap.size v.list :=
    ((Row32.new w v.list 134).alloc (by simp [H8.list]) _).alloc (by simp [H8.list]) _
  have r1 : Row32 (((w.alloc (.cells (u32s v.list).toArray 134)).alloc (.cells (u32s (List.replicate 8 0)).toArray 134)).alloc (.cells #[.slice A n c] 22)) (w.heap.size + 1) (List.replicate 8 0) := by
    have := (Row32.new (w.alloc (.cells (u32s v.list).toArray 134)) (List.replicate 8 0) 134).alloc (by simp) (.cells #[.slice A n c] 22)
    simpa using this
  have r2 : Boxed (((w.alloc (.cells (u32s v.list).toArray 134)).alloc (.cells (u32s (List.replicate 8 0)).toArray 134)).alloc (.cells #[.slice A n c] 22)) (w.heap.size + 1 + 1) 22 (.slice A n c) := by
    have := Boxed.new ((w.alloc (.cells (u32s v.list).toArray 134)).alloc (.cells (u32s (List.replicate 8 0)).toArray 134)) 22 (.slice A n c)
    simpa using this
  have hb : Below w.heap.size w (((w.alloc (.cells (u32s v.list).toArray 134)).alloc (.cells (u32s (List.replicate 8 0)).toArray 134)).alloc (.cells #[.slice A n c] 22)) :=
    (((Below.refl _ _).alloc (Nat.le_refl _) _).alloc (by simp) _).alloc (by simp; omega) _
  refine (show ∀ W0 : World, Row32 W0 w.heap.size v.list → Row32 W0 (w.heap.size + 1) (List.replicate 8 0) → Boxed W0 (w.heap.size + 1 + 1) 22 (.slice A n c) → Below w.heap.size w W0 → W0.heap.size = w.heap.size + 3 → Code.wpIn Fence.wide 10 Tryd.prog _ _ _ W0 from ?_) _ r0 r1 r2 hb (by simp)
  clear r0 r1 r2 hb
  intro W0 r0 r1 r2 hb hs
  have HI8 : ∀ v : H8, (Tryd.prog.info? 134).map (·.size) = some (u32s v.list).length := fun v => by rw [u32s_len, H8.len]; kernel_rfl
  have HI16 : ∀ l : List Nat, l.length = 16 → (Tryd.prog.info? 147).map (·.size) = some (u32s l).length := fun l h => by rw [u32s_len, h]; kernel_rfl
  have I8 := Lib.hid HI8
  have I16 := Lib.hid HI16
  clear HI8 HI16
  refine wpIn_rangeFunc_ownH rfl (by omega) (gf := 101) (lb := #[.pointer (some ⟨w.heap.size + 1 + 1, 0, none⟩)]) rfl trivial (enters_of Tryd.func101 (by kernel_rfl) rfl)
    (blocks_stops (10 - 1) (by omega) (w.heap.size + 1 + 1) w.heap.size A n c bs hbs W0 r2 ((hB.more hBw).below hb) hb.size hn) Kept.trans
    (fun W l o o' hl h ho hw => ⟨belowK_b (w := W0) hb.size W l o o' hl h ho hw, by
      have := r2.lt
      exact World.putObj_heap_other (by omega)⟩) (Below.refl _ _) (fun _ => rfl)
    (fun pre W => ((Row32 W w.heap.size (accB v pre).list ∧ Row32 W (w.heap.size + 1) (List.replicate 8 0)) ∧ w.heap.size + 3 ≤ W.heap.size) ∧ Below w.heap.size w W)
    (fun _ _ _ => False)
    (OwnFrom.and (Own.from (fun s X Y row hs hg hr => ⟨⟨hs.1.1.kept hg hr, hs.1.2.kept hg hr⟩, Nat.le_trans hs.2 hg.size⟩) _) (ownFrom_below (Nat.le_refl _) (by omega)))
    (fun _ _ _ _ _ hs _ _ => hs)
    ⟨⟨⟨r0, r1⟩, by omega⟩, hb⟩
    (fun x a' W => ∃ Bx, w.heap.size + 1 + 1 < Bx ∧ Row32 W Bx x.1 ∧ a' = { tmps := #[.agg (u32s v.list).toArray, .slice A n c, .pointer (some ⟨w.heap.size, 0, none⟩), undef, .pointer (some ⟨w.heap.size + 1, 0, none⟩), .pointer (some ⟨Bx, 0, none⟩), .slice A n c, .func (.func 101) #[] #[.pointer (some ⟨w.heap.size + 1 + 1, 0, none⟩)], .agg (u32s x.1).toArray, undef, undef, undef, undef], defers := [] })
    (fun x a' _ X Y row hs hg hr => by obtain ⟨Bx, h1, h2, h3⟩ := hs; exact ⟨Bx, h1, h2.kept hg (fun r e => (hr r e).2), h3⟩)
    ?assign ?body ?done ?stop
  case assign =>
    rintro l pre x W K ⟨⟨⟨p0, p1⟩, hsz⟩, hB1⟩ hK
    have hw0 := hB1.size
    have hx16 := x.2.1
    have z16 := Row32.new W (List.replicate 16 0) 147
    have T16 := Lib.hid (z16.thereFor (r := x.1) (by rw [hx16]; simp))
    have P0 := Lib.hid p0
    have P1 := Lib.hid p1
    have HX := Lib.hid hx16
    have HKK := Lib.hid hK
    clear z16 p0 p1 hK hx16
    gi_wp2_with (refine wpListIn_store_as (o := ⟨none, .store 147 (.tmp 5) (.tmp 8), _, _, _, _⟩) rfl 147 (.tmp 5) (.tmp 8) rfl W.heap.size 0 (u32s x.1).toArray rfl rfl T16.out (I16.out _ HX.out) (u32s_all _) ?_; intro w4 hw4)
    have b4 : Below W.heap.size W w4 := by rw [hw4.out]; exact below_setCells (Nat.le_refl _) _ _ _ ((Below.refl _ _).alloc (Nat.le_refl _) _)
    have R4 : Row32 w4 W.heap.size x.1 := by rw [hw4.out]; exact (Row32.new W (List.replicate 16 0) 147).store (by rw [HX.out]; simp)
    exact HKK.out _ _ ((keeps_below b4).from _) ⟨b4.mono hw0, b4.block _ (by omega)⟩ ⟨⟨⟨P0.out.below b4 (by omega), P1.out.below b4 (by omega)⟩, Nat.le_trans hsz b4.size⟩, hB1.trans (b4.mono hw0)⟩ ⟨W.heap.size, by omega, R4, rfl⟩
  case body =>
    rintro l pre x a' W hl ⟨r, hr⟩ ⟨⟨⟨p0, p1⟩, hsz⟩, hB1⟩ ⟨Bx, hBx, pX, rfl⟩ hlt
    have hw0 := hB1.size
    have hx16 := x.2.1
    have T8 := Lib.hid (p0.thereFor (r := (blk (accB v pre) x.1).list) (by rw [H8.len, H8.len]))
    have P0 := Lib.hid p0
    have P1 := Lib.hid p1
    have PX := Lib.hid pX
    have HX := Lib.hid hx16
    have HXW := Lib.hid x.2.2
    have KW := Lib.hid (hK.below hB1 HKL.out)
    have AO := Lib.hid (accB_ok hv pre)
    clear p0 p1 pX hx16
    gi_wp2_with (first
      | (refine wpListIn_load_mid (o := ⟨some 9, _, _, _, _, _⟩) rfl 134 (.tmp 2) rfl w.heap.size 0 rfl (u32s (accB v pre).list) _ P0.out.range Tryd.underlying134 rfl (I8.out _) ?_)
      | (refine wpListIn_load_mid (o := ⟨some 10, _, _, _, _, _⟩) rfl 147 (.tmp 5) rfl Bx 0 rfl (u32s x.1) _ PX.out.range Tryd.underlying147 rfl (I16.out _ HX.out) ?_))
    refine ⟨trivial, ?_⟩
    refine (CallsIn.inRound l (callsIn_wide.2 (block_any (accB v pre) AO.out x.1 HX.out HXW.out W KW.out))).mono ?_
    rintro e w5 ⟨rfl, hb5⟩
    have q0 := P0.out.below hb5 (by omega)
    have q1 := P1.out.below hb5 (by omega)
    have T85 := Lib.hid (q0.thereFor (r := (blk (accB v pre) x.1).list) (by rw [H8.len, H8.len]))
    have Q0 := Lib.hid q0
    have Q1 := Lib.hid q1
    clear q0 q1 T8 P0 P1 PX
    gi_wp2_with (refine wpListIn_store_as (o := ⟨none, .store 134 (.tmp 2) (.tmp 11), _, _, _, _⟩) rfl 134 (.tmp 2) (.tmp 11) rfl w.heap.size 0 (u32s (blk (accB v pre) x.1).list).toArray rfl rfl T85.out (I8.out _) (u32s_all _) ?_; intro w6 hw6)
    have R6 : Row32 w6 w.heap.size (accB v (pre ++ [x])).list := by rw [hw6.out, accB_snoc]; exact Q0.out.store (by rw [H8.len, H8.len])
    have S6 : Row32 w6 (w.heap.size + 1) (List.replicate 8 0) := by rw [hw6.out]; exact Q1.out.storeOther _ _ _ (by omega)
    have b6 : Below w.heap.size W w6 := by rw [hw6.out]; exact below_setCells (Nat.le_refl _) _ _ _ (hb5.mono hw0)
    have e6 : w6.heap[w.heap.size + 1 + 1]? = W.heap[w.heap.size + 1 + 1]? := by rw [hw6.out, heap_setCells _ _ (by omega)]; exact hb5.block _ (by omega)
    have k6 : KeepsOthers W w6 := by rw [hw6.out]; exact (keeps_below hb5).trans (keeps_setCells _ _ _ _)
    exact ⟨k6.from _, ⟨b6, e6⟩, ⟨⟨R6, S6⟩, Nat.le_trans hsz b6.size⟩, hB1.trans b6⟩
  case done =>
    rintro D ys W hD rfl ⟨⟨⟨p0, p1⟩, hsz⟩, hB1⟩ hD2
    have hf : accB v (upto (blkAt bs hbs) (n / 64)) = behind v bs := by rw [accB_upto]; unfold behind; rw [HN.out]
    rw [hf] at p0
    have T8 := Lib.hid (p1.thereFor (r := (behind v bs).list) (by rw [H8.len]; simp))
    have P0 := Lib.hid p0
    have P1 := Lib.hid p1
    have HD := Lib.hid hD2
    clear p0 p1 hf hD2
    gi_wp2_with (first
      | (refine wpListIn_load_mid (o := ⟨some 12, _, _, _, _, _⟩) rfl 134 (.tmp 2) rfl w.heap.size 0 rfl (u32s (behind v bs).list) _ P0.out.range Tryd.underlying134 rfl (I8.out _) ?_)
      | (refine wpListIn_store_as (o := ⟨none, .store 134 (.tmp 4) (.tmp 12), _, _, _, _⟩) rfl 134 (.tmp 4) (.tmp 12) rfl (w.heap.size + 1) 0 (u32s (behind v bs).list).toArray rfl rfl T8.out (I8.out _) (u32s_all _) ?_; intro w6 hw6))
    have R6 : Row32 w6 (w.heap.size + 1) (behind v bs).list := by rw [hw6.out]; exact P1.out.store (by rw [H8.len]; simp)
    have b6 : Below w.heap.size w w6 := by rw [hw6.out]; exact below_setCells (by omega) _ _ _ hB1
    have hD6 : w6.heap[D]? = some (.deferred (some [])) := by rw [hw6.out, heap_setCells _ _ (by omega)]; exact HD.out
    refine ⟨by simp, .inl ⟨_, _, rfl, run_takeDeferred hD6, ?_⟩⟩
    have R7 := R6.kept (grownBy_putObj' _ D (.deferred none)) (fun r e => by cases e; exact ⟨_, hD6, rfl⟩)
    exact ⟨_, results_mid (p := 4) (ty := 134) rfl _ _ (w.heap.size + 1) 0 (u32s (behind v bs).list) _ rfl R7.range Tryd.underlying134 rfl (I8.out _), rfl, b6.trans (belowK_b (w := w) (Nat.le_refl _) _ D _ _ (by omega) hD6 rfl rfl)⟩
  case stop =>
    rintro D c pre W _ _ h _
    exact h.elim
end Go.Proofs.YtlknjaoamkcmjaaDoor
