/- Texts of the proof, one behind the other: Moved Dk Last DBytes DConcat DTold DSettle DWrite DSync DCrash DCut DAt DAwake Acts06 DDo. -/
import Derived.Test.YtjfeepmjebdahaaDoorB1
import Derived.Test.YtjfeepmjebdahaaDoorB3
import Derived.Maps.AppendAt
import Derived.OrdersHeld
import Derived.Lib.AppendZerosOnto
import Derived.Deep.Cut
import Derived.Lib.MinMax
import Derived.OpenShut
import Derived.SizedLaws
import Derived.Deep.Slices
import Derived.ChangeArms
/- What may move in a call: the blocks of a set, and new ones. Lists of bytes, and rows of lists, that stand in the blocks of a set. -/
namespace Go.Proofs.YtjfeepmjebdahaaDoor
open Go.ChangeShapes Go.WideShapes Go.ChangeAt Go.RowKit
set_option linter.unusedVariables false
/-- But for the blocks of F all stands as it stood. -/
structure Moved (F : Nat → Prop) (w w' : World) : Prop where
  os : w'.os = w.os
  tape : w'.tape = w.tape
  output : w'.output = w.output
  size : w.heap.size ≤ w'.heap.size
  block : ∀ k, k < w.heap.size → ¬ F k → w'.heap[k]? = w.heap[k]?
/-- The blocks of G are of F, or newer than w. -/
def Newer (w : World) (F G : Nat → Prop) : Prop := ∀ k, G k → F k ∨ w.heap.size ≤ k
section
variable {w w1 w2 : World} {F G H : Nat → Prop}
theorem Newer.refl (w : World) (F : Nat → Prop) : Newer w F F := fun k h => .inl h
theorem Newer.trans (h : Newer w F G) (k : Newer w1 G H) (hs : w.heap.size ≤ w1.heap.size) : Newer w F H := fun i hi => by
  rcases k i hi with h1 | h1
  · exact h i h1
  · exact .inr (Nat.le_trans hs h1)
theorem Moved.refl (F : Nat → Prop) (w : World) : Moved F w w := ⟨rfl, rfl, rfl, Nat.le_refl _, fun _ _ _ => rfl⟩
theorem Moved.trans (h : Moved F w w1) (k : Moved G w1 w2) (hn : Newer w F G) : Moved F w w2 :=
  ⟨k.os.trans h.os, k.tape.trans h.tape, k.output.trans h.output, Nat.le_trans h.size k.size, fun i hi hF => (k.block i (Nat.lt_of_lt_of_le hi h.size) (fun hG => by
    rcases hn i hG with h1 | h1
    · exact hF h1
    · omega)).trans (h.block i hi hF)⟩
theorem Moved.then (h : Moved F w w1) (k : Moved F w1 w2) : Moved F w w2 := h.trans k (Newer.refl _ _)
theorem Moved.grown {r : Option Nat} (h : w.grownBy w1 r) (hr : ∀ k, r = some k → F k) : Moved F w w1 :=
  ⟨h.os, h.tape, h.output, h.size, fun k hk hF => h.block k hk (fun e => hF (hr k e.symm))⟩
theorem Moved.of_below (F : Nat → Prop) (h : Below w.heap.size w w1) : Moved F w w1 := ⟨h.os, h.tape, h.output, h.size, fun k hk _ => h.block k hk⟩
theorem Moved.below {B : Nat} (h : Moved F w w1) (hB : B ≤ w.heap.size) (hF : ∀ k, F k → B ≤ k) : Below B w w1 :=
  ⟨h.os, h.tape, h.output, h.size, fun k hk => h.block k (by omega) (fun hf => by have := hF k hf; omega)⟩
theorem Moved.cell (F : Nat → Prop) (w : World) (p : Addr) (v : Value) (hF : F p.block) : Moved F w (w.setCell p v) :=
  ⟨rfl, rfl, rfl, by simp [World.setCell], fun k _ hn => Below.heap_setCell _ _ _ _ (fun e => hn (by rw [e]; exact hF))⟩
theorem Moved.drew (F : Nat → Prop) (w : World) : Moved F w w.drew := ⟨rfl, rfl, rfl, Nat.le_refl _, fun _ _ _ => rfl⟩
theorem Moved.drewN (F : Nat → Prop) (w : World) (n : Nat) : Moved F w (w.drewN n) := ⟨rfl, rfl, rfl, Nat.le_refl _, fun _ _ _ => rfl⟩
theorem Moved.alloc (F : Nat → Prop) (w : World) (o : Obj) : Moved F w (w.alloc o) := ⟨rfl, rfl, rfl, by simp, fun k hk _ => Below.heap_alloc _ _ _ hk⟩
theorem Moved.cell? (h : Moved F w w1) (p : Addr) (hp : p.block < w.heap.size) (hF : ¬ F p.block) : w1.cell? p = w.cell? p := World.cell?_of_block (h.block _ hp hF)
theorem Moved.more (h : Moved F w w1) (hF : ∀ k, F k → k < w.heap.size → G k) : Moved G w w1 := ⟨h.os, h.tape, h.output, h.size, fun k hk hn => h.block k hk (fun hf => hn (hF k hf hk))⟩
/-- A row that somebody owns stays where its block stays. -/
theorem own_same {base n size : Nat} {t : TypeId} {v : Value} {xs : List Value} (h : w.ownsRow base t size v n xs) (hk : ∀ g, v.ownBlock = some g → w1.heap[g]? = w.heap[g]?) : w1.ownsRow base t size v n xs := by
  obtain ⟨h1, h2 | ⟨g, cap, cur, rfl, hg, hh, h3⟩⟩ := h
  · exact ⟨h1, .inl h2⟩
  · exact ⟨h1, .inr ⟨g, cap, cur, rfl, hg, (hk g rfl).trans hh, h3⟩⟩
theorem own_from {base base' n size : Nat} {t : TypeId} {v : Value} {xs : List Value} (h : w.ownsRow base t size v n xs) (hk : ∀ g, v.ownBlock = some g → base' ≤ g) : w.ownsRow base' t size v n xs := by
  obtain ⟨h1, h2 | ⟨g, cap, cur, rfl, hg, hh, h3⟩⟩ := h
  · exact ⟨h1, .inl h2⟩
  · exact ⟨h1, .inr ⟨g, cap, cur, rfl, hk g rfl, hh, h3⟩⟩
end
/-- A list of bytes that stands somewhere. -/
structure PieceZ where
  A : Option Addr
  n : Nat
  c : Nat
  zs : List Int
def pval (p : PieceZ) : Value := .slice p.A p.n p.c
/-- In w it reads as its bytes; they stand in blocks of F. -/
structure Stands (w : World) (F : Nat → Prop) (p : PieceZ) : Prop where
  len : p.zs.length = p.n
  bytes : IsBytes p.zs
  cap : p.n ≤ p.c
  max : p.c ≤ maxLen
  row : 0 < p.n → ∃ g off, p.A = some ⟨g, off, none⟩ ∧ F g ∧ ∀ j, j < p.n → w.cell? ⟨g, off + j, none⟩ = some (.int .u8 (p.zs.getD j 0))
section
variable {w w1 : World} {F G : Nat → Prop} {p : PieceZ}
theorem Stands.keep (h : Stands w F p) (hk : ∀ k, F k → k < w.heap.size → w1.heap[k]? = w.heap[k]?) : Stands w1 F p :=
  ⟨h.len, h.bytes, h.cap, h.max, fun hn => by
    obtain ⟨g, off, e, hg, hc⟩ := h.row hn
    refine ⟨g, off, e, hg, fun j hj => ?_⟩
    have := hc j hj
    rw [World.cell?_of_block (hk g hg (World.block_lt_of_cell? _ _ this))]
    exact this⟩
theorem Stands.more (h : Stands w F p) (hF : ∀ k, F k → k < w.heap.size → G k) : Stands w G p :=
  ⟨h.len, h.bytes, h.cap, h.max, fun hn => by
    obtain ⟨g, off, e, hg, hc⟩ := h.row hn
    exact ⟨g, off, e, hF g hg (World.block_lt_of_cell? _ _ (hc 0 hn)), hc⟩⟩
theorem Stands.bs (h : Stands w F p) : Bs w w.heap.size p.A p.n p.zs :=
  ⟨h.len, fun j hj => h.bytes j (by rw [h.len]; exact hj), fun hn => by
    obtain ⟨g, off, e, hg, hc⟩ := h.row hn
    exact ⟨g, off, e, World.block_lt_of_cell? _ _ (hc 0 hn), hc⟩⟩
theorem stands_nil (w : World) (F : Nat → Prop) : Stands w F ⟨none, 0, 0, []⟩ := ⟨rfl, IsBytes.nil, Nat.le_refl _, by simp [maxLen], fun h => absurd h (by simp)⟩
theorem stands_own {base n c : Nat} {A : Option Addr} {zs : List Int} (h : w.ownsRow base 5 1 (.slice A n c) n (vals zs)) (hb : IsBytes zs) (hF : ∀ k, (Value.slice A n c).ownBlock = some k → F k) : Stands w F ⟨A, n, c, zs⟩ := by
  have hl : zs.length = n := by have := h.1; rw [vals_len] at this; omega
  obtain ⟨A', c', e, h1, h2⟩ := own_shape h
  injection e with e1 e2 e3
  subst e1 e3
  refine ⟨hl, hb, h1, h2, fun hn => ?_⟩
  obtain ⟨b, off, e, hlt, hc⟩ := (bs_of_own h hb).row hn
  change A = _ at e
  subst e
  exact ⟨b, off, rfl, hF b rfl, hc⟩
theorem Stands.cut (h : Stands w F p) {k c' : Nat} (hk : k ≤ p.n) (hc : k ≤ c') (hc2 : c' ≤ maxLen) : Stands w F ⟨p.A, k, c', p.zs.take k⟩ := by
  have hl := h.len
  have hg : ∀ j, j < k → (p.zs.take k).getD j 0 = p.zs.getD j 0 := fun j hj => by simp [List.getD_eq_getElem?_getD, hj]
  refine ⟨by simp; omega, ?_, hc, hc2, fun hn => ?_⟩
  · rw [isBytes_iff]
    exact fun z hz => isBytes_iff.1 h.bytes z (List.mem_of_mem_take hz)
  · obtain ⟨g, off, e, hF, hcell⟩ := h.row (by simp at hn; omega)
    refine ⟨g, off, e, hF, fun j hj => ?_⟩
    simp at hj
    show w.cell? _ = some (.int .u8 ((p.zs.take k).getD j 0))
    rw [hg j (by omega)]
    exact hcell j (by omega)
end
/-- A row of lists, at A. -/
structure Bunch (w : World) (F : Nat → Prop) (A : Option Addr) (ps : List PieceZ) : Prop where
  row : 0 < ps.length → ∃ g off, A = some ⟨g, off, none⟩ ∧ F g ∧ ∀ j p, ps[j]? = some p → w.cell? ⟨g, off + j, none⟩ = some (pval p)
  all : ∀ p ∈ ps, Stands w F p
section
variable {w w1 : World} {F G : Nat → Prop} {A : Option Addr} {ps : List PieceZ}
theorem Bunch.keep (h : Bunch w F A ps) (hk : ∀ k, F k → k < w.heap.size → w1.heap[k]? = w.heap[k]?) : Bunch w1 F A ps :=
  ⟨fun hn => by
    obtain ⟨g, off, e, hg, hc⟩ := h.row hn
    refine ⟨g, off, e, hg, fun j p hj => ?_⟩
    have := hc j p hj
    rw [World.cell?_of_block (hk g hg (World.block_lt_of_cell? _ _ this))]
    exact this, fun p hp => (h.all p hp).keep hk⟩
theorem Bunch.more (h : Bunch w F A ps) (hF : ∀ k, F k → k < w.heap.size → G k) : Bunch w G A ps :=
  ⟨fun hn => by
    obtain ⟨g, off, e, hg, hc⟩ := h.row hn
    obtain ⟨p, hp⟩ : ∃ p, ps[0]? = some p := ⟨ps[0], List.getElem?_eq_getElem hn⟩
    exact ⟨g, off, e, hF g hg (World.block_lt_of_cell? _ _ (hc 0 p hp)), hc⟩, fun p hp => (h.all p hp).more hF⟩
theorem Bunch.at_ (h : Bunch w F A ps) {k : Nat} (hk : k < ps.length) :
    ∃ g off p, A = some ⟨g, off, none⟩ ∧ g < w.heap.size ∧ F g ∧ Hid (ps[k]? = some p) ∧ w.cell? ⟨g, off + k, none⟩ = some (pval p) ∧ Stands w F p := by
  obtain ⟨g, off, e, hg, hc⟩ := h.row (by omega)
  have hp : ps[k]? = some ps[k] := List.getElem?_eq_getElem hk
  have := hc k _ hp
  exact ⟨g, off, ps[k], e, World.block_lt_of_cell? _ _ this, hg, Lib.hid hp, this, h.all _ (List.getElem_mem hk)⟩
theorem bunch_nil (w : World) (F : Nat → Prop) (A : Option Addr) : Bunch w F A [] := ⟨fun h => absurd h (by simp), fun p hp => by cases hp⟩
theorem bunch_own {base c : Nat} (h : w.ownsRow base 27 1 (.slice A ps.length c) ps.length (ps.map pval)) (hF : ∀ k, (Value.slice A ps.length c).ownBlock = some k → F k) (hall : ∀ p ∈ ps, Stands w F p) : Bunch w F A ps := by
  refine ⟨fun hn => ?_, hall⟩
  obtain ⟨g, cap, hv, _, hlt⟩ := h.form hn
  injection hv with e1 e2 e3
  subst e1
  refine ⟨g, 0, rfl, hF g rfl, fun j p hj => ?_⟩
  have := h.cells (g := g) rfl j (pval p) (by simp [List.getElem?_map, hj])
  rwa [Go.WideShapes.add_plain] at this
def flatZ (ps : List PieceZ) : List Int := (ps.map (·.zs)).flatten
theorem flatZ_bytes (h : ∀ p ∈ ps, IsBytes p.zs) : IsBytes (flatZ ps) := by
  rw [isBytes_iff]
  intro z hz
  unfold flatZ at hz
  obtain ⟨l, hl, hz⟩ := List.mem_flatten.1 hz
  obtain ⟨p, hp, rfl⟩ := List.mem_map.1 hl
  exact isBytes_iff.1 (h p hp) z hz
theorem flatZ_snoc (ps : List PieceZ) (p : PieceZ) : flatZ (ps ++ [p]) = flatZ ps ++ p.zs := by simp [flatZ]
theorem flatZ_take {k : Nat} {p : PieceZ} (h : ps[k]? = some p) : flatZ (ps.take (k + 1)) = flatZ (ps.take k) ++ p.zs := by
  rw [List.take_add_one, h]
  exact flatZ_snoc _ _
theorem flatZ_take_le (k : Nat) : (flatZ (ps.take k)).length ≤ (flatZ ps).length := by
  have : flatZ ps = flatZ (ps.take k) ++ flatZ (ps.drop k) := by
    unfold flatZ
    rw [← List.flatten_append, ← List.map_append, List.take_append_drop]
  rw [this, List.length_append]; omega
theorem Bunch.bytes (h : Bunch w F A ps) : IsBytes (flatZ ps) := flatZ_bytes fun p hp => (h.all p hp).bytes
end
end Go.Proofs.YtjfeepmjebdahaaDoor
/- A disk as it lies in memory. -/
namespace Go.Proofs.YtjfeepmjebdahaaDoor
open Go.ChangeShapes Go.WideShapes Go.ChangeAt Go.RowKit
set_option linter.unusedVariables false
/-- A disk's state: whether it is up, what is synced, the writes behind that. -/
structure DiskZ where
  up : Bool
  zs : List Int
  ws : List (List Int)
def allZ (s : DiskZ) : List Int := s.zs ++ s.ws.flatten
/-- Small enough for every sum of lengths. -/
structure Small (s : DiskZ) : Prop where
  bytes : (allZ s).length ≤ 1000000
  writes : s.ws.length ≤ 1000000
/-- Blocks of K other than the disk's own three. -/
def Rest (K : Nat → Prop) (b : Nat) (v u : Value) : Nat → Prop := fun k => K k ∧ k ≠ b ∧ v.ownBlock ≠ some k ∧ u.ownBlock ≠ some k
structure DkAt (w : World) (b : Nat) (K : Nat → Prop) (s : DiskZ) (v u : Value) (ps : List PieceZ) : Prop where
  kb : K b
  lt : ∀ k, K k → k < w.heap.size
  made : w.cell? ⟨b, 0, none⟩ = some (.bool true)
  up : w.cell? ⟨b, 1, none⟩ = some (.bool s.up)
  syn : w.cell? ⟨b, 2, none⟩ = some v
  wr : w.cell? ⟨b, 3, none⟩ = some u
  f1 : w.frozen? ⟨b, 1, none⟩ = false
  f2 : w.frozen? ⟨b, 2, none⟩ = false
  f3 : w.frozen? ⟨b, 3, none⟩ = false
  own2 : w.ownsRow 0 5 1 v s.zs.length (vals s.zs)
  blk2 : ∀ k, v.ownBlock = some k → K k ∧ k ≠ b
  bytes : IsBytes s.zs
  own3 : w.ownsRow 0 27 1 u ps.length (ps.map pval)
  blk3 : ∀ k, u.ownBlock = some k → K k ∧ k ≠ b ∧ v.ownBlock ≠ some k
  all : ∀ p ∈ ps, Stands w (Rest K b v u) p
  ws : ps.map (·.zs) = s.ws
def Dk (w : World) (b : Nat) (K : Nat → Prop) (s : DiskZ) : Prop := ∃ v u ps, DkAt w b K s v u ps
section
variable {w w1 : World} {b : Nat} {K : Nat → Prop} {s : DiskZ} {v u : Value} {ps : List PieceZ}
theorem DkAt.keep (h : DkAt w b K s v u ps) (hk : ∀ k, K k → w1.heap[k]? = w.heap[k]?) (hs : w.heap.size ≤ w1.heap.size) : DkAt w1 b K s v u ps :=
  have hb := hk b h.kb
  ⟨h.kb, fun k hK => Nat.lt_of_lt_of_le (h.lt k hK) hs, (World.cell?_of_block (a := ⟨b, 0, none⟩) hb).trans h.made, (World.cell?_of_block (a := ⟨b, 1, none⟩) hb).trans h.up,
    (World.cell?_of_block (a := ⟨b, 2, none⟩) hb).trans h.syn, (World.cell?_of_block (a := ⟨b, 3, none⟩) hb).trans h.wr,
    (World.frozen?_of_block (a := ⟨b, 1, none⟩) hb).trans h.f1, (World.frozen?_of_block (a := ⟨b, 2, none⟩) hb).trans h.f2, (World.frozen?_of_block (a := ⟨b, 3, none⟩) hb).trans h.f3,
    own_same h.own2 (fun g hg => hk g (h.blk2 g hg).1), h.blk2, h.bytes, own_same h.own3 (fun g hg => hk g (h.blk3 g hg).1), h.blk3,
    fun p hp => (h.all p hp).keep (fun k hF _ => hk k hF.1), h.ws⟩
theorem Dk.keep (h : Dk w b K s) (hk : ∀ k, K k → w1.heap[k]? = w.heap[k]?) (hs : w.heap.size ≤ w1.heap.size) : Dk w1 b K s := by
  obtain ⟨v, u, ps, h⟩ := h
  exact ⟨v, u, ps, h.keep hk hs⟩
theorem Dk.lt (h : Dk w b K s) : ∀ k, K k → k < w.heap.size := by obtain ⟨v, u, ps, h⟩ := h; exact h.lt
theorem Dk.kb (h : Dk w b K s) : K b := by obtain ⟨v, u, ps, h⟩ := h; exact h.kb
theorem Dk.below {B : Nat} (h : Dk w b K s) (hb : Below B w w1) (hB : w.heap.size ≤ B) : Dk w1 b K s := h.keep (fun k hk => hb.block k (by have := h.lt k hk; omega)) hb.size
theorem Dk.alloc (h : Dk w b K s) (o : Obj) : Dk (w.alloc o) b K s := h.keep (fun k hk => Below.heap_alloc _ _ _ (h.lt k hk)) (by simp)
theorem Dk.drewN (h : Dk w b K s) (n : Nat) : Dk (w.drewN n) b K s := h.keep (fun _ _ => rfl) (Nat.le_refl _)
theorem Dk.cell {p : Addr} (h : Dk w b K s) (hp : ¬ K p.block) (x : Value) : Dk (w.setCell p x) b K s := h.keep (fun k hk => Below.heap_setCell _ _ _ _ (fun e => hp (by rw [← e]; exact hk))) (by simp [World.setCell])
theorem Dk.moved {F : Nat → Prop} (h : Dk w b K s) (hm : Moved F w w1) (hF : ∀ k, K k → ¬ F k) : Dk w1 b K s := h.keep (fun k hk => hm.block k (h.lt k hk) (hF k hk)) hm.size
theorem DkAt.bunch (h : DkAt w b K s v u ps) : ∃ A c, u = .slice A ps.length c ∧ ps.length ≤ c ∧ c ≤ maxLen ∧ Bunch w (fun k => K k ∧ k ≠ b ∧ v.ownBlock ≠ some k) A ps := by
  obtain ⟨A, c, rfl, h1, h2⟩ := own_shape h.own3
  exact ⟨A, c, rfl, h1, h2, bunch_own h.own3 (fun k hk => h.blk3 k hk) (fun p hp => (h.all p hp).more (fun k hF _ => ⟨hF.1, hF.2.1, hF.2.2.1⟩))⟩
theorem DkAt.piece (h : DkAt w b K s v u ps) : ∃ A c, v = .slice A s.zs.length c ∧ Stands w (fun k => v.ownBlock = some k) ⟨A, s.zs.length, c, s.zs⟩ := by
  obtain ⟨A, c, rfl, h1, h2⟩ := own_shape h.own2
  exact ⟨A, c, rfl, stands_own h.own2 h.bytes (fun k hk => hk)⟩
theorem DkAt.flat (h : DkAt w b K s v u ps) : s.ws.flatten = flatZ ps := by rw [← h.ws]; rfl
theorem DkAt.len (h : DkAt w b K s v u ps) : ps.length = s.ws.length := by rw [← h.ws]; simp
end
/-- What a disk's call hands back: an error; its state behind it. -/
def Did (w : World) (b : Nat) (K : Nat → Prop) (r : Int × DiskZ) (e : Ending) (w' : World) : Prop :=
  e = .returned (.int .i64 r.1) ∧ ∃ K', Dk w' b K' r.2 ∧ Moved K w w' ∧ Newer w K K'
/-- New. -/
def NewDisk (w : World) (e : Ending) (w' : World) : Prop := e = .returned (.pointer (some ⟨w.heap.size, 0, none⟩)) ∧ Below w.heap.size w w' ∧ w'.heap.size = w.heap.size + 1 ∧ Dk w' w.heap.size (fun k => k = w.heap.size) ⟨true, [], []⟩
theorem newdisk_any (w : World) : Calls Tryd.prog 9 #[] w (NewDisk w) := by
  go_enter Tryd.func9, Tryd.ntmps9
  go_wp2
  go_ret
  have hh := heap_alloc_new w (.cells #[.bool true, .bool true, .slice none 0 0, .slice none 0 0] 48)
  refine ⟨rfl, (Below.refl _ _).alloc (Nat.le_refl _) _, by simp, .slice none 0 0, .slice none 0 0, [], rfl, fun k hk => (by simp; omega), ?_, ?_, ?_, ?_, ?_, ?_, ?_, World.ownsRow_nil _ _ _ _, fun k hk => (by cases hk), IsBytes.nil, World.ownsRow_nil _ _ _ _, fun k hk => (by cases hk), fun p hp => (by cases hp), rfl⟩
  all_goals first
    | (rw [cell_of_row _ _ _ _ _ _ hh]; rfl)
    | exact frozen_of_row _ _ _ _ _ hh
theorem synced_any {w : World} {b : Nat} {K : Nat → Prop} {s : DiskZ} (h : Dk w b K s) : Calls Tryd.prog 18 #[.pointer (some ⟨b, 0, none⟩)] w (fun e w' => e = .returned (.int .i64 (s.zs.length : Nat)) ∧ w = w') := by
  obtain ⟨v, u, ps, h⟩ := h
  obtain ⟨A, c, rfl, _⟩ := h.piece
  have h1 := h.syn
  obtain ⟨n, hn⟩ : ∃ n, s.zs.length = n := ⟨_, rfl⟩
  rw [hn] at h1 ⊢
  clear h hn
  go_enter Tryd.func18, Tryd.ntmps18
  go_wp2
  go_ret
  exact ⟨rfl, rfl⟩
theorem up_any {w : World} {b : Nat} {K : Nat → Prop} {s : DiskZ} (h : Dk w b K s) : Calls Tryd.prog 19 #[.pointer (some ⟨b, 0, none⟩)] w (fun e w' => e = .returned (.bool s.up) ∧ w = w') := by
  obtain ⟨v, u, ps, h⟩ := h
  have h1 := h.up
  clear h
  go_enter Tryd.func19, Tryd.ntmps19
  go_wp2
  go_ret
  exact ⟨rfl, rfl⟩
end Go.Proofs.YtjfeepmjebdahaaDoor
/- A drawn region whose last operations write what its loads read: what holds of the world (S) is asked for only till those last ones come up; each of them waits for every load that is taken first. -/
namespace Go.Proofs.YtjfeepmjebdahaaDoor
open Go.ChangeShapes Go.WideShapes Go.ChangeAt Go.RowKit
set_option linter.unusedVariables false
section
variable {P : Program} {ops : Array Oper} {Q : Exit → Act → World → Prop} {md : Region.Mode} {S : World → Prop} {ks : List Nat}
/-- Operation k waits for operation i. -/
def waitsB (md : Region.Mode) (ops : Array Oper) (k i : Nat) : Bool := ((ops[k]?).map fun o => o.after.any fun e => Region.binds md e && e.on == i).getD false
/-- Of two that may come up now neither waits for the other. -/
theorem ready_free {k i : Nat} {listed : Array Bool} (hi : i ∈ Region.ready md ops listed) (hk : k ∈ Region.ready md ops listed) : waitsB md ops k i = false := by
  cases hw : waitsB md ops k i with
  | false => rfl
  | true =>
    exfalso
    obtain ⟨o, ho, hall⟩ := (mem_ready.1 hk).2
    rw [waitsB, ho] at hw
    simp only [Option.map_some, Option.getD_some, Array.any_eq_true, Bool.and_eq_true, beq_iff_eq] at hw
    obtain ⟨n, hn, h1, h2⟩ := hw
    have yes := hall _ (Array.getElem_mem hn) h1
    have no := (mem_ready.1 hi).1
    rw [h2, Array.getD_eq_getD_getElem?] at yes
    rw [Array.getD_eq_getD_getElem?] at no
    cases hl : listed[i]? with
    | none => rw [hl] at yes; cases yes
    | some x => rw [hl] at yes no; exact absurd (yes.symm.trans no) (by decide)
/-- Whatever comes up from here on; behind each operation, but the last ones, S holds. -/
def Late (P : Program) (md : Region.Mode) (ops : Array Oper) (Q : Exit → Act → World → Prop) (S : World → Prop) (ks : List Nat) : Nat → Array Bool → Act → World → Prop
  | 0, listed, a, w => Region.ready md ops listed = [] ∧ Q .normal a w
  | f + 1, listed, a, w => (Region.ready md ops listed = [] → Q .normal a w) ∧
      ∀ i ∈ Region.ready md ops listed, wpOp P ops Q i (fun a' w' => (ks.contains i = false → S w') ∧ Late P md ops Q S ks f (listed.setIfInBounds i true) a' w') a w
theorem Late.any : ∀ (f : Nat) (listed : Array Bool) (a : Act) (w : World), Late P md ops Q S ks f listed a w → wpAny P md ops Q f listed a w
  | 0, _, _, _, h => h
  | f + 1, _, _, _, h => ⟨h.1, fun i hi => wpOp_mono (fun a' w' h' => Late.any f _ a' w' h'.2) (h.2 i hi)⟩
/-- What may stand apart from operation i while it has not come up: whoever neither waits for it nor has come up. -/
def ApartFrom (md : Region.Mode) (ops : Array Oper) (listed : Array Bool) (i : Nat) (oi : Oper) : Prop :=
  ∀ j oj, ops[j]? = some oj → j ≠ i → listed.getD j true = false → waitsB md ops j i = false → oi.apart ops oj = true
theorem ApartFrom.more {listed : Array Bool} {i j : Nat} {oi : Oper} (h : ApartFrom md ops listed i oi) (hj : listed.getD j true = false) : ApartFrom md ops (listed.setIfInBounds j true) i oi := by
  intro k ok hk hne hun hw
  by_cases e : j = k
  · rw [e] at hj; exact h k ok hk hne hj hw
  · exact h k ok hk hne (by rwa [getD_set_ne true e] at hun) hw
theorem Late.first {i : Nat} {oi : Oper} {v : Value} (hi : ops[i]? = some oi) (hsel : ∀ (j : Nat) (o : Oper) cs b, ops[j]? = some o → o.op ≠ .select cs b)
    (hQ : ∀ c a w, Q (.panic c) (a.put oi.dst v) w → Q (.panic c) a w) (hks : ∀ k ∈ ks, waitsB md ops k i = true) :
    ∀ (f : Nat) (listed : Array Bool) (a : Act) (w : World), ApartFrom md ops listed i oi → i ∈ Region.ready md ops listed → YieldsIf P ops S oi v a → S w →
      Late P md ops Q S ks f (listed.setIfInBounds i true) (a.put oi.dst v) w → Late P md ops Q S ks (f + 1) listed a w
  | f, listed, a, w, hap, hr, hy, hS, H => by
    refine ⟨fun e => absurd hr (by rw [e]; simp), fun j hj => ?_⟩
    rcases Nat.decEq j i with hne | he
    · -- another one comes up ahead of i: it is none of the last ones, for those wait for i
      have hj2 := ready_mono hj hne
      match f, H with
      | 0, H => exact absurd hj2 (by rw [H.1]; simp)
      | f + 1, H =>
        have hnk : ks.contains j = false := by
          cases hc : ks.contains j with
          | false => rfl
          | true => exact absurd (ready_free hr hj) (by rw [hks j (by simpa using hc)]; simp)
        obtain ⟨hun, oj, hoj, _⟩ := mem_ready.1 hj
        have hput := wpOp_putIf hoj (hap j oj hoj hne hun (ready_free hr hj)) (fun cs b => hsel i oi cs b hi) (fun cs b => hsel j oj cs b hoj) hQ hy (H.2 j hj2)
        refine wpOp_mono (fun a' w' ⟨y', s', l'⟩ => ⟨s', Late.first hi hsel hQ hks f _ a' w' (hap.more hun) (ready_mono hr (Ne.symm hne)) y' (s' hnk) ?_⟩) hput
        rw [Array.setIfInBounds_comm _ _ hne]
        exact l'
    · subst he
      exact hy.wpOp hi hS ⟨fun _ => hS, H⟩
/-- Take number i first. -/
theorem Late.take {i : Nat} {oi : Oper} {v : Value} {f : Nat} {listed : Array Bool} {a : Act} {w : World} (hi : ops[i]? = some oi)
    (hs : Region.noSelect ops = true) (hf : Region.free md ops listed i = true) (hr : (Region.ready md ops listed).contains i = true) (hk : (ks.all fun k => waitsB md ops k i) = true)
    (hQ : ∀ c a w, Q (.panic c) (a.put oi.dst v) w → Q (.panic c) a w) (hy : YieldsIf P ops S oi v a) (hS : S w)
    (h : Late P md ops Q S ks f (listed.setIfInBounds i true) (a.put oi.dst v) w) : Late P md ops Q S ks (f + 1) listed a w :=
  Late.first hi (Region.noSelect_spec hs) hQ (fun k hk' => List.all_eq_true.1 hk k hk') f listed a w (fun j oj h1 h2 h3 h4 => Region.free_spec hi hf j oj h1 h2 h3 (fun e he hb heq => by
    rw [waitsB, h1] at h4
    simp only [Option.map_some, Option.getD_some, Array.any_eq_false, Bool.and_eq_true, beq_iff_eq, not_and] at h4
    obtain ⟨n, hn, rfl⟩ := Array.mem_iff_getElem.1 he
    exact h4 n hn hb heq)) (by simpa using hr) hy hS h
theorem Late.done {listed : Array Bool} {a : Act} {w : World} (hr : Region.ready md ops listed = []) (h : Q .normal a w) : ∀ f, Late P md ops Q S ks f listed a w
  | 0 => ⟨hr, h⟩
  | _ + 1 => ⟨fun _ => h, by rw [hr]; simp⟩
/-- One operation alone may come up, and S holds behind it. -/
theorem Late.one {i : Nat} {o : Oper} {f : Nat} {listed : Array Bool} {a : Act} {w : World} (hr : Region.ready md ops listed = [i]) (ho : ops[i]? = some o)
    (h : ∀ K : Act → World → Prop, Hid (∀ a w, S w → (S w → Late P md ops Q S ks f (listed.setIfInBounds i true) a w) → K a w) → if Region.wanted o (yielded ops a.tmps) = true then Oper.wp P o a w K Q else K (a.put o.dst undef) w) : Late P md ops Q S ks (f + 1) listed a w :=
  ⟨fun h0 => (by rw [hr] at h0; cases h0), fun j hj => by
    rw [hr] at hj
    obtain rfl : j = i := by simpa using hj
    exact wpOp_step ho fun K hK => h K (Lib.hid fun a w h1 h2 => hK a w ⟨fun _ => h1, h2 h1⟩)⟩
/-- One of the last operations comes up. -/
theorem Late.end_ {i : Nat} {o : Oper} {f : Nat} {listed : Array Bool} {a : Act} {w : World} (hr : Region.ready md ops listed = [i]) (ho : ops[i]? = some o) (hk : ks.contains i = true)
    (h : ∀ K : Act → World → Prop, Hid (∀ a w, Late P md ops Q S ks f (listed.setIfInBounds i true) a w → K a w) → if Region.wanted o (yielded ops a.tmps) = true then Oper.wp P o a w K Q else K (a.put o.dst undef) w) : Late P md ops Q S ks (f + 1) listed a w :=
  ⟨fun h0 => (by rw [hr] at h0; cases h0), fun j hj => by
    rw [hr] at hj
    obtain rfl : j = i := by simpa using hj
    exact wpOp_step ho fun K hK => h K (Lib.hid fun a w h1 => hK a w ⟨fun e => (by rw [hk] at e; cases e), h1⟩)⟩
theorem Late.region (S : World → Prop) (ks : List Nat) {id : Nat} {a : Act} {w : World} (hm : P.follows .mixedOrders = true) (hS : S w.drew)
    (h : S w.drew → Late P .any ops (NoPanic Q) S ks ops.size (Array.replicate ops.size false) a w.drew) : (Code.region id ops true).wp P Q a w :=
  wp_region_noPanic (wp_region_any hm (Late.any _ _ _ _ (h hS)))
end
end Go.Proofs.YtjfeepmjebdahaaDoor
/- All bytes of a disk: append of rows that may be empty, slices.Grow, slices.Concat, Bytes. -/
namespace Go.Proofs.YtjfeepmjebdahaaDoor
open Go.ChangeShapes Go.WideShapes Go.ChangeAt Go.RowKit
set_option linter.unusedVariables false
/-- append onto an own row, of elements that may be none; where the new row stands. -/
theorem run_app {P : Program} (w : World) (t ty : TypeId) (base : Nat) (e : TypeId) (size bytes : Nat) (ht : P.underlying t = some (.slice e)) (hinfo : ∃ i z, P.info? e = some i ∧ i.zero = some z ∧ i.size = size ∧ i.bytes = bytes ∧ z.cells.size = size) (hsz : 0 < size)
    (v : Value) (n : Nat) (xs : List Value) (hown : w.ownsRow base e size v n xs)
    (A : Option Addr) (m c : Nat) (news : List Value) (hr : Lies w size A m news) (hso : Sourced A m) (h1 : ∀ u ∈ news, u.oneCell' = true)
    (h63 : n + m ≤ maxLen) (hbytes : (n + m) * bytes ≤ 140737488355328) (hbase : base ≤ w.heap.size) :
    ∃ v' w', (Builtin.append_ #[t, t] ty #[v, .slice A m c]).run P w = .ok v' w' ∧ w'.ownsRow base e size v' (n + m) (xs ++ news) ∧ w.grownBy w' v.ownBlock ∧ (v'.ownBlock = v.ownBlock ∨ v'.ownBlock = some w.heap.size) := by
  obtain ⟨i, z, hi, hz, hsize, hby, hzs⟩ := hinfo
  cases A with
  | none =>
    have hm : m = 0 := hso rfl
    subst hm
    have hn : news = [] := List.eq_nil_of_length_eq_zero (by simpa using hr.1)
    subst hn
    exact ⟨v, w, run_append_nothing (P := P) w base t ty e i size ht hi v n xs hown c, by simpa using hown, World.grownBy.refl w _, .inl rfl⟩
  | some ad =>
    obtain ⟨v', w', q1, q2, q3, _, q5⟩ := run_append_own_at (P := P) w base t ty e i z size bytes ht hi hz hsize hby hzs hsz v n xs hown ad m c news hr.1 (hr.2 ad rfl) h1 h63 hbytes hbase
    exact ⟨v', w', q1, q2, q3, q5⟩
theorem wpList_appA {P : Program} (w : World) {ops : Array Oper} {rest : List Oper} {o : Oper} {a : Act} {Q : Exit → Act → World → Prop} (hgd : o.guard = none) (s x : Operand) (t : TypeId)
    (ho : o.op = .call { callee := .builtin .append, args := #[s, x], argTypes := #[t, t] })
    (base : Nat) (e : TypeId) (size bytes : Nat) (ht : P.underlying t = some (.slice e)) (hinfo : ∃ i z, P.info? e = some i ∧ i.zero = some z ∧ i.size = size ∧ i.bytes = bytes ∧ z.cells.size = size) (hsz : 0 < size)
    (v : Value) (n : Nat) (xs : List Value) (hs : a.eval s = v) (hown : w.ownsRow base e size v n xs)
    (A : Option Addr) (m c : Nat) (news : List Value) (hx : a.eval x = .slice A m c) (hr : Lies w size A m news) (hso : Sourced A m) (h1 : ∀ u ∈ news, u.oneCell' = true)
    (h63 : n + m ≤ maxLen) (hbytes : (n + m) * bytes ≤ 140737488355328) (hbase : base ≤ w.heap.size)
    (h : ∀ v' w', w'.ownsRow base e size v' (n + m) (xs ++ news) → w.grownBy w' v.ownBlock → (v'.ownBlock = v.ownBlock ∨ v'.ownBlock = some w.heap.size) → wpList P ops Q rest (a.put o.dst v') w') : wpList P ops Q (o :: rest) a w := by
  obtain ⟨v', w', q1, q2, q3, q4⟩ := run_app (P := P) w t o.type base e size bytes ht hinfo hsz v n xs hown A m c news hr hso h1 h63 hbytes hbase
  exact Lib.wpList_append_run w hgd s x t t ho _ _ hs hx v' w' q1 (h v' w' q2 q3 q4)
/-- The same at a step of a drawn region. -/
theorem step_app {P : Program} (w : World) {ops : Array Oper} {o : Oper} {a : Act} {K : Act → World → Prop} {Q : Exit → Act → World → Prop} {E : Prop} (hgd : o.guard = none) (s x : Operand) (t : TypeId)
    (ho : o.op = .call { callee := .builtin .append, args := #[s, x], argTypes := #[t, t] })
    (base : Nat) (e : TypeId) (size bytes : Nat) (ht : P.underlying t = some (.slice e)) (hinfo : ∃ i z, P.info? e = some i ∧ i.zero = some z ∧ i.size = size ∧ i.bytes = bytes ∧ z.cells.size = size) (hsz : 0 < size)
    (v : Value) (n : Nat) (xs : List Value) (hs : a.eval s = v) (hown : w.ownsRow base e size v n xs)
    (A : Option Addr) (m c : Nat) (news : List Value) (hx : a.eval x = .slice A m c) (hr : Lies w size A m news) (hso : Sourced A m) (h1 : ∀ u ∈ news, u.oneCell' = true)
    (h63 : n + m ≤ maxLen) (hbytes : (n + m) * bytes ≤ 140737488355328) (hbase : base ≤ w.heap.size)
    (h : ∀ v' w', w'.ownsRow base e size v' (n + m) (xs ++ news) → w.grownBy w' v.ownBlock → (v'.ownBlock = v.ownBlock ∨ v'.ownBlock = some w.heap.size) → K (a.put o.dst v') w') : if Region.wanted o (yielded ops a.tmps) = true then Oper.wp P o a w K Q else E := by
  have hw : Region.wanted o (yielded ops a.tmps) = true := by simp [Region.wanted, hgd]
  rw [if_pos hw]
  obtain ⟨v', w', q1, q2, q3, q4⟩ := run_app (P := P) w t o.type base e size bytes ht hinfo hsz v n xs hown A m c news hr hso h1 h63 hbytes hbase
  exact Lib.wp_append_run w s x t t ho _ _ hs hx v' w' q1 (h v' w' q2 q3 q4)
theorem slice_info : ∃ i z, Tryd.prog.info? 27 = some i ∧ i.zero = some z ∧ i.size = 1 ∧ i.bytes = 24 ∧ z.cells.size = 1 := by
  obtain ⟨i, hi, hz, hs, hb⟩ := info_parts (show (Tryd.prog.info? 27).map (fun i => (i.zero, i.size, i.bytes)) = some (some (.slice none 0 0), 1, 24) by kernel_rfl)
  exact ⟨i, _, hi, hz, hs, hb, rfl⟩
theorem pvals_one (ps : List PieceZ) : ∀ u ∈ ps.map pval, u.oneCell' = true := by
  intro u hu
  simp only [List.mem_map] at hu
  obtain ⟨z, _, rfl⟩ := hu
  rfl
theorem Bunch.lies {w : World} {F : Nat → Prop} {A : Option Addr} {ps : List PieceZ} (h : Bunch w F A ps) : Lies w 1 A ps.length (ps.map pval) ∧ Sourced A ps.length := by
  refine ⟨⟨by simp, fun ad hA j u hu => ?_⟩, fun hA => ?_⟩
  · have hj : j < ps.length := by simpa using (List.getElem?_eq_some_iff.1 hu).1
    obtain ⟨b, off, e, _, hc⟩ := h.row (by omega)
    rw [hA] at e; injection e with e; subst e
    rw [List.getElem?_map, List.getElem?_eq_getElem hj] at hu
    simp at hu
    rw [Go.WideShapes.add_plain, hc j _ (List.getElem?_eq_getElem hj), hu]
  · rcases Nat.eq_zero_or_pos ps.length with h0 | h0
    · exact h0
    · obtain ⟨b, off, e, _⟩ := h.row h0
      rw [hA] at e; cases e
theorem Stands.lies {w : World} {F : Nat → Prop} {p : PieceZ} (h : Stands w F p) : Lies w 1 p.A p.n (vals p.zs) ∧ Sourced p.A p.n := h.bs.lies
/-- slices.Grow of no slice. -/
theorem grow_none (w : World) : Calls Tryd.prog 55 #[.slice none 0 0, .int .i64 0] w (fun e w' => ∃ v, e = .returned v ∧ w'.ownsRow w.heap.size 5 1 v 0 [] ∧ Below w.heap.size w w') := by
  go_enter Tryd.func55, Tryd.ntmps55
  go_wp2
  go_ret
  exact ⟨_, rfl, World.ownsRow_nil _ _ _ _, Below.refl _ _⟩
theorem grow_some (n : Nat) (w : World) (h0 : 0 < n) (hn : n ≤ 100000000) : Calls Tryd.prog 55 #[.slice none 0 0, .int .i64 n] w (fun e w' => ∃ v, e = .returned v ∧ w'.ownsRow w.heap.size 5 1 v 0 [] ∧ Below w.heap.size w w') := by
  obtain ⟨i, z, hi, hz, hs, hb, hzs⟩ := u8_info
  have hold : (Builtin.firstCells i.size 0 (.slice none 0 0)).run Tryd.prog w.drew = .ok ([] : List Value).toArray w.drew := run_firstCells_none w.drew i.size 0 0 0
  have hrz : ∀ ty, (Builtin.append_ #[27, 3] ty #[.slice none 0 0, .int .i64 (n : Int)]).run Tryd.prog w = _ := fun ty =>
    Lib.run_append_grow_zeros w 27 3 ty 5 i z .i64 .i64 Tryd.underlying27 Tryd.underlying3 hi hz none 0 0 [] hold n h0 (by omega) (by omega) (by omega) (by rw [hb]; omega) (by rw [hb]; exact Nat.le_trans (growslice_fits (by omega) (by omega)) (by omega))
  simp only [Nat.zero_add] at hrz
  have hge := grownCap_ge w n 0 5
  have hle := grownCap_le_maxLen w n 0 5 (by unfold maxLen; omega)
  obtain ⟨G, hG⟩ : ∃ G, grownCap w n 0 5 = G := ⟨_, rfl⟩
  rw [hG] at hrz hge hle
  have hle2 : G ≤ 9223372036854775807 := by unfold maxLen at hle; exact hle
  obtain ⟨cs, hcs⟩ : ∃ cs, [].toArray ++ Builtin.zeroCells z.cells n ++ Builtin.zeroCells z.cells (G - n) = cs := ⟨_, rfl⟩
  have hsz : cs.size = G := by rw [← hcs]; simp [size_zeroCells, hzs]; omega
  rw [hcs] at hrz
  have C1 := cut_h (some ⟨w.heap.size, 0, none⟩) n G 0 0 rfl (by omega)
  have HR := Lib.hid hrz
  have hn0 : ¬ ((n : Int) < 0) := by omega
  have hn1 : (n : Int) > 0 := by omega
  clear hrz hG hcs hold
  have HS := Lib.hid hsz
  have HL := Lib.hid hle
  clear hsz hle
  go_enter Tryd.func55, Tryd.ntmps55
  go_wp2_with (at_builtin; refine Lib.wpList_append_run _ rfl _ _ _ _ rfl _ _ rfl rfl _ _ (HR.out _) ?_)
  go_ret
  refine ⟨_, rfl, ⟨rfl, .inr ⟨w.heap.size, G, cs, rfl, Nat.le_refl _, ?_, by omega, HL.out, by rw [HS.out]; omega, rfl⟩⟩, ?_⟩
  · exact heap_alloc_new w.drew _
  · exact ((Below.refl w.heap.size w).drew).alloc (Nat.le_refl _) _
theorem grow_any (n : Nat) (w : World) (hn : n ≤ 100000000) : Calls Tryd.prog 55 #[.slice none 0 0, .int .i64 n] w (fun e w' => ∃ v, e = .returned v ∧ w'.ownsRow w.heap.size 5 1 v 0 [] ∧ Below w.heap.size w w') := by
  rcases Nat.eq_zero_or_pos n with rfl | h
  · exact grow_none w
  · exact grow_some n w h hn
end Go.Proofs.YtjfeepmjebdahaaDoor
/- slices.Concat of lists of bytes; all bytes of a disk. -/
namespace Go.Proofs.YtjfeepmjebdahaaDoor
open Go.ChangeShapes Go.WideShapes Go.ChangeAt Go.RowKit
set_option linter.unusedVariables false
set_option maxHeartbeats 1000000 in
theorem concat_any {F : Nat → Prop} {A : Option Addr} {ps : List PieceZ} (c : Nat) {w : World} (h : Bunch w F A ps) (hm : ps.length ≤ 100000000) (hs : (flatZ ps).length ≤ 100000000) :
    Calls Tryd.prog 33 #[.slice A ps.length c] w (Made w (flatZ ps)) := by
  have HLE : Hid (∀ k, (flatZ (ps.take k)).length ≤ 100000000) := Lib.hid (fun k => Nat.le_trans (flatZ_take_le k) hs)
  have HB := Lib.hid h
  have HPS := Lib.hid hs
  obtain ⟨m, hM⟩ : ∃ m, ps.length = m := ⟨_, rfl⟩
  have HM := Lib.hid hM
  rw [hM] at hm ⊢
  clear h hM hs
  go_enter Tryd.func33, Tryd.ntmps33
  go_wp2
  go_loop [3, 11] (fun s i => ∃ k : Nat, k ≤ m ∧ i = .int .i64 k ∧ s = .int .i64 ((flatZ (ps.take k)).length : Nat)) (fun _ i => m - (intOf i).toNat)
  case atStart => exact ⟨0, by omega, rfl, rfl⟩
  case round =>
    obtain ⟨k, hk, rfl, rfl⟩ := hrel
    by_cases hlt : k < m
    · obtain ⟨b, off, p, rfl, hb, hF, HP, hc, hst⟩ := HB.out.at_ (k := k) (by rw [HM.out]; exact hlt)
      have h1 := HLE.out (k + 1)
      have H2 : Hid ((flatZ (ps.take (k + 1))).length = (flatZ (ps.take k)).length + p.n) := Lib.hid (by rw [flatZ_take HP.out, List.length_append, hst.len])
      rw [H2.out] at h1
      unfold pval at hc
      generalize (flatZ (ps.take k)).length = sk at *
      generalize p.n = n at *
      generalize p.A = pA at *
      generalize p.c = pc at *
      have h2 : ¬ ((sk : Int) + (n : Int) < 0) := by omega
      clear hst hF
      go_wp2
      go_round
      case rel => exact ⟨k + 1, by omega, by go_num, by rw [H2.out]; go_num⟩
      case measure => simp [intOf]; omega
    · have hkm : k = m := by omega
      have HT : Hid (flatZ (ps.take k) = flatZ ps) := Lib.hid (by rw [List.take_of_length_le (by rw [HM.out]; omega)])
      rw [HT.out]
      have hS := HPS.out
      obtain ⟨S, hSd⟩ : ∃ S, (flatZ ps).length = S := ⟨_, rfl⟩
      rw [hSd] at hS ⊢
      have HSD := Lib.hid hSd
      have GR := Lib.hid (grow_any S w hS)
      clear hkm hSd
      go_wp2_with (go_at_call 55; refine GR.out.mono ?_; rintro e w1 ⟨v1, rfl, ho1, hb1⟩)
      go_loopw [6, 27] (fun v i wr => ∃ j : Nat, j ≤ m ∧ i = .int .i64 j ∧ wr.ownsRow w.heap.size 5 1 v (flatZ (ps.take j)).length (vals (flatZ (ps.take j))) ∧ Below w.heap.size w wr) (fun _ i _ => m - (intOf i).toNat)
      case atStart => exact ⟨0, by omega, rfl, ho1, hb1⟩
      case round =>
        obtain ⟨j, hj, rfl, hown, hbel⟩ := hrel
        by_cases hltj : j < m
        · obtain ⟨b, off, p, rfl, hb, hF, HP, hc, hst⟩ := (HB.out.keep (fun k _ hk => hbel.block k hk)).at_ (k := j) (by rw [HM.out]; exact hltj)
          have h1 := HLE.out (j + 1)
          have H2 : Hid ((flatZ (ps.take (j + 1))).length = (flatZ (ps.take j)).length + p.n) := Lib.hid (by rw [flatZ_take HP.out, List.length_append, hst.len])
          have H4 : Hid (vals (flatZ (ps.take (j + 1))) = vals (flatZ (ps.take j)) ++ vals p.zs) := Lib.hid (by rw [flatZ_take HP.out, vals_app])
          rw [H2.out] at h1
          unfold pval at hc
          have HST := Lib.hid hst.lies
          clear hst hF
          generalize hsj : (flatZ (ps.take j)).length = sj at *
          clear hsj
          generalize p.n = n at *
          generalize p.A = pA at *
          generalize p.c = pc at *
          go_wp2_with (at_builtin; refine wpList_app _ rfl (.tmp 31) (.tmp 32) 27 rfl w.heap.size 5 1 1 Tryd.underlying27 u8_info (by omega) u6 sj (vals (flatZ (ps.take j))) rfl hown pA n pc (vals p.zs) rfl HST.out.1 HST.out.2 (vals_one _) (by unfold maxLen; omega) (by omega) hbel.size ?_; intro v2 w2 ho2 hg2)
          go_roundw
          case rel => exact ⟨j + 1, by omega, by go_num, by rw [H2.out, H4.out]; exact ho2, hbel.grown hg2 hbel.size (fun q hq => (hown.lt q hq).1)⟩
          case measure => simp [intOf]; omega
        · have hjm : j = m := by omega
          have HT2 : Hid (flatZ (ps.take j) = flatZ ps) := Lib.hid (by rw [List.take_of_length_le (by rw [HM.out]; omega)])
          have HM' : Hid (Made w (flatZ ps) (.returned u6) wr) := Lib.hid (made_of rfl (by rw [← HT2.out]; exact hown) hbel)
          clear hjm
          go_wp2
          go_ret
          exact HM'.out
end Go.Proofs.YtjfeepmjebdahaaDoor
/- All bytes of a disk. -/
namespace Go.Proofs.YtjfeepmjebdahaaDoor
open Go.ChangeShapes Go.WideShapes Go.ChangeAt Go.RowKit
set_option linter.unusedVariables false
set_option maxHeartbeats 1000000 in
theorem bytes_any {w : World} {b : Nat} {K : Nat → Prop} {s : DiskZ} (h : Dk w b K s) (hs : Small s) : Calls Tryd.prog 17 #[.pointer (some ⟨b, 0, none⟩)] w (Made w (allZ s)) := by
  obtain ⟨v, u, ps, h⟩ := h
  obtain ⟨A, c, rfl, hp⟩ := h.piece
  obtain ⟨W, d, rfl, hm1, hm2, hbu⟩ := h.bunch
  have h1 := h.syn
  have h2 := h.wr
  have hb : b < w.heap.size := h.lt b h.kb
  have hlen := h.len
  have hwr := hs.writes
  have hby := hs.bytes
  have HZ : Hid (flatZ (⟨A, s.zs.length, c, s.zs⟩ :: ps) = allZ s) := Lib.hid (by unfold allZ; rw [h.flat]; simp [flatZ])
  obtain ⟨n, hn⟩ : ∃ n, s.zs.length = n := ⟨_, rfl⟩
  obtain ⟨m, hm⟩ : ∃ m, ps.length = m := ⟨_, rfl⟩
  have hms : m ≤ 1000000 := by omega
  have HF : Hid ((flatZ (⟨A, s.zs.length, c, s.zs⟩ :: ps)).length ≤ 100000000) := Lib.hid (by rw [HZ.out]; omega)
  rw [hn] at h1 HZ HF hp
  rw [hm] at h2
  obtain ⟨X, hX⟩ : ∃ X, (w.alloc (.cells #[.slice A n c] 27)).drew = X := ⟨_, rfl⟩
  have hh : X.heap[w.heap.size]? = some (.cells #[.slice A n c] 27 (0, 0)) := by rw [← hX]; exact heap_alloc_new w _
  have HO : Hid (X.ownsRow w.heap.size 27 1 (.slice (some ⟨w.heap.size, 0, none⟩) 1 1) 1 [.slice A n c]) := Lib.hid ⟨rfl, .inr ⟨w.heap.size, 1, _, rfl, Nat.le_refl _, hh, Nat.le_refl _, by simp [maxLen], rfl, rfl⟩⟩
  have bX : Below w.heap.size w X := by rw [← hX]; exact ((Below.refl w.heap.size w).alloc (Nat.le_refl _) _).drew
  have HL : Hid (Lies X 1 W m (ps.map pval) ∧ Sourced W m) := Lib.hid (by rw [← hm]; exact (hbu.keep (fun k _ hk => bX.block k hk)).lies)
  have sX : X.heap.size = w.heap.size + 1 := by rw [← hX]; show (w.alloc _).heap.size = _; simp
  have HP : Hid (∀ w3, X.grownBy w3 (some w.heap.size) → ∀ p ∈ (⟨A, n, c, s.zs⟩ :: ps : List PieceZ), Stands w3 (fun _ => True) p) := Lib.hid (fun w3 hg p hpm => by
    have kk : ∀ k, k < w.heap.size → w3.heap[k]? = w.heap[k]? := fun k hk => (hg.block k (by omega) (fun e => by injection e with e; omega)).trans (bX.block k hk)
    rcases List.mem_cons.1 hpm with rfl | hpm
    · exact (hp.keep (fun k _ hk => kk k hk)).more (fun _ _ _ => trivial)
    · exact ((hbu.all p hpm).keep (fun k _ hk => kk k hk)).more (fun _ _ _ => trivial))
  have HC : Hid (∀ w3, X.grownBy w3 (some w.heap.size) → ∀ (i : Nat) x, w.cell? ⟨b, i, none⟩ = some x → w3.cell? ⟨b, i, none⟩ = some x) := Lib.hid (fun w3 hg i x hx => by
    rw [World.cell?_of_block (a := ⟨b, i, none⟩) (w := w) ((hg.block b (by omega) (fun e => by injection e with e; omega)).trans (bX.block b hb))]
    exact hx)
  have BX := Lib.hid bX
  have HM := Lib.hid hm
  have HX := Lib.hid hX
  clear h hbu hp hs hlen hwr hby hn hm hh bX hX hm1 hm2
  go_enter Tryd.func17, Tryd.ntmps17
  go_wp2
  refine Late.region (fun w' => w'.cell? ⟨b, 2, none⟩ = some (.slice A n c) ∧ w'.cell? ⟨b, 3, none⟩ = some (.slice W m d)) [10] (by kernel_rfl) ⟨h1, h2⟩ (fun hHeld => ?_)
  refine Late.take (i := 0) (oi := ⟨some 6, Op.move (Operand.tmp 0), _, _, _, _⟩) (v := ?_) rfl (by kernel_rfl) (by kernel_rfl) (by kernel_rfl) (by kernel_rfl) (fun _ _ _ h => h) (Or.inl ⟨by rfl, fun w hSw => ?_⟩) (by assumption) ?_
  rotate_left
  · (obtain ⟨s1, s2⟩ := hSw; go_simp; try with_reducible rfl)
  try simp only [Act.put, List.setIfInBounds_toArray, List.set_cons_zero, List.set_cons_succ]
  refine Late.take (i := 1) (oi := ⟨some 7, Op.nilCheck (Operand.tmp 6), _, _, _, _⟩) (v := ?_) rfl (by kernel_rfl) (by kernel_rfl) (by kernel_rfl) (by kernel_rfl) (fun _ _ _ h => h) (Or.inl ⟨by rfl, fun w hSw => ?_⟩) (by assumption) ?_
  rotate_left
  · (obtain ⟨s1, s2⟩ := hSw; go_simp; try with_reducible rfl)
  try simp only [Act.put, List.setIfInBounds_toArray, List.set_cons_zero, List.set_cons_succ]
  refine Late.take (i := 2) (oi := ⟨some 8, Op.fieldAddr 48 (Operand.tmp 7) 2, _, _, _, _⟩) (v := ?_) rfl (by kernel_rfl) (by kernel_rfl) (by kernel_rfl) (by kernel_rfl) (fun _ _ _ h => h) (Or.inl ⟨by rfl, fun w hSw => ?_⟩) (by assumption) ?_
  rotate_left
  · (obtain ⟨s1, s2⟩ := hSw; go_simp; try with_reducible rfl)
  try simp only [Act.put, List.setIfInBounds_toArray, List.set_cons_zero, List.set_cons_succ]
  refine Late.take (i := 3) (oi := ⟨some 9, Op.load 27 (Operand.tmp 8), _, _, _, _⟩) (v := ?_) rfl (by kernel_rfl) (by kernel_rfl) (by kernel_rfl) (by kernel_rfl) (fun _ _ _ h => h) (Or.inl ⟨by rfl, fun w hSw => ?_⟩) (by assumption) ?_
  rotate_left
  · (obtain ⟨s1, s2⟩ := hSw; go_simp; try with_reducible rfl)
  try simp only [Act.put, List.setIfInBounds_toArray, List.set_cons_zero, List.set_cons_succ]
  refine Late.take (i := 5) (oi := ⟨some 11, Op.move (Operand.tmp 0), _, _, _, _⟩) (v := ?_) rfl (by kernel_rfl) (by kernel_rfl) (by kernel_rfl) (by kernel_rfl) (fun _ _ _ h => h) (Or.inl ⟨by rfl, fun w hSw => ?_⟩) (by assumption) ?_
  rotate_left
  · (obtain ⟨s1, s2⟩ := hSw; go_simp; try with_reducible rfl)
  try simp only [Act.put, List.setIfInBounds_toArray, List.set_cons_zero, List.set_cons_succ]
  refine Late.take (i := 6) (oi := ⟨some 12, Op.nilCheck (Operand.tmp 11), _, _, _, _⟩) (v := ?_) rfl (by kernel_rfl) (by kernel_rfl) (by kernel_rfl) (by kernel_rfl) (fun _ _ _ h => h) (Or.inl ⟨by rfl, fun w hSw => ?_⟩) (by assumption) ?_
  rotate_left
  · (obtain ⟨s1, s2⟩ := hSw; go_simp; try with_reducible rfl)
  try simp only [Act.put, List.setIfInBounds_toArray, List.set_cons_zero, List.set_cons_succ]
  refine Late.take (i := 7) (oi := ⟨some 13, Op.fieldAddr 48 (Operand.tmp 12) 3, _, _, _, _⟩) (v := ?_) rfl (by kernel_rfl) (by kernel_rfl) (by kernel_rfl) (by kernel_rfl) (fun _ _ _ h => h) (Or.inl ⟨by rfl, fun w hSw => ?_⟩) (by assumption) ?_
  rotate_left
  · (obtain ⟨s1, s2⟩ := hSw; go_simp; try with_reducible rfl)
  try simp only [Act.put, List.setIfInBounds_toArray, List.set_cons_zero, List.set_cons_succ]
  refine Late.take (i := 8) (oi := ⟨some 14, Op.load 33 (Operand.tmp 13), _, _, _, _⟩) (v := ?_) rfl (by kernel_rfl) (by kernel_rfl) (by kernel_rfl) (by kernel_rfl) (fun _ _ _ h => h) (Or.inl ⟨by rfl, fun w hSw => ?_⟩) (by assumption) ?_
  rotate_left
  · (obtain ⟨s1, s2⟩ := hSw; go_simp; try with_reducible rfl)
  try simp only [Act.put, List.setIfInBounds_toArray, List.set_cons_zero, List.set_cons_succ]
  refine Late.one (i := 4) (o := ⟨some 10, Op.buildSlice 33 1 #[(0, Operand.tmp 9)], _, _, _, _⟩) (by kernel_rfl) rfl (fun K hK => ?_)
  go_simp
  refine hK.out _ _ (⟨(World.cell?_alloc_lt w _ ⟨b, 2, none⟩ hb).trans h1, (World.cell?_alloc_lt w _ ⟨b, 3, none⟩ hb).trans h2⟩) (fun hHeld2 => ?_)
  clear hK K hHeld
  have hHeld := hHeld2
  clear hHeld2
  try simp only [Act.put, List.setIfInBounds_toArray, List.set_cons_zero, List.set_cons_succ]
  refine Late.one (i := 9) (o := ⟨some 15, Op.call { callee := Callee.builtin Builtin.append, args := #[Operand.tmp 10, Operand.tmp 14], argTypes := #[33, 33] }, _, _, _, _⟩) (by kernel_rfl) rfl (fun K hK => ?_)
  rw [HX.out]
  refine step_app _ (by rfl) (.tmp 10) (.tmp 14) 33 (by rfl) w.heap.size 27 1 24 Tryd.underlying33 slice_info (by decide) (.slice (some ⟨w.heap.size, 0, none⟩) 1 1) 1 [.slice A n c] (by rfl) HO.out W m d (ps.map pval) (by rfl) HL.out.1 HL.out.2 (pvals_one _) (by unfold maxLen; omega) (by omega) (by omega) ?_
  intro v' w3 ho3 hg3 hat
  have c1 : w3.cell? ⟨b, 2, none⟩ = some (.slice A n c) := HC.out w3 hg3 2 _ h1
  have c2 : w3.cell? ⟨b, 3, none⟩ = some (.slice W m d) := HC.out w3 hg3 3 _ h2
  refine hK.out _ _ (⟨c1, c2⟩) (fun hHeld2 => ?_)
  clear hK K hHeld
  have hHeld := hHeld2
  clear hHeld2
  try simp only [Act.put, List.setIfInBounds_toArray, List.set_cons_zero, List.set_cons_succ]
  refine Late.end_ (i := 10) (o := ⟨some 3, Op.assign (Operand.tmp 15), _, _, _, _⟩) (by kernel_rfl) rfl rfl (fun K hK => ?_)
  go_simp
  refine hK.out _ _ ?_
  clear hK K
  try simp only [Act.put, List.setIfInBounds_toArray, List.set_cons_zero, List.set_cons_succ]
  refine Late.done (by kernel_rfl) ?_ _
  refine NoPanic.normal ?_
  obtain ⟨V, cv, rfl, q1, q2⟩ := own_shape ho3
  have HB : Hid (Bunch w3 (fun _ => True) V (⟨A, n, c, s.zs⟩ :: ps)) := Lib.hid (bunch_own (ps := ⟨A, n, c, s.zs⟩ :: ps) (c := cv) (base := w.heap.size) (by
    have e : (⟨A, n, c, s.zs⟩ :: ps : List PieceZ).length = 1 + m := by rw [List.length_cons, HM.out]; omega
    rw [e]; exact ho3) (fun _ _ => trivial) (HP.out w3 hg3))
  have CC := concat_any cv HB.out (by rw [List.length_cons, HM.out]; omega) HF.out
  rw [HZ.out, show (⟨A, n, c, s.zs⟩ :: ps : List PieceZ).length = 1 + m by rw [List.length_cons, HM.out]; omega] at CC
  have HCC := Lib.hid CC
  have B3 : Hid (Below w.heap.size w w3) := Lib.hid (BX.out.grown hg3 (by omega) (fun k hk => by simp [Value.ownBlock] at hk; omega))
  clear CC HC HP HL HO ho3 hg3 hat c1 c2 hHeld h1 h2
  go_wp2_with (go_at_call 33; refine HCC.out.mono ?_; rintro e w4 ⟨A4, c4, rfl, ho4, hb4, hc4, hc4'⟩)
  go_ret
  exact ⟨A4, c4, rfl, own_base ho4 B3.out.size, B3.out.trans (hb4.mono B3.out.size), hc4, hc4'⟩
end Go.Proofs.YtjfeepmjebdahaaDoor
/- What a disk that is up does: the check, a list's front, the syncing of writes. -/
namespace Go.Proofs.YtjfeepmjebdahaaDoor
open Go.ChangeShapes Go.WideShapes Go.ChangeAt Go.RowKit
set_option linter.unusedVariables false
theorem cut3_u8 (A : Option Addr) (n c k : Nat) (h : Int) (hh : h = k) (h2 : k ≤ c) :
    ∀ W, (Instr.slice 27 (.slice A n c) none (some (.int .i64 h)) (some (.int .i64 h))).run Tryd.prog W = .ok (.slice A k k) W := by
  subst hh
  intro W
  have he : Tryd.prog.elem 27 = 5 := by simp [Program.elem, Tryd.underlying27]
  rw [run_slice_hm W 27 A n c (by rw [he]; exact Tryd.underlying27) .i64 .i64 _ _ (by omega) (by omega) (by omega), he, sizeOf_u8']
  cases A <;> simp [Result.andThen, sliced, Addr.add]
theorem sizeOf_sl (w : World) : (Go.sizeOf 27).run Tryd.prog w = .ok 1 w := by
  obtain ⟨i, z, hi, hz, hs, hb, _⟩ := slice_info
  simp [Go.sizeOf, typeInfo, hi, hs]
theorem cut3_sl (A : Option Addr) (n c k : Nat) (h : Int) (hh : h = k) (h2 : k ≤ c) :
    ∀ W, (Instr.slice 33 (.slice A n c) none (some (.int .i64 h)) (some (.int .i64 h))).run Tryd.prog W = .ok (.slice A k k) W := by
  subst hh
  intro W
  have he : Tryd.prog.elem 33 = 27 := by simp [Program.elem, Tryd.underlying33]
  rw [run_slice_hm W 33 A n c (by rw [he]; exact Tryd.underlying33) .i64 .i64 _ _ (by omega) (by omega) (by omega), he, sizeOf_sl]
  cases A <;> simp [Result.andThen, sliced, Addr.add]
theorem ahead8_any (A : Option Addr) (n c k : Nat) (w : World) (h : k ≤ c) (hc : c ≤ maxLen) : Calls Tryd.prog 51 #[.slice A n c, .int .i64 k] w (fun e w' => e = .returned (.slice A k k) ∧ w = w') := by
  have C := cut3_u8 A n c k k rfl h
  unfold maxLen at hc
  have h1 : (k : Int) ≤ c := by omega
  go_enter Tryd.func51, Tryd.ntmps51
  go_wp2
  go_ret
  exact ⟨rfl, rfl⟩
theorem aheadS_any (A : Option Addr) (n c k : Nat) (w : World) (h : k ≤ c) (hc : c ≤ maxLen) : Calls Tryd.prog 64 #[.slice A n c, .int .i64 k] w (fun e w' => e = .returned (.slice A k k) ∧ w = w') := by
  have C := cut3_sl A n c k k rfl h
  unfold maxLen at hc
  have h1 : (k : Int) ≤ c := by omega
  go_enter Tryd.func64, Tryd.ntmps64
  go_wp2
  go_ret
  exact ⟨rfl, rfl⟩
/-- The check: of a disk that is up, of one that isn't, of one that nobody made. -/
theorem ifup_yes {w : World} {b : Nat} (h0 : w.cell? ⟨b, 0, none⟩ = some (.bool true)) (h1 : w.cell? ⟨b, 1, none⟩ = some (.bool true)) (f : FuncId) (caps : Array Value) (hin : ∀ args W, (callFunc f args).run Tryd.prog W = .ok (.enter f args) W) (Post : Value → World → Prop)
    (hc : Calls Tryd.prog f caps w (fun e w' => ∃ v, e = .returned v ∧ Post v w')) : Calls Tryd.prog 46 #[.pointer (some ⟨b, 0, none⟩), .func (.func f) #[] caps] w (fun e w' => ∃ v, e = .returned v ∧ Post v w') := by
  have HC := Lib.hid hc
  clear hc
  go_enter Tryd.func46, Tryd.ntmps46
  go_wp2_with fail
  refine HC.out.mono ?_
  rintro e w2 ⟨v, rfl, hp⟩
  have HP := Lib.hid hp
  clear hp
  go_wp2
  go_ret
  exact ⟨_, rfl, HP.out⟩
theorem ifup_down {w : World} {b : Nat} (h0 : w.cell? ⟨b, 0, none⟩ = some (.bool true)) (h1 : w.cell? ⟨b, 1, none⟩ = some (.bool false)) (F : Value) : Calls Tryd.prog 46 #[.pointer (some ⟨b, 0, none⟩), F] w (fun e w' => e = .returned (.int .i64 60) ∧ w = w') := by
  go_enter Tryd.func46, Tryd.ntmps46
  go_wp2
  go_ret
  exact ⟨rfl, rfl⟩
theorem ifup_nil {w : World} (F : Value) : Calls Tryd.prog 46 #[.pointer none, F] w (fun e w' => e = .returned (.int .i64 1) ∧ w = w') := by
  go_enter Tryd.func46, Tryd.ntmps46
  go_wp2
  go_ret
  exact ⟨rfl, rfl⟩
theorem ifup_zero {w : World} {b : Nat} (h0 : w.cell? ⟨b, 0, none⟩ = some (.bool false)) (F : Value) : Calls Tryd.prog 46 #[.pointer (some ⟨b, 0, none⟩), F] w (fun e w' => e = .returned (.int .i64 1) ∧ w = w') := by
  go_enter Tryd.func46, Tryd.ntmps46
  go_wp2
  go_ret
  exact ⟨rfl, rfl⟩
/-- The set of a disk's blocks behind a call: what it had, and what is new. -/
def Wider (K : Nat → Prop) (w w' : World) : Nat → Prop := fun k => K k ∨ (w.heap.size ≤ k ∧ k < w'.heap.size)
theorem wider_newer (K : Nat → Prop) (w w' : World) : Newer w K (Wider K w w') := fun k h => h.imp id (fun h => h.1)
/-- Between two writes that are synced. -/
structure Settling (w : World) (b : Nat) (v : Value) (zs : List Int) (wr : World) : Prop where
  syn : ∃ v', wr.cell? ⟨b, 2, none⟩ = some v' ∧ wr.ownsRow 0 5 1 v' zs.length (vals zs) ∧ (v'.ownBlock = v.ownBlock ∨ ∀ k, v'.ownBlock = some k → w.heap.size ≤ k)
  bytes : IsBytes zs
  cell : ∀ i, i ≠ 2 → wr.cell? ⟨b, i, none⟩ = w.cell? ⟨b, i, none⟩
  frozen : ∀ i, wr.frozen? ⟨b, i, none⟩ = w.frozen? ⟨b, i, none⟩
  moved : Moved (fun k => k = b ∨ v.ownBlock = some k) w wr
theorem Settling.step {w wr w2 : World} {b n : Nat} {v v' v2 : Value} {zs ys : List Int} (h : Settling w b v zs wr) (hb : b < w.heap.size) (hvb : ∀ k, v.ownBlock = some k → k ≠ b ∧ k < w.heap.size)
    (h1 : wr.cell? ⟨b, 2, none⟩ = some v') (hat : v'.ownBlock = v.ownBlock ∨ ∀ k, v'.ownBlock = some k → w.heap.size ≤ k) (hy : IsBytes ys) (hl : (zs ++ ys).length = n)
    (ho : w2.ownsRow 0 5 1 v2 n (vals (zs ++ ys))) (hg : wr.grownBy w2 v'.ownBlock) (hat2 : v2.ownBlock = v'.ownBlock ∨ v2.ownBlock = some wr.heap.size) : Settling w b v (zs ++ ys) (w2.setCell ⟨b, 2, none⟩ v2) := by
  have hs := h.moved.size
  have hv' : ∀ k, v'.ownBlock = some k → k ≠ b := fun k hk => by
    rcases hat with e | e
    · rw [e] at hk; exact (hvb k hk).1
    · have := e k hk; omega
  have hbl : w2.heap[b]? = wr.heap[b]? := hg.block b (by omega) (fun e => hv' b e.symm rfl)
  have hc2 : w2.cell? ⟨b, 2, none⟩ = some v' := (World.cell?_of_block (a := ⟨b, 2, none⟩) hbl).trans h1
  have hat3 : v2.ownBlock = v.ownBlock ∨ ∀ k, v2.ownBlock = some k → w.heap.size ≤ k := by
    rcases hat2 with e | e
    · rw [e]; exact hat
    · exact .inr (fun k hk => by rw [e] at hk; injection hk with hk; omega)
  have hv2 : ∀ k, v2.ownBlock = some k → k ≠ b := fun k hk => by
    rcases hat3 with e | e
    · rw [e] at hk; exact (hvb k hk).1
    · have := e k hk; omega
  refine ⟨⟨v2, World.cell?_setCell_same _ _ _ hc2, ?_, hat3⟩, h.bytes.app hy, fun i hi => ?_, fun i => ?_, ?_⟩
  · rw [hl]
    exact own_same ho (fun k hk => Below.heap_setCell _ _ _ _ (hv2 k hk))
  · rw [World.cell?_setCell_other _ _ _ _ (fun e => hi (congrArg Addr.off e).symm), World.cell?_of_block (a := ⟨b, i, none⟩) hbl]; exact h.cell i hi
  · rw [World.frozen?_setCell, World.frozen?_of_block (a := ⟨b, i, none⟩) hbl]; exact h.frozen i
  · refine (h.moved.trans (G := fun k => v'.ownBlock = some k) (Moved.grown hg (fun k hk => hk)) (fun k hk => ?_)).then (Moved.cell _ _ _ _ (.inl rfl))
    rcases hat with e | e
    · rw [e] at hk; exact .inl (.inr hk)
    · exact .inr (e k hk)
/-- Behind the syncing. -/
def Settled (w : World) (b : Nat) (K : Nat → Prop) (s' : DiskZ) (e : Ending) (w' : World) : Prop := e = .returned (.tuple #[]) ∧ Dk w' b (Wider K w w') s' ∧ Moved K w w'
theorem Settling.end_ {w wr : World} {b : Nat} {K : Nat → Prop} {s : DiskZ} {v u : Value} {ps : List PieceZ} {zs : List Int} (h : DkAt w b K s v u ps) (hS : Settling w b v zs wr) :
    Dk (wr.setCell ⟨b, 3, none⟩ (.slice none 0 0)) b (Wider K w (wr.setCell ⟨b, 3, none⟩ (.slice none 0 0))) ⟨s.up, zs, []⟩ ∧ Moved K w (wr.setCell ⟨b, 3, none⟩ (.slice none 0 0)) := by
  obtain ⟨v', h1, ho, hat⟩ := hS.syn
  have hs := hS.moved.size
  have hb := h.lt b h.kb
  have hz : (wr.setCell ⟨b, 3, none⟩ (.slice none 0 0)).heap.size = wr.heap.size := by simp [World.setCell]
  have hv' : ∀ k, v'.ownBlock = some k → (K k ∨ w.heap.size ≤ k) ∧ k ≠ b ∧ k < wr.heap.size := fun k hk => by
    have hlt := (ho.lt k hk).2
    rcases hat with e | e
    · rw [e] at hk; exact ⟨.inl (h.blk2 k hk).1, (h.blk2 k hk).2, hlt⟩
    · have := e k hk; exact ⟨.inr this, by omega, hlt⟩
  refine ⟨⟨v', .slice none 0 0, [], .inl h.kb, fun k hk => ?_, ?_, ?_, ?_, ?_, ?_, ?_, ?_, own_same ho (fun k hk => Below.heap_setCell _ _ _ _ (hv' k hk).2.1), fun k hk => ?_, hS.bytes, World.ownsRow_nil _ _ _ _, fun k hk => (by cases hk), fun p hp => (by cases hp), rfl⟩, ?_⟩
  · rcases hk with hk | hk
    · have := h.lt k hk; omega
    · exact hk.2
  · rw [World.cell?_setCell_other _ _ _ _ (by simp), hS.cell 0 (by omega)]; exact h.made
  · rw [World.cell?_setCell_other _ _ _ _ (by simp), hS.cell 1 (by omega)]; exact h.up
  · rw [World.cell?_setCell_other _ _ _ _ (by simp)]; exact h1
  · exact World.cell?_setCell_same _ _ _ ((hS.cell 3 (by omega)).trans h.wr)
  · rw [World.frozen?_setCell, hS.frozen]; exact h.f1
  · rw [World.frozen?_setCell, hS.frozen]; exact h.f2
  · rw [World.frozen?_setCell, hS.frozen]; exact h.f3
  · have := hv' k hk
    exact ⟨this.1.imp id (fun e => ⟨e, by omega⟩), this.2.1⟩
  · refine (hS.moved.more (fun k hk _ => ?_)).then (Moved.cell _ _ _ _ h.kb)
    rcases hk with rfl | hk
    · exact h.kb
    · exact (h.blk2 k hk).1
set_option maxHeartbeats 1000000 in
theorem settle_any {w : World} {b : Nat} {K : Nat → Prop} {s : DiskZ} {v u : Value} {ps qs : List PieceZ} {A : Option Addr} (c : Nat) (h : DkAt w b K s v u ps) (hq : Bunch w (fun k => k ≠ b ∧ v.ownBlock ≠ some k) A qs) (hm : qs.length ≤ 100000000) (hz : s.zs.length + (flatZ qs).length ≤ 100000000) :
    Calls Tryd.prog 48 #[.pointer (some ⟨b, 0, none⟩), .slice A qs.length c] w (Settled w b K ⟨s.up, s.zs ++ flatZ qs, []⟩) := by
  have hb : b < w.heap.size := h.lt b h.kb
  have HVB : Hid (∀ k, v.ownBlock = some k → k ≠ b ∧ k < w.heap.size) := Lib.hid (fun k hk => ⟨(h.blk2 k hk).2, h.lt k (h.blk2 k hk).1⟩)
  have HLE : Hid (∀ k, s.zs.length + (flatZ (qs.take k)).length ≤ 100000000) := Lib.hid (fun k => by have := flatZ_take_le (ps := qs) k; omega)
  have HQ := Lib.hid hq
  have HD := Lib.hid h
  have H0 : Hid (Settling w b v (s.zs ++ flatZ (qs.take 0)) w) := Lib.hid ⟨⟨v, h.syn, by simpa [flatZ] using h.own2, .inl rfl⟩, by simpa [flatZ] using h.bytes, fun _ _ => rfl, fun _ => rfl, Moved.refl _ _⟩
  obtain ⟨m, hM⟩ : ∃ m, qs.length = m := ⟨_, rfl⟩
  have HM := Lib.hid hM
  rw [hM] at hm ⊢
  clear h hM hz hq
  go_enter Tryd.func48, Tryd.ntmps48
  go_wp2
  go_loopw [8] (fun i wr => ∃ k : Nat, k ≤ m ∧ i = .int .i64 k ∧ Hid (Settling w b v (s.zs ++ flatZ (qs.take k)) wr)) (fun i _ => m - (intOf i).toNat)
  case atStart => exact ⟨0, by omega, rfl, H0⟩
  case round =>
    obtain ⟨k, hk, rfl, HS⟩ := hrel
    by_cases hlt : k < m
    · obtain ⟨g, off, p, rfl, hg, hFg, HP, hc, hst⟩ := (HQ.out.keep (w1 := wr) (fun k hF hk => HS.out.moved.block k hk (fun e => by
        rcases e with e | e
        · exact hF.1 e
        · exact hF.2 e))).at_ (k := k) (by rw [HM.out]; exact hlt)
      obtain ⟨v', h1, ho, hat⟩ := HS.out.syn
      have hl := HLE.out (k + 1)
      have E : Hid (s.zs ++ flatZ (qs.take (k + 1)) = (s.zs ++ flatZ (qs.take k)) ++ p.zs) := Lib.hid (by rw [flatZ_take HP.out, List.append_assoc])
      have hl2 : (s.zs ++ flatZ (qs.take k)).length + p.n ≤ 100000000 := by
        rw [← hst.len, ← List.length_append, ← E.out, List.length_append]; exact hl
      have f2 := HS.out.frozen 2
      rw [HD.out.f2] at f2
      have s2 : w.heap.size ≤ wr.heap.size := HS.out.moved.size
      have HVb : Hid (∀ k, v'.ownBlock = some k → k ≠ b) := Lib.hid (fun k hk => by
        rcases hat with e | e
        · rw [e] at hk; exact (HVB.out k hk).1
        · have := e k hk; omega)
      have HAT := Lib.hid hat
      have HPL := Lib.hid hst.lies
      have HPB := Lib.hid hst.bytes
      have HPN := Lib.hid hst.len
      have HF : Hid (∀ w2, wr.grownBy w2 v'.ownBlock → w2.cell? ⟨b, 2, none⟩ = some v' ∧ w2.frozen? ⟨b, 2, none⟩ = false) := Lib.hid (fun w2 hg => by
        have e := hg.block b (by omega) (fun e => HVb.out b e.symm rfl)
        exact ⟨(World.cell?_of_block (a := ⟨b, 2, none⟩) e).trans h1, (World.frozen?_of_block (a := ⟨b, 2, none⟩) e).trans f2⟩)
      have H1 := Lib.hid h1
      have HO := Lib.hid ho
      unfold pval at hc
      clear hat hst hl ho hFg
      obtain ⟨pA, pn, pc, pz⟩ := p
      simp only at HPL HPB HPN hc hl2 E
      obtain ⟨sj, hsj⟩ : ∃ sj, (s.zs ++ flatZ (qs.take k)).length = sj := ⟨_, rfl⟩
      rw [hsj] at HO hl2
      have HL := Lib.hid hsj
      clear hsj
      go_wp2_with (at_builtin; (refine wpList_appA _ rfl (.tmp 16) (.tmp 17) 27 rfl 0 5 1 1 Tryd.underlying27 u8_info (by omega) v' sj (vals (s.zs ++ flatZ (qs.take k))) rfl HO.out pA pn pc (vals pz) rfl HPL.out.1 HPL.out.2 (vals_one _) (by unfold maxLen; omega) (by omega) (Nat.zero_le _) ?_); intro v2 w2 ho2 hg2 hat2; obtain ⟨A2, c2, rfl, _, _⟩ := own_shape ho2; obtain ⟨q2, q3⟩ := HF.out w2 hg2)
      have HSn : Hid (Settling w b v (s.zs ++ flatZ (qs.take (k + 1))) (w2.setCell ⟨b, 2, none⟩ (.slice A2 (sj + pn) c2))) := Lib.hid (by
        rw [E.out]
        exact HS.out.step hb HVB.out H1.out HAT.out HPB.out (by rw [List.length_append, HL.out, HPN.out]) (by rw [vals_app]; exact ho2) hg2 hat2)
      clear ho2 hg2 hat2
      go_roundw
      case rel => exact ⟨k + 1, by omega, by go_num, HSn⟩
      case measure => simp [intOf]; omega
    · have hkm : k = m := by omega
      have HT : Hid (flatZ (qs.take k) = flatZ qs) := Lib.hid (by rw [List.take_of_length_le (by rw [HM.out]; omega)])
      rw [HT.out] at HS
      have e3 := HS.out.cell 3 (by omega)
      rw [HD.out.wr] at e3
      have f3 := HS.out.frozen 3
      rw [HD.out.f3] at f3
      clear hkm
      go_wp2
      go_end0
      exact ⟨rfl, HS.out.end_ HD.out⟩
end Go.Proofs.YtjfeepmjebdahaaDoor
/- Write, Sync and Start of a disk. -/
namespace Go.Proofs.YtjfeepmjebdahaaDoor
open Go.ChangeShapes Go.WideShapes Go.ChangeAt Go.RowKit
set_option linter.unusedVariables false
/-- A write more. -/
theorem DkAt.written {w w3 : World} {b : Nat} {K : Nat → Prop} {s : DiskZ} {v u u' : Value} {ps : List PieceZ} {p : PieceZ} {zs : List Int} (h : DkAt w b K s v u ps) (hm : Moved (fun k => u.ownBlock = some k) w w3)
    (ho : w3.ownsRow 0 27 1 u' (ps.length + 1) (ps.map pval ++ [pval p])) (hat : u'.ownBlock = u.ownBlock ∨ ∀ k, u'.ownBlock = some k → w.heap.size ≤ k) (hp : Stands w3 (fun k => w.heap.size ≤ k ∧ u'.ownBlock ≠ some k) p) (hz : p.zs = zs) :
    Dk (w3.setCell ⟨b, 3, none⟩ u') b (Wider K w (w3.setCell ⟨b, 3, none⟩ u')) ⟨s.up, s.zs, s.ws ++ [zs]⟩ ∧ Moved K w (w3.setCell ⟨b, 3, none⟩ u') := by
  have hs := hm.size
  have hb := h.lt b h.kb
  have hz3 : (w3.setCell ⟨b, 3, none⟩ u').heap.size = w3.heap.size := by simp [World.setCell]
  have hu' : ∀ k, u'.ownBlock = some k → (K k ∨ w.heap.size ≤ k) ∧ k ≠ b ∧ v.ownBlock ≠ some k ∧ k < w3.heap.size := fun k hk => by
    have hlt := (ho.lt k hk).2
    rcases hat with e | e
    · rw [e] at hk; exact ⟨.inl (h.blk3 k hk).1, (h.blk3 k hk).2.1, (h.blk3 k hk).2.2, hlt⟩
    · have := e k hk
      exact ⟨.inr this, by omega, fun e2 => by have := h.lt k (h.blk2 k e2).1; omega, hlt⟩
  have hbl : w3.heap[b]? = w.heap[b]? := hm.block b hb (fun e => (h.blk3 b e).2.1 rfl)
  have far : ∀ k, k ≠ b → (w3.setCell ⟨b, 3, none⟩ u').heap[k]? = w3.heap[k]? := fun k hk => Below.heap_setCell _ _ _ _ hk
  refine ⟨⟨v, u', ps ++ [p], .inl h.kb, fun k hk => ?_, ?_, ?_, ?_, ?_, ?_, ?_, ?_, ?_, fun k hk => ⟨.inl (h.blk2 k hk).1, (h.blk2 k hk).2⟩, h.bytes, ?_, fun k hk => ?_, fun q hq => ?_, ?_⟩, ?_⟩
  · rcases hk with hk | hk
    · have := h.lt k hk; omega
    · exact hk.2
  · rw [World.cell?_setCell_other _ _ _ _ (by simp), World.cell?_of_block (a := ⟨b, 0, none⟩) hbl]; exact h.made
  · rw [World.cell?_setCell_other _ _ _ _ (by simp), World.cell?_of_block (a := ⟨b, 1, none⟩) hbl]; exact h.up
  · rw [World.cell?_setCell_other _ _ _ _ (by simp), World.cell?_of_block (a := ⟨b, 2, none⟩) hbl]; exact h.syn
  · exact World.cell?_setCell_same _ _ _ ((World.cell?_of_block (a := ⟨b, 3, none⟩) hbl).trans h.wr)
  · rw [World.frozen?_setCell, World.frozen?_of_block (a := ⟨b, 1, none⟩) hbl]; exact h.f1
  · rw [World.frozen?_setCell, World.frozen?_of_block (a := ⟨b, 2, none⟩) hbl]; exact h.f2
  · rw [World.frozen?_setCell, World.frozen?_of_block (a := ⟨b, 3, none⟩) hbl]; exact h.f3
  · exact own_same h.own2 (fun k hk => (far k (h.blk2 k hk).2).trans (hm.block k (h.lt k (h.blk2 k hk).1) (fun e => (h.blk3 k e).2.2 hk)))
  · have := own_same ho (w1 := w3.setCell ⟨b, 3, none⟩ u') (fun k hk => far k (hu' k hk).2.1)
    simpa using this
  · have := hu' k hk
    exact ⟨this.1.imp id (fun e => ⟨e, by omega⟩), this.2.1, this.2.2.1⟩
  · rcases List.mem_append.1 hq with hq | hq
    · have h1 : Stands w (fun k => Rest K b v u k ∧ u'.ownBlock ≠ some k) q := (h.all q hq).more (fun k hF hk => ⟨hF, fun e => by
        rcases hat with e2 | e2
        · rw [e2] at e; exact hF.2.2.2 e
        · have := e2 k e; omega⟩)
      exact (h1.keep (w1 := w3.setCell ⟨b, 3, none⟩ u') (fun k hF hk => (far k hF.1.2.1).trans (hm.block k hk hF.1.2.2.2))).more (fun k hF _ => ⟨.inl hF.1.1, hF.1.2.1, hF.1.2.2.1, hF.2⟩)
    · obtain rfl : q = p := by simpa using hq
      exact (hp.keep (w1 := w3.setCell ⟨b, 3, none⟩ u') (fun k hF _ => far k (by omega))).more (fun k hF hk => ⟨.inr ⟨hF.1, hk⟩, by omega, fun e => by have := h.lt k (h.blk2 k e).1; omega, hF.2⟩)
  · rw [List.map_append, h.ws, ← hz]; rfl
  · refine (hm.more (fun k hk _ => (h.blk3 k hk).1)).then (Moved.cell _ _ _ _ h.kb)
/-- What a call that may be refused hands back, as a pair of the error and the state. -/
def DidV (w : World) (b : Nat) (K : Nat → Prop) (r : Int × DiskZ) (v : Value) (w' : World) : Prop := v = .int .i64 r.1 ∧ ∃ K', Dk w' b K' r.2 ∧ Moved K w w' ∧ Newer w K K'
theorem did_under {w w1 w' : World} {b : Nat} {K : Nat → Prop} {r : Int × DiskZ} {v : Value} (hm : Moved K w w1) (h : DidV w1 b K r v w') : Did w b K r (.returned v) w' := by
  obtain ⟨rfl, K', h1, h2, h3⟩ := h
  exact ⟨rfl, K', h1, hm.then h2, fun k hk => (h3 k hk).imp id (fun e => Nat.le_trans hm.size e)⟩
def dWrite (s : DiskZ) (zs : List Int) : Int × DiskZ := if s.up then (0, ⟨s.up, s.zs, s.ws ++ [zs]⟩) else (60, s)
def dSync (s : DiskZ) : Int × DiskZ := if s.up then (0, ⟨s.up, s.zs ++ s.ws.flatten, []⟩) else (60, s)
def dStart (s : DiskZ) : Int × DiskZ := if s.up then (2, s) else (0, ⟨true, s.zs, s.ws⟩)
set_option maxHeartbeats 1000000 in
theorem write1_any {w : World} {b : Nat} {K : Nat → Prop} {s : DiskZ} {x y B n : Nat} {A : Option Addr} (c : Nat) {zs : List Int} (h : Dk w b K s) (hx : w.cell? ⟨x, 0, none⟩ = some (.slice A n c)) (hy0 : w.cell? ⟨y, 0, none⟩ = some (.pointer (some ⟨b, 0, none⟩)))
    (hz : Bs w B A n zs) (hn : n ≤ 1000000) (hs : Small s) (hyK : ¬ K y) :
    Calls Tryd.prog 50 #[.pointer (some ⟨x, 0, none⟩), .pointer (some ⟨y, 0, none⟩)] w (fun e w' => ∃ v, e = .returned v ∧ DidV w b K (0, ⟨s.up, s.zs, s.ws ++ [zs]⟩) v w') := by
  obtain ⟨v, u, ps, h⟩ := h
  obtain ⟨W, d, rfl, hm1, hm2, hbu⟩ := h.bunch
  have hlen := h.len
  have hwr := hs.writes
  obtain ⟨m, hm⟩ : ∃ m, ps.length = m := ⟨_, rfl⟩
  have hms : m ≤ 1000000 := by omega
  have HD := Lib.hid h
  have HM := Lib.hid hm
  have hy1 : y < w.heap.size := World.block_lt_of_cell? _ _ hy0
  have hb1 : b < w.heap.size := h.lt b h.kb
  have HY := Lib.hid hy0
  have HZ := Lib.hid hz
  clear h hbu hlen hwr hs hm hy0
  go_enter Tryd.func50, Tryd.ntmps50
  go_upto_region 2 with ((at_builtin; refine wpList_app _ rfl (.const (.slice none 0 0)) (.tmp 4) 27 rfl w.heap.size 5 1 1 Tryd.underlying27 u8_info (by omega) (.slice none 0 0) 0 [] rfl (World.ownsRow_nil _ _ _ _) A n c (vals zs) rfl HZ.out.lies.1 HZ.out.lies.2 (vals_one _) (by unfold maxLen; omega) (by omega) (Nat.le_refl _) ?_; intro v1 w1 ho1 hg1))
  rw [Nat.zero_add, List.nil_append] at ho1
  obtain ⟨M, cm, rfl, hn1, hcm⟩ := own_shape ho1
  have hs1 := hg1.size
  have h1 : w1.cell? ⟨y, 0, none⟩ = some (.pointer (some ⟨b, 0, none⟩)) := (World.cell?_of_block (a := ⟨y, 0, none⟩) (hg1.block y hy1 (by simp [Value.ownBlock]))).trans HY.out
  have HD1 : Hid (DkAt w1 b K s v (.slice W ps.length d) ps) := Lib.hid (HD.out.keep (fun k hk => hg1.block k (HD.out.lt k hk) (by simp [Value.ownBlock])) hs1)
  have h2 : w1.cell? ⟨b, 3, none⟩ = some (.slice W m d) := by rw [← HM.out]; exact HD1.out.wr
  have hy : y < w1.heap.size := by omega
  have hb : b < w1.heap.size := by omega
  obtain ⟨X, hX⟩ : ∃ X, (w1.alloc (.cells #[.slice M n n] 27)).drew = X := ⟨_, rfl⟩
  have HX := Lib.hid hX
  have bX : Below w1.heap.size w1 X := by rw [← hX]; exact ((Below.refl _ w1).alloc (Nat.le_refl _) _).drew
  have sX : X.heap.size = w1.heap.size + 1 := by rw [← hX]; show (w1.alloc _).heap.size = _; simp
  have HO : Hid (X.ownsRow 0 27 1 (.slice W m d) m (ps.map pval)) := Lib.hid (by
    rw [← HM.out]; exact own_same HD1.out.own3 (fun k hk => bX.block k (HD1.out.lt k (HD1.out.blk3 k hk).1)))
  have hh : X.heap[w1.heap.size]? = some (.cells #[.slice M n n] 27 (0, 0)) := by rw [← hX]; exact heap_alloc_new w1 _
  have HL : Hid (Lies X 1 (some ⟨w1.heap.size, 0, none⟩) 1 [.slice M n n] ∧ Sourced (some ⟨w1.heap.size, 0, none⟩) 1) := Lib.hid ⟨⟨rfl, fun ad hA j q hq => by
    injection hA with hA
    subst hA
    exact World.news_of_block hh j q hq⟩, fun e => by cases e⟩
  have HC : Hid (∀ w3, X.grownBy w3 (Value.slice W m d).ownBlock → w3.cell? ⟨y, 0, none⟩ = some (.pointer (some ⟨b, 0, none⟩)) ∧ w3.cell? ⟨b, 3, none⟩ = some (.slice W m d) ∧ w3.frozen? ⟨b, 3, none⟩ = false) := Lib.hid (fun w3 hg => by
    have hbn : some b ≠ (Value.slice W m d).ownBlock := fun e => (HD1.out.blk3 b (by rw [HM.out]; exact e.symm)).2.1 rfl
    have e2 := (hg.block b (by omega) hbn).trans (bX.block b hb)
    have e1 : w3.cell? ⟨y, 0, none⟩ = X.cell? ⟨y, 0, none⟩ := World.cell?_of_block (hg.block y (by omega) (fun e => hyK (HD1.out.blk3 y (by rw [HM.out]; exact e.symm)).1))
    exact ⟨e1.trans ((World.cell?_of_block (a := ⟨y, 0, none⟩) (bX.block y hy)).trans h1), (World.cell?_of_block (a := ⟨b, 3, none⟩) e2).trans h2, (World.frozen?_of_block (a := ⟨b, 3, none⟩) e2).trans HD1.out.f3⟩)
  have BX := Lib.hid bX
  have HH := Lib.hid hh
  have HG1 := Lib.hid hg1
  have HO1 := Lib.hid ho1
  clear hX bX hh hg1 ho1 hz
  refine Late.region (fun w' => w'.cell? ⟨y, 0, none⟩ = some (.pointer (some ⟨b, 0, none⟩)) ∧ w'.cell? ⟨b, 3, none⟩ = some (.slice W m d)) [11, 12, 13] (by kernel_rfl) ⟨h1, h2⟩ (fun hHeld => ?_)
  refine Late.take (i := 0) (oi := ⟨some 6, Op.load 24 (Operand.tmp 1), _, _, _, _⟩) (v := ?_) rfl (by kernel_rfl) (by kernel_rfl) (by kernel_rfl) (by kernel_rfl) (fun _ _ _ h => h) (Or.inl ⟨by rfl, fun w hSw => ?_⟩) (by assumption) ?_
  rotate_left
  · (obtain ⟨s1, s2⟩ := hSw; go_simp; try with_reducible rfl)
  try simp only [Act.put, List.setIfInBounds_toArray, List.set_cons_zero, List.set_cons_succ]
  refine Late.take (i := 1) (oi := ⟨some 7, Op.load 24 (Operand.tmp 1), _, _, _, _⟩) (v := ?_) rfl (by kernel_rfl) (by kernel_rfl) (by kernel_rfl) (by kernel_rfl) (fun _ _ _ h => h) (Or.inl ⟨by rfl, fun w hSw => ?_⟩) (by assumption) ?_
  rotate_left
  · (obtain ⟨s1, s2⟩ := hSw; go_simp; try with_reducible rfl)
  try simp only [Act.put, List.setIfInBounds_toArray, List.set_cons_zero, List.set_cons_succ]
  refine Late.take (i := 2) (oi := ⟨some 8, Op.nilCheck (Operand.tmp 7), _, _, _, _⟩) (v := ?_) rfl (by kernel_rfl) (by kernel_rfl) (by kernel_rfl) (by kernel_rfl) (fun _ _ _ h => h) (Or.inl ⟨by rfl, fun w hSw => ?_⟩) (by assumption) ?_
  rotate_left
  · (obtain ⟨s1, s2⟩ := hSw; go_simp; try with_reducible rfl)
  try simp only [Act.put, List.setIfInBounds_toArray, List.set_cons_zero, List.set_cons_succ]
  refine Late.take (i := 3) (oi := ⟨some 9, Op.fieldAddr 48 (Operand.tmp 8) 3, _, _, _, _⟩) (v := ?_) rfl (by kernel_rfl) (by kernel_rfl) (by kernel_rfl) (by kernel_rfl) (fun _ _ _ h => h) (Or.inl ⟨by rfl, fun w hSw => ?_⟩) (by assumption) ?_
  rotate_left
  · (obtain ⟨s1, s2⟩ := hSw; go_simp; try with_reducible rfl)
  try simp only [Act.put, List.setIfInBounds_toArray, List.set_cons_zero, List.set_cons_succ]
  refine Late.take (i := 4) (oi := ⟨some 10, Op.load 33 (Operand.tmp 9), _, _, _, _⟩) (v := ?_) rfl (by kernel_rfl) (by kernel_rfl) (by kernel_rfl) (by kernel_rfl) (fun _ _ _ h => h) (Or.inl ⟨by rfl, fun w hSw => ?_⟩) (by assumption) ?_
  rotate_left
  · (obtain ⟨s1, s2⟩ := hSw; go_simp; try with_reducible rfl)
  try simp only [Act.put, List.setIfInBounds_toArray, List.set_cons_zero, List.set_cons_succ]
  refine Late.take (i := 5) (oi := ⟨some 11, Op.move (Operand.tmp 3), _, _, _, _⟩) (v := ?_) rfl (by kernel_rfl) (by kernel_rfl) (by kernel_rfl) (by kernel_rfl) (fun _ _ _ h => h) (Or.inl ⟨by rfl, fun w hSw => ?_⟩) (by assumption) ?_
  rotate_left
  · (obtain ⟨s1, s2⟩ := hSw; go_simp; try with_reducible rfl)
  try simp only [Act.put, List.setIfInBounds_toArray, List.set_cons_zero, List.set_cons_succ]
  refine Late.take (i := 6) (oi := ⟨some 12, Op.move (Operand.tmp 3), _, _, _, _⟩) (v := ?_) rfl (by kernel_rfl) (by kernel_rfl) (by kernel_rfl) (by kernel_rfl) (fun _ _ _ h => h) (Or.inl ⟨by rfl, fun w hSw => ?_⟩) (by assumption) ?_
  rotate_left
  · (obtain ⟨s1, s2⟩ := hSw; go_simp; try with_reducible rfl)
  try simp only [Act.put, List.setIfInBounds_toArray, List.set_cons_zero, List.set_cons_succ]
  refine Late.take (i := 7) (oi := ⟨some 13, Op.call { callee := Callee.builtin Builtin.len, args := #[Operand.tmp 12], argTypes := #[27] }, _, _, _, _⟩) (v := ?_) rfl (by kernel_rfl) (by kernel_rfl) (by kernel_rfl) (by kernel_rfl) (fun _ _ _ h => h) (Or.inl ⟨by rfl, fun w hSw => ?_⟩) (by assumption) ?_
  rotate_left
  · (obtain ⟨s1, s2⟩ := hSw; go_simp; try with_reducible rfl)
  try simp only [Act.put, List.setIfInBounds_toArray, List.set_cons_zero, List.set_cons_succ]
  refine Late.one (i := 8) (o := ⟨some 14, Op.call { callee := Callee.value (Operand.func 51), args := #[Operand.tmp 11, Operand.tmp 13], argTypes := #[27, 3] }, _, _, _, _⟩) (by kernel_rfl) rfl (fun K hK => ?_)
  go_simp
  refine (ahead8_any M n cm n _ hn1 hcm).mono ?_
  rintro e w' ⟨rfl, rfl⟩
  go_wp2_with fail
  refine hK.out _ _ (⟨h1, h2⟩) (fun hHeld2 => ?_)
  clear hK K hHeld
  have hHeld := hHeld2
  clear hHeld2
  try simp only [Act.put, List.setIfInBounds_toArray, List.set_cons_zero, List.set_cons_succ]
  refine Late.one (i := 9) (o := ⟨some 15, Op.buildSlice 33 1 #[(0, Operand.tmp 14)], _, _, _, _⟩) (by kernel_rfl) rfl (fun K hK => ?_)
  go_simp
  refine hK.out _ _ (⟨(World.cell?_alloc_lt w1 _ ⟨y, 0, none⟩ hy).trans h1, (World.cell?_alloc_lt w1 _ ⟨b, 3, none⟩ hb).trans h2⟩) (fun hHeld2 => ?_)
  clear hK K hHeld
  have hHeld := hHeld2
  clear hHeld2
  try simp only [Act.put, List.setIfInBounds_toArray, List.set_cons_zero, List.set_cons_succ]
  refine Late.one (i := 10) (o := ⟨some 16, Op.call { callee := Callee.builtin Builtin.append, args := #[Operand.tmp 10, Operand.tmp 15], argTypes := #[33, 33] }, _, _, _, _⟩) (by kernel_rfl) rfl (fun K hK => ?_)
  rw [HX.out]
  refine step_app _ (by rfl) (.tmp 10) (.tmp 15) 33 (by rfl) 0 27 1 24 Tryd.underlying33 slice_info (by decide) (.slice W m d) m (ps.map pval) (by rfl) HO.out (some ⟨w1.heap.size, 0, none⟩) 1 1 [.slice M n n] (by rfl) HL.out.1 HL.out.2 (by simp [Value.oneCell']) (by unfold maxLen; omega) (by omega) (Nat.zero_le _) ?_
  intro v' w3 ho3 hg3 hat
  obtain ⟨V, cv, rfl, q1, q2⟩ := own_shape ho3
  obtain ⟨c1, c2, c3⟩ := HC.out w3 hg3
  refine hK.out _ _ (⟨c1, c2⟩) (fun hHeld2 => ?_)
  clear hK K hHeld
  have hHeld := hHeld2
  clear hHeld2
  try simp only [Act.put, List.setIfInBounds_toArray, List.set_cons_zero, List.set_cons_succ]
  refine Late.end_ (i := 11) (o := ⟨some 17, Op.nilCheck (Operand.tmp 6), _, _, _, _⟩) (by kernel_rfl) rfl rfl (fun K hK => ?_)
  go_simp
  refine hK.out _ _ ?_
  clear hK K
  try simp only [Act.put, List.setIfInBounds_toArray, List.set_cons_zero, List.set_cons_succ]
  refine Late.end_ (i := 12) (o := ⟨some 18, Op.fieldAddr 48 (Operand.tmp 17) 3, _, _, _, _⟩) (by kernel_rfl) rfl rfl (fun K hK => ?_)
  go_simp
  refine hK.out _ _ ?_
  clear hK K
  try simp only [Act.put, List.setIfInBounds_toArray, List.set_cons_zero, List.set_cons_succ]
  refine Late.end_ (i := 13) (o := ⟨none, Op.store 33 (Operand.tmp 18) (Operand.tmp 16), _, _, _, _⟩) (by kernel_rfl) rfl rfl (fun K hK => ?_)
  go_simp
  refine hK.out _ _ ?_
  clear hK K
  try simp only [Act.put, List.setIfInBounds_toArray, List.set_cons_zero, List.set_cons_succ]
  refine Late.done (by kernel_rfl) ?_ _
  refine NoPanic.normal ?_
  have HR : Hid (Dk (w3.setCell ⟨b, 3, none⟩ (.slice V (m + 1) cv)) b (Wider K w (w3.setCell ⟨b, 3, none⟩ (.slice V (m + 1) cv))) ⟨s.up, s.zs, s.ws ++ [zs]⟩ ∧ Moved K w (w3.setCell ⟨b, 3, none⟩ (.slice V (m + 1) cv))) := Lib.hid (by
    have hK : ∀ k, (Value.slice W ps.length d).ownBlock = some k → k < w.heap.size := fun k hk => HD.out.lt k (HD.out.blk3 k hk).1
    have hat2 : (Value.slice V (m + 1) cv).ownBlock = (Value.slice W ps.length d).ownBlock ∨ (Value.slice V (m + 1) cv).ownBlock = some (w1.heap.size + 1) := by rw [HM.out, ← sX]; exact hat
    have p1 : Stands w1 (fun k => w.heap.size ≤ k ∧ k < w1.heap.size) ⟨M, n, cm, zs⟩ := stands_own HO1.out HZ.out.isBytes (fun k hk => HO1.out.lt k hk)
    have p2 := p1.cut (k := n) (c' := n) (Nat.le_refl _) (Nat.le_refl _) (by unfold maxLen; omega)
    refine HD.out.written (p := ⟨M, n, n, zs⟩) (((Moved.grown HG1.out (fun k hk => by cases hk)).then ((Moved.of_below (fun k => (Value.slice W ps.length d).ownBlock = some k) BX.out))).then (Moved.grown (by rw [HM.out]; exact hg3) (fun k hk => hk))) (by rw [HM.out]; exact ho3) ?_ ?_ rfl
    · rcases hat2 with e | e
      · exact .inl e
      · exact .inr (fun k hk => by rw [e] at hk; injection hk with hk; omega)
    · have p3 : Stands w1 (fun k => w.heap.size ≤ k ∧ k < w1.heap.size) ⟨M, n, n, zs⟩ := by
        have e : zs.take n = zs := List.take_of_length_le (by rw [HZ.out.len]; omega)
        rw [← e]; exact p2
      refine (p3.keep (w1 := w3) (fun k hF _ => (hg3.block k (by omega) (fun e => ?_)).trans (BX.out.block k hF.2))).more (fun k hF _ => ⟨hF.1, fun e => ?_⟩)
      · rw [← HM.out] at e
        have := hK k e.symm; omega
      · rcases hat2 with e2 | e2
        · rw [e2] at e; have := hK k e; omega
        · rw [e2] at e; injection e with e; omega)
  clear ho3 hg3 hat
  go_wp2
  go_ret
  exact ⟨_, rfl, rfl, _, HR.out.1, HR.out.2, wider_newer K w _⟩
theorem dkwrite_any {w : World} {b : Nat} {K : Nat → Prop} {s : DiskZ} {B n : Nat} {A : Option Addr} (c : Nat) {zs : List Int} (h : Dk w b K s) (hz : Bs w B A n zs) (hB : B ≤ w.heap.size) (hn : n ≤ 1000000) (hs : Small s) :
    Calls Tryd.prog 30 #[.pointer (some ⟨b, 0, none⟩), .slice A n c] w (Did w b K (dWrite s zs)) := by
  obtain ⟨W, hW⟩ : ∃ W, (w.alloc (.cells #[.pointer (some ⟨b, 0, none⟩)] 24)).alloc (.cells #[.slice A n c] 27) = W := ⟨_, rfl⟩
  have bW : Below w.heap.size w W := by rw [← hW]; exact ((Below.refl _ _).alloc (Nat.le_refl _) _).alloc (by simp) _
  have sW : W.heap.size = w.heap.size + 2 := by rw [← hW]; simp
  have y0 : W.heap[w.heap.size]? = some (.cells #[.pointer (some ⟨b, 0, none⟩)] 24 (0, 0)) := by rw [← hW, Below.heap_alloc _ _ _ (by simp)]; exact heap_alloc_new w _
  have x0 : W.heap[w.heap.size + 1]? = some (.cells #[.slice A n c] 27 (0, 0)) := by
    rw [← hW]
    have := heap_alloc_new (w.alloc (.cells #[.pointer (some ⟨b, 0, none⟩)] 24)) (.cells #[.slice A n c] 27)
    rwa [show (w.alloc (.cells #[.pointer (some ⟨b, 0, none⟩)] 24)).heap.size = w.heap.size + 1 by simp] at this
  have hD := h.below bW (Nat.le_refl _)
  have hx : W.cell? ⟨w.heap.size + 1, 0, none⟩ = some (.slice A n c) := by rw [cell_of_row _ _ _ _ _ _ x0]; rfl
  have hy : W.cell? ⟨w.heap.size, 0, none⟩ = some (.pointer (some ⟨b, 0, none⟩)) := by rw [cell_of_row _ _ _ _ _ _ y0]; rfl
  have C1 := Lib.hid (write1_any c hD hx hy (hz.belowM bW hB) hn hs (fun e => by have := h.lt _ e; omega))
  have BW := Lib.hid (Moved.of_below K bW)
  have HW := Lib.hid hW
  have HDK := Lib.hid hD
  obtain ⟨v, u, ps, hA⟩ := hD
  have m0 := Lib.hid hA.made
  have m1 := hA.up
  clear hW bW y0 x0 hA hz h hs
  cases hu : s.up with
  | true =>
    rw [hu] at m1
    have C2 := Lib.hid (ifup_yes m0.out m1 50 _ (fun _ _ => by kernel_rfl) _ C1.out)
    have HZ : Hid (dWrite s zs = (0, ⟨s.up, s.zs, s.ws ++ [zs]⟩)) := Lib.hid (by unfold dWrite; rw [hu]; rfl)
    clear C1 m0 m1 hu
    go_enter Tryd.func30, Tryd.ntmps30
    go_wp2_with fail
    rw [HW.out]
    refine C2.out.mono ?_
    rintro e w2 ⟨v2, rfl, rfl, hp⟩
    have HP := Lib.hid (did_under (w := w) BW.out ⟨rfl, hp⟩)
    clear hp
    go_wp2
    go_ret
    rw [HZ.out]
    exact HP.out
  | false =>
    rw [hu] at m1
    have C2 := Lib.hid (fun F => ifup_down m0.out m1 F)
    have HZ : Hid (dWrite s zs = (60, s)) := Lib.hid (by unfold dWrite; rw [hu]; rfl)
    clear C1 m0 m1 hu
    go_enter Tryd.func30, Tryd.ntmps30
    go_wp2_with fail
    rw [HW.out]
    refine (C2.out _).mono ?_
    rintro e w2 ⟨rfl, rfl⟩
    have HP := Lib.hid (did_under (w := w) (r := (60, s)) BW.out ⟨rfl, K, HDK.out, Moved.refl _ _, Newer.refl _ _⟩)
    go_wp2
    go_ret
    rw [HZ.out]
    exact HP.out
end Go.Proofs.YtjfeepmjebdahaaDoor
/- Sync and Start of a disk. -/
namespace Go.Proofs.YtjfeepmjebdahaaDoor
open Go.ChangeShapes Go.WideShapes Go.ChangeAt Go.RowKit
set_option linter.unusedVariables false
set_option maxHeartbeats 1000000 in
theorem sync1_any {w : World} {b : Nat} {K : Nat → Prop} {s : DiskZ} {y : Nat} (h : Dk w b K s) (h1 : w.cell? ⟨y, 0, none⟩ = some (.pointer (some ⟨b, 0, none⟩))) (hs : Small s) (hyK : ¬ K y) :
    Calls Tryd.prog 63 #[.pointer (some ⟨y, 0, none⟩)] w (fun e w' => ∃ v, e = .returned v ∧ DidV w b K (0, ⟨s.up, s.zs ++ s.ws.flatten, []⟩) v w') := by
  obtain ⟨v, u, ps, h⟩ := h
  obtain ⟨W, d, rfl, hm1, hm2, hbu⟩ := h.bunch
  have hlen := h.len
  have hwr := hs.writes
  have hby := hs.bytes
  have h2 := h.wr
  have e := h.flat
  have HS := Lib.hid (settle_any (w := w.drew) d (h.keep (w1 := w.drew) (fun _ _ => rfl) (Nat.le_refl _)) ((hbu.keep (w1 := w.drew) (fun _ _ _ => rfl)).more (fun k hk _ => ⟨hk.2.1, hk.2.2⟩)) (by omega) (by unfold allZ at hby; rw [← e]; rw [List.length_append] at hby; omega))
  obtain ⟨m, hm⟩ : ∃ m, ps.length = m := ⟨_, rfl⟩
  rw [hm] at HS h2
  rw [e]
  clear h hbu hlen hwr hby hs hm hm1 hm2 e
  go_enter Tryd.func63, Tryd.ntmps63
  go_wp2
  refine Late.region (fun w' => w'.cell? ⟨y, 0, none⟩ = some (.pointer (some ⟨b, 0, none⟩))) [] (by kernel_rfl) h1 (fun hHeld => ?_)
  refine Late.take (i := 0) (oi := ⟨some 2, Op.load 24 (Operand.tmp 0), _, _, _, _⟩) (v := ?_) rfl (by kernel_rfl) (by kernel_rfl) (by kernel_rfl) (by kernel_rfl) (fun _ _ _ h => h) (Or.inl ⟨by rfl, fun w hSw => ?_⟩) (by assumption) ?_
  rotate_left
  · (have s1 := hSw; go_simp; try with_reducible rfl)
  try simp only [Act.put, List.setIfInBounds_toArray, List.set_cons_zero, List.set_cons_succ]
  refine Late.take (i := 1) (oi := ⟨some 3, Op.load 24 (Operand.tmp 0), _, _, _, _⟩) (v := ?_) rfl (by kernel_rfl) (by kernel_rfl) (by kernel_rfl) (by kernel_rfl) (fun _ _ _ h => h) (Or.inl ⟨by rfl, fun w hSw => ?_⟩) (by assumption) ?_
  rotate_left
  · (have s1 := hSw; go_simp; try with_reducible rfl)
  try simp only [Act.put, List.setIfInBounds_toArray, List.set_cons_zero, List.set_cons_succ]
  refine Late.take (i := 2) (oi := ⟨some 4, Op.nilCheck (Operand.tmp 3), _, _, _, _⟩) (v := ?_) rfl (by kernel_rfl) (by kernel_rfl) (by kernel_rfl) (by kernel_rfl) (fun _ _ _ h => h) (Or.inl ⟨by rfl, fun w hSw => ?_⟩) (by assumption) ?_
  rotate_left
  · (have s1 := hSw; go_simp; try with_reducible rfl)
  try simp only [Act.put, List.setIfInBounds_toArray, List.set_cons_zero, List.set_cons_succ]
  refine Late.take (i := 3) (oi := ⟨some 5, Op.fieldAddr 48 (Operand.tmp 4) 3, _, _, _, _⟩) (v := ?_) rfl (by kernel_rfl) (by kernel_rfl) (by kernel_rfl) (by kernel_rfl) (fun _ _ _ h => h) (Or.inl ⟨by rfl, fun w hSw => ?_⟩) (by assumption) ?_
  rotate_left
  · (have s1 := hSw; go_simp; try with_reducible rfl)
  try simp only [Act.put, List.setIfInBounds_toArray, List.set_cons_zero, List.set_cons_succ]
  refine Late.one (i := 4) (o := ⟨some 6, Op.load 33 (Operand.tmp 5), _, _, _, _⟩) (by kernel_rfl) rfl (fun K hK => ?_)
  go_simp
  refine hK.out _ _ (h1) (fun hHeld2 => ?_)
  clear hK K hHeld
  have hHeld := hHeld2
  clear hHeld2
  try simp only [Act.put, List.setIfInBounds_toArray, List.set_cons_zero, List.set_cons_succ]
  refine Late.one (i := 5) (o := ⟨some 7, Op.call { callee := Callee.value (Operand.func 48), args := #[Operand.tmp 2, Operand.tmp 6], argTypes := #[24, 33] }, _, _, _, _⟩) (by kernel_rfl) rfl (fun K hK => ?_)
  go_simp
  refine HS.out.mono ?_
  rintro e w2 ⟨rfl, hd, hm⟩
  have h3 : w2.cell? ⟨y, 0, none⟩ = some (.pointer (some ⟨b, 0, none⟩)) := (hm.cell? ⟨y, 0, none⟩ (World.block_lt_of_cell? _ _ h1) hyK).trans h1
  have HDm := Lib.hid (And.intro hd hm)
  clear hd hm
  go_wp2_with fail
  refine hK.out _ _ (h3) (fun hHeld2 => ?_)
  clear hK K hHeld
  have hHeld := hHeld2
  clear hHeld2
  try simp only [Act.put, List.setIfInBounds_toArray, List.set_cons_zero, List.set_cons_succ]
  refine Late.done (by kernel_rfl) ?_ _
  refine NoPanic.normal ?_
  go_wp2
  go_ret
  exact ⟨_, rfl, rfl, _, HDm.out.1, (Moved.drew K w).then HDm.out.2, wider_newer K _ _⟩
theorem sync_any {w : World} {b : Nat} {K : Nat → Prop} {s : DiskZ} (h : Dk w b K s) (hs : Small s) :
    Calls Tryd.prog 44 #[.pointer (some ⟨b, 0, none⟩)] w (Did w b K (dSync s)) := by
  obtain ⟨W, hW⟩ : ∃ W, w.alloc (.cells #[.pointer (some ⟨b, 0, none⟩)] 24) = W := ⟨_, rfl⟩
  have bW : Below w.heap.size w W := by rw [← hW]; exact (Below.refl _ _).alloc (Nat.le_refl _) _
  have y0 : W.heap[w.heap.size]? = some (.cells #[.pointer (some ⟨b, 0, none⟩)] 24 (0, 0)) := by rw [← hW]; exact heap_alloc_new w _
  have hD := h.below bW (Nat.le_refl _)
  have hy : W.cell? ⟨w.heap.size, 0, none⟩ = some (.pointer (some ⟨b, 0, none⟩)) := by rw [cell_of_row _ _ _ _ _ _ y0]; rfl
  have C1 := Lib.hid (sync1_any hD hy hs (fun e => by have := h.lt _ e; omega))
  have BW := Lib.hid (Moved.of_below K bW)
  have HW := Lib.hid hW
  have HDK := Lib.hid hD
  obtain ⟨v, u, ps, hA⟩ := hD
  have m0 := Lib.hid hA.made
  have m1 := hA.up
  clear hW bW y0 hA h hs
  cases hu : s.up with
  | true =>
    rw [hu] at m1
    have C2 := Lib.hid (ifup_yes m0.out m1 63 _ (fun _ _ => by kernel_rfl) _ C1.out)
    have HZ : Hid (dSync s = (0, ⟨s.up, s.zs ++ s.ws.flatten, []⟩)) := Lib.hid (by unfold dSync; rw [hu]; rfl)
    clear C1 m0 m1 hu
    go_enter Tryd.func44, Tryd.ntmps44
    go_wp2_with fail
    rw [HW.out]
    refine C2.out.mono ?_
    rintro e w2 ⟨v2, rfl, rfl, hp⟩
    have HP := Lib.hid (did_under (w := w) BW.out ⟨rfl, hp⟩)
    clear hp
    go_wp2
    go_ret
    rw [HZ.out]
    exact HP.out
  | false =>
    rw [hu] at m1
    have C2 := Lib.hid (fun F => ifup_down m0.out m1 F)
    have HZ : Hid (dSync s = (60, s)) := Lib.hid (by unfold dSync; rw [hu]; rfl)
    clear C1 m0 m1 hu
    go_enter Tryd.func44, Tryd.ntmps44
    go_wp2_with fail
    rw [HW.out]
    refine (C2.out _).mono ?_
    rintro e w2 ⟨rfl, rfl⟩
    have HP := Lib.hid (did_under (w := w) (r := (60, s)) BW.out ⟨rfl, K, HDK.out, Moved.refl _ _, Newer.refl _ _⟩)
    go_wp2
    go_ret
    rw [HZ.out]
    exact HP.out
/-- One of its flags is stored. -/
theorem DkAt.upped {w : World} {b : Nat} {K : Nat → Prop} {s : DiskZ} {v u : Value} {ps : List PieceZ} (h : DkAt w b K s v u ps) (x : Bool) : DkAt (w.setCell ⟨b, 1, none⟩ (.bool x)) b K ⟨x, s.zs, s.ws⟩ v u ps := by
  have far : ∀ k, k ≠ b → (w.setCell ⟨b, 1, none⟩ (.bool x)).heap[k]? = w.heap[k]? := fun k hk => Below.heap_setCell _ _ _ _ hk
  refine ⟨h.kb, fun k hk => by have := h.lt k hk; simpa [World.setCell] using this, ?_, World.cell?_setCell_same _ _ _ h.up, ?_, ?_, ?_, ?_, ?_, own_same h.own2 (fun k hk => far k (h.blk2 k hk).2), h.blk2, h.bytes, own_same h.own3 (fun k hk => far k (h.blk3 k hk).2.1), h.blk3, fun p hp => (h.all p hp).keep (fun k hF _ => far k hF.2.1), h.ws⟩
  · rw [World.cell?_setCell_other _ _ _ _ (by simp)]; exact h.made
  · rw [World.cell?_setCell_other _ _ _ _ (by simp)]; exact h.syn
  · rw [World.cell?_setCell_other _ _ _ _ (by simp)]; exact h.wr
  · rw [World.frozen?_setCell]; exact h.f1
  · rw [World.frozen?_setCell]; exact h.f2
  · rw [World.frozen?_setCell]; exact h.f3
theorem start_any {w : World} {b : Nat} {K : Nat → Prop} {s : DiskZ} (h : Dk w b K s) : Calls Tryd.prog 27 #[.pointer (some ⟨b, 0, none⟩)] w (Did w b K (dStart s)) := by
  have HD := Lib.hid h
  obtain ⟨v, u, ps, h⟩ := h
  have h0 := h.made
  have h1 := h.up
  have f1 := h.f1
  have HA := Lib.hid h
  clear h
  cases hu : s.up with
  | true =>
    rw [hu] at h1
    have HZ : Hid (dStart s = (2, s)) := Lib.hid (by unfold dStart; rw [hu]; rfl)
    clear hu
    go_enter Tryd.func27, Tryd.ntmps27
    go_wp2
    go_ret
    rw [HZ.out]
    exact ⟨rfl, K, HD.out, Moved.refl _ _, Newer.refl _ _⟩
  | false =>
    rw [hu] at h1
    have HZ : Hid (dStart s = (0, ⟨true, s.zs, s.ws⟩)) := Lib.hid (by unfold dStart; rw [hu]; rfl)
    clear hu
    go_enter Tryd.func27, Tryd.ntmps27
    go_wp2
    go_ret
    rw [HZ.out]
    exact ⟨rfl, K, ⟨_, _, _, HA.out.upped true⟩, Moved.cell _ _ _ _ HA.out.kb, Newer.refl _ _⟩
end Go.Proofs.YtjfeepmjebdahaaDoor
/- Crash of a disk. -/
namespace Go.Proofs.YtjfeepmjebdahaaDoor
open Go.ChangeShapes Go.WideShapes Go.ChangeAt Go.RowKit
set_option linter.unusedVariables false
/-- What a crash leaves of writes. -/
def leftZ (ws : List (List Int)) (keep torn : Int) : List (List Int) :=
  if (ws.length : Int) ≤ keep then ws else ws.take keep.toNat ++ [(ws.getD keep.toNat []).take (max (min torn (((ws.getD keep.toNat []).length : Int) - 1)) 0).toNat]
theorem flatten_take_le : ∀ (k : Nat) (ws : List (List Int)), (ws.take k).flatten.length + (ws.getD k []).length ≤ ws.flatten.length
  | k, [] => by simp
  | 0, a :: l => by simp
  | k + 1, a :: l => by have := flatten_take_le k l; simp at this ⊢; omega
theorem leftZ_len (ws : List (List Int)) (keep torn : Int) : (leftZ ws keep torn).flatten.length ≤ ws.flatten.length ∧ (leftZ ws keep torn).length ≤ ws.length + 1 := by
  unfold leftZ
  split
  · exact ⟨Nat.le_refl _, by omega⟩
  · constructor
    · rw [List.flatten_append, List.length_append, List.flatten_singleton, List.length_take]
      have := flatten_take_le keep.toNat ws
      omega
    · rw [List.length_append, List.length_take, List.length_singleton]; omega
def LeftSays (w : World) (b : Nat) (v : Value) (ls : List (List Int)) (e : Ending) (w' : World) : Prop := ∃ A qs c, e = .returned (.slice A qs.length c) ∧ Bunch w' (fun k => k ≠ b ∧ v.ownBlock ≠ some k) A qs ∧ qs.map (·.zs) = ls ∧ Below w.heap.size w w'
set_option maxHeartbeats 1000000 in
theorem left_all {w : World} {b : Nat} {K : Nat → Prop} {s : DiskZ} {v u : Value} {ps : List PieceZ} (h : DkAt w b K s v u ps) (hs : Small s) (keep torn : Int) (h2 : keep ≤ 9223372036854775807) (hk : (s.ws.length : Int) ≤ keep) :
    Calls Tryd.prog 49 #[u, .int .i64 keep, .int .i64 torn] w (LeftSays w b v (leftZ s.ws keep torn)) := by
  obtain ⟨W, d, rfl, hm1, hm2, hbu⟩ := h.bunch
  have hlen := h.len
  have HR : Hid (LeftSays w b v (leftZ s.ws keep torn) (.returned (.slice W ps.length d)) w) := Lib.hid ⟨W, ps, d, rfl, hbu.more (fun k hk _ => ⟨hk.2.1, hk.2.2⟩), by unfold leftZ; rw [if_pos hk]; exact h.ws, Below.refl _ _⟩
  have hwr := hs.writes
  rw [← hlen] at hk
  obtain ⟨m, hm⟩ : ∃ m, ps.length = m := ⟨_, rfl⟩
  rw [hm] at HR hk ⊢
  have hms : m ≤ 1000000 := by omega
  clear h hbu hlen hm hwr hs hm1 hm2
  go_enter Tryd.func49, Tryd.ntmps49
  go_wp2
  go_ret
  exact HR.out
set_option maxRecDepth 100000 in
set_option maxHeartbeats 1000000 in
theorem left_some {w : World} {b : Nat} {K : Nat → Prop} {s : DiskZ} {v u : Value} {ps : List PieceZ} (h : DkAt w b K s v u ps) (hs : Small s) (k : Nat) (torn : Int) (h3 : 0 ≤ torn) (h4 : torn ≤ 9223372036854775807) (hk : k < s.ws.length) :
    Calls Tryd.prog 49 #[u, .int .i64 k, .int .i64 torn] w (LeftSays w b v (leftZ s.ws k torn)) := by
  obtain ⟨W, d, rfl, hm1, hm2, hbu⟩ := h.bunch
  have hlen := h.len
  have hwr := hs.writes
  have hby := hs.bytes
  obtain ⟨m, hm⟩ : ∃ m, ps.length = m := ⟨_, rfl⟩
  have hms : m ≤ 1000000 := by omega
  have hkm : k < m := by omega
  obtain ⟨g, off, p, rfl, hg, hF, HP, hc, hst⟩ := hbu.at_ (k := k) (by omega)
  have hvb : ∀ k, v.ownBlock = some k → k < w.heap.size := fun k hk => h.lt k (h.blk2 k hk).1
  have hbb : b < w.heap.size := h.lt b h.kb
  have hpn : p.n ≤ 1000000 := by
    have h1 := flatten_take_le k s.ws
    have h2 : s.ws.getD k [] = p.zs := by rw [← h.ws, List.getD_eq_getElem?_getD, List.getElem?_map, HP.out]; rfl
    rw [h2, hst.len] at h1
    unfold allZ at hby
    rw [List.length_append] at hby
    omega
  have hzz : leftZ s.ws k torn = (ps.take k).map (·.zs) ++ [p.zs.take (max (min torn ((p.n : Int) - 1)) 0).toNat] := by
    unfold leftZ
    have h2 : s.ws.getD k [] = p.zs := by rw [← h.ws, List.getD_eq_getElem?_getD, List.getElem?_map, HP.out]; rfl
    rw [if_neg (by omega), Int.toNat_natCast, h2, hst.len, ← h.ws, List.map_take]
  have hpm := hst.max
  have hpc := hst.cap
  obtain ⟨pA, pn, pc, pz⟩ := p
  simp only at hpn hzz hc hpm hpc
  unfold pval at hc
  simp only at hc
  obtain ⟨j, hj⟩ : ∃ j : Nat, (max (min torn ((pn : Int) - 1)) 0).toNat = j := ⟨_, rfl⟩
  have e : max (min torn ((pn : Int) - 1)) 0 = (j : Int) := by omega
  have hjn : j ≤ pn := by omega
  rw [hj] at hzz
  have i0 := slice_info
  obtain ⟨i, z, hi, hz, hsz, hbz, hzs⟩ := i0
  have ho : ∀ q v', ((ps.take k).map pval)[q]? = some v' → (w.alloc (.cells #[.slice pA j j] 27)).cell? ((⟨g, off, none⟩ : Addr).add q) = some v' := fun q v' hq => by
    rw [Go.WideShapes.add_plain, World.cell?_alloc_lt _ _ _ hg]
    obtain ⟨g2, off2, e2, _, hcc⟩ := hbu.row (by omega)
    injection e2 with e2
    injection e2 with e3 e4
    subst e3 e4
    rw [List.getElem?_map, List.getElem?_take] at hq
    by_cases hqk : q < k
    · rw [if_pos hqk] at hq
      cases hx : ps[q]? with
      | none => rw [hx] at hq; cases hq
      | some x => rw [hx] at hq; injection hq with hq; rw [← hq]; exact hcc q x hx
    · rw [if_neg hqk] at hq; cases hq
  have hrun : ∀ ty, _ := fun ty => run_append_grow (P := Tryd.prog) (w.alloc (.cells #[.slice pA j j] 27)) 33 ty 27 i z Tryd.underlying33 hi hz ⟨g, off, none⟩ k k ((ps.take k).map pval) (by rw [hsz]; simp; omega) ho ⟨w.heap.size, 0, none⟩ 1 1 [.slice pA j j] (by rw [hsz]; rfl) (World.news_of_block (cs := #[.slice pA j j]) (t := 27) (fr := (0, 0)) (heap_alloc_new w _)) (by omega) (by omega) (growslice_fits (by omega) (by rw [hbz]; omega))
  obtain ⟨G, hG⟩ : ∃ G, grownCap (w.alloc (.cells #[.slice pA j j] 27)) (k + 1) k 27 = G := ⟨_, rfl⟩
  have hge := grownCap_ge (w.alloc (.cells #[.slice pA j j] 27)) (k + 1) k 27
  have hle := grownCap_le_maxLen (w.alloc (.cells #[.slice pA j j] 27)) (k + 1) k 27 (by unfold maxLen; omega)
  rw [hG] at hrun hge hle
  obtain ⟨Y, hY⟩ : ∃ Y, (w.alloc (.cells #[.slice pA j j] 27)).drew.alloc (.cells (((ps.take k).map pval).toArray ++ [Value.slice pA j j].toArray ++ Builtin.zeroCells z.cells (G - (k + 1))) 27) = Y := ⟨_, rfl⟩
  rw [hY, show (w.alloc (.cells #[.slice pA j j] 27)).heap.size = w.heap.size + 1 by simp] at hrun
  have HR := Lib.hid hrun
  have bY : Below w.heap.size w Y := by rw [← hY]; exact (((Below.refl w.heap.size w).alloc (Nat.le_refl _) _).drew).alloc (by show w.heap.size ≤ (w.alloc _).heap.size; simp) _
  have hh : Y.heap[w.heap.size + 1]? = some (.cells (((ps.take k).map pval).toArray ++ [Value.slice pA j j].toArray ++ Builtin.zeroCells z.cells (G - (k + 1))) 27 (0, 0)) := by
    rw [← hY]
    have := heap_alloc_new (w.alloc (.cells #[.slice pA j j] 27)).drew (.cells (((ps.take k).map pval).toArray ++ [Value.slice pA j j].toArray ++ Builtin.zeroCells z.cells (G - (k + 1))) 27)
    rwa [show (w.alloc (.cells #[.slice pA j j] 27)).drew.heap.size = w.heap.size + 1 by show (w.alloc _).heap.size = _; simp] at this
  have hql : (ps.take k ++ [⟨pA, j, j, pz.take j⟩] : List PieceZ).length = k + 1 := by simp; omega
  have HL : Hid (LeftSays w b v (leftZ s.ws k torn) (.returned (.slice (some ⟨w.heap.size + 1, 0, none⟩) (k + 1) G)) Y) := Lib.hid (by
    refine ⟨some ⟨w.heap.size + 1, 0, none⟩, ps.take k ++ [⟨pA, j, j, pz.take j⟩], G, by rw [hql], ?_, by rw [hzz]; simp, bY⟩
    refine bunch_own (base := 0) (c := G) ?_ (fun q hq => ?_) (fun q hq => ?_)
    · rw [hql]
      refine ⟨by simp; omega, .inr ⟨w.heap.size + 1, G, _, rfl, Nat.zero_le _, hh, hge, hle, ?_, ?_⟩⟩
      · simp [size_zeroCells, hzs]; omega
      · rw [Array.toList_append, Array.toList_append, List.take_append_of_le_length (by simp; omega), List.take_of_length_le (by simp; omega)]
        simp [pval]
    · simp [Value.ownBlock] at hq
      exact ⟨by omega, fun e => by have := hvb q e; omega⟩
    · have kk : ∀ q : PieceZ, q ∈ ps → Stands Y (fun k => k ≠ b ∧ v.ownBlock ≠ some k) q := fun q hq => ((hbu.all q hq).keep (fun k _ hk => bY.block k hk)).more (fun k hF _ => ⟨hF.2.1, hF.2.2⟩)
      rcases List.mem_append.1 hq with hq | hq
      · exact kk q (List.mem_of_mem_take hq)
      · obtain rfl : q = ⟨pA, j, j, pz.take j⟩ := by simpa using hq
        exact (kk ⟨pA, pn, pc, pz⟩ (List.mem_of_getElem? HP.out)).cut (k := j) (c' := j) hjn (Nat.le_refl _) (Nat.le_trans hjn (Nat.le_trans hpc hpm)))
  have hw1 : ¬ ((m : Int) ≤ k) := by omega
  have A1 := Lib.hid (aheadS_any (some ⟨g, off, none⟩) ps.length d k w (by omega) hm2)
  have A2 := Lib.hid (ahead8_any pA pn pc j w (by omega) hpm)
  rw [hm] at A1 ⊢
  clear h hbu hlen hwr hby hs hm hst HP hvb hzz ho hrun hG hY hh hql bY hi hz hsz hbz hzs hj hF
  go_enter Tryd.func49, Tryd.ntmps49
  go_wp2_with (first
    | (go_at_call 64; refine A1.out.mono ?_; rintro e w' ⟨rfl, rfl⟩)
    | (go_at_call 51; refine A2.out.mono ?_; rintro e w' ⟨rfl, rfl⟩)
    | (at_builtin; refine Lib.wpList_append_run _ rfl (.tmp 26) (.tmp 30) _ _ rfl _ _ rfl rfl _ _ (HR.out _) ?_))
  go_ret
  exact HL.out
def dCrash (s : DiskZ) (keep torn : Int) : Int × DiskZ := if s.up then (if keep < 0 ∨ torn < 0 then (2, s) else (0, ⟨false, s.zs ++ (leftZ s.ws keep torn).flatten, []⟩)) else (60, s)
theorem left_any {w : World} {b : Nat} {K : Nat → Prop} {s : DiskZ} {v u : Value} {ps : List PieceZ} (h : DkAt w b K s v u ps) (hs : Small s) (keep torn : Int) (h1 : 0 ≤ keep) (h2 : keep ≤ 9223372036854775807) (h3 : 0 ≤ torn) (h4 : torn ≤ 9223372036854775807) :
    Calls Tryd.prog 49 #[u, .int .i64 keep, .int .i64 torn] w (LeftSays w b v (leftZ s.ws keep torn)) := by
  by_cases hk : (s.ws.length : Int) ≤ keep
  · exact left_all h hs keep torn h2 hk
  · obtain ⟨k, rfl⟩ := Int.eq_ofNat_of_zero_le h1
    exact left_some h hs k torn h3 h4 (by omega)
set_option maxHeartbeats 1000000 in
theorem crash1_yes {w : World} {b : Nat} {K : Nat → Prop} {s : DiskZ} {x y z : Nat} (keep torn : Int) (h : Dk w b K s) (h1 : w.cell? ⟨y, 0, none⟩ = some (.pointer (some ⟨b, 0, none⟩))) (h2 : w.cell? ⟨x, 0, none⟩ = some (.int .i64 keep)) (h3 : w.cell? ⟨z, 0, none⟩ = some (.int .i64 torn))
    (hs : Small s) (hyK : ¬ K y) (hxK : ¬ K x) (hzK : ¬ K z) (k1 : 0 ≤ keep) (k2 : keep ≤ 9223372036854775807) (k3 : 0 ≤ torn) (k4 : torn ≤ 9223372036854775807) :
    Calls Tryd.prog 47 #[.pointer (some ⟨x, 0, none⟩), .pointer (some ⟨z, 0, none⟩), .pointer (some ⟨y, 0, none⟩)] w (fun e w' => ∃ v, e = .returned v ∧ DidV w b K (0, ⟨false, s.zs ++ (leftZ s.ws keep torn).flatten, []⟩) v w') := by
  obtain ⟨v, u, ps, h⟩ := h
  have HL := Lib.hid (left_any (w := w.drew) (h.keep (w1 := w.drew) (fun _ _ => rfl) (Nat.le_refl _)) hs keep torn k1 k2 k3 k4)
  have HD := Lib.hid h
  have hwr := hs.writes
  have hby : s.zs.length + s.ws.flatten.length ≤ 1000000 := by have := hs.bytes; unfold allZ at this; rw [List.length_append] at this; exact this
  obtain ⟨W, d, rfl, _, _, _⟩ := h.bunch
  have h4 := h.wr
  obtain ⟨m, hm⟩ : ∃ m, ps.length = m := ⟨_, rfl⟩
  rw [hm] at HL h4
  have n1 : ¬ keep < 0 := by omega
  have n2 : ¬ torn < 0 := by omega
  clear h hm hs
  go_enter Tryd.func47, Tryd.ntmps47
  go_wp2
  refine Late.region (fun w' => w'.cell? ⟨y, 0, none⟩ = some (.pointer (some ⟨b, 0, none⟩)) ∧ w'.cell? ⟨x, 0, none⟩ = some (.int .i64 keep) ∧ w'.cell? ⟨z, 0, none⟩ = some (.int .i64 torn)) [] (by kernel_rfl) ⟨h1, h2, h3⟩ (fun hHeld => ?_)
  refine Late.take (i := 0) (oi := ⟨some 10, Op.load 24 (Operand.tmp 2), _, _, _, _⟩) (v := ?_) rfl (by kernel_rfl) (by kernel_rfl) (by kernel_rfl) (by kernel_rfl) (fun _ _ _ h => h) (Or.inl ⟨by rfl, fun w hSw => ?_⟩) (by assumption) ?_
  rotate_left
  · (obtain ⟨s1, s2, s3⟩ := hSw; go_simp; try with_reducible rfl)
  try simp only [Act.put, List.setIfInBounds_toArray, List.set_cons_zero, List.set_cons_succ]
  refine Late.take (i := 1) (oi := ⟨some 11, Op.load 24 (Operand.tmp 2), _, _, _, _⟩) (v := ?_) rfl (by kernel_rfl) (by kernel_rfl) (by kernel_rfl) (by kernel_rfl) (fun _ _ _ h => h) (Or.inl ⟨by rfl, fun w hSw => ?_⟩) (by assumption) ?_
  rotate_left
  · (obtain ⟨s1, s2, s3⟩ := hSw; go_simp; try with_reducible rfl)
  try simp only [Act.put, List.setIfInBounds_toArray, List.set_cons_zero, List.set_cons_succ]
  refine Late.take (i := 2) (oi := ⟨some 12, Op.nilCheck (Operand.tmp 11), _, _, _, _⟩) (v := ?_) rfl (by kernel_rfl) (by kernel_rfl) (by kernel_rfl) (by kernel_rfl) (fun _ _ _ h => h) (Or.inl ⟨by rfl, fun w hSw => ?_⟩) (by assumption) ?_
  rotate_left
  · (obtain ⟨s1, s2, s3⟩ := hSw; go_simp; try with_reducible rfl)
  try simp only [Act.put, List.setIfInBounds_toArray, List.set_cons_zero, List.set_cons_succ]
  refine Late.take (i := 3) (oi := ⟨some 13, Op.fieldAddr 48 (Operand.tmp 12) 3, _, _, _, _⟩) (v := ?_) rfl (by kernel_rfl) (by kernel_rfl) (by kernel_rfl) (by kernel_rfl) (fun _ _ _ h => h) (Or.inl ⟨by rfl, fun w hSw => ?_⟩) (by assumption) ?_
  rotate_left
  · (obtain ⟨s1, s2, s3⟩ := hSw; go_simp; try with_reducible rfl)
  try simp only [Act.put, List.setIfInBounds_toArray, List.set_cons_zero, List.set_cons_succ]
  refine Late.take (i := 5) (oi := ⟨some 15, Op.load 3 (Operand.tmp 0), _, _, _, _⟩) (v := ?_) rfl (by kernel_rfl) (by kernel_rfl) (by kernel_rfl) (by kernel_rfl) (fun _ _ _ h => h) (Or.inl ⟨by rfl, fun w hSw => ?_⟩) (by assumption) ?_
  rotate_left
  · (obtain ⟨s1, s2, s3⟩ := hSw; go_simp; try with_reducible rfl)
  try simp only [Act.put, List.setIfInBounds_toArray, List.set_cons_zero, List.set_cons_succ]
  refine Late.take (i := 6) (oi := ⟨some 16, Op.load 3 (Operand.tmp 1), _, _, _, _⟩) (v := ?_) rfl (by kernel_rfl) (by kernel_rfl) (by kernel_rfl) (by kernel_rfl) (fun _ _ _ h => h) (Or.inl ⟨by rfl, fun w hSw => ?_⟩) (by assumption) ?_
  rotate_left
  · (obtain ⟨s1, s2, s3⟩ := hSw; go_simp; try with_reducible rfl)
  try simp only [Act.put, List.setIfInBounds_toArray, List.set_cons_zero, List.set_cons_succ]
  refine Late.one (i := 4) (o := ⟨some 14, Op.load 33 (Operand.tmp 13), _, _, _, _⟩) (by kernel_rfl) rfl (fun K hK => ?_)
  go_simp
  refine hK.out _ _ (⟨h1, h2, h3⟩) (fun hHeld2 => ?_)
  clear hK K hHeld
  have hHeld := hHeld2
  clear hHeld2
  try simp only [Act.put, List.setIfInBounds_toArray, List.set_cons_zero, List.set_cons_succ]
  refine Late.one (i := 7) (o := ⟨some 17, Op.call { callee := Callee.value (Operand.func 49), args := #[Operand.tmp 14, Operand.tmp 15, Operand.tmp 16], argTypes := #[33, 3, 3] }, _, _, _, _⟩) (by kernel_rfl) rfl (fun K hK => ?_)
  go_simp
  refine HL.out.mono ?_
  rintro e w2 ⟨A, qs, cq, rfl, hbun, hqs, hbl⟩
  have g1 : w2.cell? ⟨y, 0, none⟩ = some (.pointer (some ⟨b, 0, none⟩)) := (hbl.cell (p := ⟨y, 0, none⟩) (World.block_lt_of_cell? _ _ h1)).trans h1
  have g2 : w2.cell? ⟨x, 0, none⟩ = some (.int .i64 keep) := (hbl.cell (p := ⟨x, 0, none⟩) (World.block_lt_of_cell? _ _ h2)).trans h2
  have g3 : w2.cell? ⟨z, 0, none⟩ = some (.int .i64 torn) := (hbl.cell (p := ⟨z, 0, none⟩) (World.block_lt_of_cell? _ _ h3)).trans h3
  have hb2 : Below w.heap.size w w2 := (Below.refl w.heap.size w).drew.trans hbl
  have lz := leftZ_len s.ws keep torn
  have HS := Lib.hid (settle_any (w := w2) cq (HD.out.keep (fun k hk => hb2.block k (HD.out.lt k hk)) hb2.size) hbun (by rw [← hqs, List.length_map] at lz; omega) (by unfold flatZ; rw [hqs]; omega))
  have HB2 := Lib.hid hb2
  have HQS := Lib.hid hqs
  clear hbun hqs hbl hb2 lz
  obtain ⟨mq, hmq⟩ : ∃ mq, qs.length = mq := ⟨_, rfl⟩
  rw [hmq] at HS
  rw [hmq]
  clear hmq
  go_wp2_with fail
  refine hK.out _ _ (⟨g1, g2, g3⟩) (fun hHeld2 => ?_)
  clear hK K hHeld
  have hHeld := hHeld2
  clear hHeld2
  try simp only [Act.put, List.setIfInBounds_toArray, List.set_cons_zero, List.set_cons_succ]
  refine Late.one (i := 8) (o := ⟨some 18, Op.call { callee := Callee.value (Operand.func 48), args := #[Operand.tmp 10, Operand.tmp 17], argTypes := #[24, 33] }, _, _, _, _⟩) (by kernel_rfl) rfl (fun K hK => ?_)
  go_simp
  refine HS.out.mono ?_
  rintro e w3 ⟨rfl, hd, hm⟩
  have k1 : w3.cell? ⟨y, 0, none⟩ = some (.pointer (some ⟨b, 0, none⟩)) := (hm.cell? ⟨y, 0, none⟩ (World.block_lt_of_cell? _ _ g1) hyK).trans g1
  have k2 : w3.cell? ⟨x, 0, none⟩ = some (.int .i64 keep) := (hm.cell? ⟨x, 0, none⟩ (World.block_lt_of_cell? _ _ g2) hxK).trans g2
  have k3 : w3.cell? ⟨z, 0, none⟩ = some (.int .i64 torn) := (hm.cell? ⟨z, 0, none⟩ (World.block_lt_of_cell? _ _ g3) hzK).trans g3
  have HDm := Lib.hid (And.intro hd hm)
  clear hd hm
  go_wp2_with fail
  refine hK.out _ _ (⟨k1, k2, k3⟩) (fun hHeld2 => ?_)
  clear hK K hHeld
  have hHeld := hHeld2
  clear hHeld2
  try simp only [Act.put, List.setIfInBounds_toArray, List.set_cons_zero, List.set_cons_succ]
  refine Late.done (by kernel_rfl) ?_ _
  refine NoPanic.normal ?_
  obtain ⟨⟨v9, u9, ps9, hA⟩, hm9⟩ := HDm.out
  have u1 := hA.up
  have u2 := hA.f1
  have HA := Lib.hid hA
  have HM9 := Lib.hid hm9
  clear hA hm9
  go_wp2
  go_ret
  refine ⟨_, rfl, rfl, Wider K w2 w3, ⟨v9, u9, ps9, ?_⟩, ((Moved.of_below K HB2.out).then HM9.out).then (Moved.cell _ _ ⟨b, 1, none⟩ _ HD.out.kb), ?_⟩
  · have := HA.out.upped false
    rw [← HQS.out]
    exact this
  · exact fun k hk => (wider_newer K w2 w3 k hk).imp id (fun e => Nat.le_trans HB2.out.size e)
set_option maxHeartbeats 1000000 in
theorem crash1_no {w : World} {b : Nat} {K : Nat → Prop} {s : DiskZ} {x y z : Nat} (keep torn : Int) (h : Dk w b K s) (h2 : w.cell? ⟨x, 0, none⟩ = some (.int .i64 keep)) (h3 : w.cell? ⟨z, 0, none⟩ = some (.int .i64 torn)) (hn : keep < 0 ∨ torn < 0) :
    Calls Tryd.prog 47 #[.pointer (some ⟨x, 0, none⟩), .pointer (some ⟨z, 0, none⟩), .pointer (some ⟨y, 0, none⟩)] w (fun e w' => ∃ v, e = .returned v ∧ DidV w b K (2, s) v w') := by
  have HD := Lib.hid h
  clear h
  by_cases n1 : keep < 0
  · clear hn
    go_enter Tryd.func47, Tryd.ntmps47
    go_wp2
    go_ret
    exact ⟨_, rfl, rfl, K, HD.out, Moved.refl _ _, Newer.refl _ _⟩
  · have n2 : torn < 0 := by omega
    clear hn
    go_enter Tryd.func47, Tryd.ntmps47
    go_wp2
    go_ret
    exact ⟨_, rfl, rfl, K, HD.out, Moved.refl _ _, Newer.refl _ _⟩
theorem crash_any {w : World} {b : Nat} {K : Nat → Prop} {s : DiskZ} (keep torn : Int) (h : Dk w b K s) (hs : Small s) (k1 : -9223372036854775808 ≤ keep ∧ keep ≤ 9223372036854775807) (k2 : -9223372036854775808 ≤ torn ∧ torn ≤ 9223372036854775807) :
    Calls Tryd.prog 26 #[.pointer (some ⟨b, 0, none⟩), .int .i64 keep, .int .i64 torn] w (Did w b K (dCrash s keep torn)) := by
  obtain ⟨W, hW⟩ : ∃ W, ((w.alloc (.cells #[.pointer (some ⟨b, 0, none⟩)] 24)).alloc (.cells #[.int .i64 keep] 3)).alloc (.cells #[.int .i64 torn] 3) = W := ⟨_, rfl⟩
  have bW : Below w.heap.size w W := by rw [← hW]; exact (((Below.refl _ _).alloc (Nat.le_refl _) _).alloc (by simp) _).alloc (by simp; omega) _
  have y0 : W.heap[w.heap.size]? = some (.cells #[.pointer (some ⟨b, 0, none⟩)] 24 (0, 0)) := by rw [← hW, Below.heap_alloc _ _ _ (by simp; omega), Below.heap_alloc _ _ _ (by simp)]; exact heap_alloc_new w _
  have x0 : W.heap[w.heap.size + 1]? = some (.cells #[.int .i64 keep] 3 (0, 0)) := by
    rw [← hW, Below.heap_alloc _ _ _ (by simp)]
    have := heap_alloc_new (w.alloc (.cells #[.pointer (some ⟨b, 0, none⟩)] 24)) (.cells #[.int .i64 keep] 3)
    rwa [show (w.alloc (.cells #[.pointer (some ⟨b, 0, none⟩)] 24)).heap.size = w.heap.size + 1 by simp] at this
  have z0 : W.heap[w.heap.size + 2]? = some (.cells #[.int .i64 torn] 3 (0, 0)) := by
    rw [← hW]
    have := heap_alloc_new ((w.alloc (.cells #[.pointer (some ⟨b, 0, none⟩)] 24)).alloc (.cells #[.int .i64 keep] 3)) (.cells #[.int .i64 torn] 3)
    rwa [show ((w.alloc (.cells #[.pointer (some ⟨b, 0, none⟩)] 24)).alloc (.cells #[.int .i64 keep] 3)).heap.size = w.heap.size + 2 by simp] at this
  have hD := h.below bW (Nat.le_refl _)
  have hlt := h.lt
  have hy : W.cell? ⟨w.heap.size, 0, none⟩ = some (.pointer (some ⟨b, 0, none⟩)) := by rw [cell_of_row _ _ _ _ _ _ y0]; rfl
  have hx : W.cell? ⟨w.heap.size + 1, 0, none⟩ = some (.int .i64 keep) := by rw [cell_of_row _ _ _ _ _ _ x0]; rfl
  have hz : W.cell? ⟨w.heap.size + 2, 0, none⟩ = some (.int .i64 torn) := by rw [cell_of_row _ _ _ _ _ _ z0]; rfl
  have BW := Lib.hid (Moved.of_below K bW)
  have HW := Lib.hid hW
  have HDK := Lib.hid hD
  obtain ⟨v, u, ps, hA⟩ := hD
  have m0 := Lib.hid hA.made
  have m1 := hA.up
  clear hW bW y0 x0 z0 hA h
  cases hu : s.up with
  | true =>
    rw [hu] at m1
    have C1 : Calls Tryd.prog 47 #[.pointer (some ⟨w.heap.size + 1, 0, none⟩), .pointer (some ⟨w.heap.size + 2, 0, none⟩), .pointer (some ⟨w.heap.size, 0, none⟩)] W (fun e w' => ∃ v, e = .returned v ∧ DidV W b K (dCrash s keep torn) v w') := by
      unfold dCrash
      rw [hu]
      by_cases hn : keep < 0 ∨ torn < 0
      · rw [if_pos rfl, if_pos hn]
        exact crash1_no keep torn HDK.out hx hz hn
      · rw [if_pos rfl, if_neg hn]
        exact crash1_yes keep torn HDK.out hy hx hz hs (fun e => by have := hlt _ e; omega) (fun e => by have := hlt _ e; omega) (fun e => by have := hlt _ e; omega) (by omega) k1.2 (by omega) k2.2
    have C2 := Lib.hid (ifup_yes m0.out m1 47 _ (fun _ _ => by kernel_rfl) _ C1)
    clear C1 m0 m1 hu hy hx hz
    go_enter Tryd.func26, Tryd.ntmps26
    go_wp2_with fail
    rw [HW.out]
    refine C2.out.mono ?_
    rintro e w2 ⟨v2, rfl, hp⟩
    have HP := Lib.hid (did_under (w := w) BW.out hp)
    obtain ⟨rfl, hp⟩ := hp
    clear hp
    go_wp2
    go_ret
    exact HP.out
  | false =>
    rw [hu] at m1
    have C2 := Lib.hid (fun F => ifup_down m0.out m1 F)
    have HZ : Hid (dCrash s keep torn = (60, s)) := Lib.hid (by unfold dCrash; rw [hu]; rfl)
    clear m0 m1 hu hy hx hz
    go_enter Tryd.func26, Tryd.ntmps26
    go_wp2_with fail
    rw [HW.out]
    refine (C2.out _).mono ?_
    rintro e w2 ⟨rfl, rfl⟩
    have HP := Lib.hid (did_under (w := w) (r := (60, s)) BW.out ⟨rfl, K, HDK.out, Moved.refl _ _, Newer.refl _ _⟩)
    go_wp2
    go_ret
    rw [HZ.out]
    exact HP.out
end Go.Proofs.YtjfeepmjebdahaaDoor
/- Cut of a disk. -/
namespace Go.Proofs.YtjfeepmjebdahaaDoor
open Go.ChangeShapes Go.WideShapes Go.ChangeAt Go.RowKit
set_option linter.unusedVariables false
def dCut (s : DiskZ) (n : Int) : Int × DiskZ := if s.up then (if n < 0 ∨ ((allZ s).length : Int) < n then (2, s) else (0, ⟨s.up, (allZ s).take n.toNat, []⟩)) else (60, s)
/-- A disk's bytes are new. -/
theorem settling_new {w w3 : World} {b : Nat} {K : Nat → Prop} {s : DiskZ} {v u v' : Value} {ps : List PieceZ} {zs : List Int} {n : Nat} (h : DkAt w b K s v u ps) (hb : Below w.heap.size w w3) (ho : w3.ownsRow w.heap.size 5 1 v' n (vals zs)) (hn : zs.length = n) (hz : IsBytes zs) : Settling w b v zs (w3.setCell ⟨b, 2, none⟩ v') := by
  have hbb := h.lt b h.kb
  have hv : ∀ k, v'.ownBlock = some k → w.heap.size ≤ k := fun k hk => (ho.lt k hk).1
  have e := hb.block b hbb
  refine ⟨⟨v', World.cell?_setCell_same _ _ _ ((World.cell?_of_block (a := ⟨b, 2, none⟩) e).trans h.syn), ?_, .inr hv⟩, hz, fun i hi => ?_, fun i => ?_, ?_⟩
  · rw [hn]
    exact own_base (own_same ho (fun k hk => Below.heap_setCell _ _ _ _ (by have := hv k hk; show k ≠ b; omega))) (Nat.zero_le _)
  · rw [World.cell?_setCell_other _ _ _ _ (fun e => hi (congrArg Addr.off e).symm)]; exact World.cell?_of_block (a := ⟨b, i, none⟩) e
  · rw [World.frozen?_setCell]; exact World.frozen?_of_block (a := ⟨b, i, none⟩) e
  · exact (Moved.of_below _ hb).then (Moved.cell _ _ _ _ (.inl rfl))
theorem allZ_bytes {w : World} {b : Nat} {K : Nat → Prop} {s : DiskZ} (h : Dk w b K s) : IsBytes (allZ s) := by
  obtain ⟨v, u, ps, h⟩ := h
  unfold allZ
  rw [h.flat]
  exact h.bytes.app (flatZ_bytes fun p hp => (h.all p hp).bytes)
set_option maxHeartbeats 1000000 in
theorem cut1_no {w : World} {b : Nat} {K : Nat → Prop} {s : DiskZ} {x y : Nat} (n : Int) (h : Dk w b K s) (h1 : w.cell? ⟨y, 0, none⟩ = some (.pointer (some ⟨b, 0, none⟩))) (h2 : w.cell? ⟨x, 0, none⟩ = some (.int .i64 n)) (hs : Small s) (hn : n < 0 ∨ ((allZ s).length : Int) < n) :
    Calls Tryd.prog 59 #[.pointer (some ⟨y, 0, none⟩), .pointer (some ⟨x, 0, none⟩)] w (fun e w' => ∃ v, e = .returned v ∧ DidV w b K (2, s) v w') := by
  have HB := Lib.hid (bytes_any h hs)
  have HD := Lib.hid h
  have hx := World.block_lt_of_cell? _ _ h2
  have hby := hs.bytes
  obtain ⟨m, hm⟩ : ∃ m, (allZ s).length = m := ⟨_, rfl⟩
  have HM := Lib.hid hm
  rw [hm] at hn hby
  have H2 := Lib.hid h2
  clear h hs hm h2
  by_cases n1 : n < 0
  · clear hn
    go_enter Tryd.func59, Tryd.ntmps59
    go_wp2_with (go_at_call 17; refine HB.out.mono ?_; intro e w1 hm1; obtain ⟨M, cm, rfl, ho1, hb1, hc1, hc2⟩ := hm1.n HM.out; have h4 := (hb1.cell (p := ⟨x, 0, none⟩) hx).trans H2.out; clear hm1)
    have HB1 := Lib.hid hb1
    clear ho1 hb1
    go_wp2
    go_ret
    exact ⟨_, rfl, rfl, K, HD.out.below HB1.out (Nat.le_refl _), Moved.of_below _ HB1.out, Newer.refl _ _⟩
  · have n2 : (m : Int) < n := by omega
    clear hn
    go_enter Tryd.func59, Tryd.ntmps59
    go_wp2_with (go_at_call 17; refine HB.out.mono ?_; intro e w1 hm1; obtain ⟨M, cm, rfl, ho1, hb1, hc1, hc2⟩ := hm1.n HM.out; have h4 := (hb1.cell (p := ⟨x, 0, none⟩) hx).trans H2.out; clear hm1)
    have HB1 := Lib.hid hb1
    clear ho1 hb1
    go_wp2
    go_ret
    exact ⟨_, rfl, rfl, K, HD.out.below HB1.out (Nat.le_refl _), Moved.of_below _ HB1.out, Newer.refl _ _⟩
set_option maxHeartbeats 1000000 in
theorem cut1_yes {w : World} {b : Nat} {K : Nat → Prop} {s : DiskZ} {x y : Nat} (k : Nat) (h : Dk w b K s) (h1 : w.cell? ⟨y, 0, none⟩ = some (.pointer (some ⟨b, 0, none⟩))) (h2 : w.cell? ⟨x, 0, none⟩ = some (.int .i64 k)) (hs : Small s) (hyK : ¬ K y) (hn : k ≤ (allZ s).length) :
    Calls Tryd.prog 59 #[.pointer (some ⟨y, 0, none⟩), .pointer (some ⟨x, 0, none⟩)] w (fun e w' => ∃ v, e = .returned v ∧ DidV w b K (0, ⟨s.up, (allZ s).take k, []⟩) v w') := by
  have HB := Lib.hid (bytes_any h hs)
  have hx := World.block_lt_of_cell? _ _ h2
  have hy := World.block_lt_of_cell? _ _ h1
  have hby := hs.bytes
  have HZB := Lib.hid (allZ_bytes h)
  have hyb : y ≠ b := fun e => hyK (by rw [e]; exact h.kb)
  obtain ⟨v, u, ps, h⟩ := h
  have HD := Lib.hid h
  have hb : b < w.heap.size := h.lt b h.kb
  obtain ⟨m, hm⟩ : ∃ m, (allZ s).length = m := ⟨_, rfl⟩
  have HM := Lib.hid hm
  rw [hm] at hn hby
  have H1 := Lib.hid h1
  have H2 := Lib.hid h2
  have n1 : ¬ ((k : Int) < 0) := by omega
  have n2 : ¬ ((m : Int) < k) := by omega
  clear h hs hm h2 h1
  go_enter Tryd.func59, Tryd.ntmps59
  go_upto_region 1 with fail
  have h1 := H1.out
  go_upto_region 2 with (go_at_call 17; refine HB.out.mono ?_; intro e w1 hm1; obtain ⟨M, cm, rfl, ho1, hb1, hc1, hc2⟩ := hm1.n HM.out; clear hm1)
  have h3 : w1.cell? ⟨y, 0, none⟩ = some (.pointer (some ⟨b, 0, none⟩)) := (hb1.cell (p := ⟨y, 0, none⟩) hy).trans H1.out
  have h4 : w1.cell? ⟨x, 0, none⟩ = some (.int .i64 k) := (hb1.cell (p := ⟨x, 0, none⟩) hx).trans H2.out
  have HB1 := Lib.hid hb1
  have HCUT := Lib.hid (cut_h M m cm k k rfl (by omega))
  have p1 : Stands w1 (fun _ => True) ⟨M, m, cm, allZ s⟩ := stands_own ho1 HZB.out (fun _ _ => trivial)
  have HL := Lib.hid ((p1.cut (k := k) (c' := cm) hn (by omega) hc2).lies)
  have s1 := hb1.size
  have HG : Hid (∀ w3, w1.drew.grownBy w3 none → w3.cell? ⟨y, 0, none⟩ = some (.pointer (some ⟨b, 0, none⟩)) ∧ w3.cell? ⟨x, 0, none⟩ = some (.int .i64 k) ∧ w3.cell? ⟨b, 2, none⟩ = some v ∧ w3.frozen? ⟨b, 2, none⟩ = false ∧ Below w.heap.size w w3) := Lib.hid (fun w3 hg => by
    have hbb : Below w.heap.size w w3 := (HB1.out.drew).grown hg (by show w.heap.size ≤ w1.heap.size; omega) (fun k e => by cases e)
    exact ⟨(hbb.cell (p := ⟨y, 0, none⟩) hy).trans H1.out, (hbb.cell (p := ⟨x, 0, none⟩) hx).trans H2.out, (hbb.cell (p := ⟨b, 2, none⟩) hb).trans HD.out.syn, (hbb.frozen (p := ⟨b, 2, none⟩) hb).trans HD.out.f2, hbb⟩)
  have HTL : Hid (((allZ s).take k).length = k) := Lib.hid (by rw [List.length_take, HM.out]; omega)
  have HTB : Hid (IsBytes ((allZ s).take k)) := Lib.hid (by
    have := HZB.out
    rw [isBytes_iff] at *
    exact fun z hz => this z (List.mem_of_mem_take hz))
  have hk1 : (k : Int) ≤ (cm : Int) := by omega
  have hk0 : (0 : Int) ≤ (k : Int) := by omega
  clear ho1 hb1 p1 h1
  go_wp2
  refine Late.region (fun w' => w'.cell? ⟨y, 0, none⟩ = some (.pointer (some ⟨b, 0, none⟩)) ∧ w'.cell? ⟨x, 0, none⟩ = some (.int .i64 k)) [5, 6, 7] (by kernel_rfl) ⟨h3, h4⟩ (fun hHeld => ?_)
  refine Late.take (i := 0) (oi := ⟨some 14, Op.load 24 (Operand.tmp 0), _, _, _, _⟩) (v := ?_) rfl (by kernel_rfl) (by kernel_rfl) (by kernel_rfl) (by kernel_rfl) (fun _ _ _ h => h) (Or.inl ⟨by rfl, fun w hSw => ?_⟩) (by assumption) ?_
  rotate_left
  · (obtain ⟨s1, s2⟩ := hSw; go_simp; try with_reducible rfl)
  try simp only [Act.put, List.setIfInBounds_toArray, List.set_cons_zero, List.set_cons_succ]
  refine Late.take (i := 1) (oi := ⟨some 15, Op.move (Operand.tmp 3), _, _, _, _⟩) (v := ?_) rfl (by kernel_rfl) (by kernel_rfl) (by kernel_rfl) (by kernel_rfl) (fun _ _ _ h => h) (Or.inl ⟨by rfl, fun w hSw => ?_⟩) (by assumption) ?_
  rotate_left
  · (obtain ⟨s1, s2⟩ := hSw; go_simp; try with_reducible rfl)
  try simp only [Act.put, List.setIfInBounds_toArray, List.set_cons_zero, List.set_cons_succ]
  refine Late.take (i := 2) (oi := ⟨some 16, Op.load 3 (Operand.tmp 1), _, _, _, _⟩) (v := ?_) rfl (by kernel_rfl) (by kernel_rfl) (by kernel_rfl) (by kernel_rfl) (fun _ _ _ h => h) (Or.inl ⟨by rfl, fun w hSw => ?_⟩) (by assumption) ?_
  rotate_left
  · (obtain ⟨s1, s2⟩ := hSw; go_simp; try with_reducible rfl)
  try simp only [Act.put, List.setIfInBounds_toArray, List.set_cons_zero, List.set_cons_succ]
  refine Late.take (i := 3) (oi := ⟨some 17, Op.slice 27 (Operand.tmp 15) none (some (Operand.tmp 16)) none, _, _, _, _⟩) (v := ?_) rfl (by kernel_rfl) (by kernel_rfl) (by kernel_rfl) (by kernel_rfl) (fun _ _ _ h => h) (Or.inl ⟨by rfl, fun w hSw => ?_⟩) (by assumption) ?_
  rotate_left
  · (obtain ⟨s1, s2⟩ := hSw; have hcut := HCUT.out; go_simp; try with_reducible rfl)
  try simp only [Act.put, List.setIfInBounds_toArray, List.set_cons_zero, List.set_cons_succ]
  refine Late.one (i := 4) (o := ⟨some 18, Op.call { callee := Callee.builtin Builtin.append, args := #[Operand.const (Value.slice none 0 0), Operand.tmp 17], argTypes := #[27, 27] }, _, _, _, _⟩) (by kernel_rfl) rfl (fun K hK => ?_)
  refine step_app _ (by rfl) (.const (.slice none 0 0)) (.tmp 17) 27 (by rfl) w1.heap.size 5 1 1 Tryd.underlying27 u8_info (by decide) (.slice none 0 0) 0 [] (by rfl) (World.ownsRow_nil _ _ _ _) M k cm (vals ((allZ s).take k)) (by rfl) HL.out.1 HL.out.2 (vals_one _) (by unfold maxLen; omega) (by omega) (Nat.le_refl _) ?_
  intro v' w3 ho3 hg3 hat
  rw [Nat.zero_add, List.nil_append] at ho3
  obtain ⟨V, cv, rfl, q1, q2⟩ := own_shape ho3
  have h5 : w3.cell? ⟨y, 0, none⟩ = some (.pointer (some ⟨b, 0, none⟩)) := (HG.out w3 hg3).1
  have h6 : w3.cell? ⟨x, 0, none⟩ = some (.int .i64 k) := (HG.out w3 hg3).2.1
  have h7 : w3.cell? ⟨b, 2, none⟩ = some v := (HG.out w3 hg3).2.2.1
  have f7 : w3.frozen? ⟨b, 2, none⟩ = false := (HG.out w3 hg3).2.2.2.1
  refine hK.out _ _ (⟨h5, h6⟩) (fun hHeld2 => ?_)
  clear hK K hHeld
  have hHeld := hHeld2
  clear hHeld2
  try simp only [Act.put, List.setIfInBounds_toArray, List.set_cons_zero, List.set_cons_succ]
  refine Late.end_ (i := 5) (o := ⟨some 19, Op.nilCheck (Operand.tmp 14), _, _, _, _⟩) (by kernel_rfl) rfl rfl (fun K hK => ?_)
  go_simp
  refine hK.out _ _ ?_
  clear hK K
  try simp only [Act.put, List.setIfInBounds_toArray, List.set_cons_zero, List.set_cons_succ]
  refine Late.end_ (i := 6) (o := ⟨some 20, Op.fieldAddr 48 (Operand.tmp 19) 2, _, _, _, _⟩) (by kernel_rfl) rfl rfl (fun K hK => ?_)
  go_simp
  refine hK.out _ _ ?_
  clear hK K
  try simp only [Act.put, List.setIfInBounds_toArray, List.set_cons_zero, List.set_cons_succ]
  refine Late.end_ (i := 7) (o := ⟨none, Op.store 27 (Operand.tmp 20) (Operand.tmp 18), _, _, _, _⟩) (by kernel_rfl) rfl rfl (fun K hK => ?_)
  go_simp
  refine hK.out _ _ ?_
  clear hK K
  try simp only [Act.put, List.setIfInBounds_toArray, List.set_cons_zero, List.set_cons_succ]
  refine Late.done (by kernel_rfl) ?_ _
  refine NoPanic.normal ?_
  have HS : Hid (Settling w b v ((allZ s).take k) (w3.setCell ⟨b, 2, none⟩ (.slice V k cv))) := Lib.hid (settling_new HD.out (HG.out w3 hg3).2.2.2.2 (own_base ho3 s1) HTL.out HTB.out)
  have h8 : (w3.setCell ⟨b, 2, none⟩ (.slice V k cv)).cell? ⟨b, 3, none⟩ = some u := (HS.out.cell 3 (by omega)).trans HD.out.wr
  have f8 : (w3.setCell ⟨b, 2, none⟩ (.slice V k cv)).frozen? ⟨b, 3, none⟩ = false := (HS.out.frozen 3).trans HD.out.f3
  have h9 : (w3.setCell ⟨b, 2, none⟩ (.slice V k cv)).cell? ⟨y, 0, none⟩ = some (.pointer (some ⟨b, 0, none⟩)) := by rw [World.cell?_setCell_far _ _ _ _ (by show b ≠ y; omega)]; exact h5
  obtain ⟨w4, hw4⟩ : ∃ w4, w3.setCell ⟨b, 2, none⟩ (.slice V k cv) = w4 := ⟨_, rfl⟩
  have HW4 := Lib.hid hw4
  rw [hw4] at h8 f8 h9 HS
  clear hw4 hat ho3 hg3 HG
  simp only [HW4.out]
  go_wp2
  go_ret
  have HE := HS.out.end_ HD.out
  exact ⟨_, rfl, rfl, _, HE.1, HE.2, wider_newer K w _⟩
theorem cut_any {w : World} {b : Nat} {K : Nat → Prop} {s : DiskZ} (n : Int) (h : Dk w b K s) (hs : Small s) :
    Calls Tryd.prog 42 #[.pointer (some ⟨b, 0, none⟩), .int .i64 n] w (Did w b K (dCut s n)) := by
  obtain ⟨W, hW⟩ : ∃ W, (w.alloc (.cells #[.pointer (some ⟨b, 0, none⟩)] 24)).alloc (.cells #[.int .i64 n] 3) = W := ⟨_, rfl⟩
  have bW : Below w.heap.size w W := by rw [← hW]; exact ((Below.refl _ _).alloc (Nat.le_refl _) _).alloc (by simp) _
  have y0 : W.heap[w.heap.size]? = some (.cells #[.pointer (some ⟨b, 0, none⟩)] 24 (0, 0)) := by rw [← hW, Below.heap_alloc _ _ _ (by simp)]; exact heap_alloc_new w _
  have x0 : W.heap[w.heap.size + 1]? = some (.cells #[.int .i64 n] 3 (0, 0)) := by
    rw [← hW]
    have := heap_alloc_new (w.alloc (.cells #[.pointer (some ⟨b, 0, none⟩)] 24)) (.cells #[.int .i64 n] 3)
    rwa [show (w.alloc (.cells #[.pointer (some ⟨b, 0, none⟩)] 24)).heap.size = w.heap.size + 1 by simp] at this
  have hD := h.below bW (Nat.le_refl _)
  have hlt := h.lt
  have hy : W.cell? ⟨w.heap.size, 0, none⟩ = some (.pointer (some ⟨b, 0, none⟩)) := by rw [cell_of_row _ _ _ _ _ _ y0]; rfl
  have hx : W.cell? ⟨w.heap.size + 1, 0, none⟩ = some (.int .i64 n) := by rw [cell_of_row _ _ _ _ _ _ x0]; rfl
  have BW := Lib.hid (Moved.of_below K bW)
  have HW := Lib.hid hW
  have HDK := Lib.hid hD
  obtain ⟨v, u, ps, hA⟩ := hD
  have m0 := Lib.hid hA.made
  have m1 := hA.up
  clear hW bW y0 x0 hA h
  cases hu : s.up with
  | true =>
    rw [hu] at m1
    have C1 : Calls Tryd.prog 59 #[.pointer (some ⟨w.heap.size, 0, none⟩), .pointer (some ⟨w.heap.size + 1, 0, none⟩)] W (fun e w' => ∃ v, e = .returned v ∧ DidV W b K (dCut s n) v w') := by
      unfold dCut
      rw [hu, if_pos rfl]
      by_cases hn : n < 0 ∨ ((allZ s).length : Int) < n
      · rw [if_pos hn]
        exact cut1_no n HDK.out hy hx hs hn
      · rw [if_neg hn]
        obtain ⟨k, rfl⟩ := Int.eq_ofNat_of_zero_le (show 0 ≤ n by omega)
        rw [← hu]
        exact cut1_yes k HDK.out hy hx hs (fun e => by have := hlt _ e; omega) (by omega)
    have C2 := Lib.hid (ifup_yes m0.out m1 59 _ (fun _ _ => by kernel_rfl) _ C1)
    clear C1 m0 m1 hu hy hx
    go_enter Tryd.func42, Tryd.ntmps42
    go_wp2_with fail
    rw [HW.out]
    refine C2.out.mono ?_
    rintro e w2 ⟨v2, rfl, hp⟩
    have HP := Lib.hid (did_under (w := w) BW.out hp)
    obtain ⟨rfl, hp⟩ := hp
    clear hp
    go_wp2
    go_ret
    exact HP.out
  | false =>
    rw [hu] at m1
    have C2 := Lib.hid (fun F => ifup_down m0.out m1 F)
    have HZ : Hid (dCut s n = (60, s)) := Lib.hid (by unfold dCut; rw [hu]; rfl)
    clear m0 m1 hu hy hx
    go_enter Tryd.func42, Tryd.ntmps42
    go_wp2_with fail
    rw [HW.out]
    refine (C2.out _).mono ?_
    rintro e w2 ⟨rfl, rfl⟩
    have HP := Lib.hid (did_under (w := w) (r := (60, s)) BW.out ⟨rfl, K, HDK.out, Moved.refl _ _, Newer.refl _ _⟩)
    go_wp2
    go_ret
    rw [HZ.out]
    exact HP.out
end Go.Proofs.YtjfeepmjebdahaaDoor
/- A disk that a law makes, and its calls, one behind the other. -/
namespace Go.Proofs.YtjfeepmjebdahaaDoor
open Go.ChangeShapes Go.WideShapes Go.ChangeAt Go.RowKit
set_option linter.unusedVariables false
/-- Since w0 a disk was made that lies in new blocks; what stood there stands. -/
def At (w0 w : World) (b : Nat) (s : DiskZ) : Prop := ∃ K, Dk w b K s ∧ (∀ k, K k → w0.heap.size ≤ k) ∧ Below w0.heap.size w0 w
section
variable {w0 w w' : World} {b : Nat} {s s' : DiskZ} {x : Int}
theorem At.bel (h : At w0 w b s) : Below w0.heap.size w0 w := by obtain ⟨K, _, _, h⟩ := h; exact h
theorem At.below (h : At w0 w b s) (hb : Below w.heap.size w w') : At w0 w' b s := by
  obtain ⟨K, h1, h2, h3⟩ := h
  exact ⟨K, h1.below hb (Nat.le_refl _), h2, h3.trans (hb.mono h3.size)⟩
theorem At.alloc (h : At w0 w b s) (o : Obj) : At w0 (w.alloc o) b s := h.below ((Below.refl _ _).alloc (Nat.le_refl _) _)
theorem At.drewN (h : At w0 w b s) (n : Nat) : At w0 (w.drewN n) b s := h.below ⟨rfl, rfl, rfl, Nat.le_refl _, fun _ _ => rfl⟩
theorem At.quiet (h : At w0 w b s) (hq : ∃ n, w' = w.drewN n) : At w0 w' b s := by
  obtain ⟨n, rfl⟩ := hq
  exact h.drewN n
theorem at_did {e : Ending} (K : Nat → Prop) (h2 : ∀ k, K k → w0.heap.size ≤ k) (h3 : Below w0.heap.size w0 w) (h : Did w b K (x, s') e w') : e = .returned (.int .i64 x) ∧ At w0 w' b s' := by
  obtain ⟨rfl, K', h4, h5, h6⟩ := h
  exact ⟨rfl, K', h4, fun k hk => (h6 k hk).elim (h2 k) (fun e => Nat.le_trans h3.size e), h3.trans (h5.below h3.size h2)⟩
theorem at_new (w : World) : Calls Tryd.prog 9 #[] w (fun e w' => e = .returned (.pointer (some ⟨w.heap.size, 0, none⟩)) ∧ At w w' w.heap.size ⟨true, [], []⟩) :=
  (newdisk_any w).mono fun e w' ⟨h1, h2, h3, h4⟩ => ⟨h1, _, h4, fun k hk => (by omega), h2⟩
theorem at_write {B n : Nat} {A : Option Addr} (c : Nat) {zs : List Int} (h : At w0 w b s) (hr : dWrite s zs = (x, s')) (hz : Bs w B A n zs) (hB : B ≤ w.heap.size) (hn : n ≤ 1000000) (hs : Small s) :
    Calls Tryd.prog 30 #[.pointer (some ⟨b, 0, none⟩), .slice A n c] w (fun e w' => e = .returned (.int .i64 x) ∧ At w0 w' b s') := by
  obtain ⟨K, h1, h2, h3⟩ := h
  exact (dkwrite_any c h1 hz hB hn hs).mono fun e w' h => by rw [hr] at h; exact at_did K h2 h3 h
theorem at_sync (h : At w0 w b s) (hr : dSync s = (x, s')) (hs : Small s) :
    Calls Tryd.prog 44 #[.pointer (some ⟨b, 0, none⟩)] w (fun e w' => e = .returned (.int .i64 x) ∧ At w0 w' b s') := by
  obtain ⟨K, h1, h2, h3⟩ := h
  exact (sync_any h1 hs).mono fun e w' h => by rw [hr] at h; exact at_did K h2 h3 h
theorem at_start (h : At w0 w b s) (hr : dStart s = (x, s')) :
    Calls Tryd.prog 27 #[.pointer (some ⟨b, 0, none⟩)] w (fun e w' => e = .returned (.int .i64 x) ∧ At w0 w' b s') := by
  obtain ⟨K, h1, h2, h3⟩ := h
  exact (start_any h1).mono fun e w' h => by rw [hr] at h; exact at_did K h2 h3 h
theorem at_crash (keep torn : Int) (h : At w0 w b s) (hr : dCrash s keep torn = (x, s')) (hs : Small s) (k1 : -9223372036854775808 ≤ keep ∧ keep ≤ 9223372036854775807) (k2 : -9223372036854775808 ≤ torn ∧ torn ≤ 9223372036854775807) :
    Calls Tryd.prog 26 #[.pointer (some ⟨b, 0, none⟩), .int .i64 keep, .int .i64 torn] w (fun e w' => e = .returned (.int .i64 x) ∧ At w0 w' b s') := by
  obtain ⟨K, h1, h2, h3⟩ := h
  exact (crash_any keep torn h1 hs k1 k2).mono fun e w' h => by rw [hr] at h; exact at_did K h2 h3 h
theorem at_cut (n : Int) (h : At w0 w b s) (hr : dCut s n = (x, s')) (hs : Small s) :
    Calls Tryd.prog 42 #[.pointer (some ⟨b, 0, none⟩), .int .i64 n] w (fun e w' => e = .returned (.int .i64 x) ∧ At w0 w' b s') := by
  obtain ⟨K, h1, h2, h3⟩ := h
  exact (cut_any n h1 hs).mono fun e w' h => by rw [hr] at h; exact at_did K h2 h3 h
theorem at_bytes (h : At w0 w b s) (hs : Small s) : Calls Tryd.prog 17 #[.pointer (some ⟨b, 0, none⟩)] w (fun e w' => ∃ A c, e = .returned (.slice A (allZ s).length c) ∧ Bs w' w'.heap.size A (allZ s).length (allZ s) ∧ w'.ownsRow w.heap.size 5 1 (.slice A (allZ s).length c) (allZ s).length (vals (allZ s)) ∧ (allZ s).length ≤ c ∧ c ≤ maxLen ∧ Below w.heap.size w w' ∧ At w0 w' b s) := by
  have hA := h
  obtain ⟨K, h1, h2, h3⟩ := h
  have hb := allZ_bytes h1
  refine (bytes_any h1 hs).mono fun e w' ⟨A, c, h4, h5, h6, h7, h8⟩ => ⟨A, c, h4, bs_of_own h5 hb, h5, h7, h8, h6, hA.below h6⟩
theorem at_synced (h : At w0 w b s) : Calls Tryd.prog 18 #[.pointer (some ⟨b, 0, none⟩)] w (fun e w' => e = .returned (.int .i64 (s.zs.length : Nat)) ∧ w = w') := by
  obtain ⟨K, h1, _⟩ := h; exact synced_any h1
theorem at_up (h : At w0 w b s) : Calls Tryd.prog 19 #[.pointer (some ⟨b, 0, none⟩)] w (fun e w' => e = .returned (.bool s.up) ∧ w = w') := by
  obtain ⟨K, h1, _⟩ := h; exact up_any h1
end
end Go.Proofs.YtjfeepmjebdahaaDoor
/- The chapter's examples of a disk. -/
namespace Go.Proofs.YtjfeepmjebdahaaDoor
open Go.ChangeShapes Go.WideShapes Go.ChangeAt Go.RowKit
set_option linter.unusedVariables false
theorem lit_bytes {l : List Int} (h : (l.all fun z => decide (0 ≤ z ∧ z < 256)) = true) : IsBytes l := isBytes_iff.2 fun z hz => by
  have := List.all_eq_true.1 h z hz
  simpa using this
end Go.Proofs.YtjfeepmjebdahaaDoor
/- The acts of a law as they came in; whether they are too many. (Printed by gen/gen_acts.py.) -/
namespace Go.Proofs.YtjfeepmjebdahaaDoor
open Go.ChangeShapes Go.WideShapes Go.ChangeAt Go.RowKit Go.Deep
set_option linter.unusedVariables false
structure ActZ where
  kind : Int
  n : Int
  m : Int
  A : Option Addr
  len : Nat
  cap : Nat
  zs : List Int
def aCells (a : ActZ) : List Value := [.int .i64 a.kind, .int .i64 a.n, .int .i64 a.m, .slice a.A a.len a.cap]
structure ActOk (w : World) (B : Nat) (a : ActZ) : Prop where
  kind : -9223372036854775808 ≤ a.kind ∧ a.kind ≤ 9223372036854775807
  n : -9223372036854775808 ≤ a.n ∧ a.n ≤ 9223372036854775807
  m : -9223372036854775808 ≤ a.m ∧ a.m ≤ 9223372036854775807
  bs : Bs w B a.A a.len a.zs
  cap : a.len ≤ a.cap
  max : a.cap ≤ maxLen
  small : a.len ≤ 140737488355328
theorem ActOk.below {w w' : World} {B : Nat} {a : ActZ} (h : ActOk w B a) (hb : Below B w w') : ActOk w' B a := ⟨h.kind, h.n, h.m, h.bs.below hb, h.cap, h.max, h.small⟩
/-- The m acts that the slice at A holds. -/
structure Acts (w : World) (B : Nat) (A : Option Addr) (m : Nat) (F : Nat → ActZ) : Prop where
  row : 0 < m → ∃ b off, A = some ⟨b, off, none⟩ ∧ b < B ∧ ∀ j, j < m → ∀ i v, (aCells (F j))[i]? = some v → w.cell? ⟨b, off + j * 4 + i, none⟩ = some v
  ok : ∀ j, j < m → ActOk w B (F j)
theorem Acts.below {w w' : World} {B m : Nat} {A : Option Addr} {F : Nat → ActZ} (h : Acts w B A m F) (hb : Below B w w') : Acts w' B A m F :=
  ⟨fun hm => by
    obtain ⟨b, off, rfl, hlt, hc⟩ := h.row hm
    exact ⟨b, off, rfl, hlt, fun j hj i v hv => (hb.cell (p := ⟨b, off + j * 4 + i, none⟩) hlt).trans (hc j hj i v hv)⟩, fun j hj => (h.ok j hj).below hb⟩
theorem Acts.at_ {w : World} {B m : Nat} {A : Option Addr} {F : Nat → ActZ} (h : Acts w B A m F) {k : Nat} (hk : k < m) :
    ∃ b off, A = some ⟨b, off, none⟩ ∧ b < B ∧ w.cell? ⟨b, off + k * 4, none⟩ = some (.int .i64 (F k).kind) ∧ w.cell? ⟨b, off + k * 4 + 1, none⟩ = some (.int .i64 (F k).n) ∧ w.cell? ⟨b, off + k * 4 + 2, none⟩ = some (.int .i64 (F k).m) ∧ w.cell? ⟨b, off + k * 4 + 3, none⟩ = some (.slice (F k).A (F k).len (F k).cap) := by
  obtain ⟨b, off, rfl, hlt, hc⟩ := h.row (by omega)
  exact ⟨b, off, rfl, hlt, hc k hk 0 _ rfl, hc k hk 1 _ rfl, hc k hk 2 _ rfl, hc k hk 3 _ rfl⟩
theorem acts_one {w : World} {B : Nat} {a : ActZ} (h : ActOk w B a) (hB : B ≤ w.heap.size) (t : TypeId) (g : Nat) (hg : w.heap.size = g) : Acts (w.alloc (.cells (aCells a).toArray t)) (g + 1) (some ⟨g, 0, none⟩) 1 (fun _ => a) := by
  subst hg
  have hh := heap_alloc_new w (.cells (aCells a).toArray t)
  refine ⟨fun _ => ⟨w.heap.size, 0, rfl, by omega, fun j hj i v hv => ?_⟩, fun j hj => ⟨h.kind, h.n, h.m, (h.bs.alloc hB _).more (by omega), h.cap, h.max, h.small⟩⟩
  have : j = 0 := by omega
  subst this
  rw [cell_of_row _ _ _ _ _ _ hh, List.getElem?_toArray]
  simpa using hv
def gsum (F : Nat → ActZ) : Nat → Nat
  | 0 => 0
  | k + 1 => gsum F k + (F k).len + 20
theorem gsum_le (F : Nat → ActZ) : ∀ k m, k ≤ m → gsum F k ≤ gsum F m := by
  intro k m h
  induction m with
  | zero => have : k = 0 := by omega
            subst this; exact Nat.le_refl _
  | succ m ih =>
    by_cases hk : k = m + 1
    · subst hk; exact Nat.le_refl _
    · have := ih (by omega)
      show _ ≤ gsum F m + (F m).len + 20
      omega
theorem gsum_many (F : Nat → ActZ) : ∀ k, 20 * k ≤ gsum F k
  | 0 => by simp [gsum]
  | k + 1 => by have := gsum_many F k; simp only [gsum]; omega
section
variable {H : Type} {enc : TypeId × Value → H} {W : World} {base : Nat} {sp : Nat → Bool} {held : Bool}
theorem act_u8_bytes : Tryd.prog.bytesOf 5 = 1 := by kernel_rfl
/-- What a row weighs is among what the whole list weighs. -/
theorem actWeights_mem {P : Program} {e : TypeId} : ∀ (ds : List (DataW H)) (j : Nat) (d : DataW H), ds[j]? = some d → ∀ n ∈ d.weights P e, n ∈ DataW.weightsAll P e ds
  | [], j, d, hd, n, hn => by simp at hd
  | x :: r, 0, d, hd, n, hn => by
    have e : x = d := by simpa using hd
    subst e
    rw [DataW.weightsAll]
    exact List.mem_append.2 (.inl hn)
  | x :: r, j + 1, d, hd, n, hn => by
    rw [DataW.weightsAll]
    exact List.mem_append.2 (.inr (actWeights_mem r j d (by simpa using hd) n hn))
end
end Go.Proofs.YtjfeepmjebdahaaDoor
/- An act of a disk; whether bytes are a beginning of others; how great a state grows. -/
namespace Go.Proofs.YtjfeepmjebdahaaDoor
open Go.ChangeShapes Go.WideShapes Go.ChangeAt Go.RowKit
set_option linter.unusedVariables false
def dDo (s : DiskZ) (a : ActZ) : Int × DiskZ :=
  if a.kind = 0 ∨ a.kind = 1 ∨ a.kind = 2 then dWrite s a.zs else if a.kind = 3 then dSync s else if a.kind = 4 then dCrash s a.n a.m else if a.kind = 5 ∨ a.kind = 6 then dStart s else if a.kind = 7 then dCut s a.n else (0, s)
/-- How great a state is. -/
structure SizeB (s : DiskZ) (n : Nat) : Prop where
  bytes : (allZ s).length ≤ n
  writes : s.ws.length ≤ n
theorem SizeB.small {s : DiskZ} {n : Nat} (h : SizeB s n) (hn : n ≤ 1000000) : Small s := ⟨Nat.le_trans h.bytes hn, Nat.le_trans h.writes hn⟩
theorem SizeB.more {s : DiskZ} {n m : Nat} (h : SizeB s n) (hn : n ≤ m) : SizeB s m := ⟨Nat.le_trans h.bytes hn, Nat.le_trans h.writes hn⟩
theorem allZ_flat (u : Bool) (zs : List Int) : allZ ⟨u, zs, []⟩ = zs := by simp [allZ]
theorem dWrite_size {s : DiskZ} {n : Nat} (h : SizeB s n) (zs : List Int) : SizeB (dWrite s zs).2 (n + zs.length + 1) := by
  unfold dWrite
  split
  · have h1 := h.bytes
    have h2 := h.writes
    refine ⟨?_, by simp; omega⟩
    simp only [allZ, List.length_append] at h1
    simp only [allZ, List.flatten_append, List.flatten_singleton, List.length_append]
    omega
  · exact h.more (by omega)
theorem dSync_size {s : DiskZ} {n : Nat} (h : SizeB s n) : SizeB (dSync s).2 n := by
  unfold dSync
  split
  · exact ⟨by rw [allZ_flat]; exact h.bytes, by simp⟩
  · exact h
theorem dStart_size {s : DiskZ} {n : Nat} (h : SizeB s n) : SizeB (dStart s).2 n := by
  unfold dStart
  split
  · exact h
  · exact ⟨h.bytes, h.writes⟩
theorem dCrash_size {s : DiskZ} {n : Nat} (h : SizeB s n) (k t : Int) : SizeB (dCrash s k t).2 n := by
  unfold dCrash
  split
  · split
    · exact h
    · refine ⟨?_, by simp⟩
      have h1 := h.bytes
      have h2 := (leftZ_len s.ws k t).1
      rw [allZ_flat, List.length_append]
      simp only [allZ, List.length_append] at h1
      omega
  · exact h
theorem dCut_size {s : DiskZ} {n : Nat} (h : SizeB s n) (k : Int) : SizeB (dCut s k).2 n := by
  unfold dCut
  split
  · split
    · exact h
    · refine ⟨?_, by simp⟩
      rw [allZ_flat, List.length_take]
      have h1 := h.bytes
      omega
  · exact h
theorem dDo_size {s : DiskZ} {n : Nat} (h : SizeB s n) (a : ActZ) : SizeB (dDo s a).2 (n + a.zs.length + 1) := by
  unfold dDo
  repeat' split
  · exact dWrite_size h _
  · exact (dSync_size h).more (by omega)
  · exact (dCrash_size h _ _).more (by omega)
  · exact (dStart_size h).more (by omega)
  · exact (dCut_size h _).more (by omega)
  · exact h.more (by omega)
/-- A disk that a law made, with the blocks that it lies in. -/
structure AtK (w0 w : World) (b : Nat) (K : Nat → Prop) (s : DiskZ) : Prop where
  dk : Dk w b K s
  new : ∀ k, K k → w0.heap.size ≤ k
  bel : Below w0.heap.size w0 w
theorem AtK.did {w0 w w' : World} {b : Nat} {K : Nat → Prop} {s : DiskZ} {r : Int × DiskZ} {e : Ending} (h : AtK w0 w b K s) (hd : Did w b K r e w') : e = .returned (.int .i64 r.1) ∧ ∃ K', AtK w0 w' b K' r.2 ∧ Moved K w w' ∧ Newer w K K' := by
  obtain ⟨rfl, K', h4, h5, h6⟩ := hd
  exact ⟨rfl, K', ⟨h4, fun k hk => (h6 k hk).elim (h.new k) (fun e => Nat.le_trans h.bel.size e), h.bel.trans (h5.below h.bel.size h.new)⟩, h5, h6⟩
theorem AtK.below {w0 w w' : World} {b : Nat} {K : Nat → Prop} {s : DiskZ} (h : AtK w0 w b K s) (hb : Below w.heap.size w w') : AtK w0 w' b K s :=
  ⟨h.dk.below hb (Nat.le_refl _), h.new, h.bel.trans (hb.mono h.bel.size)⟩
theorem AtK.quiet {w0 w w' : World} {b : Nat} {K : Nat → Prop} {s : DiskZ} (h : AtK w0 w b K s) (hq : ∃ n, w' = w.drewN n) : AtK w0 w' b K s := by
  obtain ⟨n, rfl⟩ := hq
  exact h.below ⟨rfl, rfl, rfl, Nat.le_refl _, fun _ _ => rfl⟩
theorem atk_new (w0 w : World) (hb : Below w0.heap.size w0 w) : Calls Tryd.prog 9 #[] w (fun e w' => e = .returned (.pointer (some ⟨w.heap.size, 0, none⟩)) ∧ ∃ K, AtK w0 w' w.heap.size K ⟨true, [], []⟩ ∧ Below w.heap.size w w') :=
  (newdisk_any w).mono fun e w' ⟨h1, h2, h3, h4⟩ => ⟨h1, _, ⟨h4, fun k hk => (by have := hb.size; omega), hb.trans (h2.mono hb.size)⟩, h2⟩
/-- What Bytes tells: a list in new blocks. -/
def Told (w : World) (zs : List Int) (e : Ending) (w' : World) : Prop := ∃ A n c, e = .returned (.slice A n c) ∧ zs.length = n ∧ Stands w' (fun k => w.heap.size ≤ k ∧ k < w'.heap.size) ⟨A, n, c, zs⟩ ∧ w'.ownsRow w.heap.size 5 1 (.slice A n c) n (vals zs) ∧ n ≤ c ∧ c ≤ maxLen ∧ Below w.heap.size w w'
theorem told_any {w : World} {b : Nat} {K : Nat → Prop} {s : DiskZ} (h : Dk w b K s) (hs : Small s) : Calls Tryd.prog 17 #[.pointer (some ⟨b, 0, none⟩)] w (Told w (allZ s)) := by
  have hb := allZ_bytes h
  refine (bytes_any h hs).mono fun e w' ⟨A, c, h4, h5, h6, h7, h8⟩ => ⟨A, _, c, h4, rfl, stands_own h5 hb (fun k hk => h5.lt k hk), h5, h7, h8, h6⟩
/-- Is a list a beginning of another? -/
def prefB (a b : List Int) : Bool := decide (a = b.take a.length)
theorem prefB_app (a b : List Int) : prefB a (a ++ b) = true := by unfold prefB; rw [List.take_left]; exact decide_eq_true rfl
theorem prefB_self (a : List Int) : prefB a a = true := by unfold prefB; rw [List.take_length]; exact decide_eq_true rfl
theorem prefB_take (a : List Int) (k : Nat) : prefB (a.take k) a = true := by
  unfold prefB
  rw [List.length_take]
  refine decide_eq_true ?_
  rw [List.take_eq_take_iff]
  omega
end Go.Proofs.YtjfeepmjebdahaaDoor
