/- A disk as it lies in memory. -/
import Derived.Test.YtlbmhkccmclmfaaMoved
namespace Go.Proofs.Ytlbmhkccmclmfaa
open Go.ChangeShapes Go.WideShapes Go.ChangeAt Go.RowKit
set_option linter.unusedVariables false
/-- A disk's state: whether it is up, what is synced, the writes behind that. -/
structure DiskZ where
  up : Bool
  zs : List Int
  ws : List (List Int)
def allZ (s : DiskZ) : List Int := s.zs ++ s.ws.flatten
/-- Small enough for every sum of lengths. -/
structure Small (s : DiskZ) : Prop where
  bytes : (allZ s).length ≤ 1000000
  writes : s.ws.length ≤ 1000000
/-- Blocks of K other than the disk's own three. -/
def Rest (K : Nat → Prop) (b : Nat) (v u : Value) : Nat → Prop := fun k => K k ∧ k ≠ b ∧ v.ownBlock ≠ some k ∧ u.ownBlock ≠ some k
structure DkAt (w : World) (b : Nat) (K : Nat → Prop) (s : DiskZ) (v u : Value) (ps : List PieceZ) : Prop where
  kb : K b
  lt : ∀ k, K k → k < w.heap.size
  made : w.cell? ⟨b, 0, none⟩ = some (.bool true)
  up : w.cell? ⟨b, 1, none⟩ = some (.bool s.up)
  syn : w.cell? ⟨b, 2, none⟩ = some v
  wr : w.cell? ⟨b, 3, none⟩ = some u
  f1 : w.frozen? ⟨b, 1, none⟩ = false
  f2 : w.frozen? ⟨b, 2, none⟩ = false
  f3 : w.frozen? ⟨b, 3, none⟩ = false
  own2 : w.ownsRow 0 5 1 v s.zs.length (vals s.zs)
  blk2 : ∀ k, v.ownBlock = some k → K k ∧ k ≠ b
  bytes : IsBytes s.zs
  own3 : w.ownsRow 0 27 1 u ps.length (ps.map pval)
  blk3 : ∀ k, u.ownBlock = some k → K k ∧ k ≠ b ∧ v.ownBlock ≠ some k
  all : ∀ p ∈ ps, Stands w (Rest K b v u) p
  ws : ps.map (·.zs) = s.ws
def Dk (w : World) (b : Nat) (K : Nat → Prop) (s : DiskZ) : Prop := ∃ v u ps, DkAt w b K s v u ps
section
variable {w w1 : World} {b : Nat} {K : Nat → Prop} {s : DiskZ} {v u : Value} {ps : List PieceZ}
theorem DkAt.keep (h : DkAt w b K s v u ps) (hk : ∀ k, K k → w1.heap[k]? = w.heap[k]?) (hs : w.heap.size ≤ w1.heap.size) : DkAt w1 b K s v u ps :=
  have hb := hk b h.kb
  ⟨h.kb, fun k hK => Nat.lt_of_lt_of_le (h.lt k hK) hs, (World.cell?_of_block (a := ⟨b, 0, none⟩) hb).trans h.made, (World.cell?_of_block (a := ⟨b, 1, none⟩) hb).trans h.up,
    (World.cell?_of_block (a := ⟨b, 2, none⟩) hb).trans h.syn, (World.cell?_of_block (a := ⟨b, 3, none⟩) hb).trans h.wr,
    (World.frozen?_of_block (a := ⟨b, 1, none⟩) hb).trans h.f1, (World.frozen?_of_block (a := ⟨b, 2, none⟩) hb).trans h.f2, (World.frozen?_of_block (a := ⟨b, 3, none⟩) hb).trans h.f3,
    own_same h.own2 (fun g hg => hk g (h.blk2 g hg).1), h.blk2, h.bytes, own_same h.own3 (fun g hg => hk g (h.blk3 g hg).1), h.blk3,
    fun p hp => (h.all p hp).keep (fun k hF _ => hk k hF.1), h.ws⟩
theorem Dk.keep (h : Dk w b K s) (hk : ∀ k, K k → w1.heap[k]? = w.heap[k]?) (hs : w.heap.size ≤ w1.heap.size) : Dk w1 b K s := by
  obtain ⟨v, u, ps, h⟩ := h
  exact ⟨v, u, ps, h.keep hk hs⟩
theorem Dk.lt (h : Dk w b K s) : ∀ k, K k → k < w.heap.size := by obtain ⟨v, u, ps, h⟩ := h; exact h.lt
theorem Dk.kb (h : Dk w b K s) : K b := by obtain ⟨v, u, ps, h⟩ := h; exact h.kb
theorem Dk.below {B : Nat} (h : Dk w b K s) (hb : Below B w w1) (hB : w.heap.size ≤ B) : Dk w1 b K s := h.keep (fun k hk => hb.block k (by have := h.lt k hk; omega)) hb.size
theorem Dk.alloc (h : Dk w b K s) (o : Obj) : Dk (w.alloc o) b K s := h.keep (fun k hk => Below.heap_alloc _ _ _ (h.lt k hk)) (by simp)
theorem Dk.drewN (h : Dk w b K s) (n : Nat) : Dk (w.drewN n) b K s := h.keep (fun _ _ => rfl) (Nat.le_refl _)
theorem Dk.cell {p : Addr} (h : Dk w b K s) (hp : ¬ K p.block) (x : Value) : Dk (w.setCell p x) b K s := h.keep (fun k hk => Below.heap_setCell _ _ _ _ (fun e => hp (by rw [← e]; exact hk))) (by simp [World.setCell])
theorem Dk.moved {F : Nat → Prop} (h : Dk w b K s) (hm : Moved F w w1) (hF : ∀ k, K k → ¬ F k) : Dk w1 b K s := h.keep (fun k hk => hm.block k (h.lt k hk) (hF k hk)) hm.size
theorem DkAt.bunch (h : DkAt w b K s v u ps) : ∃ A c, u = .slice A ps.length c ∧ ps.length ≤ c ∧ c ≤ maxLen ∧ Bunch w (fun k => K k ∧ k ≠ b ∧ v.ownBlock ≠ some k) A ps := by
  obtain ⟨A, c, rfl, h1, h2⟩ := own_shape h.own3
  exact ⟨A, c, rfl, h1, h2, bunch_own h.own3 (fun k hk => h.blk3 k hk) (fun p hp => (h.all p hp).more (fun k hF _ => ⟨hF.1, hF.2.1, hF.2.2.1⟩))⟩
theorem DkAt.piece (h : DkAt w b K s v u ps) : ∃ A c, v = .slice A s.zs.length c ∧ Stands w (fun k => v.ownBlock = some k) ⟨A, s.zs.length, c, s.zs⟩ := by
  obtain ⟨A, c, rfl, h1, h2⟩ := own_shape h.own2
  exact ⟨A, c, rfl, stands_own h.own2 h.bytes (fun k hk => hk)⟩
theorem DkAt.flat (h : DkAt w b K s v u ps) : s.ws.flatten = flatZ ps := by rw [← h.ws]; rfl
theorem DkAt.len (h : DkAt w b K s v u ps) : ps.length = s.ws.length := by rw [← h.ws]; simp
end
/-- What a disk's call hands back: an error; its state behind it. -/
def Did (w : World) (b : Nat) (K : Nat → Prop) (r : Int × DiskZ) (e : Ending) (w' : World) : Prop :=
  e = .returned (.int .i64 r.1) ∧ ∃ K', Dk w' b K' r.2 ∧ Moved K w w' ∧ Newer w K K'
/-- New. -/
def NewDisk (w : World) (e : Ending) (w' : World) : Prop := e = .returned (.pointer (some ⟨w.heap.size, 0, none⟩)) ∧ Below w.heap.size w w' ∧ w'.heap.size = w.heap.size + 1 ∧ Dk w' w.heap.size (fun k => k = w.heap.size) ⟨true, [], []⟩
theorem newdisk_any (w : World) : Calls Try.prog 9 #[] w (NewDisk w) := by
  go_enter Try.func9, Try.ntmps9
  go_wp2
  go_ret
  have hh := heap_alloc_new w (.cells #[.bool true, .bool true, .slice none 0 0, .slice none 0 0] 40)
  refine ⟨rfl, (Below.refl _ _).alloc (Nat.le_refl _) _, by simp, .slice none 0 0, .slice none 0 0, [], rfl, fun k hk => (by simp; omega), ?_, ?_, ?_, ?_, ?_, ?_, ?_, World.ownsRow_nil _ _ _ _, fun k hk => (by cases hk), IsBytes.nil, World.ownsRow_nil _ _ _ _, fun k hk => (by cases hk), fun p hp => (by cases hp), rfl⟩
  all_goals first
    | (rw [cell_of_row _ _ _ _ _ _ hh]; rfl)
    | exact frozen_of_row _ _ _ _ _ hh
theorem synced_any {w : World} {b : Nat} {K : Nat → Prop} {s : DiskZ} (h : Dk w b K s) : Calls Try.prog 12 #[.pointer (some ⟨b, 0, none⟩)] w (fun e w' => e = .returned (.int .i64 (s.zs.length : Nat)) ∧ w = w') := by
  obtain ⟨v, u, ps, h⟩ := h
  obtain ⟨A, c, rfl, _⟩ := h.piece
  have h1 := h.syn
  obtain ⟨n, hn⟩ : ∃ n, s.zs.length = n := ⟨_, rfl⟩
  rw [hn] at h1 ⊢
  clear h hn
  go_enter Try.func12, Try.ntmps12
  go_wp2
  go_ret
  exact ⟨rfl, rfl⟩
theorem writes_any {w : World} {b : Nat} {K : Nat → Prop} {s : DiskZ} (h : Dk w b K s) : Calls Try.prog 13 #[.pointer (some ⟨b, 0, none⟩)] w (fun e w' => e = .returned (.int .i64 (s.ws.length : Nat)) ∧ w = w') := by
  obtain ⟨v, u, ps, h⟩ := h
  obtain ⟨A, c, rfl, _⟩ := h.bunch
  have h1 := h.wr
  rw [← h.len]
  obtain ⟨n, hn⟩ : ∃ n, ps.length = n := ⟨_, rfl⟩
  rw [hn] at h1 ⊢
  clear h hn
  go_enter Try.func13, Try.ntmps13
  go_wp2
  go_ret
  exact ⟨rfl, rfl⟩
theorem up_any {w : World} {b : Nat} {K : Nat → Prop} {s : DiskZ} (h : Dk w b K s) : Calls Try.prog 14 #[.pointer (some ⟨b, 0, none⟩)] w (fun e w' => e = .returned (.bool s.up) ∧ w = w') := by
  obtain ⟨v, u, ps, h⟩ := h
  have h1 := h.up
  clear h
  go_enter Try.func14, Try.ntmps14
  go_wp2
  go_ret
  exact ⟨rfl, rfl⟩
end Go.Proofs.Ytlbmhkccmclmfaa
