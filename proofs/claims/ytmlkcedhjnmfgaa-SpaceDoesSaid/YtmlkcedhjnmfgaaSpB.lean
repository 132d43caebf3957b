/- Whether a space fits its limits, whether that is one. -/
import Derived.Test.YtmlkcedhjnmfgaaSpA
namespace Go.Proofs.Ytmlkcedhjnmfgaa
open Go.ChangeShapes Go.WideShapes Go.ChangeAt Go.RowKit
set_option linter.unusedVariables false
set_option linter.unusedSimpArgs false
open Plain Sp
/-- A space's cells, as they are laid into a block. -/
def scs (K Y : Int) (A : Option Addr) (n c : Nat) : Array Value := #[.int .i64 K, .int .i64 Y, .slice A n c]
def SBox (W : World) (b : Nat) (K Y : Int) (A : Option Addr) (n c : Nat) : Prop :=
  W.cell? ⟨b, 0, none⟩ = some (.int .i64 K) ∧ W.cell? ⟨b, 1, none⟩ = some (.int .i64 Y) ∧ W.cell? ⟨b, 2, none⟩ = some (.slice A n c)
theorem SBox.lt {W : World} {b : Nat} {K Y : Int} {A : Option Addr} {n c : Nat} (h : SBox W b K Y A n c) : b < W.heap.size := World.block_lt_of_cell? _ _ h.1
theorem SBox.below {W W' : World} {B b : Nat} {K Y : Int} {A : Option Addr} {n c : Nat} (h : SBox W b K Y A n c) (hb : Below B W W') (hlt : b < B) : SBox W' b K Y A n c :=
  ⟨(hb.cell (p := ⟨b, 0, none⟩) hlt).trans h.1, (hb.cell (p := ⟨b, 1, none⟩) hlt).trans h.2.1, (hb.cell (p := ⟨b, 2, none⟩) hlt).trans h.2.2⟩
theorem SBox.grow {W W' : World} {b : Nat} {K Y : Int} {A : Option Addr} {n c : Nat} (h : SBox W b K Y A n c) (hb : Below W.heap.size W W') : SBox W' b K Y A n c := h.below hb h.lt
theorem sbox_new (w : World) (K Y : Int) (A : Option Addr) (n c : Nat) (t : TypeId) (g : Nat) (hg : w.heap.size = g) : SBox (w.alloc (.cells #[.int .i64 K, .int .i64 Y, .slice A n c] t)) g K Y A n c := by
  subst hg
  refine ⟨?_, ?_, ?_⟩
  all_goals rw [cell_of_row _ _ _ _ _ _ (heap_alloc_new w _)]; rfl
/-- A world with one block more. -/
theorem below_one (w : World) (o : Obj) : Below w.heap.size w (w.alloc o) := (Below.refl _ _).alloc (Nat.le_refl _) _
set_option maxRecDepth 100000 in
set_option maxHeartbeats 4000000 in
theorem fits_any {w : World} {B n : Nat} {A : Option Addr} {l : List PairZ} (K Y : Int) (c : Nat) (q : Bool) (h : Prs w B A n l) (hB : B ≤ w.heap.size) (hn : n ≤ maxLen) (hq : fitB K Y l = q) (hs : (n : Int) ≤ K → cnt l ≤ 1152921504606846976) :
    Calls Try.prog 47 #[.agg #[.int .i64 K, .int .i64 Y, .slice A n c]] w (fun e w' => e = .returned (.bool q) ∧ Below w.heap.size w w') := by
  obtain ⟨W1, hW1⟩ : ∃ W, W = w.alloc (.cells #[.int .i64 K, .int .i64 Y, .slice A n c] 28) := ⟨_, rfl⟩
  have b1 := Lib.hid (show Below w.heap.size w W1 by rw [hW1]; exact below_one _ _)
  have X1 := Lib.hid (show SBox W1 w.heap.size K Y A n c by rw [hW1]; exact sbox_new _ _ _ _ _ _ _ _ rfl)
  have L := h.len
  have SC := Lib.hid (fun (V : World) (hV : Below W1.heap.size W1 V) (hx : (n : Int) ≤ K) => size_any (w := V) c (cnt l) ((h.below b1.out hB).below hV (Nat.le_trans hB b1.out.size)) (Nat.le_trans hB (Nat.le_trans b1.out.size hV.size)) hn rfl (hs hx))
  have HC := Lib.hid (fun (V : World) (hV : Below W1.heap.size W1 V) => X1.out.grow hV)
  have HW1 := Lib.hid hW1
  have HQ := Lib.hid hq
  clear h hW1 hB hn hs hq
  by_cases h1 : (n : Int) ≤ K
  · obtain ⟨y, hy⟩ : ∃ y, cnt l = y := ⟨_, rfl⟩
    have hq2 : decide ((y : Int) ≤ Y) = q := by
      rw [← HQ.out]; unfold fitB; rw [L, hy]; simp [h1]
    have SC2 := Lib.hid (fun (V : World) (hV : Below W1.heap.size W1 V) => SC.out V hV h1)
    rw [hy] at SC2
    clear SC hy L
    go_enter Try.func47, Try.ntmps47
    go_wp2
    rw [← HW1.out]
    have h2 := (HC.out _ (Below.refl _ _)).1
    have h3 := (HC.out _ (Below.refl _ _)).2.1
    have h4 := (HC.out _ (Below.refl _ _)).2.2
    go_region_held3 (fun V => V.cell? ⟨w.heap.size, 0, none⟩ = some (.int .i64 K) ∧ V.cell? ⟨w.heap.size, 1, none⟩ = some (.int .i64 Y) ∧ V.cell? ⟨w.heap.size, 2, none⟩ = some (.slice A n c))
      (first
        | (exact HC.out _ (Below.refl _ _).drew)
        | (exact HC.out _ B5.out))
      ((first
        | (go_at_call 44; refine (SC2.out _ (Below.refl _ _).drew).mono ?_; rintro e w5 ⟨rfl, b5⟩; have B5 : Hid (Below W1.heap.size W1 w5) := Lib.hid ((Below.refl _ _).drew.trans b5); clear b5)))
    go_wp2
    go_ret
    exact ⟨rfl, b1.out.trans (B5.out.mono b1.out.size)⟩
  · have e : q = false := by rw [← HQ.out]; unfold fitB; rw [L]; simp [h1]
    subst e
    have h1d := Lib.hid (show decide ((n : Int) ≤ K) = false by simpa using h1)
    clear L SC h1
    go_enter Try.func47, Try.ntmps47
    go_wp2
    rw [← HW1.out]
    have h1e := h1d.out
    have h2 := (HC.out _ (Below.refl _ _)).1
    have h3 := (HC.out _ (Below.refl _ _)).2.1
    have h4 := (HC.out _ (Below.refl _ _)).2.2
    go_quiet (fail)
    go_wp2
    go_ret
    exact ⟨rfl, below_drewN b1.out _⟩
end Go.Proofs.Ytmlkcedhjnmfgaa
