/- Rows of numbers in memory, of whatever size (out of RgV and RvM, for seats that have no grants). -/
import Derived.Test.YtnnfcbcjepbjiaaB2
import Derived.Test.YtnnfcbcjepbjiaaB1
namespace Go.Proofs.Ytnnfcbcjepbjiaa
open Go.ChangeShapes Go.WideShapes Go.ChangeAt Go.RowKit
set_option linter.unusedVariables false
/-- Numbers as values; the n numbers that the slice at A holds. -/
def ivs (zs : List Int) : List Value := zs.map (Value.int .i64)
theorem ivs_len (zs : List Int) : (ivs zs).length = zs.length := by simp [ivs]
structure Ir (w : World) (B : Nat) (A : Option Addr) (n : Nat) (zs : List Int) : Prop where
  len : zs.length = n
  row : 0 < n → ∃ b off, A = some ⟨b, off, none⟩ ∧ b < B ∧ ∀ j, j < n → w.cell? ⟨b, off + j, none⟩ = some (.int .i64 (zs.getD j 0))
theorem Ir.below {w w' : World} {B B' n : Nat} {A : Option Addr} {zs : List Int} (h : Ir w B A n zs) (hb : Below B' w w') (hB : B ≤ B') : Ir w' B A n zs :=
  ⟨h.len, fun hn => by
    obtain ⟨b, off, rfl, hlt, hc⟩ := h.row hn
    exact ⟨b, off, rfl, hlt, fun j hj => (hb.cell (p := ⟨b, off + j, none⟩) (by show b < B'; omega)).trans (hc j hj)⟩⟩
theorem Ir.at_ {w : World} {B n : Nat} {A : Option Addr} {zs : List Int} (h : Ir w B A n zs) {k : Nat} (hk : k < n) : ∃ b off, A = some ⟨b, off, none⟩ ∧ b < B ∧ w.cell? ⟨b, off + k, none⟩ = some (.int .i64 (zs.getD k 0)) := by
  obtain ⟨b, off, rfl, hb, hc⟩ := h.row (by omega)
  exact ⟨b, off, rfl, hb, hc k hk⟩
theorem ivs_set (l : List Int) (k : Nat) (x : Int) : (ivs l).toArray.setIfInBounds k (.int .i64 x) = (ivs (l.set k x)).toArray := by
  simp [ivs, List.map_set]
theorem ivs_made (n : Nat) : madeCells #[Value.int .i64 0] n = (ivs (List.replicate n 0)).toArray := by
  unfold madeCells ivs
  apply Array.ext
  · simp
  · intro i h1 h2
    simp [Nat.mod_one]
theorem ivs_at (l : List Int) (k : Nat) (h : k < l.length) : (ivs l)[k]? = some (.int .i64 (l.getD k 0)) := by
  simp [ivs, List.getElem?_map, List.getD_eq_getElem?_getD, List.getElem?_eq_getElem h]
theorem i64_row : (Try.prog.info? 3).map (fun i => (i.zero, i.size, i.bytes)) = some (some (.int .i64 0), 1, 8) := by kernel_rfl
theorem make_i64 (n : Nat) (hn : n ≤ 4096) (w : World) : (Instr.makeSlice 28 (.int .i64 (n : Int)) (.int .i64 (n : Int))).run Try.prog w = .ok (.slice (some ⟨w.heap.size, 0, none⟩) n n) (w.alloc (.cells (madeCells #[.int .i64 0] n) 3)) :=
  run_make_row' (P := Try.prog) 28 3 (.int .i64 0) 8 Try.underlying28 i64_row rfl .i64 .i64 n (by omega) (by omega) w
theorem int_info : ∃ i z, Try.prog.info? 3 = some i ∧ i.zero = some z ∧ i.size = 1 ∧ i.bytes = 8 ∧ z.cells.size = 1 := by
  obtain ⟨i, hi, hz, hs, hb⟩ := info_parts (show (Try.prog.info? 3).map (fun i => (i.zero, i.size, i.bytes)) = some (some (.int .i64 0), 1, 8) by kernel_rfl)
  exact ⟨i, _, hi, hz, hs, hb, rfl⟩
theorem iv_one (xs : List Int) : ∀ u ∈ ivs xs, u.oneCell' = true := by
  intro u hu
  simp only [ivs, List.mem_map] at hu
  obtain ⟨z, _, rfl⟩ := hu
  rfl
theorem iv_app (a b : List Int) : ivs (a ++ b) = ivs a ++ ivs b := by simp [ivs]
section
variable {w w' : World} {B B' n : Nat} {A : Option Addr} {zs : List Int}
theorem Ir.keep (h : Ir w B A n zs) (hk : ∀ p : Addr, p.block < B → w'.cell? p = w.cell? p) : Ir w' B A n zs :=
  ⟨h.len, fun hn => by
    obtain ⟨b, off, rfl, hb, hc⟩ := h.row hn
    exact ⟨b, off, rfl, hb, fun j hj => (hk ⟨b, off + j, none⟩ hb).trans (hc j hj)⟩⟩
theorem Ir.more (h : Ir w B A n zs) (hB : B ≤ B') : Ir w B' A n zs :=
  ⟨h.len, fun hn => by
    obtain ⟨b, off, rfl, hb, hc⟩ := h.row hn
    exact ⟨b, off, rfl, by omega, hc⟩⟩
theorem Ir.drewN (h : Ir w B A n zs) (k : Nat) : Ir (w.drewN k) B A n zs := h.keep fun _ _ => rfl
theorem Ir.drew (h : Ir w B A n zs) : Ir w.drew B A n zs := h.keep fun _ _ => rfl
theorem Ir.nil : Ir w B A 0 [] := ⟨rfl, fun h => absurd h (by omega)⟩
theorem Ir.lies (h : Ir w B A n zs) : Lies w 1 A n (ivs zs) ∧ Sourced A n := by
  refine ⟨⟨by rw [ivs_len, h.len]; omega, fun ad hA j u hu => ?_⟩, fun hA => ?_⟩
  · have hj : j < n := by
      have := (List.getElem?_eq_some_iff.1 hu).1
      rw [ivs_len, h.len] at this; exact this
    obtain ⟨b, off, e, _, hc⟩ := h.row (by omega)
    rw [hA] at e; injection e with e; subst e
    rw [ivs_at _ _ (by rw [h.len]; exact hj)] at hu
    injection hu with hu
    rw [Go.WideShapes.add_plain, hc j hj, hu]
  · rcases Nat.eq_zero_or_pos n with h0 | h0
    · exact h0
    · obtain ⟨b, off, e, _⟩ := h.row h0
      rw [hA] at e; cases e
/-- A piece of it. -/
theorem Ir.cut (h : Ir w B A n zs) {k m : Nat} (hk : k + m ≤ n) (A' : Option Addr) (hA : ∀ b off, A = some ⟨b, off, none⟩ → 0 < m → A' = some ⟨b, off + k, none⟩) : Ir w B A' m ((zs.drop k).take m) := by
  have hl := h.len
  refine ⟨by simp; omega, fun hm => ?_⟩
  obtain ⟨b, off, rfl, hb, hc⟩ := h.row (by omega)
  refine ⟨b, off + k, hA _ _ rfl hm, hb, fun j hj => ?_⟩
  have hg : ((zs.drop k).take m).getD j 0 = zs.getD (k + j) 0 := by
    simp [List.getD_eq_getElem?_getD, List.getElem?_drop, hj]
  rw [hg, Nat.add_assoc]
  exact hc _ (by omega)
/-- Every row of its own reads as numbers. -/
theorem ir_of_own {base c : Nat} {t : TypeId} (h : w.ownsRow base t 1 (.slice A n c) n (ivs zs)) : Ir w w.heap.size A n zs := by
  have hl : zs.length = n := by have := h.1; rw [ivs_len] at this; omega
  refine ⟨hl, fun hn => ?_⟩
  obtain ⟨g, cap, hv, _, hlt⟩ := h.form hn
  have hA : A = some ⟨g, 0, none⟩ := by injection hv
  subst hA
  refine ⟨g, 0, rfl, hlt, fun j hj => ?_⟩
  have := h.cells (g := g) rfl j _ (ivs_at zs j (by omega))
  rwa [← Go.WideShapes.add_plain]
end
/-- A row that has just been written out. -/
theorem ir_new (w : World) (xs : List Int) (n : Nat) (hn : xs.length = n) (t : TypeId) (g : Nat) (hg : w.heap.size = g) : Ir (w.alloc (.cells (ivs xs).toArray t)) (g + 1) (some ⟨g, 0, none⟩) n xs := by
  subst hg hn
  refine ⟨rfl, fun hn => ⟨w.heap.size, 0, rfl, by omega, fun j hj => ?_⟩⟩
  rw [cell_of_row _ _ _ _ _ _ (heap_alloc_new w _), Nat.zero_add, List.getElem?_toArray, ivs_at _ _ hj]
/-- A row that came in. -/
theorem IsRow.ir {w : World} {A : Option Addr} {zs : List Int} {len cap : Nat} (h : IsRow .i64 w A len cap zs) : Ir w w.heap.size A len (zs.take len) ∧ len ≤ maxLen := by
  rcases h with ⟨rfl, rfl, rfl, rfl⟩ | ⟨x, rfl, hl, hm, hz, hc, hw⟩
  · exact ⟨Ir.nil, by simp [maxLen]⟩
  · refine ⟨⟨by simp; omega, fun hn => ?_⟩, by omega⟩
    obtain ⟨b, off, rfl, hc'⟩ := ints_at hc (by omega)
    refine ⟨b, off, rfl, World.block_lt_of_cell? _ _ (hc' 0 (by omega)), fun j hj => ?_⟩
    rw [hc' j (by omega)]
    simp [List.getD_eq_getElem?_getD, hj]
/-- What a call hands back that makes a list of numbers, and a number: the list is the call's own; nothing that was there has turned. -/
def GivesI (w : World) (p : List Int × Int) (e : Ending) (w' : World) : Prop :=
  ∃ A c, e = .returned (.tuple #[.slice A p.1.length c, .int .i64 p.2]) ∧ w'.ownsRow w.heap.size 3 1 (.slice A p.1.length c) p.1.length (ivs p.1) ∧ Below w.heap.size w w' ∧ p.1.length ≤ c ∧ c ≤ maxLen
theorem GivesI.n {w w' : World} {p : List Int × Int} {e : Ending} {n : Nat} {zs : List Int} {k : Int} (h : GivesI w p e w') (h1 : p.1 = zs) (h2 : p.2 = k) (hn : zs.length = n) :
    ∃ A c, e = .returned (.tuple #[.slice A n c, .int .i64 k]) ∧ w'.ownsRow w.heap.size 3 1 (.slice A n c) n (ivs zs) ∧ Below w.heap.size w w' ∧ n ≤ c ∧ c ≤ maxLen := by
  subst h1 h2 hn
  exact h
theorem gives_nil {w w' : World} {p : List Int × Int} {k : Int} (h : p = ([], k)) (hb : Below w.heap.size w w') : GivesI w p (.returned (.tuple #[.slice none 0 0, .int .i64 k])) w' := by
  subst h
  exact ⟨none, 0, rfl, World.ownsRow_nil _ _ _ _, hb, Nat.le_refl _, by simp [maxLen]⟩
theorem gives_of {w w' : World} {n : Nat} {v : Value} {zs : List Int} {k : Int} {p : List Int × Int} (h : w'.ownsRow w.heap.size 3 1 v n (ivs zs)) (hb : Below w.heap.size w w') (hp : p = (zs, k)) : GivesI w p (.returned (.tuple #[v, .int .i64 k])) w' := by
  subst hp
  obtain ⟨A, c, rfl, h1, h2⟩ := own_shape h
  have hl : zs.length = n := by have := h.1; rw [ivs_len] at this; omega
  subst hl
  exact ⟨A, c, rfl, h, hb, h1, h2⟩
/-- A list alone. -/
def MadeI (w : World) (zs : List Int) (e : Ending) (w' : World) : Prop :=
  ∃ A c, e = .returned (.slice A zs.length c) ∧ w'.ownsRow w.heap.size 3 1 (.slice A zs.length c) zs.length (ivs zs) ∧ Below w.heap.size w w' ∧ zs.length ≤ c ∧ c ≤ maxLen
theorem MadeI.n {w w' : World} {zs : List Int} {e : Ending} {n : Nat} (h : MadeI w zs e w') (hn : zs.length = n) :
    ∃ A c, e = .returned (.slice A n c) ∧ w'.ownsRow w.heap.size 3 1 (.slice A n c) n (ivs zs) ∧ Below w.heap.size w w' ∧ n ≤ c ∧ c ≤ maxLen := by
  subst hn
  exact h
theorem madeI_of {w w' : World} {n : Nat} {v : Value} {zs : List Int} (h : w'.ownsRow w.heap.size 3 1 v n (ivs zs)) (hb : Below w.heap.size w w') : MadeI w zs (.returned v) w' := by
  obtain ⟨A, c, rfl, h1, h2⟩ := own_shape h
  have hl : zs.length = n := by have := h.1; rw [ivs_len] at this; omega
  subst hl
  exact ⟨A, c, rfl, h, hb, h1, h2⟩
/-- The empty row that a call writes out; a row of one number. -/
theorem own_noneI (w : World) (base : Nat) (hb : base ≤ w.heap.size) : (w.alloc (.cells #[] 3)).ownsRow base 3 1 (.slice (some ⟨w.heap.size, 0, none⟩) 0 0) 0 (ivs []) :=
  World.ownsRow_lit w #[] 0 hb (by simp [maxLen]) rfl
end Go.Proofs.Ytnnfcbcjepbjiaa
