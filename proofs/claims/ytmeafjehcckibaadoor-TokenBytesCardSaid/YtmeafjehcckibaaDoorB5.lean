/- Texts of the proof, one behind the other: RgZ RgT RgM RgL RgV RgW RgA RgR RgO RgC. -/
import Derived.Test.YtmeafjehcckibaaDoorB1
import Derived.Laws.BytesArg
import Derived.Laws.Strings
import Derived.Lib.MinMax
import Derived.OwnWalk
import Derived.OpenShut
import Derived.SizedLaws
import Derived.Deep.Slices
import Derived.ChangeArms
import Derived.WalkArith
/- Rights, their texts, grants and lines, as plain numbers. -/
namespace Go.Proofs.YtmeafjehcckibaaDoor
open Go.ChangeShapes Go.WideShapes Go.ChangeAt Go.RowKit
set_option linter.unusedVariables false
/-- All rights of n are among r. -/
def hasB (r n : Int) : Bool := decide (bits .and .u8 r n = n)
def letterZ (k : Nat) : Int := ([114, 119, 108, 97] : List Int).getD k 0
/-- The letters of the first k rights. -/
def ltr (r : Int) : Nat → List Int
  | 0 => []
  | k + 1 => ltr r k ++ if hasB r (2 ^ k) then [letterZ k] else []
def textZ (r : Int) : List Int := if 15 < r then [63] else if r = 0 then [45] else ltr r 4
def textB (r : Int) : ByteArray := strOfNums (textZ r)
theorem ltr_len (r : Int) (k : Nat) : (ltr r k).length ≤ k := by
  induction k with
  | zero => simp [ltr]
  | succ k ih =>
    simp only [ltr, List.length_append]
    split <;> simp <;> omega
theorem textB_inj (a b : Nat) (ha : a < 16) (hb : b < 16) (h : textB a = textB b) : a = b := by
  have := (by decide +kernel : ∀ a b : Fin 16, textB (a.val : Int) = textB (b.val : Int) → a = b) ⟨a, ha⟩ ⟨b, hb⟩ h
  exact congrArg Fin.val this
/-- Of the first n rights those whose text is s (the last one), and whether there are any. -/
def pR (s : ByteArray) : Nat → Int
  | 0 => 0
  | n + 1 => if textB n = s then n else pR s n
def pOk (s : ByteArray) : Nat → Bool
  | 0 => false
  | n + 1 => if textB n = s then true else pOk s n
theorem p_stay (s : ByteArray) (k : Nat) (h : textB k = s) (m : Nat) (hk : k < m) (hm : m ≤ 16) : pR s m = k ∧ pOk s m = true := by
  induction m with
  | zero => omega
  | succ m ih =>
    by_cases e : textB m = s
    · have : m = k := textB_inj m k (by omega) (by omega) (e.trans h.symm)
      subst this
      simp [pR, pOk, e]
    · have hne : k ≠ m := fun e' => e (e' ▸ h)
      have := ih (by omega) (by omega)
      simp [pR, pOk, e, this]
theorem p_none (s : ByteArray) (k : Nat) (h : pOk s k = false) : pR s k = 0 := by
  induction k with
  | zero => rfl
  | succ k ih =>
    by_cases e : textB k = s
    · simp [pOk, e] at h
    · simp [pOk, e] at h
      simp [pR, e, ih h]
theorem p_bound (s : ByteArray) (k : Nat) (hk : k ≤ 16) : 0 ≤ pR s k ∧ pR s k < 16 := by
  induction k with
  | zero => simp [pR]
  | succ k ih =>
    have := ih (by omega)
    simp only [pR]
    split <;> omega
theorem has_r (r : Int) (k : Nat) (h0 : 0 ≤ r) (h1 : r < 16) (hk : k < 4) : hasB r (2 ^ k) = decide (r / 2 ^ k % 2 = 1) := by
  have := (by decide +kernel : ∀ r : Fin 16, ∀ k : Fin 4, hasB (r.val : Int) (2 ^ k.val) = decide ((r.val : Int) / 2 ^ k.val % 2 = 1)) ⟨r.toNat, by omega⟩ ⟨k, hk⟩
  simp only [Int.toNat_of_nonneg h0] at this
  exact this
end Go.Proofs.YtmeafjehcckibaaDoor
/- Rights among others; their texts. -/
namespace Go.Proofs.YtmeafjehcckibaaDoor
open Go.ChangeShapes Go.WideShapes Go.ChangeAt Go.RowKit
set_option linter.unusedVariables false
open Plain
theorem has_any (r n : Int) (w : World) : Calls Tryd.prog 37 #[.int .u8 r, .int .u8 n] w (fun e w' => e = .returned (.bool (hasB r n)) ∧ w = w') := by
  go_enter Tryd.func37, Tryd.ntmps37
  go_wp2
  go_ret
  exact ⟨rfl, rfl⟩
theorem has_val (r n : Int) (q : Bool) (h : hasB r n = q) (w : World) : Calls Tryd.prog 37 #[.int .u8 r, .int .u8 n] w (fun e w' => e = .returned (.bool q) ∧ w = w') := by
  subst h
  exact has_any r n w
/-- The string of a row of bytes. -/
theorem run_rgstr {w : World} {B n : Nat} {A : Option Addr} (c : Nat) {zs : List Int} (h : Bs w B A n zs) : (convert 27 9 (.slice A n c)).run Tryd.prog w = .ok (.string (strOfNums zs)) w := by
  cases A with
  | none =>
    have hn : n = 0 := h.lies.2 rfl
    subst hn
    have hz : zs = [] := List.eq_nil_of_length_eq_zero h.len
    subst hz
    exact run_convert_bytes_nil w _ 5 Tryd.underlying27 Tryd.underlying5 _ _ _ Tryd.underlying9
  | some a =>
    rcases Nat.eq_zero_or_pos n with h0 | h0
    · subst h0
      have hz : zs = [] := List.eq_nil_of_length_eq_zero h.len
      subst hz
      rw [run_convert_bytes_string w _ _ 5 _ _ _ Tryd.underlying27 Tryd.underlying5 Tryd.underlying9, run_bytesToString w a 0 c [] (by simp [loadCells, loadCellsFrom])]
      rfl
    · obtain ⟨b, off, e, _, hc⟩ := h.row h0
      rw [e]
      exact run_convert_bytes_arg w _ 5 Tryd.underlying27 Tryd.underlying5 b off n c zs h.len hc _ Tryd.underlying9
theorem ltr_bytes (r : Int) (k : Nat) : IsBytes (ltr r k) := by
  induction k with
  | zero => exact IsBytes.nil
  | succ k ih =>
    simp only [ltr]
    refine ih.app ?_
    split
    · rw [isBytes_iff]
      intro z hz
      obtain rfl := List.mem_singleton.1 hz
      unfold letterZ
      match k with
      | 0 | 1 | 2 | 3 => decide
      | k + 4 => simp
    · exact IsBytes.nil
/-- A row of one byte that has just been made. -/
theorem one_lies (w : World) (z : Int) (t : TypeId) : Lies (w.alloc (.cells #[.int .u8 z] t)) 1 (some ⟨w.heap.size, 0, none⟩) 1 (vals [z]) := by
  refine ⟨rfl, fun ad hA j u hu => ?_⟩
  injection hA with hA; subst hA
  rw [Go.WideShapes.add_plain, cell_of_row _ _ _ _ _ _ (heap_alloc_new w _)]
  simpa [vals] using hu
theorem seq_yes {x y : ByteArray} (h : x = y) : (x.toList == y.toList) = true := by subst h; simp
theorem seq_no {x y : ByteArray} (h : x ≠ y) : (x.toList == y.toList) = false := by
  rw [beq_eq_false_iff_ne, ByteArray.toList_eq, ByteArray.toList_eq]
  exact fun e => h (ByteArray.ext (Array.toList_inj.mp e))
theorem seq_of (x y : ByteArray) (h : x.toList = y.toList) : x = y := by
  rw [ByteArray.toList_eq, ByteArray.toList_eq] at h
  exact ByteArray.ext (Array.toList_inj.mp h)
end Go.Proofs.YtmeafjehcckibaaDoor
/- Grants and lines: as plain values, as rows in memory. -/
namespace Go.Proofs.YtmeafjehcckibaaDoor
open Go.ChangeShapes Go.WideShapes Go.ChangeAt Go.RowKit
set_option linter.unusedVariables false
structure GrantZ where
  r : Int
  x : Int
  s : Int
def gCells (g : GrantZ) : List Value := [.int .u8 g.r, .int .i64 g.x, .int .i64 g.s]
def gAgg (g : GrantZ) : Value := .agg #[.int .u8 g.r, .int .i64 g.x, .int .i64 g.s]
structure GOk (g : GrantZ) : Prop where
  r : 0 ≤ g.r ∧ g.r < 256
  x : -9223372036854775808 ≤ g.x ∧ g.x ≤ 9223372036854775807
  s : -9223372036854775808 ≤ g.s ∧ g.s ≤ 9223372036854775807
/-- The cells of a row of grants. -/
def gv : List GrantZ → List Value
  | [] => []
  | g :: l => .int .u8 g.r :: .int .i64 g.x :: .int .i64 g.s :: gv l
theorem gv_len : ∀ l, (gv l).length = l.length * 3
  | [] => rfl
  | g :: l => by simp only [gv, List.length_cons, gv_len l]; omega
theorem gv_app : ∀ a b, gv (a ++ b) = gv a ++ gv b
  | [], b => rfl
  | g :: a, b => by simp [gv, gv_app a b]
theorem gv_one : ∀ l, ∀ u ∈ gv l, u.oneCell' = true
  | [], u, h => by simp [gv] at h
  | g :: l, u, h => by
    simp only [gv, List.mem_cons] at h
    rcases h with rfl | rfl | rfl | h
    · rfl
    · rfl
    · rfl
    · exact gv_one l u h
theorem gv_at : ∀ (l : List GrantZ) (j : Nat) (g : GrantZ), l[j]? = some g → ∀ i, i < 3 → (gv l)[j * 3 + i]? = (gCells g)[i]?
  | [], j, g, h, i, hi => by simp at h
  | a :: l, 0, g, h, i, hi => by
    obtain rfl : a = g := by simpa using h
    match i, hi with
    | 0, _ => rfl
    | 1, _ => rfl
    | 2, _ => rfl
  | a :: l, j + 1, g, h, i, hi => by
    have := gv_at l j g (by simpa using h) i hi
    have e : (j + 1) * 3 + i = (j * 3 + i) + 1 + 1 + 1 := by omega
    rw [e]
    simpa [gv] using this
/-- The m grants that the slice at A holds; what it reads lies below block B. -/
structure Grants (w : World) (B : Nat) (A : Option Addr) (m : Nat) (l : List GrantZ) : Prop where
  len : l.length = m
  row : 0 < m → ∃ b off, A = some ⟨b, off, none⟩ ∧ b < B ∧ ∀ i u, (gv l)[i]? = some u → w.cell? ⟨b, off + i, none⟩ = some u
  ok : ∀ g, g ∈ l → GOk g
section
variable {w w' : World} {B B' m : Nat} {A : Option Addr} {l : List GrantZ}
theorem Grants.keep (h : Grants w B A m l) (hk : ∀ p : Addr, p.block < B → w'.cell? p = w.cell? p) : Grants w' B A m l :=
  ⟨h.len, fun hn => by
    obtain ⟨b, off, rfl, hb, hc⟩ := h.row hn
    exact ⟨b, off, rfl, hb, fun i u hu => (hk ⟨b, off + i, none⟩ hb).trans (hc i u hu)⟩, h.ok⟩
theorem Grants.below (h : Grants w B A m l) (hb : Below B w w') : Grants w' B A m l := h.keep fun _ hp => hb.cell hp
theorem Grants.belowM (h : Grants w B A m l) (hb : Below B' w w') (hB : B ≤ B') : Grants w' B A m l := h.below (hb.mono hB)
theorem Grants.more (h : Grants w B A m l) (hB : B ≤ B') : Grants w B' A m l :=
  ⟨h.len, fun hn => by
    obtain ⟨b, off, rfl, hb, hc⟩ := h.row hn
    exact ⟨b, off, rfl, by omega, hc⟩, h.ok⟩
theorem Grants.drewN (h : Grants w B A m l) (k : Nat) : Grants (w.drewN k) B A m l := h.keep fun _ _ => rfl
theorem Grants.nil : Grants w B A 0 [] := ⟨rfl, fun h => absurd h (by omega), fun g h => by simp at h⟩
theorem Grants.at_ (h : Grants w B A m l) {k : Nat} (hk : k < m) :
    ∃ b off g, A = some ⟨b, off, none⟩ ∧ b < B ∧ Hid (l[k]? = some g) ∧ GOk g ∧ w.cell? ⟨b, off + k * 3, none⟩ = some (.int .u8 g.r) ∧ w.cell? ⟨b, off + k * 3 + 1, none⟩ = some (.int .i64 g.x) ∧ w.cell? ⟨b, off + k * 3 + 2, none⟩ = some (.int .i64 g.s) := by
  obtain ⟨b, off, rfl, hb, hc⟩ := h.row (by omega)
  have hl := h.len
  have hg : l[k]? = some l[k] := List.getElem?_eq_getElem (by omega)
  have c0 := gv_at l k _ hg 0 (by omega)
  have c1 := gv_at l k _ hg 1 (by omega)
  have c2 := gv_at l k _ hg 2 (by omega)
  exact ⟨b, off, l[k], rfl, hb, hg, h.ok _ (List.getElem_mem ..), hc (k * 3) _ c0, by rw [Nat.add_assoc]; exact hc _ _ c1, by rw [Nat.add_assoc]; exact hc _ _ c2⟩
theorem Grants.lies (h : Grants w B A m l) : Lies w 3 A m (gv l) ∧ Sourced A m := by
  refine ⟨⟨by rw [gv_len, h.len], fun ad hA j u hu => ?_⟩, fun hA => ?_⟩
  · have hj : j < (gv l).length := (List.getElem?_eq_some_iff.1 hu).1
    rw [gv_len, h.len] at hj
    obtain ⟨b, off, e, _, hc⟩ := h.row (by omega)
    rw [hA] at e; injection e with e; subst e
    rw [Go.WideShapes.add_plain]
    exact hc j u hu
  · rcases Nat.eq_zero_or_pos m with h0 | h0
    · exact h0
    · obtain ⟨b, off, e, _⟩ := h.row h0
      rw [hA] at e; cases e
/-- Every row of its own reads as grants. -/
theorem grants_of_own {base c : Nat} {t : TypeId} (h : w.ownsRow base t 3 (.slice A m c) m (gv l)) (hok : ∀ g, g ∈ l → GOk g) : Grants w w.heap.size A m l := by
  have hl : l.length = m := by have := h.1; rw [gv_len] at this; omega
  refine ⟨hl, fun hn => ?_, hok⟩
  obtain ⟨g, cap, hv, _, hlt⟩ := h.form hn
  have hA : A = some ⟨g, 0, none⟩ := by injection hv
  subst hA
  refine ⟨g, 0, rfl, hlt, fun j u hu => ?_⟩
  have := h.cells (g := g) rfl j u hu
  rwa [← Go.WideShapes.add_plain]
end
/-- Whether a grant may be, whether that is a line; what it leaves. -/
def mayB (g : GrantZ) : Bool := decide (g.r ≤ 15) && decide (0 ≤ g.x) && decide (g.x ≤ 1099511627776) && decide (1 ≤ g.s) && decide (g.s ≤ 1099511627776)
def lineB (l : List GrantZ) : Bool := decide (1 ≤ l.length) && decide (l.length ≤ 4) && l.all mayB
def andZ (a b : Int) : Int := ((a.toNat &&& b.toNat : Nat) : Int)
theorem bits_and {a b : Int} (h0 : 0 ≤ a) (h1 : a < 256) (h2 : 0 ≤ b) (h3 : b < 256) : bits .and .u8 a b = andZ a b := by
  have e : ∀ x : Int, 0 ≤ x → x < 256 → (BitVec.ofInt 8 x).toNat = x.toNat := fun x hx hy => by
    rw [BitVec.toNat_ofInt]
    have : x % ((2 ^ 8 : Nat) : Int) = x := Int.emod_eq_of_lt hx (by simpa using hy)
    rw [this]
  show IntKind.u8.wrap ((BitVec.ofInt 8 a &&& BitVec.ofInt 8 b).toNat : Int) = _
  rw [BitVec.toNat_and, e a h0 h1, e b h2 h3]
  have hlt : a.toNat &&& b.toNat < 256 := Nat.lt_of_le_of_lt Nat.and_le_left (by omega)
  unfold andZ
  generalize a.toNat &&& b.toNat = c at *
  show IntKind.u8.wrap (c : Int) = c
  have := IntKind.wrap_u8 (c : Int)
  rw [this]; omega
theorem andZ_le (a b : Int) (h : 0 ≤ a) : 0 ≤ andZ a b ∧ andZ a b ≤ a := by
  unfold andZ
  have := Nat.and_le_left (n := a.toNat) (m := b.toNat)
  omega
def lvR (l : List GrantZ) : Int := l.foldl (fun a g => andZ a g.r) 15
def lvX (l : List GrantZ) : Int := l.foldl (fun a g => min a g.x) 1099511627776
theorem lvR_snoc (l : List GrantZ) (g : GrantZ) : lvR (l ++ [g]) = andZ (lvR l) g.r := by simp [lvR, List.foldl_append]
theorem lvX_snoc (l : List GrantZ) (g : GrantZ) : lvX (l ++ [g]) = min (lvX l) g.x := by simp [lvX, List.foldl_append]
theorem foldR_bound (l : List GrantZ) : ∀ a : Int, 0 ≤ a → a ≤ 15 → 0 ≤ l.foldl (fun a g => andZ a g.r) a ∧ l.foldl (fun a g => andZ a g.r) a ≤ 15 := by
  induction l with
  | nil => intro a h0 h1; exact ⟨h0, h1⟩
  | cons g l ih =>
    intro a h0 h1
    have := andZ_le a g.r h0
    exact ih (andZ a g.r) (by omega) (by omega)
theorem lvR_bound (l : List GrantZ) : 0 ≤ lvR l ∧ lvR l ≤ 15 := foldR_bound l 15 (by omega) (by omega)
theorem take_snocG (l : List GrantZ) (k : Nat) (g : GrantZ) (h : l[k]? = some g) : l.take (k + 1) = l.take k ++ [g] := by
  rw [List.take_add_one, h]; rfl
end Go.Proofs.YtmeafjehcckibaaDoor
/- Which grants and lines may be; what a line leaves; its serials. -/
namespace Go.Proofs.YtmeafjehcckibaaDoor
open Go.ChangeShapes Go.WideShapes Go.ChangeAt Go.RowKit
set_option linter.unusedVariables false
open Plain
set_option maxHeartbeats 1000000 in
theorem may_any (g : GrantZ) (w : World) : Calls Tryd.prog 32 #[gAgg g] w (fun e w' => e = .returned (.bool (mayB g)) ∧ Below w.heap.size w w') := by
  obtain ⟨r, x, s⟩ := g
  show Calls Tryd.prog 32 #[.agg #[.int .u8 r, .int .i64 x, .int .i64 s]] w _
  by_cases h1 : r ≤ 15
  · by_cases h2 : 0 ≤ x
    · by_cases h3 : x ≤ 1099511627776
      · by_cases h4 : 1 ≤ s
        · by_cases h5 : s ≤ 1099511627776
          · have HM : Hid (mayB ⟨r, x, s⟩ = true) := Lib.hid (by simp [mayB, *])
            go_enter Tryd.func32, Tryd.ntmps32
            go_wp2
            go_ret
            rw [HM.out]
            exact ⟨rfl, (Below.refl _ _).alloc (Nat.le_refl _) _⟩
          · have HM : Hid (mayB ⟨r, x, s⟩ = false) := Lib.hid (by simp [mayB]; omega)
            go_enter Tryd.func32, Tryd.ntmps32
            go_wp2
            go_ret
            rw [HM.out]
            exact ⟨rfl, (Below.refl _ _).alloc (Nat.le_refl _) _⟩
        · have HM : Hid (mayB ⟨r, x, s⟩ = false) := Lib.hid (by simp [mayB]; omega)
          go_enter Tryd.func32, Tryd.ntmps32
          go_wp2
          go_ret
          rw [HM.out]
          exact ⟨rfl, (Below.refl _ _).alloc (Nat.le_refl _) _⟩
      · have HM : Hid (mayB ⟨r, x, s⟩ = false) := Lib.hid (by simp [mayB]; omega)
        go_enter Tryd.func32, Tryd.ntmps32
        go_wp2
        go_ret
        rw [HM.out]
        exact ⟨rfl, (Below.refl _ _).alloc (Nat.le_refl _) _⟩
    · have HM : Hid (mayB ⟨r, x, s⟩ = false) := Lib.hid (by simp [mayB]; omega)
      go_enter Tryd.func32, Tryd.ntmps32
      go_wp2
      go_ret
      rw [HM.out]
      exact ⟨rfl, (Below.refl _ _).alloc (Nat.le_refl _) _⟩
  · have HM : Hid (mayB ⟨r, x, s⟩ = false) := Lib.hid (by simp [mayB]; omega)
    go_enter Tryd.func32, Tryd.ntmps32
    go_wp2
    go_ret
    rw [HM.out]
    exact ⟨rfl, (Below.refl _ _).alloc (Nat.le_refl _) _⟩
theorem may_val (g : GrantZ) (q : Bool) (h : mayB g = q) (w : World) : Calls Tryd.prog 32 #[.agg #[.int .u8 g.r, .int .i64 g.x, .int .i64 g.s]] w (fun e w' => e = .returned (.bool q) ∧ Below w.heap.size w w') := by
  subst h
  exact may_any g w
theorem all_snoc {l : List GrantZ} {k : Nat} {g : GrantZ} (h : l[k]? = some g) (hp : (l.take k).all mayB = true) : (l.take (k + 1)).all mayB = mayB g := by
  rw [take_snocG l k g h, List.all_append, hp]; simp
theorem all_no {l : List GrantZ} {k : Nat} {g : GrantZ} (h : l[k]? = some g) (hg : mayB g = false) : l.all mayB = false := by
  rw [List.all_eq_false]
  exact ⟨g, List.mem_of_getElem? h, by simp [hg]⟩
set_option maxHeartbeats 1000000 in
theorem line_any {w : World} {B m : Nat} {A : Option Addr} {l : List GrantZ} (c : Nat) (h : Grants w B A m l) (hB : B ≤ w.heap.size) (hm : m ≤ maxLen) : Calls Tryd.prog 28 #[.slice A m c] w (fun e w' => e = .returned (.bool (lineB l)) ∧ Below w.heap.size w w') := by
  unfold maxLen at hm
  have hl := h.len
  by_cases h1 : m < 1
  · have HT : Hid (lineB l = false) := Lib.hid (by simp [lineB, hl]; omega)
    have hI : (m : Int) < 1 := by omega
    clear hl h
    go_enter Tryd.func28, Tryd.ntmps28
    go_wp2
    go_ret
    rw [HT.out]
    exact ⟨rfl, Below.refl _ _⟩
  by_cases h2 : 4 < m
  · have HT : Hid (lineB l = false) := Lib.hid (by simp [lineB, hl]; omega)
    have hI : ¬ (m : Int) < 1 := by omega
    have hI2 : 4 < (m : Int) := by omega
    clear hl h
    go_enter Tryd.func28, Tryd.ntmps28
    go_wp2
    go_ret
    rw [HT.out]
    exact ⟨rfl, Below.refl _ _⟩
  have HL := Lib.hid hl
  have HG := Lib.hid h
  have HB := Lib.hid hB
  have hI : ¬ (m : Int) < 1 := by omega
  have hI2 : ¬ 4 < (m : Int) := by omega
  clear hl h hB
  go_enter Tryd.func28, Tryd.ntmps28
  go_wp2
  go_loopw [14] (fun i wr => ∃ k : Nat, k ≤ m ∧ i = .int .i64 k ∧ Hid ((l.take k).all mayB = true) ∧ Hid (Below w.heap.size w wr)) (fun i _ => m - (intOf i).toNat)
  case atStart => exact ⟨0, by omega, rfl, by rfl, Below.refl _ _⟩
  case round =>
    obtain ⟨k, hk, rfl, HA, HW⟩ := hrel
    by_cases hlt : k < m
    · have hltI : (k : Int) < (m : Int) := by omega
      obtain ⟨b, off, g, rfl, hb, HK, _, c0, c1, c2⟩ := (HG.out.belowM HW.out HB.out).at_ hlt
      have hbl : b < w.heap.size := by have := HB.out; omega
      obtain ⟨q, hq⟩ : ∃ q, mayB g = q := ⟨_, rfl⟩
      have HQ := Lib.hid hq
      clear hq
      cases q
      · have HT : Hid (lineB l = false) := Lib.hid (by simp [lineB, all_no HK.out HQ.out])
        go_wp2_with (go_at_call 32; refine (may_val g _ HQ.out _).mono ?_; rintro e w' ⟨rfl, hb2⟩)
        go_ret
        rw [HT.out]
        exact ⟨rfl, HW.out.trans (hb2.mono HW.out.size)⟩
      · have HT : Hid ((l.take (k + 1)).all mayB = true) := Lib.hid ((all_snoc HK.out HA.out).trans HQ.out)
        go_wp2_with (go_at_call 32; refine (may_val g _ HQ.out _).mono ?_; rintro e w' ⟨rfl, hb2⟩)
        go_roundw
        case rel => exact ⟨k + 1, by omega, by go_num, HT, HW.out.trans (hb2.mono HW.out.size)⟩
        case measure => simp [intOf]; omega
    · have hkm : k = m := by omega
      have HT : Hid (lineB l = true) := Lib.hid (by
        have := HA.out
        rw [hkm, ← HL.out, List.take_length] at this
        simp only [lineB, this, HL.out]
        simp; omega)
      clear hkm
      go_wp2
      go_ret
      rw [HT.out]
      exact ⟨rfl, HW.out⟩
end Go.Proofs.YtmeafjehcckibaaDoor
/- What a line leaves; its serials; which line leaves no more than another one. -/
namespace Go.Proofs.YtmeafjehcckibaaDoor
open Go.ChangeShapes Go.WideShapes Go.ChangeAt Go.RowKit
set_option linter.unusedVariables false
open Plain
def leR (l : List GrantZ) : Int := if lineB l then lvR l else 0
def leX (l : List GrantZ) : Int := if lineB l then lvX l else 0
def leE (l : List GrantZ) : Int := if lineB l then 0 else 2
theorem line_val {w : World} {B m : Nat} {A : Option Addr} {l : List GrantZ} (c : Nat) (q : Bool) (h : Grants w B A m l) (hB : B ≤ w.heap.size) (hm : m ≤ maxLen) (hq : lineB l = q) : Calls Tryd.prog 28 #[.slice A m c] w (fun e w' => e = .returned (.bool q) ∧ Below w.heap.size w w') := by
  subst hq
  exact line_any c h hB hm
set_option maxHeartbeats 1000000 in
theorem leaves_any {w : World} {B m : Nat} {A : Option Addr} {l : List GrantZ} (c : Nat) (h : Grants w B A m l) (hB : B ≤ w.heap.size) (hm : m ≤ maxLen) : Calls Tryd.prog 36 #[.slice A m c] w (fun e w' => e = .returned (.tuple #[.int .u8 (leR l), .int .i64 (leX l), .int .i64 (leE l)]) ∧ Below w.heap.size w w') := by
  have HM := Lib.hid hm
  unfold maxLen at hm
  obtain ⟨q, hq⟩ : ∃ q, lineB l = q := ⟨_, rfl⟩
  have HQ := Lib.hid hq
  have HG := Lib.hid h
  have HB := Lib.hid hB
  clear hq h hB
  cases q
  · have H1 : Hid (leR l = 0) := Lib.hid (by simp [leR, HQ.out])
    have H2 : Hid (leX l = 0) := Lib.hid (by simp [leX, HQ.out])
    have H3 : Hid (leE l = 2) := Lib.hid (by simp [leE, HQ.out])
    go_enter Tryd.func36, Tryd.ntmps36
    go_wp2_with (go_at_call 28; refine (line_val c _ HG.out HB.out HM.out HQ.out).mono ?_; rintro e w' ⟨rfl, hb2⟩)
    go_ret3
    rw [H1.out, H2.out, H3.out]
    exact ⟨rfl, hb2⟩
  · have H1 : Hid (leR l = lvR l) := Lib.hid (by simp [leR, HQ.out])
    have H2 : Hid (leX l = lvX l) := Lib.hid (by simp [leX, HQ.out])
    have H3 : Hid (leE l = 0) := Lib.hid (by simp [leE, HQ.out])
    go_enter Tryd.func36, Tryd.ntmps36
    go_wp2_with (go_at_call 28; refine (line_val c _ HG.out HB.out HM.out HQ.out).mono ?_; rintro e w1 ⟨rfl, hb2⟩)
    have HW := Lib.hid hb2
    clear hb2
    go_loopw [2, 3, 11] (fun r x i wr => ∃ k : Nat, k ≤ m ∧ i = .int .i64 k ∧ wr = w1 ∧ ∃ R X : Int, Hid (lvR (l.take k) = R) ∧ Hid (lvX (l.take k) = X) ∧ r = .int .u8 R ∧ x = .int .i64 X) (fun _ _ i _ => m - (intOf i).toNat)
    case atStart => exact ⟨0, by omega, rfl, rfl, _, _, rfl, rfl, rfl, rfl⟩
    case round =>
      obtain ⟨k, hk, rfl, rfl, R, X, HR, HX, rfl, rfl⟩ := hrel
      by_cases hlt : k < m
      · have hltI : (k : Int) < (m : Int) := by omega
        obtain ⟨b, off, g, rfl, hb, HK, hgo, c0, c1, c2⟩ := (HG.out.belowM HW.out HB.out).at_ hlt
        have HR2 : Hid (lvR (l.take (k + 1)) = bits .and .u8 R g.r) := Lib.hid (by
          have := lvR_bound (l.take k)
          rw [HR.out] at this
          rw [take_snocG l k g HK.out, lvR_snoc, HR.out, bits_and this.1 (by omega) hgo.r.1 hgo.r.2])
        have HX2 : Hid (lvX (l.take (k + 1)) = min X g.x) := Lib.hid (by rw [take_snocG l k g HK.out, lvX_snoc, HX.out])
        clear hgo
        go_wp2
        go_roundw
        case rel => exact ⟨k + 1, by omega, by go_num, by trivial, _, _, HR2, HX2, rfl, rfl⟩
        case measure => simp [intOf]; omega
      · have hkm : k = m := by omega
        have HT : Hid (R = lvR l ∧ X = lvX l) := Lib.hid (by
          have hl := HG.out.len
          rw [← HR.out, ← HX.out, hkm, ← hl, List.take_length]; exact ⟨rfl, rfl⟩)
        clear hkm
        go_wp2
        go_ret3
        rw [H1.out, H2.out, H3.out, HT.out.1, HT.out.2]
        exact ⟨rfl, HW.out⟩
/-- Numbers as values; the n numbers that the slice at A holds. -/
def ivs (zs : List Int) : List Value := zs.map (Value.int .i64)
theorem ivs_len (zs : List Int) : (ivs zs).length = zs.length := by simp [ivs]
structure Ir (w : World) (B : Nat) (A : Option Addr) (n : Nat) (zs : List Int) : Prop where
  len : zs.length = n
  row : 0 < n → ∃ b off, A = some ⟨b, off, none⟩ ∧ b < B ∧ ∀ j, j < n → w.cell? ⟨b, off + j, none⟩ = some (.int .i64 (zs.getD j 0))
theorem Ir.below {w w' : World} {B B' n : Nat} {A : Option Addr} {zs : List Int} (h : Ir w B A n zs) (hb : Below B' w w') (hB : B ≤ B') : Ir w' B A n zs :=
  ⟨h.len, fun hn => by
    obtain ⟨b, off, rfl, hlt, hc⟩ := h.row hn
    exact ⟨b, off, rfl, hlt, fun j hj => (hb.cell (p := ⟨b, off + j, none⟩) (by show b < B'; omega)).trans (hc j hj)⟩⟩
theorem Ir.at_ {w : World} {B n : Nat} {A : Option Addr} {zs : List Int} (h : Ir w B A n zs) {k : Nat} (hk : k < n) : ∃ b off, A = some ⟨b, off, none⟩ ∧ b < B ∧ w.cell? ⟨b, off + k, none⟩ = some (.int .i64 (zs.getD k 0)) := by
  obtain ⟨b, off, rfl, hb, hc⟩ := h.row (by omega)
  exact ⟨b, off, rfl, hb, hc k hk⟩
def sv (l : List GrantZ) : List Int := l.map (·.s)
theorem sv_len (l : List GrantZ) : (sv l).length = l.length := by simp [sv]
theorem sv_at {l : List GrantZ} {k : Nat} {g : GrantZ} (h : l[k]? = some g) : (sv l).getD k 0 = g.s := by
  simp [sv, List.getD_eq_getElem?_getD, List.getElem?_map, h]
theorem ivs_set (l : List Int) (k : Nat) (x : Int) : (ivs l).toArray.setIfInBounds k (.int .i64 x) = (ivs (l.set k x)).toArray := by
  simp [ivs, List.map_set]
theorem ivs_made (n : Nat) : madeCells #[Value.int .i64 0] n = (ivs (List.replicate n 0)).toArray := by
  unfold madeCells ivs
  apply Array.ext
  · simp
  · intro i h1 h2
    simp [Nat.mod_one]
theorem ivs_at (l : List Int) (k : Nat) (h : k < l.length) : (ivs l)[k]? = some (.int .i64 (l.getD k 0)) := by
  simp [ivs, List.getElem?_map, List.getD_eq_getElem?_getD, List.getElem?_eq_getElem h]
theorem i64_row : (Tryd.prog.info? 3).map (fun i => (i.zero, i.size, i.bytes)) = some (some (.int .i64 0), 1, 8) := by kernel_rfl
theorem make_i64 (n : Nat) (hn : n ≤ 4096) (w : World) : (Instr.makeSlice 46 (.int .i64 (n : Int)) (.int .i64 (n : Int))).run Tryd.prog w = .ok (.slice (some ⟨w.heap.size, 0, none⟩) n n) (w.alloc (.cells (madeCells #[.int .i64 0] n) 3)) :=
  run_make_row' (P := Tryd.prog) 46 3 (.int .i64 0) 8 Tryd.underlying46 i64_row rfl .i64 .i64 n (by omega) (by omega) w
/-- The serials of a row of grants, as they are handed back. -/
def Sers (w : World) (l : List GrantZ) (m : Nat) (e : Ending) (w' : World) : Prop :=
  ∃ A c, e = .returned (.slice A m c) ∧ Below w.heap.size w w' ∧ Ir w' w'.heap.size A m (sv l)
end Go.Proofs.YtmeafjehcckibaaDoor
/- Which line leaves no more than another one. -/
namespace Go.Proofs.YtmeafjehcckibaaDoor
open Go.ChangeShapes Go.WideShapes Go.ChangeAt Go.RowKit
set_option linter.unusedVariables false
open Plain
def withinB (a b : List GrantZ) : Bool := lineB a && lineB b && hasB (lvR b) (lvR a) && decide (lvX a ≤ lvX b)
theorem leaves_val {w : World} {B m : Nat} {A : Option Addr} {l : List GrantZ} (c : Nat) (R X E : Int) (h : Grants w B A m l) (hB : B ≤ w.heap.size) (hm : m ≤ maxLen) (hR : leR l = R) (hX : leX l = X) (hE : leE l = E) : Calls Tryd.prog 36 #[.slice A m c] w (fun e w' => e = .returned (.tuple #[.int .u8 R, .int .i64 X, .int .i64 E]) ∧ Below w.heap.size w w') := by
  subst hR hX hE
  exact leaves_any c h hB hm
theorem le_no {l : List GrantZ} (h : lineB l = false) : leR l = 0 ∧ leX l = 0 ∧ leE l = 2 := by simp [leR, leX, leE, h]
theorem le_yes {l : List GrantZ} (h : lineB l = true) : leR l = lvR l ∧ leX l = lvX l ∧ leE l = 0 := by simp [leR, leX, leE, h]
end Go.Proofs.YtmeafjehcckibaaDoor
/- The chapter's examples. -/
namespace Go.Proofs.YtmeafjehcckibaaDoor
open Go.ChangeShapes Go.WideShapes Go.ChangeAt Go.RowKit
set_option linter.unusedVariables false
open Plain
/-- A row of grants that has just been made. -/
theorem grants_new (w : World) (l : List GrantZ) (t : TypeId) (g : Nat) (hg : w.heap.size = g) (hok : ∀ g, g ∈ l → GOk g) : Grants (w.alloc (.cells (gv l).toArray t)) (g + 1) (some ⟨g, 0, none⟩) l.length l := by
  subst hg
  refine ⟨rfl, fun hn => ⟨w.heap.size, 0, rfl, by omega, fun i u hu => ?_⟩, hok⟩
  rw [cell_of_row _ _ _ _ _ _ (heap_alloc_new w _), Nat.zero_add, List.getElem?_toArray, hu]
def exG : List GrantZ := [⟨7, 50, 1⟩, ⟨5, 90, 2⟩]
def exH : List GrantZ := [⟨16, 1, 1⟩]
theorem exG_ok : ∀ g, g ∈ exG → GOk g := by
  intro g hg
  simp only [exG, List.mem_cons, List.not_mem_nil, or_false] at hg
  rcases hg with rfl | rfl <;> exact ⟨by decide, by decide, by decide⟩
theorem exH_ok : ∀ g, g ∈ exH → GOk g := by
  intro g hg
  simp only [exH, List.mem_cons, List.not_mem_nil, or_false] at hg
  subst hg; exact ⟨by decide, by decide, by decide⟩
end Go.Proofs.YtmeafjehcckibaaDoor
/- The document's own grants and lines. -/
namespace Go.Proofs.YtmeafjehcckibaaDoor
open Go.ChangeShapes Go.WideShapes Go.ChangeAt Go.RowKit
set_option linter.unusedVariables false
open Plain
set_option maxHeartbeats 1000000 in
theorem refmay_any (g : GrantZ) (w : World) : Calls Tryd.prog 38 #[gAgg g] w (fun e w' => e = .returned (.bool (mayB g)) ∧ Below w.heap.size w w') := by
  obtain ⟨r, x, s⟩ := g
  show Calls Tryd.prog 38 #[.agg #[.int .u8 r, .int .i64 x, .int .i64 s]] w _
  by_cases h1 : r < 16
  · by_cases h2 : 0 ≤ x
    · by_cases h3 : x ≤ 1099511627776
      · by_cases h4 : 0 < s
        · by_cases h5 : s ≤ 1099511627776
          · have HM : Hid (mayB ⟨r, x, s⟩ = true) := Lib.hid (by simp [mayB]; omega)
            go_enter Tryd.func38, Tryd.ntmps38
            go_wp2
            go_ret
            rw [HM.out]
            exact ⟨rfl, (Below.refl _ _).alloc (Nat.le_refl _) _⟩
          · have HM : Hid (mayB ⟨r, x, s⟩ = false) := Lib.hid (by simp [mayB]; omega)
            go_enter Tryd.func38, Tryd.ntmps38
            go_wp2
            go_ret
            rw [HM.out]
            exact ⟨rfl, (Below.refl _ _).alloc (Nat.le_refl _) _⟩
        · have HM : Hid (mayB ⟨r, x, s⟩ = false) := Lib.hid (by simp [mayB]; omega)
          go_enter Tryd.func38, Tryd.ntmps38
          go_wp2
          go_ret
          rw [HM.out]
          exact ⟨rfl, (Below.refl _ _).alloc (Nat.le_refl _) _⟩
      · have HM : Hid (mayB ⟨r, x, s⟩ = false) := Lib.hid (by simp [mayB]; omega)
        go_enter Tryd.func38, Tryd.ntmps38
        go_wp2
        go_ret
        rw [HM.out]
        exact ⟨rfl, (Below.refl _ _).alloc (Nat.le_refl _) _⟩
    · have HM : Hid (mayB ⟨r, x, s⟩ = false) := Lib.hid (by simp [mayB]; omega)
      go_enter Tryd.func38, Tryd.ntmps38
      go_wp2
      go_ret
      rw [HM.out]
      exact ⟨rfl, (Below.refl _ _).alloc (Nat.le_refl _) _⟩
  · have HM : Hid (mayB ⟨r, x, s⟩ = false) := Lib.hid (by simp [mayB]; omega)
    go_enter Tryd.func38, Tryd.ntmps38
    go_wp2
    go_ret
    rw [HM.out]
    exact ⟨rfl, (Below.refl _ _).alloc (Nat.le_refl _) _⟩
theorem refmay_val (g : GrantZ) (q : Bool) (h : mayB g = q) (w : World) : Calls Tryd.prog 38 #[.agg #[.int .u8 g.r, .int .i64 g.x, .int .i64 g.s]] w (fun e w' => e = .returned (.bool q) ∧ Below w.heap.size w w') := by
  subst h
  exact refmay_any g w
set_option maxHeartbeats 1000000 in
theorem refline_any {w : World} {B m : Nat} {A : Option Addr} {l : List GrantZ} (c : Nat) (h : Grants w B A m l) (hB : B ≤ w.heap.size) (hm : m ≤ maxLen) : Calls Tryd.prog 27 #[.slice A m c] w (fun e w' => e = .returned (.bool (lineB l)) ∧ Below w.heap.size w w') := by
  unfold maxLen at hm
  have HL := Lib.hid h.len
  have HG := Lib.hid h
  have HB := Lib.hid hB
  clear h hB
  go_enter Tryd.func27, Tryd.ntmps27
  go_wp2
  go_loopw [3] (fun i wr => ∃ k : Nat, k ≤ m ∧ k ≤ 4 ∧ i = .int .i64 k ∧ Hid ((l.take k).all mayB = true) ∧ Hid (Below w.heap.size w wr)) (fun i _ => m - (intOf i).toNat)
  case atStart => exact ⟨0, by omega, by omega, rfl, by rfl, Below.refl _ _⟩
  case round =>
    obtain ⟨k, hk, hk4, rfl, HA, HW⟩ := hrel
    by_cases hlt : k < m
    · have hltI : (k : Int) < (m : Int) := by omega
      by_cases h4 : 3 < k
      · have h4I : 3 < (k : Int) := by omega
        have HT : Hid (lineB l = false) := Lib.hid (by simp [lineB, HL.out]; omega)
        go_wp2
        go_ret
        rw [HT.out]
        exact ⟨rfl, HW.out⟩
      · have h4I : ¬ 3 < (k : Int) := by omega
        obtain ⟨b, off, g, rfl, hb, HK, _, c0, c1, c2⟩ := (HG.out.belowM HW.out HB.out).at_ hlt
        have hbl : b < w.heap.size := by have := HB.out; omega
        obtain ⟨q, hq⟩ : ∃ q, mayB g = q := ⟨_, rfl⟩
        have HQ := Lib.hid hq
        clear hq
        cases q
        · have HT : Hid (lineB l = false) := Lib.hid (by simp [lineB, all_no HK.out HQ.out])
          go_wp2_with (go_at_call 38; refine (refmay_val g _ HQ.out _).mono ?_; rintro e w' ⟨rfl, hb2⟩)
          go_ret
          rw [HT.out]
          exact ⟨rfl, HW.out.trans (hb2.mono HW.out.size)⟩
        · have HT : Hid ((l.take (k + 1)).all mayB = true) := Lib.hid ((all_snoc HK.out HA.out).trans HQ.out)
          go_wp2_with (go_at_call 38; refine (refmay_val g _ HQ.out _).mono ?_; rintro e w' ⟨rfl, hb2⟩)
          go_roundw
          case rel => exact ⟨k + 1, by omega, by omega, by go_num, HT, HW.out.trans (hb2.mono HW.out.size)⟩
          case measure => simp [intOf]; omega
    · have hkm : k = m := by omega
      have HT : Hid (lineB l = decide (0 < m)) := Lib.hid (by
        have := HA.out
        rw [hkm, ← HL.out, List.take_length] at this
        have h4' : m ≤ 4 := by omega
        simp only [lineB, this, HL.out, Bool.and_true]
        rw [decide_eq_true h4', Bool.and_true]
        rfl)
      have HK := Lib.hid hkm
      clear hkm
      go_wp2
      go_ret
      rw [HT.out]
      refine ⟨?_, HW.out⟩
      congr 2
theorem refline_val {w : World} {B m : Nat} {A : Option Addr} {l : List GrantZ} (c : Nat) (q : Bool) (h : Grants w B A m l) (hB : B ≤ w.heap.size) (hm : m ≤ maxLen) (hq : lineB l = q) : Calls Tryd.prog 27 #[.slice A m c] w (fun e w' => e = .returned (.bool q) ∧ Below w.heap.size w w') := by
  subst hq
  exact refline_any c h hB hm
/-- What the document's answer says a line leaves: of no grants nothing. -/
def rfR : List GrantZ → Int
  | [] => 0
  | g :: l => l.foldl (fun a g => andZ a g.r) g.r
def rfX : List GrantZ → Int
  | [] => 0
  | g :: l => l.foldl (fun a g => min a g.x) g.x
theorem rfR_snoc (l : List GrantZ) (g : GrantZ) (h : 0 < l.length) : rfR (l ++ [g]) = andZ (rfR l) g.r := by
  cases l with
  | nil => simp at h
  | cons a l => simp [rfR, List.foldl_append]
theorem rfX_snoc (l : List GrantZ) (g : GrantZ) (h : 0 < l.length) : rfX (l ++ [g]) = min (rfX l) g.x := by
  cases l with
  | nil => simp at h
  | cons a l => simp [rfX, List.foldl_append]
theorem foldR_byte (l : List GrantZ) : ∀ a : Int, 0 ≤ a → a < 256 → 0 ≤ l.foldl (fun a g => andZ a g.r) a ∧ l.foldl (fun a g => andZ a g.r) a < 256 := by
  induction l with
  | nil => intro a h0 h1; exact ⟨h0, h1⟩
  | cons g l ih =>
    intro a h0 h1
    have := andZ_le a g.r h0
    exact ih (andZ a g.r) (by omega) (by omega)
theorem rfR_byte {l : List GrantZ} (h : ∀ g, g ∈ l → GOk g) : 0 ≤ rfR l ∧ rfR l < 256 := by
  cases l with
  | nil => simp [rfR]
  | cons g l => exact foldR_byte l g.r (h g (by simp)).r.1 (h g (by simp)).r.2
theorem may_r {g : GrantZ} (h : mayB g = true) : g.r ≤ 15 ∧ 0 ≤ g.x ∧ g.x ≤ 1099511627776 := by
  simp [mayB] at h
  omega
theorem and15 (a : Int) (h0 : 0 ≤ a) (h1 : a ≤ 15) : andZ 15 a = a := by
  have := (by decide +kernel : ∀ a : Fin 16, andZ 15 (a.val : Int) = (a.val : Int)) ⟨a.toNat, by omega⟩
  simp only [Int.toNat_of_nonneg h0] at this
  exact this
/-- Of a line both say the same. -/
theorem rf_line {l : List GrantZ} (hl : lineB l = true) (h : ∀ g, g ∈ l → GOk g) : rfR l = lvR l ∧ rfX l = lvX l := by
  cases l with
  | nil => simp [lineB] at hl
  | cons g l =>
    have hm : mayB g = true := by simp [lineB] at hl; exact hl.2.1
    have := may_r hm
    have h0 := (h g (by simp)).r.1
    have e1 := and15 g.r h0 this.1
    have e2 : min (1099511627776 : Int) g.x = g.x := by omega
    simp [rfR, rfX, lvR, lvX, e1, e2]
theorem take_pos {l : List GrantZ} {m k : Nat} (hl : l.length = m) (h0 : 0 < k) (hk : k < m) : 0 < (l.take k).length := by rw [List.length_take]; omega
end Go.Proofs.YtmeafjehcckibaaDoor
/- Grants that came in. -/
namespace Go.Proofs.YtmeafjehcckibaaDoor
open Go.ChangeShapes Go.WideShapes Go.ChangeAt Go.RowKit Go.Deep
set_option linter.unusedVariables false
set_option maxRecDepth 100000
section
variable {H : Type} {enc : TypeId × Value → H} {W : World} {base : Nat} {sp : Nat → Bool} {held : Bool}
theorem grant_cells : Tryd.prog.cellsOf 44 = 3 := by kernel_rfl
theorem wf_u8' {n : Int} (h : (Lit.int .u8 n).wf = true) : 0 ≤ n ∧ n < 256 := by
  have := bounds_u8 h
  omega
theorem wf_i64' {n : Int} (h : (Lit.int .i64 n).wf = true) : -9223372036854775808 ≤ n ∧ n ≤ 9223372036854775807 := bounds_i64 h
/-- One grant, by its cells. -/
theorem open_grant {fuel : Nat} {cs : List Value} {x : DataW H × List MemPlace} (hf : DataW.trod enc Tryd.prog W base (fun _ => true) held fuel 44 cs = some x) :
    ∃ g : GrantZ, cs = gCells g ∧ GOk g := by
  obtain ⟨xs, m, _, hx, hlen, hn, hel⟩ := DataW.trod_struct Tryd.underlying44 hf
  rw [grant_cells] at hlen
  have ci : Tryd.prog.cellsOf 3 = 1 := by kernel_rfl
  have c5 : Tryd.prog.cellsOf 5 = 1 := by kernel_rfl
  obtain ⟨c0, c1, c2, rfl⟩ : ∃ c0 c1 c2, cs = [c0, c1, c2] := by
    match cs, hlen with
    | [c0, c1, c2], _ => exact ⟨c0, c1, c2, rfl⟩
  have hn3 : xs.length = 3 := hn
  have g0 : DataW.trod enc Tryd.prog W base (fun _ => true) held m 5 ((([c0, c1, c2] : List Value).drop 0).take (Tryd.prog.cellsOf 5)) = xs[0]? := hel 0 _ rfl
  rw [c5] at g0
  have g1 : DataW.trod enc Tryd.prog W base (fun _ => true) held m 3 ((([c0, c1, c2] : List Value).drop 1).take (Tryd.prog.cellsOf 3)) = xs[1]? := hel 1 _ rfl
  rw [ci] at g1
  have g2 : DataW.trod enc Tryd.prog W base (fun _ => true) held m 3 ((([c0, c1, c2] : List Value).drop 2).take (Tryd.prog.cellsOf 3)) = xs[2]? := hel 2 _ rfl
  rw [ci] at g2
  match xs, hn3 with
  | [y0, y1, y2], _ =>
    obtain ⟨k0, e0, _, w0⟩ := DataW.trod_int Tryd.underlying5 g0
    obtain rfl : c0 = .int .u8 k0 := by simpa using e0
    obtain ⟨k1, e1, _, w1⟩ := DataW.trod_int Tryd.underlying3 g1
    obtain rfl : c1 = .int .i64 k1 := by simpa using e1
    obtain ⟨k2, e2, _, w2⟩ := DataW.trod_int Tryd.underlying3 g2
    obtain rfl : c2 = .int .i64 k2 := by simpa using e2
    exact ⟨⟨k0, k1, k2⟩, rfl, ⟨wf_u8' w0, wf_i64' w1, wf_i64' w2⟩⟩
/-- Grants that came in. -/
theorem open_grants {fuel : Nat} {x : DataW H × List MemPlace} {a0 : Option Addr} {len0 cap0 : Nat} (hf : DataW.trod enc Tryd.prog W base (fun _ => true) held fuel 22 [.slice a0 len0 cap0] = some x) :
    ∃ l, Grants W W.heap.size a0 len0 l ∧ len0 ≤ cap0 ∧ cap0 ≤ maxLen := by
  have inh : Inhabited GrantZ := ⟨⟨0, 0, 0⟩⟩
  rcases open_slice Tryd.underlying22 hf with ⟨hcs, _⟩ | ⟨a, len, cap, m, n, D, Pl, hcs, hb, hl, hm, hmm, hx, hall⟩
  · simp only [List.cons.injEq, and_true] at hcs
    injection hcs with e1 e2 e3
    subst e1 e2 e3
    exact ⟨[], Grants.nil, Nat.le_refl _, by simp [maxLen]⟩
  · simp only [List.cons.injEq, and_true] at hcs
    injection hcs with e1 e2 e3
    subst e1 e2 e3
    simp only [if_true] at hmm
    subst hmm
    have each : ∀ i, i < len0 → ∃ f : GrantZ, W.cells? base (a.add (i * 3)) 3 = some (gCells f) ∧ GOk f := by
      intro i hi
      obtain ⟨cs', h1, h2⟩ := hall i (by omega)
      rw [grant_cells] at h1
      obtain ⟨f, rfl, hok⟩ := open_grant h2
      exact ⟨f, h1, hok⟩
    obtain ⟨F, hF⟩ := choose_lt each
    have hgl : ∀ j, j < len0 → ((List.range len0).map F)[j]? = some (F j) := fun j hj => by simp [List.getElem?_map, List.getElem?_range hj]
    refine ⟨(List.range len0).map F, ⟨by simp, fun h0 => ?_, fun g hg => ?_⟩, hl, hm⟩
    · have hcell : ∀ j, j < len0 → ∀ i, i < 3 → W.cell? (a.add (j * 3 + i)) = (gCells (F j))[i]? := by
        intro j hj i hi
        have := (World.cells?_some (hF j hj).1).2.2 i hi
        rwa [add_add] at this
      obtain ⟨b, off, spot⟩ := a
      have h00 : W.cell? ((⟨b, off, spot⟩ : Addr).add (0 * 3 + 0)) = some (.int .u8 (F 0).r) := hcell 0 h0 0 (by omega)
      have hs : spot = none := by
        simpa [Addr.add] using World.cell?_spot h00
      subst hs
      refine ⟨b, off, rfl, ?_, fun i u hu => ?_⟩
      · rw [Go.WideShapes.add_plain] at h00
        exact World.block_lt_of_cell? _ _ h00
      · have hi := (List.getElem?_eq_some_iff.1 hu).1
        rw [gv_len] at hi
        simp only [List.length_map, List.length_range] at hi
        have hj : i / 3 < len0 := by omega
        have hr : i % 3 < 3 := Nat.mod_lt _ (by omega)
        have e : i / 3 * 3 + i % 3 = i := by omega
        have h1 := hcell (i / 3) hj (i % 3) hr
        rw [Go.WideShapes.add_plain, e, ← gv_at _ _ _ (hgl _ hj) _ hr, e, hu] at h1
        exact h1
    · obtain ⟨j, hj, rfl⟩ := List.mem_map.1 hg
      exact (hF j (List.mem_range.1 hj)).2
end
end Go.Proofs.YtmeafjehcckibaaDoor
/- A row of grants that is put together anew. -/
namespace Go.Proofs.YtmeafjehcckibaaDoor
open Go.ChangeShapes Go.WideShapes Go.ChangeAt Go.RowKit
set_option linter.unusedVariables false
theorem grant_info : ∃ i z, Tryd.prog.info? 44 = some i ∧ i.zero = some z ∧ i.size = 3 ∧ i.bytes = 24 ∧ z.cells.size = 3 := by
  obtain ⟨i, hi, hz, hs, hb⟩ := info_parts (show (Tryd.prog.info? 44).map (fun i => (i.zero, i.size, i.bytes)) = some (some (.agg #[.int .u8 0, .int .i64 0, .int .i64 0]), 3, 24) by kernel_rfl)
  exact ⟨i, _, hi, hz, hs, hb, rfl⟩
theorem own_shapeG {w : World} {base n size : Nat} {t : TypeId} {v : Value} {xs : List Value} (h : w.ownsRow base t size v n xs) : ∃ A c, v = .slice A n c ∧ n ≤ c ∧ c ≤ maxLen := by
  rcases h.2 with ⟨rfl, rfl⟩ | ⟨g, cap, cur, rfl, _, _, h1, h2, _⟩
  · exact ⟨none, 0, rfl, Nat.le_refl _, by simp [maxLen]⟩
  · exact ⟨_, _, rfl, h1, h2⟩
/-- The empty row that a call makes. -/
theorem own_empty (w : World) : (w.alloc (.cells #[] 44)).ownsRow w.heap.size 44 3 (.slice (some ⟨w.heap.size, 0, none⟩) 0 0) 0 (gv []) :=
  World.ownsRow_lit w #[] 0 (Nat.le_refl _) (by simp [maxLen]) rfl
end Go.Proofs.YtmeafjehcckibaaDoor
