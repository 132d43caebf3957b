/- Texts of the proof, one behind the other: Plain Lib Mem Same App Xor Cat Put Load Bits Words Own. -/
import Derived.Laws.BitsAllLaws
import Derived.Below
import Derived.Test.YtnnfcbcjepbjiaaRows
import Derived.WalkKit
import Derived.ProofKit
import Derived.Deep.QuietTactic
import Derived.BigQuiet
import Derived.Lib.Hide
import Derived.Laws.OwnMore
import Derived.Laws.AppendOwnNone
import Derived.Deep.Draws
import Derived.Deep.AppendLies
import Derived.Laws.Rows
import Derived.Deep.RegionHeld3
import Derived.StillTailTactics
import Derived.Deep.RegionWith
import Derived.Deep.RegionLaw
import Derived.OpenShut
import Derived.Deep.OwnRows
import Derived.Lib.MinMax
import Derived.Laws.ShiftsVarLaws
/- Plain facts on numbers: turns and shifts of 32 bits, bytes of numbers. Nothing of the program is imported but its rows' module (for the name). -/
namespace Go.Proofs.Ytnnfcbcjepbjiaa.Plain
set_option linter.unusedVariables false

theorem and31 (n : Int) : bits .and .i64 n 31 = n % 32 := by
  show IntKind.i64.wrap ((BitVec.ofInt 64 n &&& BitVec.ofInt 64 31).toNat : Int) = _
  rw [BitVec.toNat_and]
  have h31 : (BitVec.ofInt 64 31).toNat = 2 ^ 5 - 1 := by decide
  rw [h31, Nat.and_two_pow_sub_one_eq_mod, BitVec.toNat_ofInt, IntKind.wrap_i64]
  omega

/-- x turned by k places (k below 32), as the sum of its two parts. -/
def rotN (x k : Nat) : Nat := x / 2 ^ k + (x % 2 ^ k) * 2 ^ (32 - k)
def rotZ (x n : Int) : Int := (rotN x.toNat (n % 32).toNat : Nat)
def shrZ (x n : Int) : Int := x / 2 ^ (min n.toNat 32)

theorem rotN_zero (x : Nat) : rotN x 0 = x := by simp [rotN, Nat.mod_one]
theorem rotN_lt (x k : Nat) (hx : x < 2 ^ 32) (hk : k ≤ 32) : rotN x k < 2 ^ 32 := by
  unfold rotN
  have e : 2 ^ 32 = 2 ^ (32 - k) * 2 ^ k := by rw [← Nat.pow_add]; congr 1; omega
  have hp : 0 < 2 ^ k := Nat.two_pow_pos k
  have h1 : x / 2 ^ k < 2 ^ (32 - k) := by rw [Nat.div_lt_iff_lt_mul hp, ← e]; exact hx
  have h2 : x % 2 ^ k < 2 ^ k := Nat.mod_lt _ hp
  have h3 : (x % 2 ^ k + 1) * 2 ^ (32 - k) ≤ 2 ^ k * 2 ^ (32 - k) := Nat.mul_le_mul_right _ h2
  rw [Nat.add_mul, Nat.one_mul] at h3
  rw [e, Nat.mul_comm (2 ^ (32 - k))]
  omega
theorem rotZ_range (x n : Int) (h0 : 0 ≤ x) (h1 : x < 4294967296) : 0 ≤ rotZ x n ∧ rotZ x n < 4294967296 := by
  unfold rotZ
  have := rotN_lt x.toNat (n % 32).toNat (by omega) (by omega)
  omega
theorem shrZ_range (x n : Int) (h0 : 0 ≤ x) (h1 : x < 4294967296) : 0 ≤ shrZ x n ∧ shrZ x n < 4294967296 := by
  unfold shrZ
  have hp : (0 : Int) < 2 ^ (min n.toNat 32) := Int.pow_pos (by omega)
  refine ⟨Int.ediv_nonneg h0 (by omega), ?_⟩
  exact Int.lt_of_le_of_lt (Int.ediv_le_self _ h0) h1
theorem shrZ_zero (x n : Int) (h : n ≤ 0) : shrZ x n = x := by
  unfold shrZ
  rw [show min n.toNat 32 = 0 from by omega]; simp

/-- One place more. -/
theorem rotN_succ (x k : Nat) (hk : k < 32) : rotN x (k + 1) = rotN x k / 2 + rotN x k % 2 * 2147483648 := by
  unfold rotN
  have e1 : 2 ^ (k + 1) = 2 ^ k * 2 := Nat.pow_succ ..
  have e2 : 2 ^ (32 - k) = 2 ^ (32 - (k + 1)) * 2 := by rw [← Nat.pow_succ]; congr 1; omega
  have e3 : 2 ^ k * 2 ^ (32 - (k + 1)) = 2147483648 := by
    rw [← Nat.pow_add, show k + (32 - (k + 1)) = 31 from by omega]
  rw [e1, e2, ← Nat.div_div_eq_div_mul, Nat.mod_mul]
  generalize hq : x / 2 ^ k = q
  generalize hr : x % 2 ^ k = r
  generalize hM : 2 ^ (32 - (k + 1)) = M at *
  generalize hP : 2 ^ k = P at *
  have e4 : (r + P * (q % 2)) * M = r * M + q % 2 * 2147483648 := by
    rw [Nat.add_mul, ← e3, Nat.mul_comm P, Nat.mul_assoc]
  have e5 : r * (M * 2) = r * M * 2 := by rw [Nat.mul_assoc]
  rw [e4, e5]
  omega
/-- The two halves of a turn meet in no bit. -/
theorem or_split (x k : Nat) (hx : x < 2 ^ 32) (hk : k ≤ 31) :
    bits .or .u32 ((x : Int) / 2 ^ k) ((x : Int) * 2 ^ (32 - k) % 4294967296) = (rotN x k : Nat) := by
  have e : 2 ^ 32 = 2 ^ k * 2 ^ (32 - k) := by rw [← Nat.pow_add]; congr 1; omega
  have e1 : (x : Int) / 2 ^ k = ((x / 2 ^ k : Nat) : Int) := by simp
  have e2 : (x : Int) * 2 ^ (32 - k) % 4294967296 = ((x % 2 ^ k * 2 ^ (32 - k) : Nat) : Int) := by
    rw [← Nat.mul_mod_mul_right, ← e]; simp
  have hp : 0 < 2 ^ k := Nat.two_pow_pos k
  have h1 : x / 2 ^ k < 2 ^ (32 - k) := by rw [Nat.div_lt_iff_lt_mul hp, Nat.mul_comm, ← e]; exact hx
  have h3 := rotN_lt x k hx (by omega)
  unfold rotN at h3
  rw [e1, e2, u32_or_nat _ _ (by omega) (by omega)]
  unfold rotN
  congr 1
  have := Nat.two_pow_add_eq_or_of_lt h1 (x % 2 ^ k)
  rw [Nat.or_comm, Nat.mul_comm (x % 2 ^ k), ← this, Nat.add_comm]

/-- The number whose digits, of base 256, are the list's, the greatest ahead. -/
def numZ (l : List Int) : Int := l.foldl (fun x z => x * 256 + z) 0
theorem numZ_snoc (l : List Int) (z : Int) : numZ (l ++ [z]) = numZ l * 256 + z := by simp [numZ, List.foldl_append]
def AllB (l : List Int) : Prop := ∀ z, z ∈ l → 0 ≤ z ∧ z < 256
theorem fold_range (l : List Int) : ∀ acc m : Int, 0 ≤ acc → acc + 1 ≤ m → AllB l → 0 ≤ l.foldl (fun x z => x * 256 + z) acc ∧ l.foldl (fun x z => x * 256 + z) acc + 1 ≤ m * 256 ^ l.length := by
  induction l with
  | nil => intro acc m h0 h1 _; simp; omega
  | cons z l ih =>
    intro acc m h0 h1 h
    have hz := h z (by simp)
    have := ih (acc * 256 + z) (m * 256) (by omega) (by omega) (fun y hy => h y (by simp [hy]))
    rw [List.foldl_cons, List.length_cons, Int.pow_succ, Int.mul_comm (256 ^ l.length), ← Int.mul_assoc]
    exact this
theorem numZ_range (l : List Int) (h : AllB l) : 0 ≤ numZ l ∧ numZ l < 256 ^ l.length := by
  have := fold_range l 0 1 (by omega) (by omega) h
  rw [Int.one_mul] at this
  exact ⟨this.1, by unfold numZ; omega⟩
theorem pow256_le (a b : Nat) (h : a ≤ b) : (256 : Int) ^ a ≤ 256 ^ b := by
  obtain ⟨k, rfl⟩ := Nat.exists_eq_add_of_le h
  have h1 : (0 : Int) < 256 ^ k := Int.pow_pos (by omega)
  have h2 : (0 : Int) < 256 ^ a := Int.pow_pos (by omega)
  have := Int.mul_le_mul_of_nonneg_left (show (1 : Int) ≤ 256 ^ k by omega) (show (0 : Int) ≤ 256 ^ a by omega)
  rw [Int.pow_add]; omega
def loadOk (len : Nat) (at_ : Int) (s : Nat) : Bool := decide (0 ≤ at_ ∧ at_ + s ≤ len)
def loadZ (zs : List Int) (at_ : Int) (s : Nat) : Int := if loadOk zs.length at_ s = true then numZ ((zs.drop at_.toNat).take s) else 0
theorem loadZ_yes (zs : List Int) (a s : Nat) (h : a + s ≤ zs.length) : loadZ zs a s = numZ ((zs.drop a).take s) := by
  unfold loadZ loadOk
  rw [if_pos (by simp; omega)]; simp
theorem loadOk_yes (n a s : Nat) (h : a + s ≤ n) : loadOk n a s = true := by unfold loadOk; simp; omega
theorem loadOk_no (n : Nat) (a : Int) (s : Nat) (h : a < 0 ∨ (n : Int) < a + s) : loadOk n a s = false := by unfold loadOk; simp; omega
theorem loadZ_no (zs : List Int) (a : Int) (s : Nat) (h : a < 0 ∨ (zs.length : Int) < a + s) : loadZ zs a s = 0 := by
  unfold loadZ; rw [loadOk_no _ _ _ h]; simp
theorem numZ_piece (zs : List Int) (a k : Nat) (u1 : Int) (h : a + k < zs.length) (hu : zs.getD (a + k) 0 = u1) :
    numZ ((zs.drop a).take (k + 1)) = numZ ((zs.drop a).take k) * 256 + u1 := by
  have hl : k < (zs.drop a).length := by simp; omega
  rw [List.take_succ_eq_append_getElem hl, numZ_snoc]
  congr 1
  rw [← hu]
  simp [List.getD_eq_getElem?_getD, List.getElem?_eq_getElem h]
theorem allB_piece (zs : List Int) (a k : Nat) (h : ∀ j, j < zs.length → 0 ≤ zs.getD j 0 ∧ zs.getD j 0 < 256) : AllB ((zs.drop a).take k) := by
  intro z hz
  have hz' := List.mem_of_mem_drop (List.mem_of_mem_take hz)
  obtain ⟨j, hj, rfl⟩ := List.mem_iff_getElem.1 hz'
  have := h j hj
  simpa [List.getD_eq_getElem?_getD, List.getElem?_eq_getElem hj] using this
theorem numZ_piece_range (zs : List Int) (a k m : Nat) (hk : k ≤ m) (h : ∀ j, j < zs.length → 0 ≤ zs.getD j 0 ∧ zs.getD j 0 < 256) : 0 ≤ numZ ((zs.drop a).take k) ∧ numZ ((zs.drop a).take k) < 256 ^ m := by
  have h1 := numZ_range _ (allB_piece zs a k h)
  have h2 := pow256_le ((zs.drop a).take k).length m (by simp; omega)
  omega
theorem loadZ_range (zs : List Int) (a : Int) (s : Nat) (h : ∀ j, j < zs.length → 0 ≤ zs.getD j 0 ∧ zs.getD j 0 < 256) : 0 ≤ loadZ zs a s ∧ loadZ zs a s < 256 ^ s := by
  unfold loadZ
  have := pow256_le 0 s (by omega)
  split
  · exact numZ_piece_range zs _ s s (by omega) h
  · omega
theorem or_byte (u z : Int) (hu : 0 ≤ u) (hu1 : u < 72057594037927936) (hz : 0 ≤ z) (hz1 : z < 256) :
    bits .or .u64 (IntKind.u64.wrap (u * 256)) z = u * 256 + z := by
  obtain ⟨x, rfl⟩ := Int.eq_ofNat_of_zero_le hu
  obtain ⟨y, rfl⟩ := Int.eq_ofNat_of_zero_le hz
  have hw : IntKind.u64.wrap ((x : Int) * 256) = ((x * 256 : Nat) : Int) := by rw [IntKind.wrap_u64]; omega
  rw [hw, u64_or_nat _ _ (by omega) (by omega)]
  have := Nat.two_pow_add_eq_or_of_lt (i := 8) (b := y) (by omega) x
  rw [show x * 256 = 2 ^ 8 * x from by omega, ← this]
  omega
theorem mul_byte (u z : Int) (hu : 0 ≤ u) (hu1 : u < 72057594037927936) (hz : 0 ≤ z) (hz1 : z < 256) :
    IntKind.u64.wrap (IntKind.u64.wrap (256 * u) + z) = u * 256 + z := by
  rw [IntKind.wrap_u64, IntKind.wrap_u64]; omega
end Go.Proofs.Ytnnfcbcjepbjiaa.Plain
/- Small lemmas on calls and worlds that the walks use. -/
namespace Go.Proofs.Ytnnfcbcjepbjiaa
open Go.ChangeShapes Go.WideShapes Go.ChangeAt Go.RowKit
set_option linter.unusedVariables false

/-- The call returns v and leaves the world as it was, but for answers drawn. -/
def Quiet (v : Value) (w : World) (e : Ending) (w' : World) : Prop := e = .returned v ∧ ∃ m, w' = w.drewN m

theorem quiet_use {P : Program} {f : FuncId} {args : Array Value} {w : World} {v : Value}
    (h : ∀ w, Calls P f args w (Quiet v w)) : Calls P f args w fun e w' => e = .returned v ∧ ∃ m, w' = w.drewN m := h w
theorem quiet_at {P : Program} {f : FuncId} {args : Array Value} {w : World} {n : Nat} {v : Value}
    (h : ∀ w, Calls P f args w (Quiet v w)) : Calls P f args (w.drewN n) fun e w' => e = .returned v ∧ ∃ m, w' = w.drewN m :=
  (h _).mono fun _ _ ⟨he, m, hm⟩ => ⟨he, n + m, by rw [hm, World.drewN_drewN]⟩
theorem quiet_add {P : Program} {f : FuncId} {args : Array Value} {w : World} {a n : Nat} {v : Value}
    (h : ∀ w, Calls P f args w (Quiet v w)) : Calls P f args (w.drewN (a + n)) fun e w'' => e = .returned v ∧ ∃ m, w'' = w.drewN (a + m) :=
  (h _).mono fun _ _ ⟨he, m, hm⟩ => ⟨he, n + m, by rw [hm, World.drewN_drewN, Nat.add_assoc]⟩
theorem below_drewN {B : Nat} {a w : World} (h : Below B a w) (n : Nat) : Below B a (w.drewN n) := ⟨h.os, h.tape, h.output, h.size, h.block⟩
end Go.Proofs.Ytnnfcbcjepbjiaa
/- Slices of bytes as lists of numbers: what is read, what is owned. -/
namespace Go.Proofs.Ytnnfcbcjepbjiaa
open Go.ChangeShapes Go.WideShapes Go.ChangeAt Go.RowKit
set_option linter.unusedVariables false

/-- What the frame is told of a slice of integers that came in. -/
def IsRow (k : IntKind) (w : World) (a : Option Addr) (len cap : Nat) (zs : List Int) : Prop :=
  (a = none ∧ len = 0 ∧ cap = 0 ∧ zs = []) ∨
  ∃ x, a = some x ∧ len ≤ cap ∧ cap ≤ maxLen ∧ zs.length = cap ∧ (∀ i, i < zs.length → w.cell? (x.add i) = some (.int k (zs.getD i 0))) ∧ ∀ n ∈ zs, (Lit.int k n).wf = true

/-- In world w the slice of n elements at A reads as the bytes zs; what it reads lies below block B. -/
structure Bs (w : World) (B : Nat) (A : Option Addr) (n : Nat) (zs : List Int) : Prop where
  len : zs.length = n
  rng : ∀ j, j < n → 0 ≤ zs.getD j 0 ∧ zs.getD j 0 < 256
  row : 0 < n → ∃ b off, A = some ⟨b, off, none⟩ ∧ b < B ∧ ∀ j, j < n → w.cell? ⟨b, off + j, none⟩ = some (.int .u8 (zs.getD j 0))

section
variable {w w' : World} {B B' n : Nat} {A : Option Addr} {zs : List Int}
theorem Bs.nil : Bs w B A 0 [] := ⟨rfl, fun j h => absurd h (by omega), fun h => absurd h (by omega)⟩
theorem Bs.at_ (h : Bs w B A n zs) {k : Nat} (hk : k < n) :
    ∃ b off u, A = some ⟨b, off, none⟩ ∧ b < B ∧ Hid (zs.getD k 0 = u) ∧ 0 ≤ u ∧ u < 256 ∧ w.cell? ⟨b, off + k, none⟩ = some (.int .u8 u) := by
  obtain ⟨b, off, rfl, hb, hc⟩ := h.row (by omega)
  exact ⟨b, off, _, rfl, hb, rfl, (h.rng k hk).1, (h.rng k hk).2, hc k hk⟩
theorem Bs.keep (h : Bs w B A n zs) (hk : ∀ p : Addr, p.block < B → w'.cell? p = w.cell? p) : Bs w' B A n zs :=
  ⟨h.len, h.rng, fun hn => by
    obtain ⟨b, off, rfl, hb, hc⟩ := h.row hn
    exact ⟨b, off, rfl, hb, fun j hj => (hk ⟨b, off + j, none⟩ hb).trans (hc j hj)⟩⟩
theorem Bs.more (h : Bs w B A n zs) (hB : B ≤ B') : Bs w B' A n zs :=
  ⟨h.len, h.rng, fun hn => by
    obtain ⟨b, off, rfl, hb, hc⟩ := h.row hn
    exact ⟨b, off, rfl, by omega, hc⟩⟩
theorem Bs.below (h : Bs w B A n zs) (hb : Below B w w') : Bs w' B A n zs := h.keep fun _ hp => hb.cell hp
theorem Bs.belowM (h : Bs w B A n zs) (hb : Below B' w w') (hB : B ≤ B') : Bs w' B A n zs := h.below (hb.mono hB)
theorem Bs.drewN (h : Bs w B A n zs) (k : Nat) : Bs (w.drewN k) B A n zs := h.keep fun _ _ => rfl
theorem Bs.drew (h : Bs w B A n zs) : Bs w.drew B A n zs := h.keep fun _ _ => rfl
theorem Bs.alloc (h : Bs w B A n zs) (hB : B ≤ w.heap.size) (o : Obj) : Bs (w.alloc o) B A n zs := h.keep fun p hp => World.cell?_alloc_lt w o p (by omega)
theorem Bs.setCell (h : Bs w B A n zs) {p : Addr} (hB : B ≤ p.block) (u : Value) : Bs (w.setCell p u) B A n zs :=
  h.keep fun q hq => World.cell?_setCell_other w p q u (fun e => by subst e; omega)
theorem Bs.grown (h : Bs w B A n zs) {row : Option Nat} (hg : w.grownBy w' row) (hB : B ≤ w.heap.size) (hr : ∀ g, row = some g → B ≤ g) : Bs w' B A n zs :=
  h.keep fun p hp => World.cell?_of_block (hg.block p.block (by omega) (fun e => by have := hr _ e.symm; omega))
/-- A piece of it. -/
theorem Bs.cut (h : Bs w B A n zs) {k m : Nat} (hk : k + m ≤ n) (A' : Option Addr) (hA : ∀ b off, A = some ⟨b, off, none⟩ → 0 < m → A' = some ⟨b, off + k, none⟩) : Bs w B A' m ((zs.drop k).take m) := by
  have hl := h.len
  have hg : ∀ j, j < m → ((zs.drop k).take m).getD j 0 = zs.getD (k + j) 0 := fun j hj => by
    simp [List.getD_eq_getElem?_getD, List.getElem?_drop, hj]
  refine ⟨by simp; omega, fun j hj => by rw [hg j hj]; exact h.rng _ (by omega), fun hm => ?_⟩
  obtain ⟨b, off, rfl, hb, hc⟩ := h.row (by omega)
  refine ⟨b, off + k, hA _ _ rfl hm, hb, fun j hj => ?_⟩
  rw [hg j hj, Nat.add_assoc]
  exact hc _ (by omega)

/-- What came in reads as bytes. -/
theorem IsRow.bs {len cap : Nat} (h : IsRow .u8 w A len cap zs) : Bs w w.heap.size A len (zs.take len) ∧ len ≤ maxLen ∧ len ≤ cap := by
  rcases h with ⟨rfl, rfl, rfl, rfl⟩ | ⟨x, rfl, hl, hm, hz, hc, hw⟩
  · exact ⟨Bs.nil, by simp [maxLen], Nat.le_refl _⟩
  · refine ⟨⟨by simp; omega, ?_, ?_⟩, by omega, hl⟩
    · intro j hj
      have e : (zs.take len).getD j 0 = zs[j]'(by omega) := by
        simp [List.getD_eq_getElem?_getD, hj, List.getElem?_eq_getElem (show j < zs.length by omega)]
      have := hw zs[j] (List.getElem_mem ..)
      rw [e]
      simp [Lit.wf, IntKind.min, IntKind.max, IntKind.signed, IntKind.bits] at this
      omega
    · intro hn
      obtain ⟨b, off, rfl, hc'⟩ := ints_at hc (by omega)
      refine ⟨b, off, rfl, World.block_lt_of_cell? _ _ (hc' 0 (by omega)), fun j hj => ?_⟩
      rw [hc' j (by omega)]
      simp [List.getD_eq_getElem?_getD, hj]
end

/-- The bytes as values. -/
def vals (zs : List Int) : List Value := zs.map (Value.int .u8)
theorem vals_len (zs : List Int) : (vals zs).length = zs.length := by simp [vals]
theorem vals_app (a b : List Int) : vals (a ++ b) = vals a ++ vals b := by simp [vals]

def IsBytes (zs : List Int) : Prop := ∀ j, j < zs.length → 0 ≤ zs.getD j 0 ∧ zs.getD j 0 < 256

/-- Every row of its own reads as bytes. -/
theorem bs_of_own {w : World} {base c n : Nat} {t : TypeId} {A : Option Addr} {zs : List Int} (h : w.ownsRow base t 1 (.slice A n c) n (vals zs)) (hb : IsBytes zs) : Bs w w.heap.size A n zs := by
  have hl : zs.length = n := by have := h.1; rw [vals_len] at this; omega
  refine ⟨hl, fun j hj => hb j (by omega), fun hn => ?_⟩
  obtain ⟨g, cap, hv, _, hlt⟩ := h.form hn
  have hA : A = some ⟨g, 0, none⟩ := by injection hv
  subst hA
  refine ⟨g, 0, rfl, hlt, fun j hj => ?_⟩
  have := h.cells (g := g) rfl j (.int .u8 (zs.getD j 0)) (by
    simp [vals, List.getElem?_map, List.getD_eq_getElem?_getD, List.getElem?_eq_getElem (show j < zs.length by omega)])
  rwa [← Go.WideShapes.add_plain] 
theorem own_shape {w : World} {base n : Nat} {t : TypeId} {v : Value} {xs : List Value} (h : w.ownsRow base t 1 v n xs) : ∃ A c, v = .slice A n c ∧ n ≤ c ∧ c ≤ maxLen := by
  rcases h.2 with ⟨rfl, rfl⟩ | ⟨g, cap, cur, rfl, _, _, h1, h2, _⟩
  · exact ⟨none, 0, rfl, Nat.le_refl _, by simp [maxLen]⟩
  · exact ⟨_, _, rfl, h1, h2⟩
end Go.Proofs.Ytnnfcbcjepbjiaa
/- What the two functions that compare lists return. -/
namespace Go.Proofs.Ytnnfcbcjepbjiaa
open Go.ChangeShapes Go.WideShapes Go.ChangeAt Go.RowKit
set_option linter.unusedVariables false

def eqB (a b : List Int) : Bool := decide (a = b)
theorem eqB_no_len {a b : List Int} (h : a.length ≠ b.length) : eqB a b = false := by
  unfold eqB; exact decide_eq_false (fun e => h (by rw [e]))
theorem eqB_no_at {a b : List Int} {k : Nat} (h : a.getD k 0 ≠ b.getD k 0) : eqB a b = false := by
  unfold eqB; exact decide_eq_false (fun e => h (by rw [e]))
theorem take_succ_eq {a b : List Int} {k : Nat} (ha : k < a.length) (hb : k < b.length) (h : a.take k = b.take k) (hk : a.getD k 0 = b.getD k 0) : a.take (k + 1) = b.take (k + 1) := by
  rw [List.take_succ_eq_append_getElem ha, List.take_succ_eq_append_getElem hb, h]
  simp [List.getD_eq_getElem?_getD, List.getElem?_eq_getElem ha, List.getElem?_eq_getElem hb] at hk
  rw [hk]
theorem eqB_yes {a b : List Int} {n : Nat} (ha : a.length = n) (hb : b.length = n) (h : a.take n = b.take n) : eqB a b = true := by
  unfold eqB
  rw [List.take_of_length_le (by omega), List.take_of_length_le (by omega)] at h
  exact decide_eq_true h
theorem ret_bool {a b : Bool} (h : a = b) : Ending.returned (.bool a) = .returned (.bool b) := by rw [h]

end Go.Proofs.Ytnnfcbcjepbjiaa
/- append onto a row of the call's own, from a slice of whatever elements, nil too; what copies and puts together two lists. -/
namespace Go.Proofs.Ytnnfcbcjepbjiaa
open Go.ChangeShapes Go.WideShapes Go.ChangeAt Go.RowKit
set_option linter.unusedVariables false

/-- The m elements at A are the values vs. -/
def Lies (w : World) (size : Nat) (A : Option Addr) (m : Nat) (vs : List Value) : Prop :=
  vs.length = m * size ∧ ∀ ad, A = some ad → ∀ j u, vs[j]? = some u → w.cell? (ad.add j) = some u
def Sourced (A : Option Addr) (m : Nat) : Prop := A = none → m = 0
theorem Bs.lies {w : World} {B n : Nat} {A : Option Addr} {zs : List Int} (h : Bs w B A n zs) : Lies w 1 A n (vals zs) ∧ Sourced A n := by
  refine ⟨⟨by rw [vals_len, h.len]; simp, fun ad hA j u hu => ?_⟩, fun hA => ?_⟩
  · have hj : j < n := by
      have := (List.getElem?_eq_some_iff.1 hu).1
      rw [vals_len, h.len] at this; exact this
    obtain ⟨b, off, e, _, hc⟩ := h.row (by omega)
    rw [hA] at e; injection e with e; subst e
    rw [Go.WideShapes.add_plain, hc j hj]
    simp only [vals, List.getElem?_map] at hu
    rw [List.getElem?_eq_getElem (by rw [h.len]; exact hj)] at hu
    simp at hu
    rw [← hu]
    simp [List.getD_eq_getElem?_getD, List.getElem?_eq_getElem (show j < zs.length by rw [h.len]; exact hj)]
  · rcases Nat.eq_zero_or_pos n with h0 | h0
    · exact h0
    · obtain ⟨b, off, e, _⟩ := h.row h0
      rw [hA] at e; cases e
theorem vals_one (zs : List Int) : ∀ u ∈ vals zs, u.oneCell' = true := by
  intro u hu
  simp only [vals, List.mem_map] at hu
  obtain ⟨z, _, rfl⟩ := hu
  rfl

theorem run_append_nothing {P : Program} (w : World) (base : Nat) (t ty e : TypeId) (i : TypeInfo) (size : Nat) (ht : P.underlying t = some (.slice e)) (hi : P.info? e = some i)
    (v : Value) (n : Nat) (xs : List Value) (hown : w.ownsRow base e size v n xs) (c : Nat) : (Builtin.append_ #[t, t] ty #[v, .slice none 0 c]).run P w = .ok v w := by
  obtain ⟨_, ⟨rfl, rfl⟩ | ⟨g, cap, cur, rfl, _, _, hnc, _⟩⟩ := hown <;>
    simp [Builtin.append_, run_underlying ht, sizeOf, typeInfo, Builtin.lenOf, Builtin.firstCells, storeCells, *]

/-- The law for the walk: what is appended may be nil, empty or not. -/
theorem wpList_app {P : Program} (w : World) {ops : Array Oper} {rest : List Oper} {o : Oper} {a : Act} {Q : Exit → Act → World → Prop} (hgd : o.guard = none) (s x : Operand) (t : TypeId)
    (ho : o.op = .call { callee := .builtin .append, args := #[s, x], argTypes := #[t, t] })
    (base : Nat) (e : TypeId) (size bytes : Nat) (ht : P.underlying t = some (.slice e)) (hinfo : ∃ i z, P.info? e = some i ∧ i.zero = some z ∧ i.size = size ∧ i.bytes = bytes ∧ z.cells.size = size) (hsz : 0 < size)
    (v : Value) (n : Nat) (xs : List Value) (hs : a.eval s = v) (hown : w.ownsRow base e size v n xs)
    (A : Option Addr) (m c : Nat) (news : List Value) (hx : a.eval x = .slice A m c) (hr : Lies w size A m news) (hso : Sourced A m) (h1 : ∀ u ∈ news, u.oneCell' = true)
    (h63 : n + m ≤ maxLen) (hbytes : (n + m) * bytes ≤ 140737488355328) (hbase : base ≤ w.heap.size)
    (h : ∀ v' w', w'.ownsRow base e size v' (n + m) (xs ++ news) → w.grownBy w' v.ownBlock → wpList P ops Q rest (a.put o.dst v') w') : wpList P ops Q (o :: rest) a w := by
  obtain ⟨i, z, hi, hz, hsize, hby, hzs⟩ := hinfo
  cases A with
  | none =>
    have hm : m = 0 := hso rfl
    subst hm
    have hn : news = [] := List.eq_nil_of_length_eq_zero (by simpa using hr.1)
    subst hn
    refine wpList_plain hgd fun K hK => ?_
    have hrun := run_append_nothing (P := P) w base t o.type e i size ht hi v n xs hown c
    unfold Oper.wp
    simp only [execOp, ho, resolve, invoke, builtin, Sem.run_bind, Sem.run_pure, Result.andThen_ok, List.map_toArray, List.map_cons, List.map_nil, hs, hx, hrun]
    exact hK _ _ (h v w (by simpa using hown) (World.grownBy.refl w _))
  | some ad =>
    exact wpList_append_own w hgd s x t ho base e i z size bytes ht hi hz hsize hby hzs hsz v n xs hs hown ad m c news hx hr.1 (hr.2 ad rfl) h1 h63 hbytes hbase (fun v' w' h2 h3 _ => h v' w' h2 h3)

theorem u8_info : ∃ i z, Try.prog.info? 5 = some i ∧ i.zero = some z ∧ i.size = 1 ∧ i.bytes = 1 ∧ z.cells.size = 1 := by
  obtain ⟨i, hi, hz, hs, hb⟩ := info_parts (show (Try.prog.info? 5).map (fun i => (i.zero, i.size, i.bytes)) = some (some (.int .u8 0), 1, 1) by kernel_rfl)
  exact ⟨i, _, hi, hz, hs, hb, rfl⟩

/-- What a call hands back that makes a list of bytes: it is the call's own; nothing that was there has turned. -/
def Made (w : World) (zs : List Int) (e : Ending) (w' : World) : Prop :=
  ∃ A c, e = .returned (.slice A zs.length c) ∧ w'.ownsRow w.heap.size 5 1 (.slice A zs.length c) zs.length (vals zs) ∧ Below w.heap.size w w' ∧ zs.length ≤ c ∧ c ≤ maxLen
theorem made_of {w w' : World} {n : Nat} {v : Value} {zs : List Int} (hn : zs.length = n) (h : w'.ownsRow w.heap.size 5 1 v n (vals zs)) (hb : Below w.heap.size w w') : Made w zs (.returned v) w' := by
  obtain ⟨A, c, rfl, h1, h2⟩ := own_shape h
  subst hn
  exact ⟨A, c, rfl, h, hb, h1, h2⟩
theorem IsBytes.nil : IsBytes [] := fun j h => absurd h (by simp)
theorem Bs.isBytes {w : World} {B n : Nat} {A : Option Addr} {zs : List Int} (h : Bs w B A n zs) : IsBytes zs := fun j hj => h.rng j (by rw [← h.len]; exact hj)
theorem isBytes_iff {zs : List Int} : IsBytes zs ↔ ∀ z, z ∈ zs → 0 ≤ z ∧ z < 256 := by
  constructor
  · intro h z hz
    obtain ⟨j, hj, rfl⟩ := List.mem_iff_getElem.1 hz
    simpa [List.getD_eq_getElem?_getD, List.getElem?_eq_getElem hj] using h j hj
  · intro h j hj
    have := h zs[j] (List.getElem_mem ..)
    simpa [List.getD_eq_getElem?_getD, List.getElem?_eq_getElem hj] using this
theorem rep_bytes (n : Nat) (x : Int) (h0 : 0 ≤ x) (h1 : x < 256) : IsBytes (List.replicate n x) := by
  rw [isBytes_iff]
  intro z hz
  rw [List.mem_replicate] at hz
  omega
theorem IsBytes.app {a b : List Int} (ha : IsBytes a) (hb : IsBytes b) : IsBytes (a ++ b) := by
  rw [isBytes_iff] at *
  intro z hz
  rcases List.mem_append.1 hz with h | h
  · exact ha z h
  · exact hb z h

end Go.Proofs.Ytnnfcbcjepbjiaa
/- The exclusive or of two lists: what the program's and the document's return. -/
namespace Go.Proofs.Ytnnfcbcjepbjiaa
open Go.ChangeShapes Go.WideShapes Go.ChangeAt Go.RowKit
set_option linter.unusedVariables false
theorem u8_row : (Try.prog.info? 5).map (fun i => (i.zero, i.size, i.bytes)) = some (some (.int .u8 0), 1, 1) := by kernel_rfl
def xorZ (a b : List Int) : List Int := List.zipWith (fun x y => bits .xor .u8 x y) a b
theorem xorZ_len (a b : List Int) : (xorZ a b).length = min a.length b.length := by simp [xorZ]
theorem xorZ_at (a b : List Int) (j : Nat) (h1 : j < a.length) (h2 : j < b.length) : (xorZ a b).getD j 0 = bits .xor .u8 (a.getD j 0) (b.getD j 0) := by
  simp [xorZ, List.getD_eq_getElem?_getD, List.getElem?_zipWith, List.getElem?_eq_getElem h1, List.getElem?_eq_getElem h2]
theorem xor_u8_range (x y : Int) (h1 : 0 ≤ x) (h2 : x < 256) (h3 : 0 ≤ y) (h4 : y < 256) : 0 ≤ bits .xor .u8 x y ∧ bits .xor .u8 x y < 256 := by
  rw [u8_xor x y h1 h2 h3 h4]
  have := Nat.xor_lt_two_pow (x := x.toNat) (y := y.toNat) (n := 8) (by omega) (by omega)
  omega
theorem xorZ_bytes {a b : List Int} (ha : IsBytes a) (hb : IsBytes b) : IsBytes (xorZ a b) := by
  intro j hj
  rw [xorZ_len] at hj
  rw [xorZ_at a b j (by omega) (by omega)]
  have h1 := ha j (by omega)
  have h2 := hb j (by omega)
  exact xor_u8_range _ _ h1.1 h1.2 h2.1 h2.2
theorem list_ext_getD {a b : List Int} (hl : a.length = b.length) (h : ∀ j, j < a.length → a.getD j 0 = b.getD j 0) : a = b := by
  apply List.ext_getElem hl
  intro j h1 h2
  have := h j h1
  simpa [List.getD_eq_getElem?_getD, List.getElem?_eq_getElem h1, List.getElem?_eq_getElem h2] using this
theorem getD_set (l : List Int) (k j : Nat) (x : Int) (hk : k < l.length) : (l.set k x).getD j 0 = if k = j then x else l.getD j 0 := by
  simp only [List.getD_eq_getElem?_getD, List.getElem?_set]
  split
  · simp
  · rfl
theorem vals_set (l : List Int) (k : Nat) (x : Int) : (vals l).toArray.setIfInBounds k (.int .u8 x) = (vals (l.set k x)).toArray := by
  simp [vals, List.map_set]
theorem madeCells_vals (n : Nat) : madeCells #[Value.int .u8 0] n = (vals (List.replicate n 0)).toArray := by
  unfold madeCells vals
  apply Array.ext
  · simp
  · intro i h1 h2
    simp [Nat.mod_one]
theorem take_snoc_getD (l : List Int) (k : Nat) (h : k < l.length) : l.take (k + 1) = l.take k ++ [l.getD k 0] := by
  rw [List.take_succ_eq_append_getElem h]
  simp [List.getD_eq_getElem?_getD, List.getElem?_eq_getElem h]
end Go.Proofs.Ytnnfcbcjepbjiaa
/- Lists put together: what the program's Cat returns, of any number of lists. -/
namespace Go.Proofs.Ytnnfcbcjepbjiaa
open Go.ChangeShapes Go.WideShapes Go.ChangeAt Go.RowKit
set_option linter.unusedVariables false
def sumTo (N : Nat → Nat) : Nat → Nat
  | 0 => 0
  | k + 1 => sumTo N k + N k
def catTo (Z : Nat → List Int) : Nat → List Int
  | 0 => []
  | k + 1 => catTo Z k ++ Z k
theorem sumTo_le (N : Nat → Nat) : ∀ k m, k ≤ m → sumTo N k ≤ sumTo N m := by
  intro k m h
  induction m with
  | zero => have : k = 0 := by omega
            subst this; exact Nat.le_refl _
  | succ m ih =>
    by_cases hk : k = m + 1
    · subst hk; exact Nat.le_refl _
    · have := ih (by omega)
      show _ ≤ sumTo N m + N m
      omega
theorem catTo_len (Z : Nat → List Int) (N : Nat → Nat) : ∀ k, (∀ j, j < k → (Z j).length = N j) → (catTo Z k).length = sumTo N k := by
  intro k
  induction k with
  | zero => intro _; rfl
  | succ k ih =>
    intro h
    show (catTo Z k ++ Z k).length = sumTo N k + N k
    rw [List.length_append, ih (fun j hj => h j (by omega)), h k (by omega)]
theorem catTo_bytes (Z : Nat → List Int) : ∀ k, (∀ j, j < k → IsBytes (Z j)) → IsBytes (catTo Z k) := by
  intro k
  induction k with
  | zero => intro _; exact IsBytes.nil
  | succ k ih => intro h; exact (ih (fun j hj => h j (by omega))).app (h k (by omega))

/-- The m lists that the slice at A tells of. -/
structure Lists (w : World) (B : Nat) (A : Option Addr) (m : Nat) (As : Nat → Option Addr) (Ns Cs : Nat → Nat) (Zs : Nat → List Int) : Prop where
  row : 0 < m → ∃ b off, A = some ⟨b, off, none⟩ ∧ b < B ∧ ∀ j, j < m → w.cell? ⟨b, off + j, none⟩ = some (.slice (As j) (Ns j) (Cs j))
  bs : ∀ j, j < m → Bs w B (As j) (Ns j) (Zs j)
theorem Lists.below {w w' : World} {B m : Nat} {A : Option Addr} {As : Nat → Option Addr} {Ns Cs : Nat → Nat} {Zs : Nat → List Int} (h : Lists w B A m As Ns Cs Zs) (hb : Below B w w') : Lists w' B A m As Ns Cs Zs :=
  ⟨fun hm => by
    obtain ⟨b, off, rfl, hlt, hc⟩ := h.row hm
    exact ⟨b, off, rfl, hlt, fun j hj => (hb.cell (p := ⟨b, off + j, none⟩) hlt).trans (hc j hj)⟩, fun j hj => (h.bs j hj).below hb⟩
theorem Lists.at_ {w : World} {B m : Nat} {A : Option Addr} {As : Nat → Option Addr} {Ns Cs : Nat → Nat} {Zs : Nat → List Int} (h : Lists w B A m As Ns Cs Zs) {k : Nat} (hk : k < m) :
    ∃ b off, A = some ⟨b, off, none⟩ ∧ b < B ∧ w.cell? ⟨b, off + k, none⟩ = some (.slice (As k) (Ns k) (Cs k)) := by
  obtain ⟨b, off, rfl, hlt, hc⟩ := h.row (by omega)
  exact ⟨b, off, rfl, hlt, hc k hk⟩

end Go.Proofs.Ytnnfcbcjepbjiaa
/- Numbers as bytes: what the program's and the document's put return. -/
namespace Go.Proofs.Ytnnfcbcjepbjiaa
open Go.ChangeShapes Go.WideShapes Go.ChangeAt Go.RowKit
set_option linter.unusedVariables false
/-- The last s bytes of x, the greatest ahead. -/
def putZ (x : Int) (s : Nat) : List Int := (List.range s).map fun j => x / 256 ^ (s - 1 - j) % 256
theorem putZ_len (x : Int) (s : Nat) : (putZ x s).length = s := by simp [putZ]
theorem putZ_at (x : Int) (s j : Nat) (h : j < s) : (putZ x s).getD j 0 = x / 256 ^ (s - 1 - j) % 256 := by
  simp [putZ, List.getD_eq_getElem?_getD, h]
theorem putZ_bytes (x : Int) (s : Nat) : IsBytes (putZ x s) := by
  intro j hj
  rw [putZ_len] at hj
  rw [putZ_at x s j hj]
  omega
theorem div_step (x : Int) (j : Nat) : x / 256 ^ j / 256 = x / 256 ^ (j + 1) := by
  rw [Int.ediv_ediv_of_nonneg (Int.le_of_lt (Int.pow_pos (by omega))), Int.pow_succ]
theorem div_range (x : Int) (j : Nat) (h0 : 0 ≤ x) (h1 : x < 18446744073709551616) : 0 ≤ x / 256 ^ j ∧ x / 256 ^ j < 18446744073709551616 := by
  have hp : (0 : Int) < 256 ^ j := Int.pow_pos (by omega)
  exact ⟨Int.ediv_nonneg h0 (by omega), Int.lt_of_le_of_lt (Int.ediv_le_self _ h0) h1⟩
end Go.Proofs.Ytnnfcbcjepbjiaa
/- What the functions that load numbers return: of a slice that reads as bytes, the number at the place, where it is there whole. -/
namespace Go.Proofs.Ytnnfcbcjepbjiaa
open Go.ChangeShapes Go.WideShapes Go.ChangeAt Go.RowKit
set_option linter.unusedVariables false
open Plain
theorem Bs.rng' {w : World} {B n : Nat} {A : Option Addr} {zs : List Int} (h : Bs w B A n zs) : ∀ j, j < zs.length → 0 ≤ zs.getD j 0 ∧ zs.getD j 0 < 256 := fun j hj => h.rng j (by rw [← h.len]; exact hj)
theorem ret_load {a b : Int} {c d : Bool} (h : a = b) (h2 : c = d) : Ending.returned (.tuple #[.int .u64 a, .bool c]) = .returned (.tuple #[.int .u64 b, .bool d]) := by rw [h, h2]
theorem ret_load32 {a b : Int} {c d : Bool} (h : a = b) (h2 : c = d) : Ending.returned (.tuple #[.int .u32 a, .bool c]) = .returned (.tuple #[.int .u32 b, .bool d]) := by rw [h, h2]
end Go.Proofs.Ytnnfcbcjepbjiaa
/- What the turns and shifts of the program and of the document's answer return: the same numbers. No condition but that the number is one of 32 bits. -/
namespace Go.Proofs.Ytnnfcbcjepbjiaa
open Go.ChangeShapes Go.WideShapes Go.ChangeAt Go.RowKit
set_option linter.unusedVariables false
open Plain

theorem ret_int {k : IntKind} {a b : Int} (h : a = b) : Ending.returned (.int k a) = .returned (.int k b) := by rw [h]
theorem mod_twice (n : Int) : (wrap64 (n.tmod 32 + 32)).tmod 32 = n % 32 := by
  have h : n.tmod 32 = if 0 ≤ n ∨ n % 32 = 0 then n % 32 else n % 32 - 32 := by
    rw [Int.tmod_eq_emod]
    by_cases h0 : 0 ≤ n
    · simp [h0]
    · by_cases h1 : n % 32 = 0
      · simp [h1, Int.dvd_of_emod_eq_zero h1]
      · have h2 : ¬ (32 : Int) ∣ n := fun h => h1 (Int.emod_eq_zero_of_dvd h)
        simp [h0, h1, h2]
  have hw : wrap64 (n.tmod 32 + 32) = n.tmod 32 + 32 := by unfold wrap64; split at h <;> omega
  rw [hw, Int.tmod_eq_emod_of_nonneg (by split at h <;> omega)]
  split at h <;> omega
theorem rot_of_or (x n : Int) (h0 : 0 ≤ x) (h1 : x < 4294967296) : bits BinOp.or IntKind.u32 (shrZ x (n % 32)) (x * 2 ^ (32 - n % 32).toNat % 4294967296) = rotZ x n := by
  obtain ⟨k, hk⟩ : ∃ k : Nat, n % 32 = k := ⟨(n % 32).toNat, by omega⟩
  obtain ⟨y, rfl⟩ := Int.eq_ofNat_of_zero_le h0
  have := or_split y k (by omega) (by omega)
  unfold rotZ shrZ
  rw [hk]
  rw [show min (k : Int).toNat 32 = k from by omega, show (32 - (k : Int)).toNat = 32 - k from by omega, this]
  rfl
theorem div_pow_succ (x : Int) (k : Nat) (h0 : 0 ≤ x) : x / 2 ^ k / 2 = x / 2 ^ (k + 1) := by
  rw [Int.ediv_ediv_of_nonneg (Int.le_of_lt (Int.pow_pos (by omega))), Int.pow_succ]
end Go.Proofs.Ytnnfcbcjepbjiaa
/- What the exported calls of words return that put and load numbers. -/
namespace Go.Proofs.Ytnnfcbcjepbjiaa
open Go.ChangeShapes Go.WideShapes Go.ChangeAt Go.RowKit
set_option linter.unusedVariables false
open Plain
theorem wf_i64 {x : Int} (h : (Lit.int .i64 x).wf = true) : -9223372036854775808 ≤ x ∧ x ≤ 9223372036854775807 := by
  simp [Lit.wf, IntKind.min, IntKind.max, IntKind.signed, IntKind.bits] at h; omega
theorem wf_u64 {x : Int} (h : (Lit.int .u64 x).wf = true) : 0 ≤ x ∧ x < 18446744073709551616 := by
  simp [Lit.wf, IntKind.min, IntKind.max, IntKind.signed, IntKind.bits] at h; omega
theorem wf_u32' {x : Int} (h : (Lit.int .u32 x).wf = true) : 0 ≤ x ∧ x < 4294967296 := by
  simp [Lit.wf, IntKind.min, IntKind.max, IntKind.signed, IntKind.bits] at h; omega
theorem wf_u8 {x : Int} (h : (Lit.int .u8 x).wf = true) : 0 ≤ x ∧ x < 256 := by
  simp [Lit.wf, IntKind.min, IntKind.max, IntKind.signed, IntKind.bits] at h; omega
theorem eqB_self (a : List Int) : eqB a a = true := by simp [eqB]
/-- What was made, and stands there still, reads as bytes. -/
theorem Made.bs {w w' : World} {A : Option Addr} {c n : Nat} {zs : List Int} (h : w'.ownsRow w.heap.size 5 1 (.slice A n c) n (vals zs)) (hb : IsBytes zs) : Bs w' w'.heap.size A n zs := bs_of_own h hb
theorem Made.n {w : World} {zs : List Int} {e : Ending} {w' : World} {n : Nat} (h : Made w zs e w') (hn : zs.length = n) :
    ∃ A c, e = .returned (.slice A n c) ∧ w'.ownsRow w.heap.size 5 1 (.slice A n c) n (vals zs) ∧ Below w.heap.size w w' ∧ n ≤ c ∧ c ≤ maxLen := by
  subst hn; exact h
theorem bs_new (w : World) (zs : List Int) (n : Nat) (hn : zs.length = n) (h : IsBytes zs) (t : TypeId) (g : Nat) (hg : w.heap.size = g) : Bs (w.alloc (.cells (vals zs).toArray t)) (g + 1) (some ⟨g, 0, none⟩) n zs := by
  subst hg
  exact ⟨hn, fun j hj => h j (by omega), fun _ => ⟨w.heap.size, 0, rfl, by omega, fun j hj => by
    have hh : (w.alloc (.cells (vals zs).toArray t)).cell? ⟨w.heap.size, 0 + j, none⟩ = (vals zs).toArray[0 + j]? := cell_of_row _ _ _ _ _ _ (heap_alloc_new w _)
    rw [hh, Nat.zero_add]
    simp [vals, List.getElem?_map, List.getD_eq_getElem?_getD, List.getElem?_eq_getElem (show j < zs.length by omega)]⟩⟩
end Go.Proofs.Ytnnfcbcjepbjiaa
/- Rows of bytes that a call owns, whatever they hold: kept, read, written. -/
namespace Go.Proofs.Ytnnfcbcjepbjiaa
open Go.ChangeShapes Go.WideShapes Go.ChangeAt Go.RowKit
set_option linter.unusedVariables false
open Plain
theorem own_below {w w' : World} {base B n size : Nat} {t : TypeId} {v : Value} {xs : List Value} (h : w.ownsRow base t size v n xs) (hb : Below B w w') (hB : w.heap.size ≤ B) : w'.ownsRow base t size v n xs := by
  have hlt := h.lt
  obtain ⟨h1, h2⟩ := h
  refine ⟨h1, ?_⟩
  rcases h2 with h2 | ⟨g, cap, cur, hv, hg, hh, r⟩
  · exact .inl h2
  · subst hv
    have := (hlt g rfl).2
    exact .inr ⟨g, cap, cur, rfl, hg, (hb.block g (by omega)).trans hh, r⟩
theorem own_base {w : World} {base base' n size : Nat} {t : TypeId} {v : Value} {xs : List Value} (h : w.ownsRow base t size v n xs) (hb : base' ≤ base) : w.ownsRow base' t size v n xs := by
  obtain ⟨h1, h2⟩ := h
  refine ⟨h1, ?_⟩
  rcases h2 with h2 | ⟨g, cap, cur, hv, hg, r⟩
  · exact .inl h2
  · exact .inr ⟨g, cap, cur, hv, by omega, r⟩
/-- The slice (A, n, c) owns a row of bytes, from block base on. -/
def Own (w : World) (base : Nat) (A : Option Addr) (n c : Nat) : Prop := ∃ zs, zs.length = n ∧ IsBytes zs ∧ w.ownsRow base 5 1 (.slice A n c) n (vals zs)
section
variable {w w' : World} {base n c : Nat} {A : Option Addr}
theorem Own.of {zs : List Int} (h : w.ownsRow base 5 1 (.slice A n c) n (vals zs)) (hb : IsBytes zs) : Own w base A n c :=
  ⟨zs, by have := h.1; rw [vals_len] at this; omega, hb, h⟩
theorem Own.below {B : Nat} (h : Own w base A n c) (hb : Below B w w') (hB : w.heap.size ≤ B) : Own w' base A n c := by
  obtain ⟨zs, hl, hz, ho⟩ := h
  exact ⟨zs, hl, hz, own_below ho hb hB⟩
theorem Own.drewN (h : Own w base A n c) (k : Nat) : Own (w.drewN k) base A n c := h
theorem Own.far (h : Own w base A n c) {p : Addr} (hp : p.block < base) (u : Value) : Own (w.setCell p u) base A n c := by
  obtain ⟨zs, hl, hz, ho⟩ := h
  exact ⟨zs, hl, hz, ownsRow_setCell_below ho hp u⟩
theorem Own.lt (h : Own w base A n c) : ∀ a, A = some a → base ≤ a.block ∧ a.block < w.heap.size := by
  obtain ⟨zs, hl, hz, ho⟩ := h
  rintro a rfl
  exact ho.lt a.block rfl
theorem Own.at_ (h : Own w base A n c) {k : Nat} (hk : k < n) :
    ∃ g u, A = some ⟨g, 0, none⟩ ∧ base ≤ g ∧ g < w.heap.size ∧ 0 ≤ u ∧ u < 256 ∧ w.cell? ⟨g, k, none⟩ = some (.int .u8 u) ∧ w.frozen? ⟨g, k, none⟩ = false ∧
      Hid (∀ z : Int, 0 ≤ z → z < 256 → Own (w.setCell ⟨g, k, none⟩ (.int .u8 z)) base A n c) := by
  obtain ⟨zs, hl, hz, ho⟩ := h
  obtain ⟨g, cap, hv, hg, hlt⟩ := ho.form (by omega)
  injection hv with e1 e2 e3
  subst e1
  refine ⟨g, zs.getD k 0, rfl, hg, hlt, (hz k (by omega)).1, (hz k (by omega)).2, ?_, ho.frozenAt k, ?_⟩
  · rw [ho.cellAt k (by omega)]
    simp [vals, List.getElem?_map, List.getD_eq_getElem?_getD, List.getElem?_eq_getElem (show k < zs.length by omega)]
  · intro z h0 h1
    refine ⟨zs.set k z, by simpa using hl, ?_, ?_⟩
    · intro j hj
      rw [List.length_set] at hj
      rw [getD_set _ _ _ _ (by omega)]
      split
      · exact ⟨h0, h1⟩
      · exact hz j hj
    · have := (ho.stored k (.int .u8 z)).1
      simpa [vals, List.map_set] using this
end
end Go.Proofs.Ytnnfcbcjepbjiaa
