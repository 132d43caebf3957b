/- Texts of the proof, one behind the other: Plain Lib Mem Same App Xor Cat Put Load Bits Words Own Cuts. -/
import Derived.Laws.BitsAllLaws
import Derived.Below
import Derived.Test.YtfihiandifnkpaaRows
import Derived.WalkKit
import Derived.ProofKit
import Derived.Deep.QuietTactic
import Derived.BigQuiet
import Derived.Lib.Hide
import Derived.Laws.OwnMore
import Derived.Laws.AppendOwnNone
import Derived.Deep.Draws
import Derived.Deep.AppendLies
import Derived.Laws.Rows
import Derived.Deep.RegionHeld3
import Derived.StillTailTactics
import Derived.Deep.RegionWith
import Derived.Deep.RegionLaw
import Derived.OpenShut
import Derived.Deep.OwnRows
import Derived.Lib.MinMax
import Derived.Laws.ShiftsVarLaws
/- Plain facts on numbers: turns and shifts of 32 bits, bytes of numbers. Nothing of the program is imported but its rows' module (for the name). -/
namespace Go.Proofs.Ytfihiandifnkpaa.Plain
set_option linter.unusedVariables false

theorem and31 (n : Int) : bits .and .i64 n 31 = n % 32 := by
  show IntKind.i64.wrap ((BitVec.ofInt 64 n &&& BitVec.ofInt 64 31).toNat : Int) = _
  rw [BitVec.toNat_and]
  have h31 : (BitVec.ofInt 64 31).toNat = 2 ^ 5 - 1 := by decide
  rw [h31, Nat.and_two_pow_sub_one_eq_mod, BitVec.toNat_ofInt, IntKind.wrap_i64]
  omega

/-- x turned by k places (k below 32), as the sum of its two parts. -/
def rotN (x k : Nat) : Nat := x / 2 ^ k + (x % 2 ^ k) * 2 ^ (32 - k)
def rotZ (x n : Int) : Int := (rotN x.toNat (n % 32).toNat : Nat)
def shrZ (x n : Int) : Int := x / 2 ^ (min n.toNat 32)

theorem rotN_zero (x : Nat) : rotN x 0 = x := by simp [rotN, Nat.mod_one]
theorem rotN_lt (x k : Nat) (hx : x < 2 ^ 32) (hk : k ≤ 32) : rotN x k < 2 ^ 32 := by
  unfold rotN
  have e : 2 ^ 32 = 2 ^ (32 - k) * 2 ^ k := by rw [← Nat.pow_add]; congr 1; omega
  have hp : 0 < 2 ^ k := Nat.two_pow_pos k
  have h1 : x / 2 ^ k < 2 ^ (32 - k) := by rw [Nat.div_lt_iff_lt_mul hp, ← e]; exact hx
  have h2 : x % 2 ^ k < 2 ^ k := Nat.mod_lt _ hp
  have h3 : (x % 2 ^ k + 1) * 2 ^ (32 - k) ≤ 2 ^ k * 2 ^ (32 - k) := Nat.mul_le_mul_right _ h2
  rw [Nat.add_mul, Nat.one_mul] at h3
  rw [e, Nat.mul_comm (2 ^ (32 - k))]
  omega
theorem rotZ_range (x n : Int) (h0 : 0 ≤ x) (h1 : x < 4294967296) : 0 ≤ rotZ x n ∧ rotZ x n < 4294967296 := by
  unfold rotZ
  have := rotN_lt x.toNat (n % 32).toNat (by omega) (by omega)
  omega
theorem shrZ_range (x n : Int) (h0 : 0 ≤ x) (h1 : x < 4294967296) : 0 ≤ shrZ x n ∧ shrZ x n < 4294967296 := by
  unfold shrZ
  have hp : (0 : Int) < 2 ^ (min n.toNat 32) := Int.pow_pos (by omega)
  refine ⟨Int.ediv_nonneg h0 (by omega), ?_⟩
  exact Int.lt_of_le_of_lt (Int.ediv_le_self _ h0) h1
theorem shrZ_zero (x n : Int) (h : n ≤ 0) : shrZ x n = x := by
  unfold shrZ
  rw [show min n.toNat 32 = 0 from by omega]; simp

/-- One place more. -/
theorem rotN_succ (x k : Nat) (hk : k < 32) : rotN x (k + 1) = rotN x k / 2 + rotN x k % 2 * 2147483648 := by
  unfold rotN
  have e1 : 2 ^ (k + 1) = 2 ^ k * 2 := Nat.pow_succ ..
  have e2 : 2 ^ (32 - k) = 2 ^ (32 - (k + 1)) * 2 := by rw [← Nat.pow_succ]; congr 1; omega
  have e3 : 2 ^ k * 2 ^ (32 - (k + 1)) = 2147483648 := by
    rw [← Nat.pow_add, show k + (32 - (k + 1)) = 31 from by omega]
  rw [e1, e2, ← Nat.div_div_eq_div_mul, Nat.mod_mul]
  generalize hq : x / 2 ^ k = q
  generalize hr : x % 2 ^ k = r
  generalize hM : 2 ^ (32 - (k + 1)) = M at *
  generalize hP : 2 ^ k = P at *
  have e4 : (r + P * (q % 2)) * M = r * M + q % 2 * 2147483648 := by
    rw [Nat.add_mul, ← e3, Nat.mul_comm P, Nat.mul_assoc]
  have e5 : r * (M * 2) = r * M * 2 := by rw [Nat.mul_assoc]
  rw [e4, e5]
  omega
/-- The two halves of a turn meet in no bit. -/
theorem or_split (x k : Nat) (hx : x < 2 ^ 32) (hk : k ≤ 31) :
    bits .or .u32 ((x : Int) / 2 ^ k) ((x : Int) * 2 ^ (32 - k) % 4294967296) = (rotN x k : Nat) := by
  have e : 2 ^ 32 = 2 ^ k * 2 ^ (32 - k) := by rw [← Nat.pow_add]; congr 1; omega
  have e1 : (x : Int) / 2 ^ k = ((x / 2 ^ k : Nat) : Int) := by simp
  have e2 : (x : Int) * 2 ^ (32 - k) % 4294967296 = ((x % 2 ^ k * 2 ^ (32 - k) : Nat) : Int) := by
    rw [← Nat.mul_mod_mul_right, ← e]; simp
  have hp : 0 < 2 ^ k := Nat.two_pow_pos k
  have h1 : x / 2 ^ k < 2 ^ (32 - k) := by rw [Nat.div_lt_iff_lt_mul hp, Nat.mul_comm, ← e]; exact hx
  have h3 := rotN_lt x k hx (by omega)
  unfold rotN at h3
  rw [e1, e2, u32_or_nat _ _ (by omega) (by omega)]
  unfold rotN
  congr 1
  have := Nat.two_pow_add_eq_or_of_lt h1 (x % 2 ^ k)
  rw [Nat.or_comm, Nat.mul_comm (x % 2 ^ k), ← this, Nat.add_comm]

/-- The number whose digits, of base 256, are the list's, the greatest ahead. -/
def numZ (l : List Int) : Int := l.foldl (fun x z => x * 256 + z) 0
theorem numZ_snoc (l : List Int) (z : Int) : numZ (l ++ [z]) = numZ l * 256 + z := by simp [numZ, List.foldl_append]
def AllB (l : List Int) : Prop := ∀ z, z ∈ l → 0 ≤ z ∧ z < 256
theorem fold_range (l : List Int) : ∀ acc m : Int, 0 ≤ acc → acc + 1 ≤ m → AllB l → 0 ≤ l.foldl (fun x z => x * 256 + z) acc ∧ l.foldl (fun x z => x * 256 + z) acc + 1 ≤ m * 256 ^ l.length := by
  induction l with
  | nil => intro acc m h0 h1 _; simp; omega
  | cons z l ih =>
    intro acc m h0 h1 h
    have hz := h z (by simp)
    have := ih (acc * 256 + z) (m * 256) (by omega) (by omega) (fun y hy => h y (by simp [hy]))
    rw [List.foldl_cons, List.length_cons, Int.pow_succ, Int.mul_comm (256 ^ l.length), ← Int.mul_assoc]
    exact this
theorem numZ_range (l : List Int) (h : AllB l) : 0 ≤ numZ l ∧ numZ l < 256 ^ l.length := by
  have := fold_range l 0 1 (by omega) (by omega) h
  rw [Int.one_mul] at this
  exact ⟨this.1, by unfold numZ; omega⟩
theorem pow256_le (a b : Nat) (h : a ≤ b) : (256 : Int) ^ a ≤ 256 ^ b := by
  obtain ⟨k, rfl⟩ := Nat.exists_eq_add_of_le h
  have h1 : (0 : Int) < 256 ^ k := Int.pow_pos (by omega)
  have h2 : (0 : Int) < 256 ^ a := Int.pow_pos (by omega)
  have := Int.mul_le_mul_of_nonneg_left (show (1 : Int) ≤ 256 ^ k by omega) (show (0 : Int) ≤ 256 ^ a by omega)
  rw [Int.pow_add]; omega
def loadOk (len : Nat) (at_ : Int) (s : Nat) : Bool := decide (0 ≤ at_ ∧ at_ + s ≤ len)
def loadZ (zs : List Int) (at_ : Int) (s : Nat) : Int := if loadOk zs.length at_ s = true then numZ ((zs.drop at_.toNat).take s) else 0
theorem loadZ_yes (zs : List Int) (a s : Nat) (h : a + s ≤ zs.length) : loadZ zs a s = numZ ((zs.drop a).take s) := by
  unfold loadZ loadOk
  rw [if_pos (by simp; omega)]; simp
theorem loadOk_yes (n a s : Nat) (h : a + s ≤ n) : loadOk n a s = true := by unfold loadOk; simp; omega
theorem loadOk_no (n : Nat) (a : Int) (s : Nat) (h : a < 0 ∨ (n : Int) < a + s) : loadOk n a s = false := by unfold loadOk; simp; omega
theorem loadZ_no (zs : List Int) (a : Int) (s : Nat) (h : a < 0 ∨ (zs.length : Int) < a + s) : loadZ zs a s = 0 := by
  unfold loadZ; rw [loadOk_no _ _ _ h]; simp
theorem numZ_piece (zs : List Int) (a k : Nat) (u1 : Int) (h : a + k < zs.length) (hu : zs.getD (a + k) 0 = u1) :
    numZ ((zs.drop a).take (k + 1)) = numZ ((zs.drop a).take k) * 256 + u1 := by
  have hl : k < (zs.drop a).length := by simp; omega
  rw [List.take_succ_eq_append_getElem hl, numZ_snoc]
  congr 1
  rw [← hu]
  simp [List.getD_eq_getElem?_getD, List.getElem?_eq_getElem h]
theorem allB_piece (zs : List Int) (a k : Nat) (h : ∀ j, j < zs.length → 0 ≤ zs.getD j 0 ∧ zs.getD j 0 < 256) : AllB ((zs.drop a).take k) := by
  intro z hz
  have hz' := List.mem_of_mem_drop (List.mem_of_mem_take hz)
  obtain ⟨j, hj, rfl⟩ := List.mem_iff_getElem.1 hz'
  have := h j hj
  simpa [List.getD_eq_getElem?_getD, List.getElem?_eq_getElem hj] using this
theorem numZ_piece_range (zs : List Int) (a k m : Nat) (hk : k ≤ m) (h : ∀ j, j < zs.length → 0 ≤ zs.getD j 0 ∧ zs.getD j 0 < 256) : 0 ≤ numZ ((zs.drop a).take k) ∧ numZ ((zs.drop a).take k) < 256 ^ m := by
  have h1 := numZ_range _ (allB_piece zs a k h)
  have h2 := pow256_le ((zs.drop a).take k).length m (by simp; omega)
  omega
theorem loadZ_range (zs : List Int) (a : Int) (s : Nat) (h : ∀ j, j < zs.length → 0 ≤ zs.getD j 0 ∧ zs.getD j 0 < 256) : 0 ≤ loadZ zs a s ∧ loadZ zs a s < 256 ^ s := by
  unfold loadZ
  have := pow256_le 0 s (by omega)
  split
  · exact numZ_piece_range zs _ s s (by omega) h
  · omega
theorem or_byte (u z : Int) (hu : 0 ≤ u) (hu1 : u < 72057594037927936) (hz : 0 ≤ z) (hz1 : z < 256) :
    bits .or .u64 (IntKind.u64.wrap (u * 256)) z = u * 256 + z := by
  obtain ⟨x, rfl⟩ := Int.eq_ofNat_of_zero_le hu
  obtain ⟨y, rfl⟩ := Int.eq_ofNat_of_zero_le hz
  have hw : IntKind.u64.wrap ((x : Int) * 256) = ((x * 256 : Nat) : Int) := by rw [IntKind.wrap_u64]; omega
  rw [hw, u64_or_nat _ _ (by omega) (by omega)]
  have := Nat.two_pow_add_eq_or_of_lt (i := 8) (b := y) (by omega) x
  rw [show x * 256 = 2 ^ 8 * x from by omega, ← this]
  omega
theorem mul_byte (u z : Int) (hu : 0 ≤ u) (hu1 : u < 72057594037927936) (hz : 0 ≤ z) (hz1 : z < 256) :
    IntKind.u64.wrap (IntKind.u64.wrap (256 * u) + z) = u * 256 + z := by
  rw [IntKind.wrap_u64, IntKind.wrap_u64]; omega
end Go.Proofs.Ytfihiandifnkpaa.Plain
/- Small lemmas on calls and worlds that the walks use. -/
namespace Go.Proofs.Ytfihiandifnkpaa
open Go.ChangeShapes Go.WideShapes Go.ChangeAt Go.RowKit
set_option linter.unusedVariables false

/-- The call returns v and leaves the world as it was, but for answers drawn. -/
def Quiet (v : Value) (w : World) (e : Ending) (w' : World) : Prop := e = .returned v ∧ ∃ m, w' = w.drewN m

theorem quiet_use {P : Program} {f : FuncId} {args : Array Value} {w : World} {v : Value}
    (h : ∀ w, Calls P f args w (Quiet v w)) : Calls P f args w fun e w' => e = .returned v ∧ ∃ m, w' = w.drewN m := h w
theorem quiet_at {P : Program} {f : FuncId} {args : Array Value} {w : World} {n : Nat} {v : Value}
    (h : ∀ w, Calls P f args w (Quiet v w)) : Calls P f args (w.drewN n) fun e w' => e = .returned v ∧ ∃ m, w' = w.drewN m :=
  (h _).mono fun _ _ ⟨he, m, hm⟩ => ⟨he, n + m, by rw [hm, World.drewN_drewN]⟩
theorem quiet_add {P : Program} {f : FuncId} {args : Array Value} {w : World} {a n : Nat} {v : Value}
    (h : ∀ w, Calls P f args w (Quiet v w)) : Calls P f args (w.drewN (a + n)) fun e w'' => e = .returned v ∧ ∃ m, w'' = w.drewN (a + m) :=
  (h _).mono fun _ _ ⟨he, m, hm⟩ => ⟨he, n + m, by rw [hm, World.drewN_drewN, Nat.add_assoc]⟩
theorem below_drewN {B : Nat} {a w : World} (h : Below B a w) (n : Nat) : Below B a (w.drewN n) := ⟨h.os, h.tape, h.output, h.size, h.block⟩
end Go.Proofs.Ytfihiandifnkpaa
/- Slices of bytes as lists of numbers: what is read, what is owned. -/
namespace Go.Proofs.Ytfihiandifnkpaa
open Go.ChangeShapes Go.WideShapes Go.ChangeAt Go.RowKit
set_option linter.unusedVariables false

/-- What the frame is told of a slice of integers that came in. -/
def IsRow (k : IntKind) (w : World) (a : Option Addr) (len cap : Nat) (zs : List Int) : Prop :=
  (a = none ∧ len = 0 ∧ cap = 0 ∧ zs = []) ∨
  ∃ x, a = some x ∧ len ≤ cap ∧ cap ≤ maxLen ∧ zs.length = cap ∧ (∀ i, i < zs.length → w.cell? (x.add i) = some (.int k (zs.getD i 0))) ∧ ∀ n ∈ zs, (Lit.int k n).wf = true

/-- In world w the slice of n elements at A reads as the bytes zs; what it reads lies below block B. -/
structure Bs (w : World) (B : Nat) (A : Option Addr) (n : Nat) (zs : List Int) : Prop where
  len : zs.length = n
  rng : ∀ j, j < n → 0 ≤ zs.getD j 0 ∧ zs.getD j 0 < 256
  row : 0 < n → ∃ b off, A = some ⟨b, off, none⟩ ∧ b < B ∧ ∀ j, j < n → w.cell? ⟨b, off + j, none⟩ = some (.int .u8 (zs.getD j 0))

section
variable {w w' : World} {B B' n : Nat} {A : Option Addr} {zs : List Int}
theorem Bs.nil : Bs w B A 0 [] := ⟨rfl, fun j h => absurd h (by omega), fun h => absurd h (by omega)⟩
theorem Bs.at_ (h : Bs w B A n zs) {k : Nat} (hk : k < n) :
    ∃ b off u, A = some ⟨b, off, none⟩ ∧ b < B ∧ Hid (zs.getD k 0 = u) ∧ 0 ≤ u ∧ u < 256 ∧ w.cell? ⟨b, off + k, none⟩ = some (.int .u8 u) := by
  obtain ⟨b, off, rfl, hb, hc⟩ := h.row (by omega)
  exact ⟨b, off, _, rfl, hb, rfl, (h.rng k hk).1, (h.rng k hk).2, hc k hk⟩
theorem Bs.keep (h : Bs w B A n zs) (hk : ∀ p : Addr, p.block < B → w'.cell? p = w.cell? p) : Bs w' B A n zs :=
  ⟨h.len, h.rng, fun hn => by
    obtain ⟨b, off, rfl, hb, hc⟩ := h.row hn
    exact ⟨b, off, rfl, hb, fun j hj => (hk ⟨b, off + j, none⟩ hb).trans (hc j hj)⟩⟩
theorem Bs.more (h : Bs w B A n zs) (hB : B ≤ B') : Bs w B' A n zs :=
  ⟨h.len, h.rng, fun hn => by
    obtain ⟨b, off, rfl, hb, hc⟩ := h.row hn
    exact ⟨b, off, rfl, by omega, hc⟩⟩
theorem Bs.below (h : Bs w B A n zs) (hb : Below B w w') : Bs w' B A n zs := h.keep fun _ hp => hb.cell hp
theorem Bs.belowM (h : Bs w B A n zs) (hb : Below B' w w') (hB : B ≤ B') : Bs w' B A n zs := h.below (hb.mono hB)
theorem Bs.drewN (h : Bs w B A n zs) (k : Nat) : Bs (w.drewN k) B A n zs := h.keep fun _ _ => rfl
theorem Bs.drew (h : Bs w B A n zs) : Bs w.drew B A n zs := h.keep fun _ _ => rfl
theorem Bs.alloc (h : Bs w B A n zs) (hB : B ≤ w.heap.size) (o : Obj) : Bs (w.alloc o) B A n zs := h.keep fun p hp => World.cell?_alloc_lt w o p (by omega)
theorem Bs.setCell (h : Bs w B A n zs) {p : Addr} (hB : B ≤ p.block) (u : Value) : Bs (w.setCell p u) B A n zs :=
  h.keep fun q hq => World.cell?_setCell_other w p q u (fun e => by subst e; omega)
theorem Bs.grown (h : Bs w B A n zs) {row : Option Nat} (hg : w.grownBy w' row) (hB : B ≤ w.heap.size) (hr : ∀ g, row = some g → B ≤ g) : Bs w' B A n zs :=
  h.keep fun p hp => World.cell?_of_block (hg.block p.block (by omega) (fun e => by have := hr _ e.symm; omega))
/-- A piece of it. -/
theorem Bs.cut (h : Bs w B A n zs) {k m : Nat} (hk : k + m ≤ n) (A' : Option Addr) (hA : ∀ b off, A = some ⟨b, off, none⟩ → 0 < m → A' = some ⟨b, off + k, none⟩) : Bs w B A' m ((zs.drop k).take m) := by
  have hl := h.len
  have hg : ∀ j, j < m → ((zs.drop k).take m).getD j 0 = zs.getD (k + j) 0 := fun j hj => by
    simp [List.getD_eq_getElem?_getD, List.getElem?_drop, hj]
  refine ⟨by simp; omega, fun j hj => by rw [hg j hj]; exact h.rng _ (by omega), fun hm => ?_⟩
  obtain ⟨b, off, rfl, hb, hc⟩ := h.row (by omega)
  refine ⟨b, off + k, hA _ _ rfl hm, hb, fun j hj => ?_⟩
  rw [hg j hj, Nat.add_assoc]
  exact hc _ (by omega)

/-- What came in reads as bytes. -/
theorem IsRow.bs {len cap : Nat} (h : IsRow .u8 w A len cap zs) : Bs w w.heap.size A len (zs.take len) ∧ len ≤ maxLen ∧ len ≤ cap := by
  rcases h with ⟨rfl, rfl, rfl, rfl⟩ | ⟨x, rfl, hl, hm, hz, hc, hw⟩
  · exact ⟨Bs.nil, by simp [maxLen], Nat.le_refl _⟩
  · refine ⟨⟨by simp; omega, ?_, ?_⟩, by omega, hl⟩
    · intro j hj
      have e : (zs.take len).getD j 0 = zs[j]'(by omega) := by
        simp [List.getD_eq_getElem?_getD, hj, List.getElem?_eq_getElem (show j < zs.length by omega)]
      have := hw zs[j] (List.getElem_mem ..)
      rw [e]
      simp [Lit.wf, IntKind.min, IntKind.max, IntKind.signed, IntKind.bits] at this
      omega
    · intro hn
      obtain ⟨b, off, rfl, hc'⟩ := ints_at hc (by omega)
      refine ⟨b, off, rfl, World.block_lt_of_cell? _ _ (hc' 0 (by omega)), fun j hj => ?_⟩
      rw [hc' j (by omega)]
      simp [List.getD_eq_getElem?_getD, hj]
end

/-- The bytes as values. -/
def vals (zs : List Int) : List Value := zs.map (Value.int .u8)
theorem vals_len (zs : List Int) : (vals zs).length = zs.length := by simp [vals]
theorem vals_app (a b : List Int) : vals (a ++ b) = vals a ++ vals b := by simp [vals]

def IsBytes (zs : List Int) : Prop := ∀ j, j < zs.length → 0 ≤ zs.getD j 0 ∧ zs.getD j 0 < 256

/-- Every row of its own reads as bytes. -/
theorem bs_of_own {w : World} {base c n : Nat} {t : TypeId} {A : Option Addr} {zs : List Int} (h : w.ownsRow base t 1 (.slice A n c) n (vals zs)) (hb : IsBytes zs) : Bs w w.heap.size A n zs := by
  have hl : zs.length = n := by have := h.1; rw [vals_len] at this; omega
  refine ⟨hl, fun j hj => hb j (by omega), fun hn => ?_⟩
  obtain ⟨g, cap, hv, _, hlt⟩ := h.form hn
  have hA : A = some ⟨g, 0, none⟩ := by injection hv
  subst hA
  refine ⟨g, 0, rfl, hlt, fun j hj => ?_⟩
  have := h.cells (g := g) rfl j (.int .u8 (zs.getD j 0)) (by
    simp [vals, List.getElem?_map, List.getD_eq_getElem?_getD, List.getElem?_eq_getElem (show j < zs.length by omega)])
  rwa [← Go.WideShapes.add_plain] 
theorem own_shape {w : World} {base n : Nat} {t : TypeId} {v : Value} {xs : List Value} (h : w.ownsRow base t 1 v n xs) : ∃ A c, v = .slice A n c ∧ n ≤ c ∧ c ≤ maxLen := by
  rcases h.2 with ⟨rfl, rfl⟩ | ⟨g, cap, cur, rfl, _, _, h1, h2, _⟩
  · exact ⟨none, 0, rfl, Nat.le_refl _, by simp [maxLen]⟩
  · exact ⟨_, _, rfl, h1, h2⟩
end Go.Proofs.Ytfihiandifnkpaa
/- What the two functions that compare lists return. -/
namespace Go.Proofs.Ytfihiandifnkpaa
open Go.ChangeShapes Go.WideShapes Go.ChangeAt Go.RowKit
set_option linter.unusedVariables false

def eqB (a b : List Int) : Bool := decide (a = b)
theorem eqB_no_len {a b : List Int} (h : a.length ≠ b.length) : eqB a b = false := by
  unfold eqB; exact decide_eq_false (fun e => h (by rw [e]))
theorem eqB_no_at {a b : List Int} {k : Nat} (h : a.getD k 0 ≠ b.getD k 0) : eqB a b = false := by
  unfold eqB; exact decide_eq_false (fun e => h (by rw [e]))
theorem take_succ_eq {a b : List Int} {k : Nat} (ha : k < a.length) (hb : k < b.length) (h : a.take k = b.take k) (hk : a.getD k 0 = b.getD k 0) : a.take (k + 1) = b.take (k + 1) := by
  rw [List.take_succ_eq_append_getElem ha, List.take_succ_eq_append_getElem hb, h]
  simp [List.getD_eq_getElem?_getD, List.getElem?_eq_getElem ha, List.getElem?_eq_getElem hb] at hk
  rw [hk]
theorem eqB_yes {a b : List Int} {n : Nat} (ha : a.length = n) (hb : b.length = n) (h : a.take n = b.take n) : eqB a b = true := by
  unfold eqB
  rw [List.take_of_length_le (by omega), List.take_of_length_le (by omega)] at h
  exact decide_eq_true h
theorem ret_bool {a b : Bool} (h : a = b) : Ending.returned (.bool a) = .returned (.bool b) := by rw [h]

theorem same_any {B1 B2 : Nat} {A1 A2 : Option Addr} {n1 n2 : Nat} (c1 c2 : Nat) {zs1 zs2 : List Int} {w : World} (h1 : Bs w B1 A1 n1 zs1) (h2 : Bs w B2 A2 n2 zs2) (hn1 : n1 ≤ maxLen) (hn2 : n2 ≤ maxLen) :
    Calls Try.prog 31 #[.slice A1 n1 c1, .slice A2 n2 c2] w (Quiet (.bool (eqB zs1 zs2)) w) := by
  unfold maxLen at hn1 hn2
  have hl1 := h1.len
  have hl2 := h2.len
  by_cases hn : n1 = n2
  · subst hn
    have H1 := Lib.hid hl1
    have H2 := Lib.hid hl2
    clear hl1 hl2
    go_enter Try.func31, Try.ntmps31
    go_wp2
    go_loopw [13] (fun i wr => ∃ k m : Nat, k ≤ n1 ∧ i = .int .i64 k ∧ wr = w.drewN m ∧ Hid (zs1.take k = zs2.take k)) (fun i _ => n1 - (intOf i).toNat)
    case atStart => exact ⟨0, 0, by omega, rfl, rfl, Lib.hid (by simp)⟩
    case round =>
      obtain ⟨k, m, hk, rfl, rfl, HT⟩ := hrel
      by_cases hlt : k < n1
      · obtain ⟨b1, o1, u1, rfl, _, HU1, hu1, hu1', hc1⟩ := h1.at_ hlt
        obtain ⟨b2, o2, u2, rfl, _, HU2, hu2, hu2', hc2⟩ := h2.at_ hlt
        by_cases hu : u1 = u2
        · subst hu
          have HT' := Lib.hid (take_succ_eq (by rw [H1.out]; omega) (by rw [H2.out]; omega) HT.out (HU1.out.trans HU2.out.symm))
          go_wp2
          go_quiet (fail)
          go_wp2
          go_roundw
          case rel => exact ⟨k + 1, _, by omega, by go_num, rfl, HT'⟩
          case measure => simp [intOf]; omega
        · have hne : (u1 == u2) = false := by simpa using hu
          have hne' : (u1 != u2) = true := by simpa using hu
          have HF := Lib.hid (eqB_no_at (a := zs1) (b := zs2) (k := k) (by rw [HU1.out, HU2.out]; exact hu))
          clear hu
          go_wp2
          go_quiet (fail)
          go_wp2
          go_ret
          exact ⟨ret_bool HF.out.symm, _, World.drewN_drewN ..⟩
      · have hkn : k = n1 := by omega
        have HF := Lib.hid (eqB_yes H1.out H2.out (by rw [← hkn]; exact HT.out))
        clear hkn
        go_wp2
        go_ret
        exact ⟨ret_bool HF.out.symm, _, rfl⟩
  · have hne : ((n1 : Int) == (n2 : Int)) = false := by simp; omega
    have HF := Lib.hid (eqB_no_len (a := zs1) (b := zs2) (by omega))
    clear hl1 hl2
    go_enter Try.func31, Try.ntmps31
    go_wp2
    go_ret
    exact ⟨ret_bool HF.out.symm, 0, rfl⟩
theorem refsame_any {B1 B2 : Nat} {A1 A2 : Option Addr} {n1 n2 : Nat} (c1 c2 : Nat) {zs1 zs2 : List Int} {w : World} (h1 : Bs w B1 A1 n1 zs1) (h2 : Bs w B2 A2 n2 zs2) (hn1 : n1 ≤ maxLen) (hn2 : n2 ≤ maxLen) :
    Calls Try.prog 14 #[.slice A1 n1 c1, .slice A2 n2 c2] w (Quiet (.bool (eqB zs1 zs2)) w) := by
  unfold maxLen at hn1 hn2
  have hl1 := h1.len
  have hl2 := h2.len
  by_cases hn : n1 = n2
  · subst hn
    have H1 := Lib.hid hl1
    have H2 := Lib.hid hl2
    clear hl1 hl2
    go_enter Try.func14, Try.ntmps14
    go_wp2
    go_loopw [5] (fun i wr => ∃ k m : Nat, k ≤ n1 ∧ i = .int .i64 k ∧ wr = w.drewN m ∧ Hid (zs1.take k = zs2.take k)) (fun i _ => n1 - (intOf i).toNat)
    case atStart => exact ⟨0, 0, by omega, rfl, rfl, Lib.hid (by simp)⟩
    case round =>
      obtain ⟨k, m, hk, rfl, rfl, HT⟩ := hrel
      by_cases hlt : k < n1
      · obtain ⟨b1, o1, u1, rfl, _, HU1, hu1, hu1', hc1⟩ := h1.at_ hlt
        obtain ⟨b2, o2, u2, rfl, _, HU2, hu2, hu2', hc2⟩ := h2.at_ hlt
        by_cases hu : u1 = u2
        · subst hu
          have HT' := Lib.hid (take_succ_eq (by rw [H1.out]; omega) (by rw [H2.out]; omega) HT.out (HU1.out.trans HU2.out.symm))
          go_wp2
          go_quiet (fail)
          go_wp2
          go_roundw
          case rel => exact ⟨k + 1, _, by omega, by go_num, rfl, HT'⟩
          case measure => simp [intOf]; omega
        · have hne : (u1 == u2) = false := by simpa using hu
          have hne' : (u1 != u2) = true := by simpa using hu
          have HF := Lib.hid (eqB_no_at (a := zs1) (b := zs2) (k := k) (by rw [HU1.out, HU2.out]; exact hu))
          clear hu
          go_wp2
          go_quiet (fail)
          go_wp2
          go_ret
          exact ⟨ret_bool HF.out.symm, _, World.drewN_drewN ..⟩
      · have hkn : k = n1 := by omega
        have HF := Lib.hid (eqB_yes H1.out H2.out (by rw [← hkn]; exact HT.out))
        clear hkn
        go_wp2
        go_ret
        exact ⟨ret_bool HF.out.symm, _, rfl⟩
  · have hne : ((n1 : Int) == (n2 : Int)) = false := by simp; omega
    have HF := Lib.hid (eqB_no_len (a := zs1) (b := zs2) (by omega))
    clear hl1 hl2
    go_enter Try.func14, Try.ntmps14
    go_wp2
    go_ret
    exact ⟨ret_bool HF.out.symm, 0, rfl⟩
end Go.Proofs.Ytfihiandifnkpaa
/- append onto a row of the call's own, from a slice of whatever elements, nil too; what copies and puts together two lists. -/
namespace Go.Proofs.Ytfihiandifnkpaa
open Go.ChangeShapes Go.WideShapes Go.ChangeAt Go.RowKit
set_option linter.unusedVariables false

/-- The m elements at A are the values vs. -/
def Lies (w : World) (size : Nat) (A : Option Addr) (m : Nat) (vs : List Value) : Prop :=
  vs.length = m * size ∧ ∀ ad, A = some ad → ∀ j u, vs[j]? = some u → w.cell? (ad.add j) = some u
def Sourced (A : Option Addr) (m : Nat) : Prop := A = none → m = 0
theorem Bs.lies {w : World} {B n : Nat} {A : Option Addr} {zs : List Int} (h : Bs w B A n zs) : Lies w 1 A n (vals zs) ∧ Sourced A n := by
  refine ⟨⟨by rw [vals_len, h.len]; simp, fun ad hA j u hu => ?_⟩, fun hA => ?_⟩
  · have hj : j < n := by
      have := (List.getElem?_eq_some_iff.1 hu).1
      rw [vals_len, h.len] at this; exact this
    obtain ⟨b, off, e, _, hc⟩ := h.row (by omega)
    rw [hA] at e; injection e with e; subst e
    rw [Go.WideShapes.add_plain, hc j hj]
    simp only [vals, List.getElem?_map] at hu
    rw [List.getElem?_eq_getElem (by rw [h.len]; exact hj)] at hu
    simp at hu
    rw [← hu]
    simp [List.getD_eq_getElem?_getD, List.getElem?_eq_getElem (show j < zs.length by rw [h.len]; exact hj)]
  · rcases Nat.eq_zero_or_pos n with h0 | h0
    · exact h0
    · obtain ⟨b, off, e, _⟩ := h.row h0
      rw [hA] at e; cases e
theorem vals_one (zs : List Int) : ∀ u ∈ vals zs, u.oneCell' = true := by
  intro u hu
  simp only [vals, List.mem_map] at hu
  obtain ⟨z, _, rfl⟩ := hu
  rfl

theorem run_append_nothing {P : Program} (w : World) (base : Nat) (t ty e : TypeId) (i : TypeInfo) (size : Nat) (ht : P.underlying t = some (.slice e)) (hi : P.info? e = some i)
    (v : Value) (n : Nat) (xs : List Value) (hown : w.ownsRow base e size v n xs) (c : Nat) : (Builtin.append_ #[t, t] ty #[v, .slice none 0 c]).run P w = .ok v w := by
  obtain ⟨_, ⟨rfl, rfl⟩ | ⟨g, cap, cur, rfl, _, _, hnc, _⟩⟩ := hown <;>
    simp [Builtin.append_, run_underlying ht, sizeOf, typeInfo, Builtin.lenOf, Builtin.firstCells, storeCells, *]

/-- The law for the walk: what is appended may be nil, empty or not. -/
theorem wpList_app {P : Program} (w : World) {ops : Array Oper} {rest : List Oper} {o : Oper} {a : Act} {Q : Exit → Act → World → Prop} (hgd : o.guard = none) (s x : Operand) (t : TypeId)
    (ho : o.op = .call { callee := .builtin .append, args := #[s, x], argTypes := #[t, t] })
    (base : Nat) (e : TypeId) (size bytes : Nat) (ht : P.underlying t = some (.slice e)) (hinfo : ∃ i z, P.info? e = some i ∧ i.zero = some z ∧ i.size = size ∧ i.bytes = bytes ∧ z.cells.size = size) (hsz : 0 < size)
    (v : Value) (n : Nat) (xs : List Value) (hs : a.eval s = v) (hown : w.ownsRow base e size v n xs)
    (A : Option Addr) (m c : Nat) (news : List Value) (hx : a.eval x = .slice A m c) (hr : Lies w size A m news) (hso : Sourced A m) (h1 : ∀ u ∈ news, u.oneCell' = true)
    (h63 : n + m ≤ maxLen) (hbytes : (n + m) * bytes ≤ 140737488355328) (hbase : base ≤ w.heap.size)
    (h : ∀ v' w', w'.ownsRow base e size v' (n + m) (xs ++ news) → w.grownBy w' v.ownBlock → wpList P ops Q rest (a.put o.dst v') w') : wpList P ops Q (o :: rest) a w := by
  obtain ⟨i, z, hi, hz, hsize, hby, hzs⟩ := hinfo
  cases A with
  | none =>
    have hm : m = 0 := hso rfl
    subst hm
    have hn : news = [] := List.eq_nil_of_length_eq_zero (by simpa using hr.1)
    subst hn
    refine wpList_plain hgd fun K hK => ?_
    have hrun := run_append_nothing (P := P) w base t o.type e i size ht hi v n xs hown c
    unfold Oper.wp
    simp only [execOp, ho, resolve, invoke, builtin, Sem.run_bind, Sem.run_pure, Result.andThen_ok, List.map_toArray, List.map_cons, List.map_nil, hs, hx, hrun]
    exact hK _ _ (h v w (by simpa using hown) (World.grownBy.refl w _))
  | some ad =>
    exact wpList_append_own w hgd s x t ho base e i z size bytes ht hi hz hsize hby hzs hsz v n xs hs hown ad m c news hx hr.1 (hr.2 ad rfl) h1 h63 hbytes hbase (fun v' w' h2 h3 _ => h v' w' h2 h3)

theorem u8_info : ∃ i z, Try.prog.info? 5 = some i ∧ i.zero = some z ∧ i.size = 1 ∧ i.bytes = 1 ∧ z.cells.size = 1 := by
  obtain ⟨i, hi, hz, hs, hb⟩ := info_parts (show (Try.prog.info? 5).map (fun i => (i.zero, i.size, i.bytes)) = some (some (.int .u8 0), 1, 1) by kernel_rfl)
  exact ⟨i, _, hi, hz, hs, hb, rfl⟩

/-- What a call hands back that makes a list of bytes: it is the call's own; nothing that was there has turned. -/
def Made (w : World) (zs : List Int) (e : Ending) (w' : World) : Prop :=
  ∃ A c, e = .returned (.slice A zs.length c) ∧ w'.ownsRow w.heap.size 5 1 (.slice A zs.length c) zs.length (vals zs) ∧ Below w.heap.size w w' ∧ zs.length ≤ c ∧ c ≤ maxLen
theorem made_of {w w' : World} {n : Nat} {v : Value} {zs : List Int} (hn : zs.length = n) (h : w'.ownsRow w.heap.size 5 1 v n (vals zs)) (hb : Below w.heap.size w w') : Made w zs (.returned v) w' := by
  obtain ⟨A, c, rfl, h1, h2⟩ := own_shape h
  subst hn
  exact ⟨A, c, rfl, h, hb, h1, h2⟩
theorem IsBytes.nil : IsBytes [] := fun j h => absurd h (by simp)
theorem Bs.isBytes {w : World} {B n : Nat} {A : Option Addr} {zs : List Int} (h : Bs w B A n zs) : IsBytes zs := fun j hj => h.rng j (by rw [← h.len]; exact hj)
theorem isBytes_iff {zs : List Int} : IsBytes zs ↔ ∀ z, z ∈ zs → 0 ≤ z ∧ z < 256 := by
  constructor
  · intro h z hz
    obtain ⟨j, hj, rfl⟩ := List.mem_iff_getElem.1 hz
    simpa [List.getD_eq_getElem?_getD, List.getElem?_eq_getElem hj] using h j hj
  · intro h j hj
    have := h zs[j] (List.getElem_mem ..)
    simpa [List.getD_eq_getElem?_getD, List.getElem?_eq_getElem hj] using this
theorem rep_bytes (n : Nat) (x : Int) (h0 : 0 ≤ x) (h1 : x < 256) : IsBytes (List.replicate n x) := by
  rw [isBytes_iff]
  intro z hz
  rw [List.mem_replicate] at hz
  omega
theorem IsBytes.app {a b : List Int} (ha : IsBytes a) (hb : IsBytes b) : IsBytes (a ++ b) := by
  rw [isBytes_iff] at *
  intro z hz
  rcases List.mem_append.1 hz with h | h
  · exact ha z h
  · exact hb z h

theorem refcat_any {B1 B2 : Nat} {A1 A2 : Option Addr} {n1 n2 : Nat} (c1 c2 : Nat) {zs1 zs2 : List Int} {w : World} (h1 : Bs w B1 A1 n1 zs1) (h2 : Bs w B2 A2 n2 zs2) (hB1 : B1 ≤ w.heap.size) (hB2 : B2 ≤ w.heap.size) (hn : n1 + n2 ≤ 140737488355328) :
    Calls Try.prog 47 #[.slice A1 n1 c1, .slice A2 n2 c2] w (Made w (zs1 ++ zs2)) := by
  have ho0 := World.ownsRow_nil w w.heap.size 5 1
  go_enter Try.func47, Try.ntmps47
  go_wp2_with (first
    | (at_builtin; refine wpList_app _ rfl (.tmp 6) (.tmp 7) 22 rfl w.heap.size 5 1 1 Try.underlying22 u8_info (by omega) (.slice none 0 0) 0 [] rfl ho0 A1 n1 c1 (vals zs1) rfl h1.lies.1 h1.lies.2 (vals_one _) (by unfold maxLen; omega) (by omega) (Nat.le_refl _) ?_; intro v1 w1 ho1 hg1; have hb1 : Below w.heap.size w w1 := (Below.refl _ _).grown hg1 (Nat.le_refl _) (by simp [Value.ownBlock]))
    | (at_builtin; refine wpList_app _ rfl (.tmp 9) (.tmp 10) 22 rfl w.heap.size 5 1 1 Try.underlying22 u8_info (by omega) v1 (0 + n1) ([] ++ vals zs1) rfl ho1 A2 n2 c2 (vals zs2) rfl (h2.belowM hb1 hB2).lies.1 h2.lies.2 (vals_one _) (by unfold maxLen; omega) (by omega) hb1.size ?_; intro v2 w2 ho2 hg2))
  go_ret
  have hb2 : Below w.heap.size w w2 := hb1.grown hg2 hb1.size (fun k hk => (ho1.lt k hk).1)
  refine made_of (n := 0 + n1 + n2) (by simp [h1.len, h2.len]) ?_ hb2
  rw [vals_app]
  exact ho2
theorem refcopy_any {B1 : Nat} {A1 : Option Addr} {n1 : Nat} (c1 : Nat) {zs1 : List Int} {w : World} (h1 : Bs w B1 A1 n1 zs1) (hB1 : B1 ≤ w.heap.size) (hn : n1 ≤ 140737488355328) :
    Calls Try.prog 16 #[.slice A1 n1 c1] w (Made w zs1) := by
  have hn' : n1 + 0 ≤ 140737488355328 := by omega
  have h0 : Bs w 0 none 0 [] := Bs.nil
  have hc := refcat_any c1 0 h1 h0 hB1 (by omega) hn'
  rw [List.append_nil] at hc
  have HC := Lib.hid hc
  clear hc
  go_enter Try.func16, Try.ntmps16
  go_wp2_with (go_at_call 47; refine HC.out.mono ?_; rintro e w' ⟨A, c, rfl, hm⟩)
  go_ret
  exact ⟨A, c, rfl, hm⟩
end Go.Proofs.Ytfihiandifnkpaa
/- The exclusive or of two lists: what the program's and the document's return. -/
namespace Go.Proofs.Ytfihiandifnkpaa
open Go.ChangeShapes Go.WideShapes Go.ChangeAt Go.RowKit
set_option linter.unusedVariables false
theorem u8_row : (Try.prog.info? 5).map (fun i => (i.zero, i.size, i.bytes)) = some (some (.int .u8 0), 1, 1) := by kernel_rfl
theorem make_u8 (n : Nat) (hn : n ≤ 140737488355328) (w : World) : (Instr.makeSlice 22 (.int .i64 (n : Int)) (.int .i64 (n : Int))).run Try.prog w = .ok (.slice (some ⟨w.heap.size, 0, none⟩) n n) (w.alloc (.cells (madeCells #[.int .u8 0] n) 5)) :=
  run_make_row' (P := Try.prog) 22 5 (.int .u8 0) 1 Try.underlying22 u8_row rfl .i64 .i64 n (by omega) (by omega) w
def xorZ (a b : List Int) : List Int := List.zipWith (fun x y => bits .xor .u8 x y) a b
theorem xorZ_len (a b : List Int) : (xorZ a b).length = min a.length b.length := by simp [xorZ]
theorem xorZ_at (a b : List Int) (j : Nat) (h1 : j < a.length) (h2 : j < b.length) : (xorZ a b).getD j 0 = bits .xor .u8 (a.getD j 0) (b.getD j 0) := by
  simp [xorZ, List.getD_eq_getElem?_getD, List.getElem?_zipWith, List.getElem?_eq_getElem h1, List.getElem?_eq_getElem h2]
theorem xor_u8_range (x y : Int) (h1 : 0 ≤ x) (h2 : x < 256) (h3 : 0 ≤ y) (h4 : y < 256) : 0 ≤ bits .xor .u8 x y ∧ bits .xor .u8 x y < 256 := by
  rw [u8_xor x y h1 h2 h3 h4]
  have := Nat.xor_lt_two_pow (x := x.toNat) (y := y.toNat) (n := 8) (by omega) (by omega)
  omega
theorem xorZ_bytes {a b : List Int} (ha : IsBytes a) (hb : IsBytes b) : IsBytes (xorZ a b) := by
  intro j hj
  rw [xorZ_len] at hj
  rw [xorZ_at a b j (by omega) (by omega)]
  have h1 := ha j (by omega)
  have h2 := hb j (by omega)
  exact xor_u8_range _ _ h1.1 h1.2 h2.1 h2.2
theorem list_ext_getD {a b : List Int} (hl : a.length = b.length) (h : ∀ j, j < a.length → a.getD j 0 = b.getD j 0) : a = b := by
  apply List.ext_getElem hl
  intro j h1 h2
  have := h j h1
  simpa [List.getD_eq_getElem?_getD, List.getElem?_eq_getElem h1, List.getElem?_eq_getElem h2] using this
theorem getD_set (l : List Int) (k j : Nat) (x : Int) (hk : k < l.length) : (l.set k x).getD j 0 = if k = j then x else l.getD j 0 := by
  simp only [List.getD_eq_getElem?_getD, List.getElem?_set]
  split
  · simp
  · rfl
theorem vals_set (l : List Int) (k : Nat) (x : Int) : (vals l).toArray.setIfInBounds k (.int .u8 x) = (vals (l.set k x)).toArray := by
  simp [vals, List.map_set]
theorem madeCells_vals (n : Nat) : madeCells #[Value.int .u8 0] n = (vals (List.replicate n 0)).toArray := by
  unfold madeCells vals
  apply Array.ext
  · simp
  · intro i h1 h2
    simp [Nat.mod_one]
theorem take_snoc_getD (l : List Int) (k : Nat) (h : k < l.length) : l.take (k + 1) = l.take k ++ [l.getD k 0] := by
  rw [List.take_succ_eq_append_getElem h]
  simp [List.getD_eq_getElem?_getD, List.getElem?_eq_getElem h]
end Go.Proofs.Ytfihiandifnkpaa
/- Lists put together: what the program's Cat returns, of any number of lists. -/
namespace Go.Proofs.Ytfihiandifnkpaa
open Go.ChangeShapes Go.WideShapes Go.ChangeAt Go.RowKit
set_option linter.unusedVariables false
def sumTo (N : Nat → Nat) : Nat → Nat
  | 0 => 0
  | k + 1 => sumTo N k + N k
def catTo (Z : Nat → List Int) : Nat → List Int
  | 0 => []
  | k + 1 => catTo Z k ++ Z k
theorem sumTo_le (N : Nat → Nat) : ∀ k m, k ≤ m → sumTo N k ≤ sumTo N m := by
  intro k m h
  induction m with
  | zero => have : k = 0 := by omega
            subst this; exact Nat.le_refl _
  | succ m ih =>
    by_cases hk : k = m + 1
    · subst hk; exact Nat.le_refl _
    · have := ih (by omega)
      show _ ≤ sumTo N m + N m
      omega
theorem catTo_len (Z : Nat → List Int) (N : Nat → Nat) : ∀ k, (∀ j, j < k → (Z j).length = N j) → (catTo Z k).length = sumTo N k := by
  intro k
  induction k with
  | zero => intro _; rfl
  | succ k ih =>
    intro h
    show (catTo Z k ++ Z k).length = sumTo N k + N k
    rw [List.length_append, ih (fun j hj => h j (by omega)), h k (by omega)]
theorem catTo_bytes (Z : Nat → List Int) : ∀ k, (∀ j, j < k → IsBytes (Z j)) → IsBytes (catTo Z k) := by
  intro k
  induction k with
  | zero => intro _; exact IsBytes.nil
  | succ k ih => intro h; exact (ih (fun j hj => h j (by omega))).app (h k (by omega))

/-- The m lists that the slice at A tells of. -/
structure Lists (w : World) (B : Nat) (A : Option Addr) (m : Nat) (As : Nat → Option Addr) (Ns Cs : Nat → Nat) (Zs : Nat → List Int) : Prop where
  row : 0 < m → ∃ b off, A = some ⟨b, off, none⟩ ∧ b < B ∧ ∀ j, j < m → w.cell? ⟨b, off + j, none⟩ = some (.slice (As j) (Ns j) (Cs j))
  bs : ∀ j, j < m → Bs w B (As j) (Ns j) (Zs j)
theorem Lists.below {w w' : World} {B m : Nat} {A : Option Addr} {As : Nat → Option Addr} {Ns Cs : Nat → Nat} {Zs : Nat → List Int} (h : Lists w B A m As Ns Cs Zs) (hb : Below B w w') : Lists w' B A m As Ns Cs Zs :=
  ⟨fun hm => by
    obtain ⟨b, off, rfl, hlt, hc⟩ := h.row hm
    exact ⟨b, off, rfl, hlt, fun j hj => (hb.cell (p := ⟨b, off + j, none⟩) hlt).trans (hc j hj)⟩, fun j hj => (h.bs j hj).below hb⟩
theorem Lists.at_ {w : World} {B m : Nat} {A : Option Addr} {As : Nat → Option Addr} {Ns Cs : Nat → Nat} {Zs : Nat → List Int} (h : Lists w B A m As Ns Cs Zs) {k : Nat} (hk : k < m) :
    ∃ b off, A = some ⟨b, off, none⟩ ∧ b < B ∧ w.cell? ⟨b, off + k, none⟩ = some (.slice (As k) (Ns k) (Cs k)) := by
  obtain ⟨b, off, rfl, hlt, hc⟩ := h.row (by omega)
  exact ⟨b, off, rfl, hlt, hc k hk⟩

theorem cat_any {B : Nat} {A : Option Addr} {m : Nat} (c : Nat) {As : Nat → Option Addr} {Ns Cs : Nat → Nat} {Zs : Nat → List Int} {w : World} (h : Lists w B A m As Ns Cs Zs) (hB : B ≤ w.heap.size) (hm : m ≤ maxLen) (hs : sumTo Ns m ≤ 140737488355328) :
    Calls Try.prog 32 #[.slice A m c] w (Made w (catTo Zs m)) := by
  unfold maxLen at hm
  obtain ⟨i0, hi0, hz0, hz1, hz2⟩ := info_parts u8_row
  have I0 := Lib.hid hi0
  have I1 := Lib.hid hz0
  have I2 := Lib.hid hz1
  have I3 := Lib.hid hz2
  have hle : ∀ k, k ≤ m → sumTo Ns k ≤ 140737488355328 := fun k hk => Nat.le_trans (sumTo_le Ns k m hk) hs
  have HLE := Lib.hid hle
  have HLL : Hid ((catTo Zs m).length = sumTo Ns m) := Lib.hid (catTo_len Zs Ns m (fun j hj => (h.bs j hj).len))
  clear hi0 hz0 hz1 hz2 hle
  go_enter Try.func32, Try.ntmps32
  go_wp2
  go_loop [3, 11] (fun s i => ∃ k : Nat, k ≤ m ∧ i = .int .i64 k ∧ s = .int .i64 (sumTo Ns k : Nat)) (fun _ i => m - (intOf i).toNat)
  case atStart => exact ⟨0, by omega, rfl, rfl⟩
  case round =>
    obtain ⟨k, hk, rfl, rfl⟩ := hrel
    by_cases hlt : k < m
    · obtain ⟨b, off, rfl, hb, hc⟩ := h.at_ hlt
      have h1 := HLE.out (k + 1) (by omega)
      have h2 : sumTo Ns (k + 1) = sumTo Ns k + Ns k := rfl
      have H2 := Lib.hid h2
      have h3 : sumTo Ns k + Ns k ≤ 140737488355328 := by omega
      clear h1 h2
      generalize Ns k = nk at *
      generalize sumTo Ns k = sk at *
      go_wp2
      go_round
      case rel => exact ⟨k + 1, by omega, by go_num, by rw [H2.out]; go_num⟩
      case measure => simp [intOf]; omega
    · have hkm : k = m := by omega
      have h1 := HLE.out k (by omega)
      have HS : Hid (sumTo Ns k = sumTo Ns m) := Lib.hid (by rw [hkm])
      generalize sumTo Ns k = S at *
      clear hkm
      go_wp2_with (at_make; refine wpList_make_own _ rfl _ _ 22 rfl w.heap.size 5 i0 _ 1 Try.underlying22 I0.out I1.out I2.out .i64 .i64 _ S rfl rfl rfl (by rw [I3.out]; omega) (by unfold maxLen; omega) (Nat.le_refl _) ?_; intro w1 ho1 hg1)
      have hb1 : Below w.heap.size w w1 := (Below.refl _ _).grown hg1 (Nat.le_refl _) (by simp)
      clear hg1
      generalize hv0 : Value.slice (some ⟨w.heap.size, 0, none⟩) 0 S = v0 at *
      clear hv0
      go_loopw [6, 24] (fun v i wr => ∃ j : Nat, j ≤ m ∧ i = .int .i64 j ∧ wr.ownsRow w.heap.size 5 1 v (sumTo Ns j) (vals (catTo Zs j)) ∧ Below w.heap.size w wr) (fun _ i _ => m - (intOf i).toNat)
      case atStart => exact ⟨0, by omega, rfl, ho1, hb1⟩
      case round =>
        obtain ⟨j, hj, rfl, hown, hbel⟩ := hrel
        by_cases hltj : j < m
        · obtain ⟨b, off, rfl, hb, hc⟩ := (h.below (hbel.mono hB)).at_ hltj
          have hbj := (h.below (hbel.mono hB)).bs j hltj
          have h1 := HLE.out (j + 1) (by omega)
          have h2 : sumTo Ns (j + 1) = sumTo Ns j + Ns j := rfl
          have H2 := Lib.hid h2
          have H4 : Hid (vals (catTo Zs (j + 1)) = vals (catTo Zs j) ++ vals (Zs j)) := Lib.hid (vals_app _ _)
          have h3 : sumTo Ns j + Ns j ≤ 140737488355328 := by omega
          have HB := Lib.hid hbj
          clear h1 h2 hbj
          generalize Ns j = nj at *
          generalize Cs j = cj at *
          generalize As j = aj at *
          generalize hsj : sumTo Ns j = sj at *
          clear hsj
          go_wp2_with (at_builtin; refine wpList_app _ rfl (.tmp 28) (.tmp 29) 22 rfl w.heap.size 5 1 1 Try.underlying22 u8_info (by omega) u6 sj (vals (catTo Zs j)) rfl hown aj nj cj (vals (Zs j)) rfl HB.out.lies.1 HB.out.lies.2 (vals_one _) (by unfold maxLen; omega) (by omega) hbel.size ?_; intro v2 w2 ho2 hg2)
          go_roundw
          case rel => exact ⟨j + 1, by omega, by go_num, by rw [H2.out, H4.out]; exact ho2, hbel.grown hg2 hbel.size (fun q hq => (hown.lt q hq).1)⟩
          case measure => simp [intOf]; omega
        · have hjm : j = m := by omega
          have HM : Made w (catTo Zs m) (.returned u6) wr := made_of (n := sumTo Ns m) HLL.out (by rw [← hjm]; exact hown) hbel
          have HM' := Lib.hid HM
          clear HM hjm
          go_wp2
          go_ret
          exact HM'.out
/-- One, two, three lists put together, as a caller lays them side by side. -/
theorem cat1_any {B1 : Nat} {A1 : Option Addr} {n1 : Nat} (c1 : Nat) {zs1 : List Int} {w : World} (t : TypeId) (h1 : Bs w B1 A1 n1 zs1) (hB1 : B1 ≤ w.heap.size) (hn : n1 ≤ 140737488355328) (c g : Nat) (hg : w.heap.size = g) :
    Calls Try.prog 32 #[.slice (some ⟨g, 0, none⟩) 1 c] (w.alloc (.cells #[.slice A1 n1 c1] t)) (Made (w.alloc (.cells #[.slice A1 n1 c1] t)) zs1) := by
  subst hg
  have := cat_any (B := w.heap.size + 1) (A := some ⟨w.heap.size, 0, none⟩) (m := 1) c (As := fun j => A1) (Ns := fun j => n1) (Cs := fun j => c1) (Zs := fun j => zs1)
    (w := w.alloc (.cells #[.slice A1 n1 c1] t))
    ⟨fun _ => ⟨w.heap.size, 0, rfl, by omega, fun j hj => by
      have hh : (w.alloc (.cells #[.slice A1 n1 c1] t)).cell? ⟨w.heap.size, 0 + j, none⟩ = (#[Value.slice A1 n1 c1])[0 + j]? := cell_of_row _ _ _ _ _ _ (heap_alloc_new w _)
      rw [hh]
      match j, hj with
      | 0, _ => rfl⟩,
     fun j hj => ((h1.more hB1).alloc (Nat.le_refl _) _).more (by omega)⟩
    (by simp) (by simp [maxLen]) (by show 0 + n1 ≤ _; omega)
  exact this
theorem cat2_any {B1 B2 : Nat} {A1 A2 : Option Addr} {n1 n2 : Nat} (c1 c2 : Nat) {zs1 zs2 : List Int} {w : World} (t : TypeId) (h1 : Bs w B1 A1 n1 zs1) (h2 : Bs w B2 A2 n2 zs2) (hB1 : B1 ≤ w.heap.size) (hB2 : B2 ≤ w.heap.size) (hn : n1 + n2 ≤ 140737488355328) (c g : Nat) (hg : w.heap.size = g) :
    Calls Try.prog 32 #[.slice (some ⟨g, 0, none⟩) 2 c] (w.alloc (.cells #[.slice A1 n1 c1, .slice A2 n2 c2] t)) (Made (w.alloc (.cells #[.slice A1 n1 c1, .slice A2 n2 c2] t)) (zs1 ++ zs2)) := by
  subst hg
  have := cat_any (B := w.heap.size + 1) (A := some ⟨w.heap.size, 0, none⟩) (m := 2) c (As := fun j => if j = 0 then A1 else A2) (Ns := fun j => if j = 0 then n1 else n2) (Cs := fun j => if j = 0 then c1 else c2) (Zs := fun j => if j = 0 then zs1 else zs2)
    (w := w.alloc (.cells #[.slice A1 n1 c1, .slice A2 n2 c2] t))
    ⟨fun _ => ⟨w.heap.size, 0, rfl, by omega, fun j hj => by
      have hh : (w.alloc (.cells #[.slice A1 n1 c1, .slice A2 n2 c2] t)).cell? ⟨w.heap.size, 0 + j, none⟩ = (#[Value.slice A1 n1 c1, .slice A2 n2 c2])[0 + j]? := cell_of_row _ _ _ _ _ _ (heap_alloc_new w _)
      rw [hh]
      match j, hj with
      | 0, _ => rfl
      | 1, _ => rfl⟩,
     fun j hj => by
      match j, hj with
      | 0, _ => exact ((h1.more hB1).alloc (Nat.le_refl _) _).more (by omega)
      | 1, _ => exact ((h2.more hB2).alloc (Nat.le_refl _) _).more (by omega)⟩
    (by simp) (by simp [maxLen]) (by show 0 + n1 + n2 ≤ _; omega)
  exact this
theorem cat3_any {B1 B2 B3 : Nat} {A1 A2 A3 : Option Addr} {n1 n2 n3 : Nat} (c1 c2 c3 : Nat) {zs1 zs2 zs3 : List Int} {w : World} (t : TypeId) (h1 : Bs w B1 A1 n1 zs1) (h2 : Bs w B2 A2 n2 zs2) (h3 : Bs w B3 A3 n3 zs3) (hB1 : B1 ≤ w.heap.size) (hB2 : B2 ≤ w.heap.size) (hB3 : B3 ≤ w.heap.size) (hn : n1 + n2 + n3 ≤ 140737488355328) (c g : Nat) (hg : w.heap.size = g) :
    Calls Try.prog 32 #[.slice (some ⟨g, 0, none⟩) 3 c] (w.alloc (.cells #[.slice A1 n1 c1, .slice A2 n2 c2, .slice A3 n3 c3] t)) (Made (w.alloc (.cells #[.slice A1 n1 c1, .slice A2 n2 c2, .slice A3 n3 c3] t)) (zs1 ++ zs2 ++ zs3)) := by
  subst hg
  have := cat_any (B := w.heap.size + 1) (A := some ⟨w.heap.size, 0, none⟩) (m := 3) c (As := fun j => if j = 0 then A1 else if j = 1 then A2 else A3) (Ns := fun j => if j = 0 then n1 else if j = 1 then n2 else n3) (Cs := fun j => if j = 0 then c1 else if j = 1 then c2 else c3) (Zs := fun j => if j = 0 then zs1 else if j = 1 then zs2 else zs3)
    (w := w.alloc (.cells #[.slice A1 n1 c1, .slice A2 n2 c2, .slice A3 n3 c3] t))
    ⟨fun _ => ⟨w.heap.size, 0, rfl, by omega, fun j hj => by
      have hh : (w.alloc (.cells #[.slice A1 n1 c1, .slice A2 n2 c2, .slice A3 n3 c3] t)).cell? ⟨w.heap.size, 0 + j, none⟩ = (#[Value.slice A1 n1 c1, .slice A2 n2 c2, .slice A3 n3 c3])[0 + j]? := cell_of_row _ _ _ _ _ _ (heap_alloc_new w _)
      rw [hh]
      match j, hj with
      | 0, _ => rfl
      | 1, _ => rfl
      | 2, _ => rfl⟩,
     fun j hj => by
      match j, hj with
      | 0, _ => exact ((h1.more hB1).alloc (Nat.le_refl _) _).more (by omega)
      | 1, _ => exact ((h2.more hB2).alloc (Nat.le_refl _) _).more (by omega)
      | 2, _ => exact ((h3.more hB3).alloc (Nat.le_refl _) _).more (by omega)⟩
    (by simp) (by simp [maxLen]) (by show 0 + n1 + n2 + n3 ≤ _; omega)
  exact this
theorem cat0_any (w : World) (c : Nat) : Calls Try.prog 32 #[.slice none 0 c] w (Made w []) :=
  cat_any (B := 0) (A := none) (m := 0) c (As := fun _ => none) (Ns := fun _ => 0) (Cs := fun _ => 0) (Zs := fun _ => []) ⟨fun h => absurd h (by omega), fun j hj => absurd hj (by omega)⟩ (by omega) (by simp [maxLen]) (by show 0 ≤ _; omega)
end Go.Proofs.Ytfihiandifnkpaa
/- Numbers as bytes: what the program's and the document's put return. -/
namespace Go.Proofs.Ytfihiandifnkpaa
open Go.ChangeShapes Go.WideShapes Go.ChangeAt Go.RowKit
set_option linter.unusedVariables false
/-- The last s bytes of x, the greatest ahead. -/
def putZ (x : Int) (s : Nat) : List Int := (List.range s).map fun j => x / 256 ^ (s - 1 - j) % 256
theorem putZ_len (x : Int) (s : Nat) : (putZ x s).length = s := by simp [putZ]
theorem putZ_at (x : Int) (s j : Nat) (h : j < s) : (putZ x s).getD j 0 = x / 256 ^ (s - 1 - j) % 256 := by
  simp [putZ, List.getD_eq_getElem?_getD, h]
theorem putZ_bytes (x : Int) (s : Nat) : IsBytes (putZ x s) := by
  intro j hj
  rw [putZ_len] at hj
  rw [putZ_at x s j hj]
  omega
set_option maxRecDepth 100000 in
theorem put_any (x : Int) (s : Nat) (hx : 0 ≤ x) (hx1 : x < 18446744073709551616) (hs : s ≤ 8) (w : World) :
    Calls Try.prog 111 #[.int .u64 x, .int .i64 s] w (Made w (putZ x s)) := by
  have hmk := make_u8 s (by omega)
  rw [madeCells_vals] at hmk
  go_enter Try.func111, Try.ntmps111
  go_wp2
  clear hmk
  go_loopw [10] (fun i wr => ∃ k : Nat, k ≤ s ∧ i = .int .i64 k ∧ ∃ cs : List Int, Hid (cs.length = s) ∧ Hid (∀ j, s - k ≤ j → j < s → cs.getD j 0 = (putZ x s).getD j 0) ∧ wr = w.alloc (.cells (vals cs).toArray 5)) (fun i _ => s - (intOf i).toNat)
  case atStart => exact ⟨0, by omega, rfl, _, Lib.hid (List.length_replicate ..), Lib.hid (fun j hj hj2 => absurd hj (by omega)), rfl⟩
  case round =>
    obtain ⟨k, hk, rfl, cs, HC, HX, rfl⟩ := hrel
    by_cases hlt : k < s
    · obtain ⟨q, hq, hq2⟩ : ∃ q : Nat, (s : Int) - 1 - k = q ∧ q + k + 1 = s := ⟨s - 1 - k, by omega, by omega⟩
      obtain ⟨u3, hu3⟩ : ∃ u3, (vals cs)[q]? = some u3 := ⟨_, List.getElem?_eq_getElem (by rw [vals_len, HC.out]; omega)⟩
      have hq3 : q < s := by omega
      have HV := Lib.hid (vals_set cs q (x / 2 ^ (8 * k) % 256))
      have HZ : Hid (∀ j, s - (k + 1) ≤ j → j < s → (cs.set q (x / 2 ^ (8 * k) % 256)).getD j 0 = (putZ x s).getD j 0) := Lib.hid (fun j hj hj2 => by
        rw [getD_set _ _ _ _ (by rw [HC.out]; omega)]
        split
        · next h => subst h; rw [putZ_at _ _ _ hj2, show s - 1 - q = k from by omega, Int.pow_mul]; rfl
        · exact HX.out j (by omega) hj2)
      simp only [List.setIfInBounds_toArray] at HV
      clear hq2
      go_wp2
      go_roundw
      case rel => exact ⟨k + 1, by omega, by go_num, cs.set q (x / 2 ^ (8 * k) % 256), Lib.hid (by rw [List.length_set]; exact HC.out), HZ, by rw [← HV.out]⟩
      case measure => simp [intOf]; omega
    · have hks : k = s := by omega
      have HE : Hid (cs = putZ x s) := Lib.hid (list_ext_getD (by rw [putZ_len, HC.out]) (fun j hj => HX.out j (by omega) (by rw [HC.out] at hj; omega)))
      clear hks
      go_wp2
      go_ret
      refine made_of (n := s) (putZ_len ..) ?_ ((Below.refl _ _).alloc (Nat.le_refl _) _)
      rw [← HE.out]
      exact World.ownsRow_lit (base := w.heap.size) (e := 5) (size := 1) w (vals cs).toArray s (Nat.le_refl _) (by unfold maxLen; omega) (by simp [vals_len, HC.out])
theorem div_step (x : Int) (j : Nat) : x / 256 ^ j / 256 = x / 256 ^ (j + 1) := by
  rw [Int.ediv_ediv_of_nonneg (Int.le_of_lt (Int.pow_pos (by omega))), Int.pow_succ]
theorem div_range (x : Int) (j : Nat) (h0 : 0 ≤ x) (h1 : x < 18446744073709551616) : 0 ≤ x / 256 ^ j ∧ x / 256 ^ j < 18446744073709551616 := by
  have hp : (0 : Int) < 256 ^ j := Int.pow_pos (by omega)
  exact ⟨Int.ediv_nonneg h0 (by omega), Int.lt_of_le_of_lt (Int.ediv_le_self _ h0) h1⟩
set_option maxRecDepth 100000 in
theorem refput_any (x : Int) (s : Nat) (hx : 0 ≤ x) (hx1 : x < 18446744073709551616) (hs : s ≤ 8) (w : World) :
    Calls Try.prog 75 #[.int .u64 x, .int .i64 s] w (Made w (putZ x s)) := by
  obtain ⟨i0, hi0, hz0, hz1, hz2⟩ := info_parts u8_row
  have I0 := Lib.hid hi0
  have I1 := Lib.hid hz0
  have I2 := Lib.hid hz1
  have I3 := Lib.hid hz2
  clear hi0 hz0 hz1 hz2
  go_enter Try.func75, Try.ntmps75
  go_wp2
  go_loopw [5, 6] (fun v i wr => ∃ k : Nat, k ≤ s ∧ i = .int .i64 k ∧ wr.ownsRow w.heap.size 5 1 v k (vals ((putZ x s).take k)) ∧ Below w.heap.size w wr) (fun _ i _ => s - (intOf i).toNat)
  case atStart => exact ⟨0, by omega, rfl, World.ownsRow_nil _ _ _ _, Below.refl _ _⟩
  case round =>
    obtain ⟨k, hk, rfl, hown, hbel⟩ := hrel
    by_cases hlt : k < s
    · go_wp2
      go_loop [7, 8] (fun y i => ∃ j : Nat, k + j + 1 ≤ s ∧ i = .int .i64 (k + j : Nat) ∧ ∃ u : Int, 0 ≤ u ∧ u < 18446744073709551616 ∧ y = .int .u64 u ∧ Hid (x / 256 ^ j = u)) (fun _ i => s - (intOf i).toNat)
      case atStart => exact ⟨0, by omega, rfl, x, hx, hx1, rfl, Lib.hid (by simp)⟩
      case round =>
        obtain ⟨j, hj, rfl, u, hu0, hu1, rfl, HU⟩ := hrel
        by_cases hlt2 : k + j + 1 < s
        · go_wp2
          go_round
          case rel => exact ⟨j + 1, by omega, by go_num, u / 256, by omega, by omega, rfl, Lib.hid (by rw [← HU.out, div_step])⟩
          case measure => simp [intOf]; omega
        · have HT : Hid (vals ((putZ x s).take (k + 1)) = vals ((putZ x s).take k) ++ [.int .u8 (u % 256)]) := Lib.hid (by
            rw [take_snoc_getD _ _ (by rw [putZ_len]; exact hlt), vals_app, putZ_at x s k hlt, ← HU.out, show s - 1 - k = j from by omega]; rfl)
          have hkj : (s : Int) - 1 ≤ ((k + j : Nat) : Int) := by omega
          go_wp2_with (at_builtin; refine wpList_append_own _ rfl (.tmp 24) (.tmp 28) 22 rfl w.heap.size 5 i0 _ 1 1 Try.underlying22 I0.out I1.out I2.out I3.out rfl (by decide) u5 k (vals ((putZ x s).take k)) rfl (hown.alloc _) ⟨wr.heap.size, 0, none⟩ 1 1 [.int .u8 (u % 256)] rfl rfl (World.news_of_block (cs := #[.int .u8 (u % 256)]) (t := 5) (fr := (0, 0)) (heap_alloc_new wr _)) (by simp [Value.oneCell']) (by unfold maxLen; omega) (by omega) (by have := hbel.size; simp; omega) ?_; intro v2 w2 ho2 hg2 _)
          go_roundw
          case rel => exact ⟨k + 1, by omega, by go_num, by rw [HT.out]; exact ho2, (hbel.alloc hbel.size _).grown hg2 (by have := hbel.size; simp; omega) (fun q hq => (hown.lt q hq).1)⟩
          case measure => simp [intOf]; omega
    · have hks : k = s := by omega
      have HM : Made w (putZ x s) (.returned u5) wr := made_of (n := s) (putZ_len ..) (by rw [hks, List.take_of_length_le (by rw [putZ_len]; omega)] at hown; exact hown) hbel
      have HM' := Lib.hid HM
      clear HM hks
      go_wp2
      go_ret
      exact HM'.out
end Go.Proofs.Ytfihiandifnkpaa
/- What the functions that load numbers return: of a slice that reads as bytes, the number at the place, where it is there whole. -/
namespace Go.Proofs.Ytfihiandifnkpaa
open Go.ChangeShapes Go.WideShapes Go.ChangeAt Go.RowKit
set_option linter.unusedVariables false
open Plain
theorem Bs.rng' {w : World} {B n : Nat} {A : Option Addr} {zs : List Int} (h : Bs w B A n zs) : ∀ j, j < zs.length → 0 ≤ zs.getD j 0 ∧ zs.getD j 0 < 256 := fun j hj => h.rng j (by rw [← h.len]; exact hj)
theorem ret_load {a b : Int} {c d : Bool} (h : a = b) (h2 : c = d) : Ending.returned (.tuple #[.int .u64 a, .bool c]) = .returned (.tuple #[.int .u64 b, .bool d]) := by rw [h, h2]
theorem ret_load32 {a b : Int} {c d : Bool} (h : a = b) (h2 : c = d) : Ending.returned (.tuple #[.int .u32 a, .bool c]) = .returned (.tuple #[.int .u32 b, .bool d]) := by rw [h, h2]
theorem load_any {B : Nat} {A : Option Addr} {n : Nat} (c : Nat) {zs : List Int} {w : World} (h : Bs w B A n zs) (hn : n ≤ maxLen) (at_ : Int) (hat : -9223372036854775808 ≤ at_ ∧ at_ ≤ 9223372036854775807) (s : Nat) (hs : s ≤ 8) :
    Calls Try.prog 120 #[.slice A n c, .int .i64 at_, .int .i64 s] w (Quiet (.tuple #[.int .u64 (loadZ zs at_ s), .bool (loadOk n at_ s)]) w) := by
  unfold maxLen at hn
  by_cases ha : at_ < 0
  · have H1 := Lib.hid (loadZ_no zs at_ s (.inl ha))
    have H2 := Lib.hid (loadOk_no n at_ s (.inl ha))
    go_enter Try.func120, Try.ntmps120
    go_wp2
    go_ret2
    exact ⟨ret_load H1.out.symm H2.out.symm, 0, rfl⟩
  have hr := Lib.hid h.rng'
  have hl := h.len
  obtain ⟨a, rfl⟩ := Int.eq_ofNat_of_zero_le (Int.not_lt.1 ha)
  by_cases hb : (n : Int) - s < a
  · have H1 := Lib.hid (loadZ_no zs a s (.inr (by omega)))
    have H2 := Lib.hid (loadOk_no n a s (.inr (by omega)))
    have HL := Lib.hid hl
    clear hl ha
    go_enter Try.func120, Try.ntmps120
    go_wp2
    go_ret2
    exact ⟨ret_load H1.out.symm H2.out.symm, 0, rfl⟩
  have H1 := Lib.hid (loadZ_yes zs a s (by omega))
  have H2 := Lib.hid (loadOk_yes n a s (by omega))
  have HL := Lib.hid hl
  clear hl ha
  go_enter Try.func120, Try.ntmps120
  go_wp2
  go_loop [8, 21] (fun x i => ∃ k : Nat, k ≤ s ∧ i = .int .i64 k ∧ ∃ u : Int, 0 ≤ u ∧ u < 18446744073709551616 ∧ x = .int .u64 u ∧ Hid (numZ ((zs.drop a).take k) = u)) (fun _ i => s - (intOf i).toNat)
  case atStart => exact ⟨0, by omega, rfl, 0, by omega, by omega, rfl, Lib.hid (by simp [numZ])⟩
  case round =>
    obtain ⟨k, hk, rfl, u, hu0, hu1, rfl, HU⟩ := hrel
    by_cases hlt : k < s
    · obtain ⟨b1, o1, u1, rfl, _, HU1, hu1, hu1', hc1⟩ := h.at_ (k := a + k) (by omega)
      have hp := numZ_piece_range zs a k 7 (by omega) hr.out
      rw [HU.out] at hp
      have HB := Lib.hid (or_byte u u1 hu0 (by omega) hu1 hu1')
      have HN := Lib.hid (numZ_piece zs a k u1 (by rw [HL.out]; omega) HU1.out)
      have hv : Hid (0 ≤ u * 256 + u1 ∧ u * 256 + u1 < 18446744073709551616) := Lib.hid (by omega)
      clear hp
      go_wp2
      go_round
      case rel => exact ⟨k + 1, by omega, by go_num, u * 256 + u1, hv.out.1, hv.out.2, by rw [HB.out], Lib.hid (by rw [HN.out, HU.out])⟩
      case measure => simp [intOf]; omega
    · have hks : k = s := by omega
      have HK := Lib.hid (show numZ ((zs.drop a).take s) = u by rw [← hks]; exact HU.out)
      clear hks
      go_wp2
      go_ret2
      exact ⟨ret_load (by rw [H1.out, HK.out]) H2.out.symm, 0, rfl⟩
theorem refload_any {B : Nat} {A : Option Addr} {n : Nat} (c : Nat) {zs : List Int} {w : World} (h : Bs w B A n zs) (hn : n ≤ maxLen) (at_ : Int) (hat : -9223372036854775808 ≤ at_ ∧ at_ ≤ 9223372036854775807) (s : Nat) (hs : s ≤ 8) :
    Calls Try.prog 77 #[.slice A n c, .int .i64 at_, .int .i64 s] w (Quiet (.tuple #[.int .u64 (loadZ zs at_ s), .bool (loadOk n at_ s)]) w) := by
  unfold maxLen at hn
  by_cases ha : at_ < 0
  · have H1 := Lib.hid (loadZ_no zs at_ s (.inl ha))
    have H2 := Lib.hid (loadOk_no n at_ s (.inl ha))
    go_enter Try.func77, Try.ntmps77
    go_wp2
    go_ret2
    exact ⟨ret_load H1.out.symm H2.out.symm, 0, rfl⟩
  have hr := Lib.hid h.rng'
  have hl := h.len
  obtain ⟨a, rfl⟩ := Int.eq_ofNat_of_zero_le (Int.not_lt.1 ha)
  by_cases hb : (n : Int) - s < a
  · have H1 := Lib.hid (loadZ_no zs a s (.inr (by omega)))
    have H2 := Lib.hid (loadOk_no n a s (.inr (by omega)))
    have HL := Lib.hid hl
    clear hl ha
    by_cases hb2 : (n : Int) < a
    · go_enter Try.func77, Try.ntmps77
      go_wp2
      go_ret2
      exact ⟨ret_load H1.out.symm H2.out.symm, 0, rfl⟩
    · have hb3 : (n : Int) - a < s := by omega
      go_enter Try.func77, Try.ntmps77
      go_wp2
      go_ret2
      exact ⟨ret_load H1.out.symm H2.out.symm, 0, rfl⟩
  have H1 := Lib.hid (loadZ_yes zs a s (by omega))
  have H2 := Lib.hid (loadOk_yes n a s (by omega))
  have HL := Lib.hid hl
  have hb2 : ¬ (n : Int) < a := by omega
  have hb3 : ¬ (n : Int) - a < s := by omega
  have hb4 : (a : Int) + s ≤ n := by omega
  clear hl ha
  go_enter Try.func77, Try.ntmps77
  go_wp2
  go_loop [8, 9] (fun x i => ∃ k : Nat, k ≤ s ∧ i = .int .i64 (a + k : Nat) ∧ ∃ u : Int, 0 ≤ u ∧ u < 18446744073709551616 ∧ x = .int .u64 u ∧ Hid (numZ ((zs.drop a).take k) = u)) (fun _ i => a + s - (intOf i).toNat)
  case atStart => exact ⟨0, by omega, rfl, 0, by omega, by omega, rfl, Lib.hid (by simp [numZ])⟩
  case round =>
    obtain ⟨k, hk, rfl, u, hu0, hu1, rfl, HU⟩ := hrel
    by_cases hlt : k < s
    · obtain ⟨b1, o1, u1, rfl, _, HU1, hu1, hu1', hc1⟩ := h.at_ (k := a + k) (by omega)
      have hp := numZ_piece_range zs a k 7 (by omega) hr.out
      rw [HU.out] at hp
      have HB := Lib.hid (mul_byte u u1 hu0 (by omega) hu1 hu1')
      have HN := Lib.hid (numZ_piece zs a k u1 (by rw [HL.out]; omega) HU1.out)
      have hv : Hid (0 ≤ u * 256 + u1 ∧ u * 256 + u1 < 18446744073709551616) := Lib.hid (by omega)
      clear hp
      go_wp2
      go_round
      case rel => exact ⟨k + 1, by omega, by go_num, u * 256 + u1, hv.out.1, hv.out.2, by rw [HB.out], Lib.hid (by rw [HN.out, HU.out])⟩
      case measure => simp [intOf]; omega
    · have hks : k = s := by omega
      have HK := Lib.hid (show numZ ((zs.drop a).take s) = u by rw [← hks]; exact HU.out)
      clear hks
      go_wp2
      go_ret2
      exact ⟨ret_load (by rw [H1.out, HK.out]) H2.out.symm, 0, rfl⟩
end Go.Proofs.Ytfihiandifnkpaa
/- What the turns and shifts of the program and of the document's answer return: the same numbers. No condition but that the number is one of 32 bits. -/
namespace Go.Proofs.Ytfihiandifnkpaa
open Go.ChangeShapes Go.WideShapes Go.ChangeAt Go.RowKit
set_option linter.unusedVariables false
open Plain

theorem ret_int {k : IntKind} {a b : Int} (h : a = b) : Ending.returned (.int k a) = .returned (.int k b) := by rw [h]
theorem mod_twice (n : Int) : (wrap64 (n.tmod 32 + 32)).tmod 32 = n % 32 := by
  have h : n.tmod 32 = if 0 ≤ n ∨ n % 32 = 0 then n % 32 else n % 32 - 32 := by
    rw [Int.tmod_eq_emod]
    by_cases h0 : 0 ≤ n
    · simp [h0]
    · by_cases h1 : n % 32 = 0
      · simp [h1, Int.dvd_of_emod_eq_zero h1]
      · have h2 : ¬ (32 : Int) ∣ n := fun h => h1 (Int.emod_eq_zero_of_dvd h)
        simp [h0, h1, h2]
  have hw : wrap64 (n.tmod 32 + 32) = n.tmod 32 + 32 := by unfold wrap64; split at h <;> omega
  rw [hw, Int.tmod_eq_emod_of_nonneg (by split at h <;> omega)]
  split at h <;> omega
theorem rot_of_or (x n : Int) (h0 : 0 ≤ x) (h1 : x < 4294967296) : bits BinOp.or IntKind.u32 (shrZ x (n % 32)) (x * 2 ^ (32 - n % 32).toNat % 4294967296) = rotZ x n := by
  obtain ⟨k, hk⟩ : ∃ k : Nat, n % 32 = k := ⟨(n % 32).toNat, by omega⟩
  obtain ⟨y, rfl⟩ := Int.eq_ofNat_of_zero_le h0
  have := or_split y k (by omega) (by omega)
  unfold rotZ shrZ
  rw [hk]
  rw [show min (k : Int).toNat 32 = k from by omega, show (32 - (k : Int)).toNat = 32 - k from by omega, this]
  rfl
theorem div_pow_succ (x : Int) (k : Nat) (h0 : 0 ≤ x) : x / 2 ^ k / 2 = x / 2 ^ (k + 1) := by
  rw [Int.ediv_ediv_of_nonneg (Int.le_of_lt (Int.pow_pos (by omega))), Int.pow_succ]
end Go.Proofs.Ytfihiandifnkpaa
/- What the exported calls of words return that put and load numbers. -/
namespace Go.Proofs.Ytfihiandifnkpaa
open Go.ChangeShapes Go.WideShapes Go.ChangeAt Go.RowKit
set_option linter.unusedVariables false
open Plain
theorem put32_any (x : Int) (hx : 0 ≤ x) (hx1 : x < 4294967296) (w : World) :
    Calls Try.prog 110 #[.int .u32 x] w (Made w (putZ x 4)) := by
  have HC : Hid (Calls Try.prog 111 #[.int .u64 x, .int .i64 4] w (Made w (putZ x 4))) := Lib.hid (put_any x 4 hx (by omega) (by omega) w)
  go_enter Try.func110, Try.ntmps110
  go_wp2_with (go_at_call 111; refine HC.out.mono ?_; rintro e w' ⟨A, c, rfl, hm⟩)
  go_ret
  exact ⟨A, c, rfl, hm⟩
theorem put64_any (x : Int) (hx : 0 ≤ x) (hx1 : x < 18446744073709551616) (w : World) :
    Calls Try.prog 82 #[.int .u64 x] w (Made w (putZ x 8)) := by
  have HC : Hid (Calls Try.prog 111 #[.int .u64 x, .int .i64 8] w (Made w (putZ x 8))) := Lib.hid (put_any x 8 hx (by omega) (by omega) w)
  go_enter Try.func82, Try.ntmps82
  go_wp2_with (go_at_call 111; refine HC.out.mono ?_; rintro e w' ⟨A, c, rfl, hm⟩)
  go_ret
  exact ⟨A, c, rfl, hm⟩
theorem load64_any {B : Nat} {A : Option Addr} {n : Nat} (c : Nat) {zs : List Int} {w : World} (h : Bs w B A n zs) (hn : n ≤ maxLen) (at_ : Int) (hat : -9223372036854775808 ≤ at_ ∧ at_ ≤ 9223372036854775807) :
    Calls Try.prog 115 #[.slice A n c, .int .i64 at_] w (Quiet (.tuple #[.int .u64 (loadZ zs at_ 8), .bool (loadOk n at_ 8)]) w) := by
  have HC : Hid (Calls Try.prog 120 #[.slice A n c, .int .i64 at_, .int .i64 8] w (Quiet (.tuple #[.int .u64 (loadZ zs at_ 8), .bool (loadOk n at_ 8)]) w)) := Lib.hid (load_any c h hn at_ hat 8 (by omega))
  go_enter Try.func115, Try.ntmps115
  go_wp2_with (go_at_call 120; refine HC.out.mono ?_; rintro e w' ⟨rfl, m, rfl⟩)
  go_ret2
  exact ⟨rfl, _, rfl⟩
theorem load32_any {B : Nat} {A : Option Addr} {n : Nat} (c : Nat) {zs : List Int} {w : World} (h : Bs w B A n zs) (hn : n ≤ maxLen) (at_ : Int) (hat : -9223372036854775808 ≤ at_ ∧ at_ ≤ 9223372036854775807) :
    Calls Try.prog 119 #[.slice A n c, .int .i64 at_] w (Quiet (.tuple #[.int .u32 (loadZ zs at_ 4), .bool (loadOk n at_ 4)]) w) := by
  have HC : Hid (Calls Try.prog 120 #[.slice A n c, .int .i64 at_, .int .i64 4] w (Quiet (.tuple #[.int .u64 (loadZ zs at_ 4), .bool (loadOk n at_ 4)]) w)) := Lib.hid (load_any c h hn at_ hat 4 (by omega))
  have hr := loadZ_range zs at_ 4 h.rng'
  generalize loadZ zs at_ 4 = u at *
  generalize loadOk n at_ 4 = ok at *
  have hr1 : u < 4294967296 := by omega
  have hr0 : 0 ≤ u := hr.1
  clear hr
  go_enter Try.func119, Try.ntmps119
  go_wp2_with (go_at_call 120; refine HC.out.mono ?_; rintro e w' ⟨rfl, m, rfl⟩)
  go_ret2
  exact ⟨rfl, _, rfl⟩
theorem refloadI_any {B : Nat} {A : Option Addr} {n : Nat} (c : Nat) {zs : List Int} {w : World} (h : Bs w B A n zs) (hn : n ≤ maxLen) (at_ : Int) (hat : -9223372036854775808 ≤ at_ ∧ at_ ≤ 9223372036854775807) (s : Int) (h0 : 0 ≤ s) (h8 : s ≤ 8) :
    Calls Try.prog 77 #[.slice A n c, .int .i64 at_, .int .i64 s] w (Quiet (.tuple #[.int .u64 (loadZ zs at_ s.toNat), .bool (loadOk n at_ s.toNat)]) w) := by
  obtain ⟨k, rfl⟩ := Int.eq_ofNat_of_zero_le h0
  exact refload_any c h hn at_ hat k (by omega)
theorem refputI_any (x s : Int) (hx : 0 ≤ x) (hx1 : x < 18446744073709551616) (h0 : 0 ≤ s) (h8 : s ≤ 8) (w : World) :
    Calls Try.prog 75 #[.int .u64 x, .int .i64 s] w (Made w (putZ x s.toNat)) := by
  obtain ⟨k, rfl⟩ := Int.eq_ofNat_of_zero_le h0
  exact refput_any x k hx hx1 (by omega) w
theorem wf_i64 {x : Int} (h : (Lit.int .i64 x).wf = true) : -9223372036854775808 ≤ x ∧ x ≤ 9223372036854775807 := by
  simp [Lit.wf, IntKind.min, IntKind.max, IntKind.signed, IntKind.bits] at h; omega
theorem wf_u64 {x : Int} (h : (Lit.int .u64 x).wf = true) : 0 ≤ x ∧ x < 18446744073709551616 := by
  simp [Lit.wf, IntKind.min, IntKind.max, IntKind.signed, IntKind.bits] at h; omega
theorem wf_u32' {x : Int} (h : (Lit.int .u32 x).wf = true) : 0 ≤ x ∧ x < 4294967296 := by
  simp [Lit.wf, IntKind.min, IntKind.max, IntKind.signed, IntKind.bits] at h; omega
theorem wf_u8 {x : Int} (h : (Lit.int .u8 x).wf = true) : 0 ≤ x ∧ x < 256 := by
  simp [Lit.wf, IntKind.min, IntKind.max, IntKind.signed, IntKind.bits] at h; omega
theorem eqB_self (a : List Int) : eqB a a = true := by simp [eqB]
/-- What was made, and stands there still, reads as bytes. -/
theorem Made.bs {w w' : World} {A : Option Addr} {c n : Nat} {zs : List Int} (h : w'.ownsRow w.heap.size 5 1 (.slice A n c) n (vals zs)) (hb : IsBytes zs) : Bs w' w'.heap.size A n zs := bs_of_own h hb
theorem Made.n {w : World} {zs : List Int} {e : Ending} {w' : World} {n : Nat} (h : Made w zs e w') (hn : zs.length = n) :
    ∃ A c, e = .returned (.slice A n c) ∧ w'.ownsRow w.heap.size 5 1 (.slice A n c) n (vals zs) ∧ Below w.heap.size w w' ∧ n ≤ c ∧ c ≤ maxLen := by
  subst hn; exact h
theorem bs_new (w : World) (zs : List Int) (n : Nat) (hn : zs.length = n) (h : IsBytes zs) (t : TypeId) (g : Nat) (hg : w.heap.size = g) : Bs (w.alloc (.cells (vals zs).toArray t)) (g + 1) (some ⟨g, 0, none⟩) n zs := by
  subst hg
  exact ⟨hn, fun j hj => h j (by omega), fun _ => ⟨w.heap.size, 0, rfl, by omega, fun j hj => by
    have hh : (w.alloc (.cells (vals zs).toArray t)).cell? ⟨w.heap.size, 0 + j, none⟩ = (vals zs).toArray[0 + j]? := cell_of_row _ _ _ _ _ _ (heap_alloc_new w _)
    rw [hh, Nat.zero_add]
    simp [vals, List.getElem?_map, List.getD_eq_getElem?_getD, List.getElem?_eq_getElem (show j < zs.length by omega)]⟩⟩
end Go.Proofs.Ytfihiandifnkpaa
/- Rows of bytes that a call owns, whatever they hold: kept, read, written. -/
namespace Go.Proofs.Ytfihiandifnkpaa
open Go.ChangeShapes Go.WideShapes Go.ChangeAt Go.RowKit
set_option linter.unusedVariables false
open Plain
theorem own_below {w w' : World} {base B n size : Nat} {t : TypeId} {v : Value} {xs : List Value} (h : w.ownsRow base t size v n xs) (hb : Below B w w') (hB : w.heap.size ≤ B) : w'.ownsRow base t size v n xs := by
  have hlt := h.lt
  obtain ⟨h1, h2⟩ := h
  refine ⟨h1, ?_⟩
  rcases h2 with h2 | ⟨g, cap, cur, hv, hg, hh, r⟩
  · exact .inl h2
  · subst hv
    have := (hlt g rfl).2
    exact .inr ⟨g, cap, cur, rfl, hg, (hb.block g (by omega)).trans hh, r⟩
theorem own_base {w : World} {base base' n size : Nat} {t : TypeId} {v : Value} {xs : List Value} (h : w.ownsRow base t size v n xs) (hb : base' ≤ base) : w.ownsRow base' t size v n xs := by
  obtain ⟨h1, h2⟩ := h
  refine ⟨h1, ?_⟩
  rcases h2 with h2 | ⟨g, cap, cur, hv, hg, r⟩
  · exact .inl h2
  · exact .inr ⟨g, cap, cur, hv, by omega, r⟩
/-- The slice (A, n, c) owns a row of bytes, from block base on. -/
def Own (w : World) (base : Nat) (A : Option Addr) (n c : Nat) : Prop := ∃ zs, zs.length = n ∧ IsBytes zs ∧ w.ownsRow base 5 1 (.slice A n c) n (vals zs)
section
variable {w w' : World} {base n c : Nat} {A : Option Addr}
theorem Own.of {zs : List Int} (h : w.ownsRow base 5 1 (.slice A n c) n (vals zs)) (hb : IsBytes zs) : Own w base A n c :=
  ⟨zs, by have := h.1; rw [vals_len] at this; omega, hb, h⟩
theorem Own.below {B : Nat} (h : Own w base A n c) (hb : Below B w w') (hB : w.heap.size ≤ B) : Own w' base A n c := by
  obtain ⟨zs, hl, hz, ho⟩ := h
  exact ⟨zs, hl, hz, own_below ho hb hB⟩
theorem Own.drewN (h : Own w base A n c) (k : Nat) : Own (w.drewN k) base A n c := h
theorem Own.far (h : Own w base A n c) {p : Addr} (hp : p.block < base) (u : Value) : Own (w.setCell p u) base A n c := by
  obtain ⟨zs, hl, hz, ho⟩ := h
  exact ⟨zs, hl, hz, ownsRow_setCell_below ho hp u⟩
theorem Own.lt (h : Own w base A n c) : ∀ a, A = some a → base ≤ a.block ∧ a.block < w.heap.size := by
  obtain ⟨zs, hl, hz, ho⟩ := h
  rintro a rfl
  exact ho.lt a.block rfl
theorem Own.at_ (h : Own w base A n c) {k : Nat} (hk : k < n) :
    ∃ g u, A = some ⟨g, 0, none⟩ ∧ base ≤ g ∧ g < w.heap.size ∧ 0 ≤ u ∧ u < 256 ∧ w.cell? ⟨g, k, none⟩ = some (.int .u8 u) ∧ w.frozen? ⟨g, k, none⟩ = false ∧
      Hid (∀ z : Int, 0 ≤ z → z < 256 → Own (w.setCell ⟨g, k, none⟩ (.int .u8 z)) base A n c) := by
  obtain ⟨zs, hl, hz, ho⟩ := h
  obtain ⟨g, cap, hv, hg, hlt⟩ := ho.form (by omega)
  injection hv with e1 e2 e3
  subst e1
  refine ⟨g, zs.getD k 0, rfl, hg, hlt, (hz k (by omega)).1, (hz k (by omega)).2, ?_, ho.frozenAt k, ?_⟩
  · rw [ho.cellAt k (by omega)]
    simp [vals, List.getElem?_map, List.getD_eq_getElem?_getD, List.getElem?_eq_getElem (show k < zs.length by omega)]
  · intro z h0 h1
    refine ⟨zs.set k z, by simpa using hl, ?_, ?_⟩
    · intro j hj
      rw [List.length_set] at hj
      rw [getD_set _ _ _ _ (by omega)]
      split
      · exact ⟨h0, h1⟩
      · exact hz j hj
    · have := (ho.stored k (.int .u8 z)).1
      simpa [vals, List.map_set] using this
end
end Go.Proofs.Ytfihiandifnkpaa
/- Pieces of a slice of bytes. -/
namespace Go.Proofs.Ytfihiandifnkpaa
open Go.ChangeShapes Go.WideShapes Go.ChangeAt Go.RowKit
set_option linter.unusedVariables false
theorem sizeOf_u8' (w : World) : (Go.sizeOf 5).run Try.prog w = .ok 1 w := by
  obtain ⟨i, z, hi, hz, hs, hb, _⟩ := u8_info
  simp [Go.sizeOf, typeInfo, hi, hs]
/-- Where a piece of a slice lies. -/
def CutAt (A A' : Option Addr) (lo m : Nat) : Prop := ∀ b off, A = some ⟨b, off, none⟩ → 0 < m → A' = some ⟨b, off + lo, none⟩
theorem cutAt_if (A : Option Addr) (c lo m : Nat) (h : lo + m ≤ c) : CutAt A (if c = lo then A else A.map (·.add (lo * 1))) lo m := by
  intro b off hA hm
  rw [if_neg (by omega), hA]
  simp [Go.WideShapes.add_plain]
theorem cut_lh (A : Option Addr) (n c lo hi : Nat) (l h : Int) (hl : l = lo) (hh : h = hi) (h1 : lo ≤ hi) (h2 : hi ≤ c) :
    ∃ A', (∀ W, (Instr.slice 22 (.slice A n c) (some (.int .i64 l)) (some (.int .i64 h)) none).run Try.prog W = .ok (.slice A' (hi - lo) (c - lo)) W) ∧ CutAt A A' lo (hi - lo) := by
  subst hl hh
  refine ⟨_, fun W => ?_, cutAt_if A c lo (hi - lo) (by omega)⟩
  have he : Try.prog.elem 22 = 5 := by simp [Program.elem, Try.underlying22]
  rw [run_slice_lh W 22 A n c (by rw [he]; exact Try.underlying22) .i64 .i64 _ _ (by omega) (by omega) (by omega), he, sizeOf_u8']
  simp [Result.andThen, sliced]
theorem cut_h (A : Option Addr) (n c hi : Nat) (h : Int) (hh : h = hi) (h2 : hi ≤ c) :
    ∀ W, (Instr.slice 22 (.slice A n c) none (some (.int .i64 h)) none).run Try.prog W = .ok (.slice A hi c) W := by
  subst hh
  intro W
  have he : Try.prog.elem 22 = 5 := by simp [Program.elem, Try.underlying22]
  rw [run_slice_h W 22 A n c (by rw [he]; exact Try.underlying22) .i64 _ (by omega) (by omega), he, sizeOf_u8']
  cases A <;> simp [Result.andThen, sliced, Addr.add]
theorem cut_l (A : Option Addr) (n c lo : Nat) (l : Int) (hl : l = lo) (h1 : lo ≤ n) (h2 : n ≤ c) :
    ∃ A', (∀ W, (Instr.slice 22 (.slice A n c) (some (.int .i64 l)) none none).run Try.prog W = .ok (.slice A' (n - lo) (c - lo)) W) ∧ CutAt A A' lo (n - lo) := by
  subst hl
  refine ⟨_, fun W => ?_, cutAt_if A c lo (n - lo) (by omega)⟩
  have he : Try.prog.elem 22 = 5 := by simp [Program.elem, Try.underlying22]
  rw [run_slice_l W 22 A n c (by rw [he]; exact Try.underlying22) .i64 _ (by omega) (by omega), he, sizeOf_u8']
  simp [Result.andThen, sliced]
end Go.Proofs.Ytfihiandifnkpaa
