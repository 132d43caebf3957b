/- Texts of the proof, one behind the other: TagEq TagRW More Field TagRd Fields Back WAwake WBad Num BackZ AgainZ. -/
import Derived.Test.YtfihiandifnkpaaB2
import Derived.ChangeKeysEq
import Derived.Laws.Cover3
import Derived.Deep.Cut
import Derived.Lib.Strings
import Derived.Test.YtfihiandifnkpaaB1
import Derived.RowKit
/- Two tags are held against each other. -/
namespace Go.Proofs.Ytfihiandifnkpaa
open Go.ChangeShapes Go.WideShapes Go.ChangeAt Go.RowKit
set_option linter.unusedVariables false
open Plain Sha
theorem run_part8 (a : List Int) (i : Nat) (hi : i < a.length) (w : World) : (part 5 (vals a).toArray (i * 1)).run Try.prog w = .ok (.int .u8 (a.getD i 0)) w := by
  have hx := vals_at a i hi
  simp [part, isAgg, run_underlying Try.underlying5, hx, go_sem]
theorem run_eqItems8 (d : Nat) (a b : List Int) (hl : a.length = b.length) (w : World) : ∀ (is : List Nat), (∀ i ∈ is, i < a.length) →
    (Op.eqItems (d + 1) 5 1 (vals a).toArray (vals b).toArray is).run Try.prog w = .ok (is.all fun i => a.getD i 0 == b.getD i 0) w
  | [], _ => by simp [Op.eqItems]
  | i :: is, h => by
    have hi := h i (by simp)
    simp only [Op.eqItems, Sem.run_bind, run_part8 a i hi w, run_part8 b i (by omega) w, Result.andThen_ok, run_equalIn_int w d 5 .u8 .u8 _ _ Try.underlying5, List.all_cons]
    have ih := run_eqItems8 d a b hl w is (fun j hj => h j (by simp [hj]))
    cases hc : (a.getD i 0 == b.getD i 0)
    · simp
    · simp only [Bool.not_true, Bool.false_eq_true, if_false, Bool.true_and]
      exact ih
theorem eqB_range (a b : List Int) (hl : a.length = b.length) : ((List.range a.length).all fun i => a.getD i 0 == b.getD i 0) = eqB a b := by
  rw [Bool.eq_iff_iff]
  simp only [List.all_eq_true, List.mem_range, beq_iff_eq, eqB, decide_eq_true_eq]
  exact ⟨fun h => list_ext_getD hl h, fun h _ _ => by rw [h]⟩
theorem u8_cells : Try.prog.cellsOf 5 = 1 := by kernel_rfl
/-- A guarded load of a long array, whose guard holds. -/
theorem wpList_load_guard {P : Program} {ops : Array Oper} {rest : List Oper} {op : Oper} {a : Act} {w : World} {Q : Exit → Act → World → Prop} (hw : Region.wanted op (yielded ops a.tmps) = true) (ty : TypeId) (x : Operand) (ho : op.op = .load ty x)
    (b o : Nat) (hx : a.eval x = .pointer (some ⟨b, o, none⟩)) (cs : List Value) (d : TypeDesc) (hc : w.rangeAt b o cs)
    (hu : P.underlying ty = some d) (hd : d.isRow = true) (hi : (P.info? ty).map (·.size) = some cs.length)
    (h : wpList P ops Q rest (a.put op.dst (.agg cs.toArray)) w) : wpList P ops Q (op :: rest) a w := by
  simp only [wpList, hw, if_true]
  exact .inl (wp_load_mid ty x ho b o hx cs d hc hu hd hi h)
theorem shaZ_len (bs : List Int) : (shaZ bs).length = 32 := by unfold shaZ; exact tagZ_len _
end Go.Proofs.Ytfihiandifnkpaa
/- Tags, written and read. -/
namespace Go.Proofs.Ytfihiandifnkpaa
open Go.ChangeShapes Go.WideShapes Go.ChangeAt Go.RowKit
set_option linter.unusedVariables false
open Plain
def ZT : List Int := List.replicate 32 0
theorem zt_bytes : IsBytes ZT := rep_bytes 32 0 (by omega) (by omega)
/-- What a block of the call's own holds behind a whole store, and that nothing else turned. -/
theorem tag_stored {w w1 : World} {g : Nat} {T U : List Int} {r : Option Nat} (hU : Row8 w1 g 0 U) (hl : U.length = T.length) (hg : w.grownBy w1 r) (hn : w.heap.size ≤ g) : (w1.setCells g 0 (vals T)).rangeAt g 0 (vals T) ∧ w.grownBy (w1.setCells g 0 (vals T)) r := by
  refine ⟨World.rangeAt_setCells_same w1 g 0 (vals T) (by rw [vals_len, ← hl]; exact hU.there), ?_⟩
  have hs : ∀ (vs : List Value) (o : Nat) (u : World), (u.setCells g o vs).heap.size = u.heap.size := by
    intro vs
    induction vs with
    | nil => intro o u; rfl
    | cons v l ih => intro o u; rw [World.setCells, ih]; simp [World.setCell]
  have hb := below_setCells (B := g) (Nat.le_refl g) (vals T) 0 w1 (Below.refl _ _)
  refine ⟨hb.os.trans hg.os, hb.tape.trans hg.tape, hb.output.trans hg.output, by rw [hs]; exact hg.size, fun k hk hr => ?_⟩
  rw [heap_setCells g k (by omega)]
  exact hg.block k hk hr
theorem bs_rangeAt {w : World} {B n : Nat} {b off : Nat} {zs : List Int} (h : Bs w B (some ⟨b, off, none⟩) n zs) : w.rangeAt b off (vals zs) := fun j v hv => by
  have hj : j < zs.length := by have := (List.getElem?_eq_some_iff.1 hv).1; rwa [vals_len] at this
  rw [vals_at zs j hj] at hv
  injection hv with hv
  subst hv
  obtain ⟨b', o', e, _, hc⟩ := h.row (by rw [← h.len]; omega)
  injection e with e
  injection e with e1 e2
  subst e1 e2
  exact hc j (by rw [← h.len]; exact hj)
end Go.Proofs.Ytfihiandifnkpaa
/- Small facts on writers and on lists that were made. -/
namespace Go.Proofs.Ytfihiandifnkpaa
open Go.ChangeShapes Go.WideShapes Go.ChangeAt Go.RowKit
set_option linter.unusedVariables false
open Plain
/-- A list that was made, as bytes. -/
theorem IsList.bs {x : Value} {w : World} {base : Nat} {zs : List Int} (h : IsList x w base zs) (hz : IsBytes zs) : ∃ A c, x = .slice A zs.length c ∧ Bs w w.heap.size A zs.length zs ∧ zs.length ≤ c ∧ c ≤ maxLen := by
  obtain ⟨A, c, rfl, ho, h1, h2⟩ := h
  exact ⟨A, c, rfl, bs_of_own ho hz, h1, h2⟩
theorem Wrote.below {w w' : World} {b B : Nat} {g : Option Nat} (h : Wrote w w' b g) (hB : B ≤ w.heap.size) (hb : B ≤ b) (hg : ∀ k, g = some k → B ≤ k) : Below B w w' :=
  ⟨h.os, h.tape, h.output, h.size, fun k hk => h.block k (by omega) (by omega) (fun e => by have := hg k e.symm; omega)⟩
theorem Puts.under {w w' : World} {b B : Nat} {g : Option Nat} {st st' : Option (List Int)} {e : Ending} (h : Wr w b g st) (k : Puts w b g st' e w') (hB : B ≤ b) : e = .returned (.pointer (some ⟨b, 0, none⟩)) ∧ ∃ g', Wr w' b g' st' ∧ Below B w w' := by
  obtain ⟨k1, g', k2, k3, k4⟩ := k
  exact ⟨k1, g', k2, k3.below (by have := h.lt; omega) hB (fun i hi => by have := (h.own i hi).1; omega)⟩
theorem bytes_ok (zs : List Int) (h : (zs.all fun z => decide (0 ≤ z ∧ z < 256)) = true) : IsBytes zs := by
  rw [isBytes_iff]
  intro z hz
  have := List.all_eq_true.1 h z hz
  simpa using this
theorem strZ_of {zs : List Int} (h : IsBytes zs) : strZ (strOfNums zs) = zs := by
  unfold strZ
  rw [strOfNums_data, List.map_map]
  refine (List.map_congr_left (g := id) fun z hz => ?_).trans (List.map_id zs)
  have := (isBytes_iff.1 h) z hz
  show (((UInt8.ofNat z.toNat).toNat : Nat) : Int) = z
  rw [UInt8.toNat_ofNat']
  omega
theorem strOf_eq {a c : List Int} (ha : IsBytes a) (hc : IsBytes c) : ((strOfNums a).toList == (strOfNums c).toList) = eqB a c := by
  rw [Bool.eq_iff_iff]
  simp only [beq_iff_eq, eqB, decide_eq_true_eq]
  refine ⟨fun h => ?_, fun h => by rw [h]⟩
  rw [← strZ_of ha, ← strZ_of hc]
  unfold strZ
  rw [Go.Lib.toList_data, Go.Lib.toList_data] at h
  rw [h]
theorem IsBytes.take {a : List Int} (h : IsBytes a) {k : Nat} : IsBytes (a.take k) := by
  rw [isBytes_iff] at *
  exact fun z hz => h z (List.mem_of_mem_take hz)
theorem IsBytes.drop {a : List Int} (h : IsBytes a) {k : Nat} : IsBytes (a.drop k) := by
  rw [isBytes_iff] at *
  exact fun z hz => h z (List.mem_of_mem_drop hz)
end Go.Proofs.Ytfihiandifnkpaa
/- Fields as values; a field is written. -/
namespace Go.Proofs.Ytfihiandifnkpaa
open Go.ChangeShapes Go.WideShapes Go.ChangeAt Go.RowKit
set_option linter.unusedVariables false
open Plain
/-- A field as it is handed in: its kind, its number, its bytes and where they stand, its tag. -/
structure FieldZ where
  kind : Int
  n : Int
  A : Option Addr
  len : Nat
  cap : Nat
  zs : List Int
  tag : List Int
def fHead (f : FieldZ) : List Value := [.int .i64 f.kind, .int .i64 f.n, .slice f.A f.len f.cap]
def fCells (f : FieldZ) : List Value := fHead f ++ vals f.tag
structure FieldOk (w : World) (B : Nat) (f : FieldZ) : Prop where
  kind : -9223372036854775808 ≤ f.kind ∧ f.kind ≤ 9223372036854775807
  n : -9223372036854775808 ≤ f.n ∧ f.n ≤ 9223372036854775807
  bs : Bs w B f.A f.len f.zs
  cap : f.len ≤ f.cap
  max : f.cap ≤ maxLen
  small : f.len ≤ 140737488355328
  tag : f.tag.length = 32
  bytes : IsBytes f.tag
theorem FieldOk.below {w w' : World} {B : Nat} {f : FieldZ} (h : FieldOk w B f) (hb : Below B w w') : FieldOk w' B f := ⟨h.kind, h.n, h.bs.below hb, h.cap, h.max, h.small, h.tag, h.bytes⟩
theorem FieldOk.grown {w w' : World} {B : Nat} {f : FieldZ} (h : FieldOk w B f) (hb : w.grownBy w' none) (hB : B ≤ w.heap.size) : FieldOk w' B f := h.below (below_of_grown hb hB (fun k hk => by cases hk))
theorem fCells_len {f : FieldZ} (h : f.tag.length = 32) : (fCells f).length = 35 := by unfold fCells fHead; rw [List.length_append, vals_len, h]; rfl
/-- Is a number odd, as the program asks? -/
def oddB (n : Int) : Bool := !(n.tmod 2 == 0)
/-- What a field comes to. -/
def fieldB (f : FieldZ) : List Int :=
  if f.kind = 0 then [f.n % 256] else if f.kind = 1 then n64 f.n else if f.kind = 2 then [if oddB f.n then 1 else 0] else if f.kind = 3 then bytesF f.zs else if f.kind = 4 then bytesF f.zs else if f.kind = 5 then f.tag else []
/-- A field in a block of its own. -/
structure Boxed (w : World) (g : Nat) (f : FieldZ) : Prop where
  c0 : w.cell? ⟨g, 0, none⟩ = some (.int .i64 f.kind)
  c1 : w.cell? ⟨g, 1, none⟩ = some (.int .i64 f.n)
  c2 : w.cell? ⟨g, 2, none⟩ = some (.slice f.A f.len f.cap)
  tag : w.rangeAt g 3 (vals f.tag)
theorem boxed_of {w : World} {g : Nat} {f : FieldZ} {t : TypeId} (h : w.heap[g]? = some (.cells (fCells f).toArray t)) : Boxed w g f := by
  refine ⟨by rw [cell_of_row _ _ _ _ _ _ h]; rfl, by rw [cell_of_row _ _ _ _ _ _ h]; rfl, by rw [cell_of_row _ _ _ _ _ _ h]; rfl, fun j v hv => ?_⟩
  rw [cell_of_row _ _ _ _ _ _ h]
  rw [List.getElem?_toArray]
  unfold fCells fHead
  rw [List.getElem?_append_right (by simp)]
  simpa using hv
theorem boxed_new (w : World) (f : FieldZ) (t : TypeId) : Boxed (w.alloc (.cells (fCells f).toArray t)) w.heap.size f := boxed_of (heap_alloc_new w _)
theorem Boxed.same {w w' : World} {g : Nat} {f : FieldZ} (h : Boxed w g f) (e : w'.heap[g]? = w.heap[g]?) : Boxed w' g f :=
  ⟨(World.cell?_of_block (a := ⟨g, 0, none⟩) e).trans h.c0, (World.cell?_of_block (a := ⟨g, 1, none⟩) e).trans h.c1, (World.cell?_of_block (a := ⟨g, 2, none⟩) e).trans h.c2, rangeAt_same h.tag e⟩
theorem wPut_nil {w : World} {b : Nat} {g : Option Nat} {st : Option (List Int)} (h : Wr w b g st) : wPut st [] = st := by
  cases st with
  | none => rfl
  | some fs =>
    obtain ⟨A, n, c, _, _, _, h4, h5⟩ := h.form
    have h6 : fs.length = n := h4
    rw [wPut_yes _ _ (by simp; omega), List.append_nil]
/-- A call that writes a field, and tells nothing. -/
def Wrs (w : World) (b : Nat) (g : Option Nat) (st : Option (List Int)) (e : Ending) (w' : World) : Prop := e = .returned (.tuple #[]) ∧ ∃ g', Wr w' b g' st ∧ Wrote w w' b g ∧ Fresh w g g'
theorem Wrs.from {w w1 w' : World} {b : Nat} {g : Option Nat} {st : Option (List Int)} (h : w.grownBy w1 none) (k : ∃ g', Wr w' b g' st ∧ Wrote w1 w' b g ∧ Fresh w1 g g') : ∃ g', Wr w' b g' st ∧ Wrote w w' b g ∧ Fresh w g g' := by
  obtain ⟨g', k2, k3, k4⟩ := k
  exact ⟨g', k2, (Wrote.of_grown h (.inl rfl)).trans k3 (.inl rfl), Fresh.trans (.inl rfl) k4 h.size⟩
end Go.Proofs.Ytfihiandifnkpaa
/- A reader's tag. -/
namespace Go.Proofs.Ytfihiandifnkpaa
open Go.ChangeShapes Go.WideShapes Go.ChangeAt Go.RowKit
set_option linter.unusedVariables false
open Plain
theorem rTag_len (s : Int × List Int) : (rTag s).1.length = 32 := by
  unfold rTag tk
  split
  · next h => simp only [id, List.length_take]; have := h.2.1; omega
  · exact List.length_replicate ..
end Go.Proofs.Ytfihiandifnkpaa
/- Rows of fields that came in; whether they are too many. -/
namespace Go.Proofs.Ytfihiandifnkpaa
open Go.ChangeShapes Go.WideShapes Go.ChangeAt Go.RowKit
set_option linter.unusedVariables false
open Plain
/-- The m fields that the slice at A holds. -/
structure Fields (w : World) (B : Nat) (A : Option Addr) (m : Nat) (F : Nat → FieldZ) : Prop where
  row : 0 < m → ∃ b off, A = some ⟨b, off, none⟩ ∧ b < B ∧ ∀ j, j < m → w.rangeAt b (off + j * 35) (fCells (F j))
  ok : ∀ j, j < m → FieldOk w B (F j)
theorem Fields.below {w w' : World} {B m : Nat} {A : Option Addr} {F : Nat → FieldZ} (h : Fields w B A m F) (hb : Below B w w') : Fields w' B A m F :=
  ⟨fun hm => by
    obtain ⟨b, off, rfl, hlt, hc⟩ := h.row hm
    exact ⟨b, off, rfl, hlt, fun j hj => rangeAt_same (hc j hj) (hb.block b hlt)⟩, fun j hj => (h.ok j hj).below hb⟩
theorem Fields.at_ {w : World} {B m : Nat} {A : Option Addr} {F : Nat → FieldZ} (h : Fields w B A m F) {k : Nat} (hk : k < m) :
    ∃ b off, A = some ⟨b, off, none⟩ ∧ b < B ∧ w.rangeAt b (off + k * 35) (fCells (F k)) ∧ w.cell? ⟨b, off + k * 35, none⟩ = some (.int .i64 (F k).kind) ∧ w.cell? ⟨b, off + k * 35 + 2, none⟩ = some (.slice (F k).A (F k).len (F k).cap) := by
  obtain ⟨b, off, rfl, hlt, hc⟩ := h.row (by omega)
  have := hc k hk
  exact ⟨b, off, rfl, hlt, this, this 0 _ rfl, this 2 _ rfl⟩
def gsum (F : Nat → FieldZ) : Nat → Nat
  | 0 => 0
  | k + 1 => gsum F k + (F k).len + 40
theorem gsum_le (F : Nat → FieldZ) : ∀ k m, k ≤ m → gsum F k ≤ gsum F m := by
  intro k m h
  induction m with
  | zero => have : k = 0 := by omega
            subst this; exact Nat.le_refl _
  | succ m ih =>
    by_cases hk : k = m + 1
    · subst hk; exact Nat.le_refl _
    · have := ih (by omega)
      show _ ≤ gsum F m + (F m).len + 40
      omega
end Go.Proofs.Ytfihiandifnkpaa
/- A field is read back. -/
namespace Go.Proofs.Ytfihiandifnkpaa
open Go.ChangeShapes Go.WideShapes Go.ChangeAt Go.RowKit
set_option linter.unusedVariables false
open Plain
theorem Rd.drew {w : World} {b : Nat} {B : Span} {why : Int} {zs : List Int} (h : Rd w b B why zs) : Rd w.drew b B why zs := h.keep rfl (fun _ _ _ => rfl)
theorem rBytes_bytes {s : Int × List Int} (h : IsBytes s.2) : IsBytes (rBytes s).1 := by
  have h2 : IsBytes (rLen s).2.2 := by
    unfold rLen tk
    split
    · exact IsBytes.drop h
    · exact IsBytes.nil
  unfold rBytes tk
  split
  · exact IsBytes.take h2
  · exact IsBytes.nil
/-- Is a field told as it was written, and the reader behind it. -/
def backR (f : FieldZ) (s : Int × List Int) : Bool × Int × List Int :=
  if f.kind = 0 then ((rByte s).1 == f.n % 256, (rByte s).2) else if f.kind = 1 then ((rInt s).1 == f.n, (rInt s).2) else if f.kind = 2 then ((rFlag s).1 == oddB f.n, (rFlag s).2)
  else if f.kind = 3 then (eqB (rBytes s).1 f.zs, (rBytes s).2) else if f.kind = 4 then (eqB (rBytes s).1 f.zs, (rBytes s).2) else if f.kind = 5 then (eqB (rTag s).1 f.tag, (rTag s).2) else (true, s)
end Go.Proofs.Ytfihiandifnkpaa
/- The chapter's examples come out. -/
namespace Go.Proofs.Ytfihiandifnkpaa
open Go.ChangeShapes Go.WideShapes Go.ChangeAt Go.RowKit
set_option linter.unusedVariables false
open Plain
def exA : List Int := [7, 0, 0, 0, 0, 0, 0, 1, 2, 1]
def exB : List Int := [0, 0, 0, 2, 97, 98, 0, 0, 0, 0]
theorem exA_is : wPut (wPut (wPut (some []) [7]) (n64 258)) [1] = some exA := by decide
theorem exB_is : wPut (wPut (some []) (bytesF (strZ ⟨#[97, 98]⟩))) (bytesF []) = some exB := by decide
end Go.Proofs.Ytfihiandifnkpaa
/- The statement WireBad: the walk. -/
namespace Go.Proofs.Ytfihiandifnkpaa
open Go.ChangeShapes Go.WideShapes Go.ChangeAt Go.RowKit
set_option linter.unusedVariables false
open Plain
/-- A reader of a few bytes is good, or bad by ErrWire; no more is left than there was. -/
def StOk (n : Nat) (s : Int × List Int) : Prop := (s.1 = 0 ∨ s.1 = 40) ∧ s.2.length ≤ n
theorem tk_st {α : Type} {n k : Nat} {okf : List Int → List Int → Bool} {val : List Int → α} {nv : α} {s : Int × List Int} (h : StOk n s) : StOk n (tk k okf val nv s).2 := by
  unfold tk
  split
  · exact ⟨.inl rfl, by simp only [List.length_drop]; have := h.2; omega⟩
  · refine ⟨?_, by simp⟩
    rcases h.1 with h1 | h1
    · right; simp only; rw [if_pos h1]
    · right; simp only; rw [if_neg (by omega), h1]
theorem back_st {n : Nat} {f : FieldZ} {s : Int × List Int} (h : StOk n s) : StOk n (backR f s).2 := by
  unfold backR rByte rInt rFlag rBytes rLen rTag
  repeat' split
  all_goals first | exact tk_st h | exact tk_st (tk_st h) | exact h
end Go.Proofs.Ytfihiandifnkpaa
/- Numbers and their bytes, there and back. -/
namespace Go.Proofs.Ytfihiandifnkpaa
open Go.ChangeShapes Go.WideShapes Go.ChangeAt Go.RowKit
set_option linter.unusedVariables false
open Plain
theorem putZ_succ (x : Int) (s : Nat) (h0 : 0 ≤ x) : putZ x (s + 1) = putZ (x / 256) s ++ [x % 256] := by
  refine list_ext_getD (by simp [putZ_len]) (fun j hj => ?_)
  rw [putZ_len] at hj
  rw [putZ_at x (s + 1) j hj]
  by_cases hjs : j < s
  · have e : (putZ (x / 256) s ++ [x % 256]).getD j 0 = (putZ (x / 256) s).getD j 0 := by
      simp only [List.getD_eq_getElem?_getD]
      rw [List.getElem?_append_left (by rw [putZ_len]; exact hjs)]
    rw [e, putZ_at _ s j hjs, show s + 1 - 1 - j = (s - 1 - j) + 1 from by omega, Int.pow_succ, Int.mul_comm (256 ^ (s - 1 - j)), Int.ediv_ediv_of_nonneg (by omega)]
  · obtain rfl : j = s := by omega
    have e : (putZ (x / 256) j ++ [x % 256]).getD j 0 = x % 256 := by
      simp only [List.getD_eq_getElem?_getD]
      rw [List.getElem?_append_right (by rw [putZ_len]; omega), putZ_len]
      simp
    rw [e, show j + 1 - 1 - j = 0 from by omega]
    simp
theorem numZ_putZ (s : Nat) : ∀ x : Int, 0 ≤ x → x < 256 ^ s → numZ (putZ x s) = x := by
  induction s with
  | zero => intro x h0 h1; have : x = 0 := by simp at h1; omega
            subst this; rfl
  | succ s ih =>
    intro x h0 h1
    rw [Int.pow_succ] at h1
    rw [putZ_succ x s h0, numZ_snoc, ih (x / 256) (by omega) (by omega)]
    omega
end Go.Proofs.Ytfihiandifnkpaa
/- What was written is read back, plainly. -/
namespace Go.Proofs.Ytfihiandifnkpaa
open Go.ChangeShapes Go.WideShapes Go.ChangeAt Go.RowKit
set_option linter.unusedVariables false
open Plain
theorem n64_len' (n : Int) : (n64 n).length = 8 := putZ_len ..
theorem n64_bytes' (n : Int) : IsBytes (n64 n) := putZ_bytes _ _
theorem intZ_n64' (n : Int) (h0 : -9223372036854775808 ≤ n) (h1 : n ≤ 9223372036854775807) : intZ (n64 n) = n := by
  unfold intZ n64
  rw [numZ_putZ 8 _ (by omega) (by omega)]
  unfold wrap64
  omega
theorem take_app {α : Type} (a b : List α) {n : Nat} (h : a.length = n) : (a ++ b).take n = a := by subst h; exact List.take_left
theorem drop_app {α : Type} (a b : List α) {n : Nat} (h : a.length = n) : (a ++ b).drop n = b := by subst h; exact List.drop_left
theorem tk_app {α : Type} (k : Nat) (okf : List Int → List Int → Bool) (val : List Int → α) (nv : α) (p q : List Int) (hp : p.length = k) (ho : okf p q = true) : tk k okf val nv (0, p ++ q) = (val p, 0, q) := by
  rw [tk_ok _ _ _ _ _ (by rw [List.length_append]; omega) (by rw [take_app p q hp, drop_app p q hp]; exact ho), take_app p q hp, drop_app p q hp]
def bytesFn (zs : List Int) : List Int := putZ (zs.length : Nat) 4
theorem bytesF_small {zs : List Int} (h : zs.length ≤ 65536) : bytesF zs = bytesFn zs ++ zs := by
  unfold bytesF bytesFn
  rw [show ((zs.length : Nat) : Int) % 4294967296 = (zs.length : Nat) by omega]
theorem bytesFn_len (zs : List Int) : (bytesFn zs).length = 4 := putZ_len ..
theorem bytesFn_num {zs : List Int} (h : zs.length ≤ 65536) : numZ (bytesFn zs) = (zs.length : Nat) := numZ_putZ 4 _ (by omega) (by omega)
theorem rLen_app {zs q : List Int} (h : zs.length ≤ 65536) : rLen (0, bytesFn zs ++ q) = (((zs.length : Nat) : Int), (0 : Int), q) := by
  unfold rLen
  rw [tk_app 4 _ _ _ _ _ (bytesFn_len zs) (by rw [bytesFn_num h]; simp; omega), bytesFn_num h]
theorem rBytes_app {zs q : List Int} (h : zs.length ≤ 65536) : rBytes (0, bytesF zs ++ q) = (zs, 0, q) := by
  rw [bytesF_small h, List.append_assoc]
  unfold rBytes
  rw [rLen_app h]
  simp only [Int.toNat_natCast]
  rw [tk_app zs.length yes2 id [] zs q rfl rfl]
  rfl
theorem flag_app (n : Int) (q : List Int) : rFlag (0, [if oddB n then 1 else 0] ++ q) = (oddB n, 0, q) := by
  unfold rFlag
  rw [tk_app 1 _ _ _ _ _ rfl (by cases oddB n <;> rfl)]
  cases oddB n <;> rfl
/-- A field's facts that its bytes hang on. -/
structure FZ (f : FieldZ) : Prop where
  n : -9223372036854775808 ≤ f.n ∧ f.n ≤ 9223372036854775807
  zs : f.zs.length ≤ 65536
  tag : f.tag.length = 32
theorem back_field {f : FieldZ} (h : FZ f) (q : List Int) : backR f (0, fieldB f ++ q) = (true, 0, q) := by
  unfold backR fieldB
  by_cases k0 : f.kind = 0
  · rw [if_pos k0, if_pos k0]
    rw [show rByte (0, [f.n % 256] ++ q) = (f.n % 256, 0, q) from tk_app 1 _ _ _ _ _ rfl rfl]
    simp
  by_cases k1 : f.kind = 1
  · rw [if_neg k0, if_neg k0, if_pos k1, if_pos k1]
    rw [show rInt (0, n64 f.n ++ q) = (f.n, 0, q) from by unfold rInt; rw [tk_app 8 _ _ _ _ _ (n64_len' _) rfl, intZ_n64' _ h.n.1 h.n.2]]
    simp
  by_cases k2 : f.kind = 2
  · rw [if_neg k0, if_neg k0, if_neg k1, if_neg k1, if_pos k2, if_pos k2]
    rw [flag_app]
    simp
  by_cases k3 : f.kind = 3
  · rw [if_neg k0, if_neg k0, if_neg k1, if_neg k1, if_neg k2, if_neg k2, if_pos k3, if_pos k3]
    rw [rBytes_app h.zs, eqB_self]
  by_cases k4 : f.kind = 4
  · rw [if_neg k0, if_neg k0, if_neg k1, if_neg k1, if_neg k2, if_neg k2, if_neg k3, if_neg k3, if_pos k4, if_pos k4]
    rw [rBytes_app h.zs, eqB_self]
  by_cases k5 : f.kind = 5
  · rw [if_neg k0, if_neg k0, if_neg k1, if_neg k1, if_neg k2, if_neg k2, if_neg k3, if_neg k3, if_neg k4, if_neg k4, if_pos k5, if_pos k5]
    rw [show rTag (0, f.tag ++ q) = (f.tag, 0, q) from tk_app 32 _ _ _ _ _ h.tag rfl, eqB_self]
  rw [if_neg k0, if_neg k0, if_neg k1, if_neg k1, if_neg k2, if_neg k2, if_neg k3, if_neg k3, if_neg k4, if_neg k4, if_neg k5, if_neg k5]
  rfl
theorem tk_badst {α : Type} (k : Nat) (okf : List Int → List Int → Bool) (val : List Int → α) (nv : α) : tk k okf val nv (40, []) = (nv, 40, []) := tk_bad _ _ _ _ _ _ (by decide)
theorem back_bad (f : FieldZ) : (backR f (40, [])).2 = (40, []) := by
  unfold backR rByte rInt rFlag rBytes rLen rTag
  repeat' split
  all_goals simp only [tk_badst]
theorem rBytes_cut {zs : List Int} (h : zs.length ≤ 65536) (j : Nat) (hj : j < (bytesF zs).length) : (rBytes (0, (bytesF zs).take j)).2 = (40, []) := by
  rw [bytesF_small h] at hj ⊢
  rw [List.length_append, bytesFn_len] at hj
  by_cases h4 : j < 4
  · have : rLen (0, (bytesFn zs ++ zs).take j) = (0, 40, []) := tk_short _ _ _ _ _ (by rw [List.length_take]; omega)
    unfold rBytes
    rw [this]
    simp only
    rw [tk_badst]
  · have e : (bytesFn zs ++ zs).take j = bytesFn zs ++ zs.take (j - 4) := by
      rw [List.take_append, bytesFn_len, List.take_of_length_le (by rw [bytesFn_len]; omega)]
    unfold rBytes
    rw [e, rLen_app h]
    simp only [Int.toNat_natCast]
    rw [tk_short _ _ _ _ _ (by rw [List.length_take]; omega)]
theorem fieldB_len (f : FieldZ) (h : f.tag.length = 32) : (fieldB f).length = if f.kind = 0 then 1 else if f.kind = 1 then 8 else if f.kind = 2 then 1 else if f.kind = 3 then 4 + f.zs.length else if f.kind = 4 then 4 + f.zs.length else if f.kind = 5 then 32 else 0 := by
  unfold fieldB
  by_cases k0 : f.kind = 0
  · rw [if_pos k0, if_pos k0]
    rfl
  by_cases k1 : f.kind = 1
  · rw [if_neg k0, if_neg k0, if_pos k1, if_pos k1]
    exact n64_len' _
  by_cases k2 : f.kind = 2
  · rw [if_neg k0, if_neg k0, if_neg k1, if_neg k1, if_pos k2, if_pos k2]
    rfl
  by_cases k3 : f.kind = 3
  · rw [if_neg k0, if_neg k0, if_neg k1, if_neg k1, if_neg k2, if_neg k2, if_pos k3, if_pos k3]
    unfold bytesF; rw [List.length_append, putZ_len]
  by_cases k4 : f.kind = 4
  · rw [if_neg k0, if_neg k0, if_neg k1, if_neg k1, if_neg k2, if_neg k2, if_neg k3, if_neg k3, if_pos k4, if_pos k4]
    unfold bytesF; rw [List.length_append, putZ_len]
  by_cases k5 : f.kind = 5
  · rw [if_neg k0, if_neg k0, if_neg k1, if_neg k1, if_neg k2, if_neg k2, if_neg k3, if_neg k3, if_neg k4, if_neg k4, if_pos k5, if_pos k5]
    exact h
  rw [if_neg k0, if_neg k0, if_neg k1, if_neg k1, if_neg k2, if_neg k2, if_neg k3, if_neg k3, if_neg k4, if_neg k4, if_neg k5, if_neg k5]
  rfl
theorem back_cut {f : FieldZ} (h : FZ f) (j : Nat) (hj : j < (fieldB f).length) : (backR f (0, (fieldB f).take j)).2 = (40, []) := by
  rw [fieldB_len f h.tag] at hj
  unfold backR fieldB
  by_cases k0 : f.kind = 0
  · rw [if_pos k0] at hj; rw [if_pos k0, if_pos k0]
    rw [show rByte (0, [f.n % 256].take j) = (0, 40, []) from tk_short _ _ _ _ _ (by rw [List.length_take]; omega)]
  by_cases k1 : f.kind = 1
  · rw [if_neg k0, if_pos k1] at hj; rw [if_neg k0, if_neg k0, if_pos k1, if_pos k1]
    rw [show rInt (0, (n64 f.n).take j) = (0, 40, []) from tk_short _ _ _ _ _ (by rw [List.length_take]; omega)]
  by_cases k2 : f.kind = 2
  · rw [if_neg k0, if_neg k1, if_pos k2] at hj; rw [if_neg k0, if_neg k0, if_neg k1, if_neg k1, if_pos k2, if_pos k2]
    rw [show rFlag (0, [if oddB f.n then 1 else 0].take j) = (false, 40, []) from tk_short _ _ _ _ _ (by rw [List.length_take]; omega)]
  by_cases k3 : f.kind = 3
  · rw [if_neg k0, if_neg k1, if_neg k2, if_pos k3] at hj; rw [if_neg k0, if_neg k0, if_neg k1, if_neg k1, if_neg k2, if_neg k2, if_pos k3, if_pos k3]
    exact rBytes_cut h.zs j (by rw [bytesF_small h.zs, List.length_append, bytesFn_len]; omega)
  by_cases k4 : f.kind = 4
  · rw [if_neg k0, if_neg k1, if_neg k2, if_neg k3, if_pos k4] at hj; rw [if_neg k0, if_neg k0, if_neg k1, if_neg k1, if_neg k2, if_neg k2, if_neg k3, if_neg k3, if_pos k4, if_pos k4]
    exact rBytes_cut h.zs j (by rw [bytesF_small h.zs, List.length_append, bytesFn_len]; omega)
  by_cases k5 : f.kind = 5
  · rw [if_neg k0, if_neg k1, if_neg k2, if_neg k3, if_neg k4, if_pos k5] at hj; rw [if_neg k0, if_neg k0, if_neg k1, if_neg k1, if_neg k2, if_neg k2, if_neg k3, if_neg k3, if_neg k4, if_neg k4, if_pos k5, if_pos k5]
    rw [show rTag (0, f.tag.take j) = (List.replicate 32 0, 40, []) from tk_short _ _ _ _ _ (by rw [List.length_take]; omega)]
  rw [if_neg k0, if_neg k1, if_neg k2, if_neg k3, if_neg k4, if_neg k5] at hj
  rw [if_neg k0, if_neg k0, if_neg k1, if_neg k1, if_neg k2, if_neg k2, if_neg k3, if_neg k3, if_neg k4, if_neg k4, if_neg k5, if_neg k5]
  omega
/-- All fields, one behind the other. -/
def formB (F : Nat → FieldZ) : Nat → List Int := catTo (fun j => fieldB (F j))
def formN (F : Nat → FieldZ) : Nat → Nat := sumTo (fun j => (fieldB (F j)).length)
theorem formB_len (F : Nat → FieldZ) (k : Nat) : (formB F k).length = formN F k := catTo_len _ _ k (fun _ _ => rfl)
theorem formN_le (F : Nat → FieldZ) {k m : Nat} (h : k ≤ m) : formN F k ≤ formN F m := sumTo_le _ k m h
theorem formN_succ (F : Nat → FieldZ) (k : Nat) : formN F (k + 1) = formN F k + (fieldB (F k)).length := rfl
theorem formB_succ (F : Nat → FieldZ) (k : Nat) : formB F (k + 1) = formB F k ++ fieldB (F k) := rfl
theorem formB_drop (F : Nat → FieldZ) (k : Nat) : ∀ m, k < m → (formB F m).drop (formN F k) = fieldB (F k) ++ (formB F m).drop (formN F (k + 1)) := by
  intro m
  induction m with
  | zero => intro h; omega
  | succ m ih =>
    intro h
    rw [formB_succ]
    by_cases hk : k = m
    · subst hk
      rw [drop_app _ _ (formB_len F k), List.drop_of_length_le (l := formB F k ++ fieldB (F k)) (by rw [List.length_append, formB_len, formN_succ]; omega), List.append_nil]
    · have h1 := formN_le F (show k ≤ m by omega)
      have h2 := formN_le F (show k + 1 ≤ m by omega)
      rw [List.drop_append_of_le_length (by rw [formB_len]; exact h1), ih (by omega), List.drop_append_of_le_length (by rw [formB_len]; exact h2), List.append_assoc]
/-- The reader's state behind k of m fields, of the form cut to c bytes. -/
def cutSt (F : Nat → FieldZ) (m c k : Nat) : Int × List Int := if formN F k ≤ c then (0, ((formB F m).take c).drop (formN F k)) else (40, [])
theorem cut_step {F : Nat → FieldZ} {m c k : Nat} (hk : k < m) (hF : FZ (F k)) : (backR (F k) (cutSt F m c k)).2 = cutSt F m c (k + 1) := by
  unfold cutSt
  have hs := formN_succ F k
  by_cases h0 : formN F k ≤ c
  · rw [if_pos h0, List.drop_take, formB_drop F k m hk]
    by_cases h1 : formN F (k + 1) ≤ c
    · rw [if_pos h1, List.take_append, List.take_of_length_le (by omega), back_field hF, List.drop_take, show c - formN F k - (fieldB (F k)).length = c - formN F (k + 1) by omega]
    · rw [if_neg h1, List.take_append_of_le_length (by omega)]
      exact back_cut hF _ (by omega)
  · rw [if_neg h0, if_neg (by omega)]
    exact back_bad _
theorem fieldB_le {f : FieldZ} (h : f.tag.length = 32) : (fieldB f).length ≤ f.zs.length + 40 := by
  rw [fieldB_len f h]
  repeat' split
  all_goals omega
theorem form_small {F : Nat → FieldZ} : ∀ k, (∀ j, j < k → (F j).tag.length = 32 ∧ (F j).zs.length = (F j).len) → formN F k ≤ gsum F k := by
  intro k
  induction k with
  | zero => intro _; exact Nat.le_refl _
  | succ k ih =>
    intro h
    have h1 := ih (fun j hj => h j (by omega))
    have h2 := fieldB_le (h k (by omega)).1
    have h3 := (h k (by omega)).2
    rw [formN_succ]
    show _ ≤ gsum F k + (F k).len + 40
    omega
end Go.Proofs.Ytfihiandifnkpaa
/- What is read, and written again. -/
namespace Go.Proofs.Ytfihiandifnkpaa
open Go.ChangeShapes Go.WideShapes Go.ChangeAt Go.RowKit
set_option linter.unusedVariables false
open Plain
theorem putZ_numZ : ∀ (n : Nat) (p : List Int), p.length = n → IsBytes p → putZ (numZ p) n = p
  | 0, p, hl, _ => by
    have : p = [] := List.eq_nil_of_length_eq_zero hl
    subst this; rfl
  | n + 1, p, hl, hb => by
    obtain ⟨q, z, rfl⟩ : ∃ q z, p = q ++ [z] := by
      rcases List.eq_nil_or_concat p with rfl | ⟨q, z, rfl⟩
      · simp at hl
      · exact ⟨q, z, by simp⟩
    have hq : q.length = n := by simpa using hl
    have hbq : IsBytes q := by rw [isBytes_iff] at *; exact fun y hy => hb y (List.mem_append_left _ hy)
    have hz := (isBytes_iff.1 hb) z (by simp)
    have hnn := (numZ_range q (isBytes_iff.1 hbq)).1
    rw [numZ_snoc, putZ_succ _ _ (by omega), show (numZ q * 256 + z) / 256 = numZ q by omega, show (numZ q * 256 + z) % 256 = z by omega, putZ_numZ n q hq hbq]
/-- What is read so far stands in the form; or the reader is bad. -/
def GoodS (bs : List Int) (why : Int) (rest : List Int) (st : Option (List Int)) : Prop := (why = 0 ∧ ∃ fs, st = some fs ∧ fs ++ rest = bs) ∨ (why = 40 ∧ rest = [])
theorem good_tk {α : Type} {bs rest : List Int} {why : Int} {st : Option (List Int)} (k : Nat) (okf : List Int → List Int → Bool) (val : List Int → α) (nv : α) (Zof : α → List Int) (hb : bs.length ≤ 65536) (hB : IsBytes bs)
    (h : GoodS bs why rest st) (hZ : ∀ p r, p.length = k → IsBytes p → okf p r = true → Zof (val p) = p) :
    GoodS bs (tk k okf val nv (why, rest)).2.1 (tk k okf val nv (why, rest)).2.2 (wPut st (Zof (tk k okf val nv (why, rest)).1)) := by
  rcases h with ⟨rfl, fs, rfl, rfl⟩ | ⟨rfl, rfl⟩
  · by_cases hok : k ≤ rest.length ∧ okf (rest.take k) (rest.drop k) = true
    · rw [tk_ok k okf val nv rest hok.1 hok.2]
      have hp : IsBytes (rest.take k) := by rw [isBytes_iff] at *; exact fun z hz => hB z (List.mem_append_right _ (List.mem_of_mem_take hz))
      have hl : (rest.take k).length = k := by rw [List.length_take]; omega
      rw [List.length_append] at hb
      refine .inl ⟨rfl, fs ++ rest.take k, ?_, ?_⟩
      · show wPut (some fs) (Zof (val (rest.take k))) = _
        rw [hZ _ _ hl hp hok.2, wPut_yes _ _ (by rw [hl]; omega)]
      · show fs ++ rest.take k ++ rest.drop k = fs ++ rest
        rw [List.append_assoc, List.take_append_drop]
    · have : tk k okf val nv (0, rest) = (nv, 40, []) := by
        unfold tk
        rw [if_neg (fun h => hok ⟨h.2.1, h.2.2⟩)]
        rfl
      rw [this]
      exact .inr ⟨rfl, rfl⟩
  · rw [tk_bad k okf val nv 40 [] (by decide)]
    exact .inr ⟨rfl, rfl⟩
section
variable {bs rest : List Int} {why : Int} {st : Option (List Int)}
theorem good_byte (hb : bs.length ≤ 65536) (hB : IsBytes bs) (h : GoodS bs why rest st) : GoodS bs (rByte (why, rest)).2.1 (rByte (why, rest)).2.2 (wPut st [(rByte (why, rest)).1]) :=
  good_tk 1 yes2 (fun b => b.getD 0 0) 0 (fun x => [x]) hb hB h (fun p r hl _ _ => by
    match p, hl with
    | [z], _ => rfl)
theorem n64_intZ (p : List Int) (hl : p.length = 8) (hp : IsBytes p) : n64 (intZ p) = p := by
  have h := numZ_range p (isBytes_iff.1 hp)
  rw [hl] at h
  unfold n64 intZ wrap64
  have : (if numZ p % 18446744073709551616 < 9223372036854775808 then numZ p % 18446744073709551616 else numZ p % 18446744073709551616 - 18446744073709551616) % 18446744073709551616 = numZ p := by
    split <;> omega
  first
    | rw [this]; exact putZ_numZ 8 p hl hp
    | (have e : ∀ x : Int, x = numZ p → putZ x 8 = p := fun x hx => by rw [hx]; exact putZ_numZ 8 p hl hp
       apply e
       omega)
theorem good_int (hb : bs.length ≤ 65536) (hB : IsBytes bs) (h : GoodS bs why rest st) : GoodS bs (rInt (why, rest)).2.1 (rInt (why, rest)).2.2 (wPut st (n64 (rInt (why, rest)).1)) :=
  good_tk 8 yes2 intZ 0 n64 hb hB h (fun p r hl hp _ => n64_intZ p hl hp)
theorem good_flag (hb : bs.length ≤ 65536) (hB : IsBytes bs) (h : GoodS bs why rest st) : GoodS bs (rFlag (why, rest)).2.1 (rFlag (why, rest)).2.2 (wPut st [if (rFlag (why, rest)).1 then 1 else 0]) :=
  good_tk 1 (fun b _ => decide (b.getD 0 0 ≤ 1)) (fun b => b.getD 0 0 == 1) false (fun x => [if x then 1 else 0]) hb hB h (fun p r hl hp ho => by
    match p, hl with
    | [z], _ =>
      have h0 := (isBytes_iff.1 hp) z (by simp)
      have h1 : z ≤ 1 := by simpa using ho
      by_cases hz : z = 1
      · subst hz; rfl
      · have : z = 0 := by omega
        subst this; rfl)
theorem good_tag (hb : bs.length ≤ 65536) (hB : IsBytes bs) (h : GoodS bs why rest st) : GoodS bs (rTag (why, rest)).2.1 (rTag (why, rest)).2.2 (wPut st (rTag (why, rest)).1) :=
  good_tk 32 yes2 id (List.replicate 32 0) (fun x => x) hb hB h (fun p r hl hp _ => rfl)
theorem good_bytes (hb : bs.length ≤ 65536) (hB : IsBytes bs) (h : GoodS bs why rest st) : GoodS bs (rBytes (why, rest)).2.1 (rBytes (why, rest)).2.2 (wPut st (bytesF (rBytes (why, rest)).1)) := by
  rcases h with ⟨rfl, fs, rfl, rfl⟩ | ⟨rfl, rfl⟩
  · rw [List.length_append] at hb
    by_cases h4 : 4 ≤ rest.length ∧ numZ (rest.take 4) ≤ 65536
    · have hp : IsBytes (rest.take 4) := by rw [isBytes_iff] at *; exact fun z hz => hB z (List.mem_append_right _ (List.mem_of_mem_take hz))
      have hl : (rest.take 4).length = 4 := by rw [List.length_take]; omega
      have hnn := (numZ_range _ (isBytes_iff.1 hp)).1
      have e1 : rLen (0, rest) = (numZ (rest.take 4), 0, rest.drop 4) := by unfold rLen; exact tk_ok 4 _ _ _ rest h4.1 (by simpa using h4.2)
      have e2 : rBytes (0, rest) = tk (numZ (rest.take 4)).toNat yes2 id [] (0, rest.drop 4) := by unfold rBytes; rw [e1]
      obtain ⟨m, hm⟩ := Int.eq_ofNat_of_zero_le hnn
      rw [e2, hm]
      by_cases hk : m ≤ (rest.drop 4).length
      · have hk2 := hk
        rw [List.length_drop] at hk2
        rw [show ((m : Int)).toNat = m from rfl, tk_ok m yes2 id [] (rest.drop 4) hk rfl]
        have hlm : ((rest.drop 4).take m).length = m := by rw [List.length_take]; omega
        have e3 : bytesF ((rest.drop 4).take m) = rest.take 4 ++ (rest.drop 4).take m := by
          unfold bytesF
          rw [hlm, show ((m : Nat) : Int) % 4294967296 = numZ (rest.take 4) by rw [hm]; have := h4.2; omega, putZ_numZ 4 _ hl hp]
        refine .inl ⟨rfl, fs ++ (rest.take 4 ++ (rest.drop 4).take m), ?_, ?_⟩
        · show wPut (some fs) (bytesF ((rest.drop 4).take m)) = _
          rw [e3, wPut_yes _ _ (by rw [List.length_append, hl, hlm]; omega)]
        · show fs ++ (rest.take 4 ++ (rest.drop 4).take m) ++ (rest.drop 4).drop m = fs ++ rest
          rw [List.append_assoc, List.append_assoc, List.take_append_drop, List.take_append_drop]
      · rw [show ((m : Int)).toNat = m from rfl, tk_short m yes2 id [] (rest.drop 4) (by omega)]
        exact .inr ⟨rfl, rfl⟩
    · have e1 : rLen (0, rest) = (0, 40, []) := by
        unfold rLen tk
        rw [if_neg (fun h => h4 ⟨h.2.1, by simpa using h.2.2⟩)]
        rfl
      have e2 : rBytes (0, rest) = ([], 40, []) := by
        unfold rBytes; rw [e1]; exact tk_bad _ _ _ _ 40 [] (by decide)
      rw [e2]
      exact .inr ⟨rfl, rfl⟩
  · have e1 : rLen (40, []) = (0, 40, []) := tk_bad _ _ _ _ 40 [] (by decide)
    have e2 : rBytes (40, []) = ([], 40, []) := by
      unfold rBytes; rw [e1]; exact tk_bad _ _ _ _ 40 [] (by decide)
    rw [e2]
    exact .inr ⟨rfl, rfl⟩
end
theorem tk_val {α : Type} (P : α → Prop) (k : Nat) (okf : List Int → List Int → Bool) (val : List Int → α) (nv : α) (why : Int) (rest : List Int) (hB : IsBytes rest) (hn : P nv) (hv : ∀ p, p.length = k → IsBytes p → P (val p)) : P (tk k okf val nv (why, rest)).1 := by
  unfold tk
  split
  · next h =>
    have h2 : k ≤ rest.length := h.2.1
    exact hv _ (by rw [List.length_take]; show min k rest.length = k; omega) (by rw [isBytes_iff] at *; exact fun z hz => hB z (List.mem_of_mem_take hz))
  · exact hn
theorem rByte_rng (why : Int) {rest : List Int} (hB : IsBytes rest) : 0 ≤ (rByte (why, rest)).1 ∧ (rByte (why, rest)).1 < 256 :=
  tk_val (fun x => 0 ≤ x ∧ x < 256) 1 yes2 (fun b => b.getD 0 0) 0 why rest hB (by omega) (fun p hl hp => hp 0 (by omega))
theorem rInt_rng (why : Int) {rest : List Int} (hB : IsBytes rest) : -9223372036854775808 ≤ (rInt (why, rest)).1 ∧ (rInt (why, rest)).1 ≤ 9223372036854775807 :=
  tk_val (fun x => -9223372036854775808 ≤ x ∧ x ≤ 9223372036854775807) 8 yes2 intZ 0 why rest hB (by omega) (fun p hl hp => by unfold intZ wrap64; omega)
theorem rTag_ok (why : Int) {rest : List Int} (hB : IsBytes rest) : (rTag (why, rest)).1.length = 32 ∧ IsBytes (rTag (why, rest)).1 :=
  tk_val (fun x => x.length = 32 ∧ IsBytes x) 32 yes2 id (List.replicate 32 0) why rest hB ⟨rfl, rep_bytes 32 0 (by omega) (by omega)⟩ (fun p hl hp => ⟨hl, hp⟩)
theorem rBytes_good (why : Int) {rest : List Int} (hB : IsBytes rest) (hl : rest.length ≤ 65536) : IsBytes (rBytes (why, rest)).1 ∧ (rBytes (why, rest)).1.length ≤ 65536 := by
  have hB2 : IsBytes (rLen (why, rest)).2.2 := by
    unfold rLen tk
    split
    · rw [isBytes_iff] at *; exact fun z hz => hB z (List.mem_of_mem_drop hz)
    · exact IsBytes.nil
  have hl2 : (rLen (why, rest)).2.2.length ≤ 65536 := by
    unfold rLen tk
    split
    · show (rest.drop 4).length ≤ 65536; rw [List.length_drop]; omega
    · show ([] : List Int).length ≤ _; simp
  unfold rBytes
  generalize rLen (why, rest) = s at hB2 hl2 ⊢
  obtain ⟨v, y, r⟩ := s
  refine ⟨tk_val (fun x => IsBytes x) v.toNat yes2 id [] y r hB2 IsBytes.nil (fun p _ hp => hp), ?_⟩
  unfold tk
  split
  · show (r.take v.toNat).length ≤ _; rw [List.length_take]; have : r.length ≤ 65536 := hl2; omega
  · show ([] : List Int).length ≤ _; simp
theorem rd_wrote {w w' : World} {rb bw : Nat} {Y : Span} {why : Int} {zs : List Int} {g : Option Nat} (h : Rd w rb Y why zs) (hw : Wrote w w' bw g) (hlt : rb < bw) (hg : ∀ k, g = some k → bw < k) : Rd w' rb Y why zs :=
  h.keep (hw.block rb h.lt (by omega) (fun e => by have := hg rb e.symm; omega)) (fun k _ hk => hw.block k (by have := h.lt; have := h.le; omega) (by have := h.le; omega) (fun e => by have := hg k e.symm; have := h.le; omega))
end Go.Proofs.Ytfihiandifnkpaa
