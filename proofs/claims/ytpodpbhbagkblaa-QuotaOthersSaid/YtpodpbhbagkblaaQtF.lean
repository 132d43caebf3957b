/- A copy of shares (slices.Clone). -/
import Derived.Test.YtpodpbhbagkblaaQtE
import Derived.Lib.SliceRun
namespace Go.Proofs.Ytpodpbhbagkblaa
open Go.ChangeShapes Go.WideShapes Go.ChangeAt Go.RowKit
set_option linter.unusedVariables false
set_option linter.unusedSimpArgs false
open Plain Qt
/-- A list of shares that a call makes, in new memory. -/
def MadeQ (w : World) (n : Nat) (l : List ShZ) (e : Ending) (w' : World) : Prop :=
  ∃ D d, e = .returned (.slice D n d) ∧ w'.ownsRow w.heap.size 27 3 (.slice D n d) n (svs l) ∧ Below w.heap.size w w'
theorem own_noneQ (w : World) (base : Nat) (hb : base ≤ w.heap.size) : (w.alloc (.cells #[] 27)).ownsRow base 27 3 (.slice (some ⟨w.heap.size, 0, none⟩) 0 0) 0 (svs []) :=
  World.ownsRow_lit w #[] 0 hb (by simp [maxLen]) rfl
set_option maxRecDepth 100000 in
set_option maxHeartbeats 1000000 in
theorem clone_anyQ {w : World} {B n c : Nat} {A : Option Addr} {l : List ShZ} (h : Shs w B A n l) (hB : B ≤ w.heap.size) (hn : n ≤ 8) :
    Calls Try.prog 24 #[.slice A n c] w (MadeQ w n l) := by
  have qT : ∀ (w : World) (a : Option Addr) (n c n' c' : Nat), (binOp .eql 25 (.slice a n c) (.slice none n' c')).run Try.prog w = .ok (.bool a.isNone) w := fun w a n c n' c' => Lib.run_eql_slice_nil w _ _ a n c n' c' Try.underlying25
  cases A with
  | none =>
    have h0 : n = 0 := h.lies.2 rfl
    subst h0
    have hl : l = [] := List.eq_nil_of_length_eq_zero h.len
    subst hl
    clear h
    go_enter Try.func24, Try.ntmps24
    go_wp2
    go_ret
    exact ⟨none, 0, rfl, World.ownsRow_nil _ _ _ _, Below.refl _ _⟩
  | some ad =>
    have HL := Lib.hid (h.below (below_oneQ w (.cells #[] 27)) hB).lies
    have HO := Lib.hid (own_noneQ w w.heap.size (Nat.le_refl _))
    clear h
    go_enter Try.func24, Try.ntmps24
    go_wp2_with (at_builtin; refine wpList_app _ rfl (.tmp 5) (.tmp 6) 25 rfl w.heap.size 27 3 24 Try.underlying25 share_info (by omega) _ 0 (svs []) rfl HO.out _ n c (svs l) rfl HL.out.1 HL.out.2 (svs_one _) (by unfold maxLen; omega) (by omega) (by simp) ?_; intro v1 w1 ho1 hg1; have B1 := Lib.hid (((below_oneQ w (.cells #[] 27))).grown hg1 (by simp) (fun q hq => (HO.out.lt q hq).1)); have HO1 := Lib.hid ho1; clear ho1 hg1)
    go_ret
    have ho := HO1.out
    rw [Nat.zero_add] at ho
    obtain ⟨D, d, rfl, _, _⟩ := own_shapeQ ho
    exact ⟨D, d, rfl, ho, B1.out⟩
/-- Cells of an own row that are stored into, one behind the other. -/
def putL : List Value → Nat → List Value → List Value
  | xs, _, [] => xs
  | xs, o, v :: r => putL (xs.set o v) (o + 1) r
theorem putL_eq : ∀ (vs xs : List Value) (o : Nat), o + vs.length ≤ xs.length → putL xs o vs = xs.take o ++ vs ++ xs.drop (o + vs.length)
  | [], xs, o, _ => by simp [putL]
  | v :: r, xs, o, h => by
    simp only [List.length_cons] at h
    rw [putL, putL_eq r (xs.set o v) (o + 1) (by simp; omega), list_seg_step xs o v r (by omega)]
    rfl
theorem own_setCells {base n c b size : Nat} {t : TypeId} : ∀ (vs : List Value) (o : Nat) (w : World) (xs : List Value), w.ownsRow base t size (.slice (some ⟨b, 0, none⟩) n c) n xs → (w.setCells b o vs).ownsRow base t size (.slice (some ⟨b, 0, none⟩) n c) n (putL xs o vs)
  | [], o, w, xs, h => h
  | v :: r, o, w, xs, h => by
    rw [World.setCells, putL]
    exact own_setCells r (o + 1) _ _ (h.stored o v).1
/-- copy, of elements of more cells than one. -/
theorem run_copy_wide {P : Program} (w : World) (dT sT ty elem : TypeId) (size b o dLen dCap : Nat) (a : Addr) (sLen sCap : Nat) (cs : List Value)
    (hu : P.underlying dT = some (.slice elem)) (hs : (P.info? elem).map (·.size) = some size) (hn : cs.length = Nat.min sLen dLen * size)
    (hsrc : ∀ j v, cs[j]? = some v → w.cell? (a.add j) = some v) (hc : ∀ j, j < cs.length → (w.cell? ⟨b, o + j, none⟩).isSome = true) (hf : ∀ j, j < cs.length → w.frozen? ⟨b, o + j, none⟩ = false) (h1 : ∀ v ∈ cs, v.oneCell' = true) :
    (Builtin.copy_ #[dT, sT] ty #[.slice (some ⟨b, o, none⟩) dLen dCap, .slice (some a) sLen sCap]).run P w = .ok (goInt (Nat.min sLen dLen)) (w.setCells b o cs) := by
  have hl := run_loadCells_list (P := P) w a cs hsrc
  have hst := run_storeCells_cells (P := P) b o cs 0 w (by simpa using hc) (by simpa using hf) h1
  cases hq : P.info? elem with
  | none => simp [hq] at hs
  | some i =>
    have hi : i.size = size := by simpa [hq] using hs
    simp [Builtin.copy_, run_underlying hu, Builtin.lenOf, Builtin.firstCells, sizeOf, typeInfo, hq, hi, ← hn, hl, hst]
end Go.Proofs.Ytpodpbhbagkblaa
