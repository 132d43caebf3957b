/- Own rows that are stored into; what a note hands back. -/
import Derived.Test.YtlapdocikhjkcaaRpI
import Derived.Test.YtlapdocikhjkcaaRpK
namespace Go.Proofs.Ytlapdocikhjkcaa
open Go.ChangeShapes Go.WideShapes Go.ChangeAt Go.RowKit
set_option linter.unusedVariables false
set_option linter.unusedSimpArgs false
open Plain Sha Au Rp
/-- Cells of an own row that are stored into, one behind the other. -/
def putL : List Value → Nat → List Value → List Value
  | xs, _, [] => xs
  | xs, o, v :: r => putL (xs.set o v) (o + 1) r
theorem putL_eq : ∀ (vs xs : List Value) (o : Nat), o + vs.length ≤ xs.length → putL xs o vs = xs.take o ++ vs ++ xs.drop (o + vs.length)
  | [], xs, o, _ => by simp [putL]
  | v :: r, xs, o, h => by
    simp only [List.length_cons] at h
    rw [putL, putL_eq r (xs.set o v) (o + 1) (by simp; omega), list_seg_step xs o v r (by omega)]
    rfl
theorem own_setCells {base n c b size : Nat} {t : TypeId} : ∀ (vs : List Value) (o : Nat) (w : World) (xs : List Value), w.ownsRow base t size (.slice (some ⟨b, 0, none⟩) n c) n xs → (w.setCells b o vs).ownsRow base t size (.slice (some ⟨b, 0, none⟩) n c) n (putL xs o vs)
  | [], o, w, xs, h => h
  | v :: r, o, w, xs, h => by
    rw [World.setCells, putL]
    exact own_setCells r (o + 1) _ _ (h.stored o v).1
theorem xvs_cut (l : List LX) (k : Nat) (x : LX) (h : l[k]? = some x) : xvs l = xvs (l.take k) ++ xc x ++ xvs (l.drop (k + 1)) := by
  have hk : k < l.length := (List.getElem?_eq_some_iff.1 h).1
  have e : l = l.take k ++ x :: l.drop (k + 1) := by
    have h2 : l[k] = x := (List.getElem?_eq_some_iff.1 h).2
    rw [← h2, List.getElem_cons_drop hk, List.take_append_drop]
  have e2 : xvs l = xvs (l.take k ++ x :: l.drop (k + 1)) := congrArg xvs e
  rw [e2, xvs_app]
  simp only [xvs, List.append_assoc]
def SetR (x : LX) (r : RX) : LX := { x with r := r }
theorem xc_split (x : LX) : xc x = [.int .i64 x.c, .int .i64 x.id] ++ rc x.r := rfl
theorem putR (l : List LX) (k : Nat) (x : LX) (r : RX) (h : l[k]? = some x) : putL (xvs l) (k * 77 + 2) (rc r) = xvs (l.set k (SetR x r)) := by
  have hk : k < l.length := (List.getElem?_eq_some_iff.1 h).1
  have ht : (l.take k).length = k := by rw [List.length_take]; omega
  rw [putL_eq _ _ _ (by rw [rc_len, xvs_len]; omega)]
  have hl : (l.set k (SetR x r))[k]? = some (SetR x r) := by rw [List.getElem?_set_self hk]
  rw [xvs_cut _ k _ hl, xvs_cut l k x h, List.take_set_of_le (Nat.le_refl _), List.drop_set_of_lt (by omega)]
  have hA : (xvs (l.take k)).length = k * 77 := by rw [xvs_len, ht]
  have e1 : (xvs (l.take k) ++ xc x ++ xvs (l.drop (k + 1))).take (k * 77 + 2) = xvs (l.take k) ++ [.int .i64 x.c, .int .i64 x.id] := by
    rw [List.append_assoc, List.take_append, hA, List.take_of_length_le (by rw [hA]; omega), show k * 77 + 2 - k * 77 = 2 by omega]
    rfl
  have e2 : (xvs (l.take k) ++ xc x ++ xvs (l.drop (k + 1))).drop (k * 77 + 2 + (rc r).length) = xvs (l.drop (k + 1)) := by
    have hX : (xvs (l.take k) ++ xc x).length = k * 77 + 2 + (rc r).length := by rw [List.length_append, hA, xc_len, rc_len]
    rw [← hX, List.drop_left]
  rw [e1, e2]
  show xvs (l.take k) ++ [.int .i64 x.c, .int .i64 x.id] ++ rc r ++ xvs (l.drop (k + 1)) = xvs (l.take k) ++ ([.int .i64 x.c, .int .i64 x.id] ++ rc r) ++ xvs (l.drop (k + 1))
  simp only [List.append_assoc]
theorem own_rngX {w : World} {base n c g k : Nat} {t : TypeId} {l : List LX} {x : LX} (h : w.ownsRow base t 77 (.slice (some ⟨g, 0, none⟩) n c) n (xvs l)) (hx : l[k]? = some x) : w.rangeAt g (k * 77) (xc x) := fun j v hv => by
  have hl : l.length = n := by have := h.1; rw [xvs_len] at this; omega
  have hk : k < l.length := (List.getElem?_eq_some_iff.1 hx).1
  have hj : j < 77 := by have := (List.getElem?_eq_some_iff.1 hv).1; rwa [xc_len] at this
  rw [h.cellAt (k * 77 + j) (by omega), xvs_at l k _ hx j hj]
  exact hv
theorem own_thereX {w : World} {base n c g o k : Nat} {t : TypeId} {xs : List Value} {s : Nat} (h : w.ownsRow base t s (.slice (some ⟨g, 0, none⟩) n c) n xs) (hk : o + k ≤ n * s) : w.there g o k := fun j hj => by
  have hl := h.1
  rw [h.cellAt (o + j) (by omega)]
  refine ⟨?_, h.frozenAt _⟩
  rw [List.getElem?_eq_getElem (by omega)]; rfl
/-- The keys of x stand in a row of their own, that came behind block base and is not block g. -/
structure KW (w : World) (base g : Nat) (x : RX) : Prop where
  own : 0 < x.kn → ∃ b, x.A = some ⟨b, 0, none⟩ ∧ base ≤ b ∧ b ≠ g ∧ b < w.heap.size ∧ w.there b 0 x.kn
theorem kw_own {w : World} {base g : Nat} {x : RX} (h : w.ownsRow base 9 1 (.slice x.A x.kn x.kc) x.kn (svs x.ks)) (hg : g < base) : KW w base g x := ⟨fun h0 => by
  obtain ⟨b, cap, hv, hb, hlt⟩ := h.form h0
  have hA : x.A = some ⟨b, 0, none⟩ := by injection hv
  rw [hA] at h
  exact ⟨b, hA, hb, by omega, hlt, own_thereX h (by omega)⟩⟩
theorem KW.from {w : World} {base base' g : Nat} {x : RX} (h : KW w base g x) (hb : base' ≤ base) : KW w base' g x := ⟨fun h0 => by
  obtain ⟨b, h1, h2, h3⟩ := h.own h0
  exact ⟨b, h1, by omega, h3⟩⟩
theorem KW.below {w w' : World} {base g : Nat} {x : RX} (h : KW w base g x) (hb : Below w.heap.size w w') : KW w' base g x := ⟨fun h0 => by
  obtain ⟨b, h1, h2, h3, h4, h5⟩ := h.own h0
  exact ⟨b, h1, h2, h3, Nat.lt_of_lt_of_le h4 hb.size, there_same h5 (hb.block b h4)⟩⟩
/-- What a note hands back that was right: a table of the call's own, each client's keys in rows of their own. -/
def NoteOk (w : World) (L : List LX) (e : Ending) (w' : World) : Prop :=
  ∃ g m d l', e = .returned (.tuple #[.slice (some ⟨g, 0, none⟩) m d, .int .i64 0]) ∧ l'.map LX.z = L.map LX.z ∧ w'.ownsRow w.heap.size 53 77 (.slice (some ⟨g, 0, none⟩) m d) m (xvs l') ∧ (∀ x, x ∈ l' → XOk w' w'.heap.size x) ∧ (∀ x, x ∈ l' → KW w' w.heap.size g x.r) ∧ Below w.heap.size w w'
theorem cut_lL (A : Option Addr) (n c lo : Nat) (l : Int) (hl : l = lo) (h1 : lo ≤ n) (h2 : n ≤ c) :
    ∃ T, (∀ W, (Instr.slice 24 (.slice A n c) (some (.int .i64 l)) none none).run Try.prog W = .ok (.slice T (n - lo) (c - lo)) W) ∧ (0 < n - lo → T = A.map fun x => x.add (lo * 77)) := by
  subst hl
  have he : Try.prog.elem 24 = 53 := by simp [Program.elem, Try.underlying24]
  have hz : ∀ W, (Go.sizeOf 53).run Try.prog W = .ok 77 W := fun W => Try.sizeOf53 W
  refine ⟨if c = lo then A else A.map (·.add (lo * 77)), fun W => ?_, fun h0 => by rw [if_neg (by omega)]⟩
  rw [run_slice_l W 24 A n c (by rw [he]; exact Try.underlying24) .i64 _ (by omega) (by omega), he, hz]
  simp [Result.andThen, sliced]
theorem ins_cut {l : List LX} {x : LX} {p q : Nat} (hp : IsF (fun j => (l[j]?.map fun y => decide (x.c ≤ y.c)).getD false) l.length p) (hq : IsF (fun j => (l[j]?.map fun y => decide (x.c < y.c)).getD false) l.length q) : l.take p ++ [x] ++ l.drop q = insG LX.c x l := by
  have e1 := (cut_take (q := fun y : LX => decide (y.c < x.c)) l p (fun j y hj hy => by
    have := hp.no j hj
    rw [hy] at this
    simp at this ⊢
    omega) (fun y hy => by
    have := hp.yes (List.getElem?_eq_some_iff.1 hy).1
    rw [hy] at this
    simp at this ⊢
    omega) hp.le).1
  have e2 := (cut_take (q := fun y : LX => decide (y.c ≤ x.c)) l q (fun j y hj hy => by
    have := hq.no j hj
    rw [hy] at this
    simp at this ⊢
    omega) (fun y hy => by
    have := hq.yes (List.getElem?_eq_some_iff.1 hy).1
    rw [hy] at this
    simp at this ⊢
    omega) hq.le).2
  rw [e1, e2]
  unfold insG
  simp
/-- What a note has copied so far of one client's. -/
structure OwnR (w : World) (base : Nat) (x : LX) : Prop where
  c : InA x.c
  id : InA x.id
  err : InA x.r.err
  n : InA x.r.n
  g : LOk x.r.g
  kc : x.r.kn ≤ x.r.kc
  km : x.r.kc ≤ maxLen
  row : w.ownsRow base 9 1 (.slice x.r.A x.r.kn x.r.kc) x.r.kn (svs x.r.ks)
theorem OwnR.keep {w w' : World} {base : Nat} {x : LX} (h : OwnR w base x) (hk : ∀ b, base ≤ b → b < w.heap.size → w'.heap[b]? = w.heap[b]?) : OwnR w' base x := ⟨h.c, h.id, h.err, h.n, h.g, h.kc, h.km, own_keepB h.row hk⟩
theorem OwnR.xok {w : World} {base : Nat} {x : LX} (h : OwnR w base x) : XOk w w.heap.size x := ⟨h.c, h.id, ⟨h.err, h.n, h.g, h.kc, h.km, sr_of_own h.row⟩⟩
theorem own_of_copy {w : World} {base base' : Nat} {x : LX} {B : Nat} {w0 : World} {D : Option Addr} {d : Nat} (h : XOk w0 B x) (ho : w.ownsRow base' 9 1 (.slice D x.r.kn d) x.r.kn (svs x.r.ks)) (hb : base ≤ base') : OwnR w base (SetR x (CopyX x.r D d)) := by
  obtain ⟨_, _, e, h1, h2⟩ := own_shapeA ho
  injection e with e1 e2 e3
  subst e1 e3
  exact ⟨h.c, h.id, h.r.err, h.r.n, h.r.g, h1, h2, own_from ho hb⟩
theorem set_z {l : List LX} {k : Nat} {x : LX} (D : Option Addr) (d : Nat) (h : l[k]? = some x) : (l.set k (SetR x (CopyX x.r D d))).map LX.z = l.map LX.z := by
  rw [List.map_set]
  have e : (SetR x (CopyX x.r D d)).z = x.z := rfl
  have hk : k < l.length := (List.getElem?_eq_some_iff.1 h).1
  rw [e]
  refine List.ext_getElem? fun j => ?_
  rw [List.getElem?_set]
  by_cases hj : k = j
  · subst hj
    rw [if_pos rfl, if_pos (by simpa using hk), List.getElem?_map, h]; rfl
  · rw [if_neg hj]
theorem mem_set_or {l : List LX} {k : Nat} {y z : LX} (h : z ∈ l.set k y) : z = y ∨ z ∈ l := (List.mem_or_eq_of_mem_set h).symm
end Go.Proofs.Ytlapdocikhjkcaa
