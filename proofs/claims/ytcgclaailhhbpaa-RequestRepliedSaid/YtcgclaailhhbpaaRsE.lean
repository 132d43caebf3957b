/- Replies that are read, plainly; the reader with a variable and its keys. -/
import Derived.Test.YtcgclaailhhbpaaRqK
import Derived.Test.YtcgclaailhhbpaaRqL
import Derived.Test.YtcgclaailhhbpaaRqO
import Derived.Test.YtcgclaailhhbpaaRsC
namespace Go.Proofs.Ytcgclaailhhbpaa
open Go.ChangeShapes Go.WideShapes Go.ChangeAt Go.RowKit
set_option linter.unusedVariables false
set_option maxRecDepth 100000
set_option linter.unusedSimpArgs false
open Plain Sha Au Rp Rq
/-- Cells that are stored into, one behind the other. -/
def putL : List Value → Nat → List Value → List Value
  | xs, _, [] => xs
  | xs, o, v :: r => putL (xs.set o v) (o + 1) r
theorem putL_eq : ∀ (vs xs : List Value) (o : Nat), o + vs.length ≤ xs.length → putL xs o vs = xs.take o ++ vs ++ xs.drop (o + vs.length)
  | [], xs, o, _ => by simp [putL]
  | v :: r, xs, o, h => by
    simp only [List.length_cons] at h
    rw [putL, putL_eq r (xs.set o v) (o + 1) (by simp; omega)]
    have e1 : (xs.set o v).take (o + 1) = xs.take o ++ [v] := by
      rw [set_mid xs o v (by omega), List.take_left' (by simp; omega)]
    have e2 : (xs.set o v).drop (o + 1 + r.length) = xs.drop (o + (r.length + 1)) := by
      rw [List.drop_set_of_lt (by omega)]
      congr 1
      omega
    rw [e1, e2]
    simp
/-- Texts that are read, one behind the other. -/
def rTexts : Nat → Int × List Int → List ByteArray × Int × List Int
  | 0, s => ([], s)
  | k + 1, s => ((rTexts k s).1 ++ [strOfNums (rBytes (rTexts k s).2).1], (rBytes (rTexts k s).2).2)
theorem rTexts_step {k : Nat} {s s' : Int × List Int} {a : List Int} (h : rBytes (rTexts k s).2 = (a, s')) : rTexts (k + 1) s = ((rTexts k s).1 ++ [strOfNums a], s') := by
  show ((rTexts k s).1 ++ [strOfNums (rBytes (rTexts k s).2).1], (rBytes (rTexts k s).2).2) = _
  rw [h]
theorem rTexts_len : ∀ (k : Nat) (s : Int × List Int), (rTexts k s).1.length = k
  | 0, _ => rfl
  | k + 1, s => by
    show ((rTexts k s).1 ++ [_]).length = _
    rw [List.length_append, rTexts_len k s]; rfl
theorem texts_rg : ∀ (k : Nat) {s : Int × List Int}, StB s → StB (rTexts k s).2
  | 0, _, h => h
  | k + 1, s, h => (bytes_rg (texts_rg k h) (s' := (rBytes (rTexts k s).2).2) (a := (rBytes (rTexts k s).2).1) rfl).2
theorem rCount_rng {most : Int} (h : 0 ≤ most) {s s' : Int × List Int} {a : Int} (e : rCount most s = (a, s')) : 0 ≤ a ∧ a ≤ most := by
  unfold rCount tk at e
  split at e
  · next hh =>
    injection e with e _
    have := of_decide_eq_true hh.2.2
    rw [← e]
    exact ⟨this.1, this.2.1⟩
  · injection e with e _
    rw [← e]
    exact ⟨Int.le_refl _, h⟩
/-- A link of what was read. -/
def mkL (n st op tn a b c : Int) (H S : List Int) : LinkZ := if h : H.length = 32 ∧ S.length = 32 then ⟨n, st, op, tn, a, b, c, H, S, h.1, h.2⟩ else l0
theorem mkL_eq {n st op tn a b c : Int} {H S : List Int} (hH : H.length = 32) (hS : S.length = 32) : mkL n st op tn a b c H S = ⟨n, st, op, tn, a, b, c, H, S, hH, hS⟩ := dif_pos ⟨hH, hS⟩
/-- What is read of a reply, one field behind the other. -/
def repR (s : Int × List Int) : RepZ × Int × List Int :=
  let a1 := rInt s
  let a2 := rBytes a1.2
  let a3 := rCount 16 a2.2
  let a4 := rTexts a3.1.toNat a3.2
  let a5 := rInt a4.2
  let a6 := rInt a5.2
  let a7 := rInt a6.2
  let a8 := rByte a7.2
  let a9 := rInt a8.2
  let a10 := rInt a9.2
  let a11 := rInt a10.2
  let a12 := rInt a11.2
  let a13 := rTag a12.2
  let a14 := rTag a13.2
  (⟨a1.1, strOfNums a2.1, a4.1, a5.1, mkL a6.1 a7.1 a8.1 a9.1 a10.1 a11.1 a12.1 a13.1 a14.1⟩, a14.2)
/-- What is read of bytes. -/
def rz0 : RepZ := r0.z
def parseR (bs : List Int) : RepZ × Int := if endZ (repR (0, bs)).2.1 (repR (0, bs)).2.2 = 0 ∧ mayR (repR (0, bs)).1 = true then ((repR (0, bs)).1, 0) else (rz0, 150)
theorem putL_H (x : RX) (H : List Int) (hH : H.length = 32) : putL (rc x) 11 (vals H) = rc { x with g := { x.g with H := H, hH := hH } } := by
  rw [putL_eq _ _ _ (by rw [vals_len, hH, rc_len]; omega), vals_len, hH]
  have e1 : rc x = (rhead x ++ lhead x.g) ++ (vals x.g.H ++ vals x.g.S) := by unfold rc lc; rw [List.append_assoc]
  have e2 : rc x = ((rhead x ++ lhead x.g) ++ vals x.g.H) ++ vals x.g.S := by rw [e1]; simp only [List.append_assoc]
  have h1 : (rc x).take 11 = rhead x ++ lhead x.g := by rw [e1]; exact List.take_left' rfl
  have h2 : (rc x).drop (11 + 32) = vals x.g.S := by rw [e2]; exact List.drop_left' (by rw [List.length_append, vals_len, x.g.hH]; rfl)
  rw [h1, h2]
  unfold rc lc
  simp only [List.append_assoc]
  rfl
theorem putL_S (x : RX) (S : List Int) (hS : S.length = 32) : putL (rc x) 43 (vals S) = rc { x with g := { x.g with S := S, hS := hS } } := by
  rw [putL_eq _ _ _ (by rw [vals_len, hS, rc_len]; omega), vals_len, hS]
  have e2 : rc x = ((rhead x ++ lhead x.g) ++ vals x.g.H) ++ vals x.g.S := by unfold rc lc; simp only [List.append_assoc]
  have h1 : (rc x).take 43 = (rhead x ++ lhead x.g) ++ vals x.g.H := by rw [e2]; exact List.take_left' (by rw [List.length_append, vals_len, x.g.hH]; rfl)
  have h2 : (rc x).drop (43 + 32) = [] := List.drop_eq_nil_of_le (by rw [rc_len]; omega)
  rw [h1, h2, List.append_nil]
  unfold rc lc
  simp only [List.append_assoc]
  rfl
theorem tag_sizeA (T : List Int) (h : T.length = 32) : (Try.prog.info? 42).map (·.size) = some (vals T).toArray.size := by rw [List.size_toArray]; exact tag_size T h
theorem tag_oneA (T : List Int) : (vals T).toArray.all (·.oneCell') = true := all_oneCell_toArray (vals_one T)
section
variable {R : World → Int × List Int → Prop} {w0 w w' : World} {r b m k : Nat} {s s' : Int × List Int} {cs : List Value} {T : Value} {zt : List Int}
theorem PS.sets : ∀ (vs : List Value) (o : Nat) (w : World) (cs : List Value), PS R w0 w r b m k s cs T zt → o + vs.length ≤ k → PS R w0 (w.setCells r o vs) r b m k s (putL cs o vs) T zt
  | [], _, _, _, h, _ => h
  | v :: q, o, w, cs, h, hk => by
    simp only [List.length_cons] at hk
    rw [World.setCells, putL]
    exact PS.sets q (o + 1) _ _ (h.set (by omega) v) (by omega)
theorem PS.grow (h : PS R w0 w r b m k s cs (.slice none 0 0) []) {q : Option Nat} (hg : w.grownBy w' q) (hq : ∀ j, q = some j → m ≤ j) : PS R w0 w' r b m k s cs (.slice none 0 0) [] := by
  have hm := h.ms
  have hr := h.rm
  refine ⟨h.keep w w' s q h.rd hg (fun j hj => .inr (hq j hj)), h.box.same (hg.block r (by omega) (fun e => by have := hq r (by first | exact e | exact e.symm); omega)), h.below.trans (below_of_grown hg h.below.size (fun j hj => by have := hq j hj; have := h.lo; omega)), h.lo, h.rb, h.rm, h.bm, Nat.le_trans hm hg.size, h.bl, h.keep, isList_nil _ _⟩
end
/-- The same, and a list of texts in memory of its own. -/
structure PK (R : World → Int × List Int → Prop) (w0 w : World) (r b m : Nat) (s : Int × List Int) (cs : List Value) (A : Option Addr) (n c : Nat) (l : List ByteArray) : Prop where
  ps : PS R w0 w r b m 75 s cs (.slice none 0 0) []
  ow : w.ownsRow m 9 1 (.slice A n c) n (svs l)
section
variable {R : World → Int × List Int → Prop} {w0 w w' : World} {r b m n c : Nat} {s s' : Int × List Int} {cs : List Value} {A : Option Addr} {l : List ByteArray}
theorem PK.rd (h : PK R w0 w r b m s cs A n c l) : R w s := h.ps.rd
theorem PK.read (h : PK R w0 w r b m s cs A n c l) (hr : R w' s') (hg : w.grownBy w' (some b)) : PK R w0 w' r b m s' cs A n c l :=
  ⟨h.ps.read hr hg, own_keepB h.ow (fun g h1 h2 => hg.block g h2 (fun e => by injection e with e; have := h.ps.bm; omega))⟩
theorem PK.drew1 (h : PK R w0 w r b m s cs A n c l) : PK R w0 w.drew r b m s cs A n c l := ⟨h.ps.drew 1, own_keepB h.ow (fun g h1 h2 => rfl)⟩
theorem PK.set (h : PK R w0 w r b m s cs A n c l) {i : Nat} (hi : i < 75) (v : Value) : PK R w0 (w.setCell ⟨r, i, none⟩ v) r b m s (cs.set i v) A n c l :=
  ⟨h.ps.set hi v, own_keepB h.ow (fun g h1 h2 => heap_setCell _ _ _ _ _ (by have := h.ps.rm; omega))⟩
theorem PK.cell (h : PK R w0 w r b m s cs A n c l) (i : Nat) {v : Value} (hv : cs[i]? = some v) : w.cell? ⟨r, i, none⟩ = some v ∧ w.frozen? ⟨r, i, none⟩ = false := h.ps.cell i hv
theorem PK.there (h : PK R w0 w r b m s cs A n c l) (o : Nat) {us : List Int} (hu : us.length = 32) (ho : o + 32 ≤ 75) : w.there r o (vals us).toArray.size := by
  rw [show (vals us).toArray.size = 32 by rw [List.size_toArray, vals_len, hu]]
  intro j hj
  have := h.ps.box.there (o + j) (by omega)
  rwa [Nat.zero_add] at this
theorem PK.stored (h : PK R w0 w r b m s cs A n c l) {o : Nat} {us : List Int} (hu : us.length = 32) (ho : o + 32 ≤ 75) (e : Hid (w' = w.setCells r o (vals us).toArray.toList)) : PK R w0 w' r b m s (putL cs o (vals us)) A n c l := by
  rw [e.out]
  exact ⟨h.ps.sets _ o w cs (by rw [vals_len, hu]; exact ho), own_keepB h.ow (fun g h1 h2 => heap_setCells _ _ (by have := h.ps.rm; omega) _ _ _)⟩
theorem sr_new (w : World) (z : ByteArray) : Sr (w.alloc (.cells #[.string z] 9)) (w.heap.size + 1) (some ⟨w.heap.size, 0, none⟩) 1 [z] :=
  ⟨rfl, fun _ => ⟨w.heap.size, 0, rfl, by omega, fun j y hy => by
    have hj : j < 1 := (List.getElem?_eq_some_iff.1 hy).1
    obtain rfl : j = 0 := by omega
    rw [cell_of_row _ _ _ _ _ _ (heap_alloc_new w _)]
    have : z = y := by simpa using hy
    rw [this]; rfl⟩⟩
end
/-- What ParseReply tells: a reply, an error; its keys stand in new memory. -/
def ReadsR (w : World) (z : RepZ) (er : Int) (e : Ending) (w' : World) : Prop := ∃ x : RX, e = .returned (.tuple #[.agg (rc x).toArray, .int .i64 er]) ∧ x.z = z ∧ ROk w' w'.heap.size x ∧ w'.ownsRow w.heap.size 9 1 (.slice x.A x.kn x.kc) x.kn (svs x.ks) ∧ Below w.heap.size w w'
theorem build_r0 (W : World) : (Instr.build 46 #[]).run Try.prog W = .ok (.agg (rc r0).toArray) W := run_build W 46 _ _ (by kernel_rfl)
theorem exec_r0 {P : Program} {a : Act} {op : Oper} {w : World} (hP : P = Try.prog) (ho : op.op = .build 46 #[]) : (execOp a.eval op).run P w = .ok (.value (.agg (rc r0).toArray)) w := by
  subst hP
  have hb := build_r0 w
  unfold execOp
  simp only [ho]
  simp [hb]
theorem readsR_zero {w w' : World} (er : Int) (hb : Below w.heap.size w w') : ReadsR w rz0 er (.returned (.tuple #[.agg (rc r0).toArray, .int .i64 er])) w' := ⟨r0, rfl, rfl, r0_ok _ _, World.ownsRow_nil _ _ _ _, hb⟩
def RdSt (R : World → Int × List Int → Prop) (W1 : World) (r b m cnt : Nat) (s3 : Int × List Int) (er : Int) (v : ByteArray) (i : Value) (wr : World) : Prop := ∃ (k : Nat) (A : Option Addr) (c : Nat), k ≤ cnt ∧ i = .int .i64 k ∧ Hid (PK R W1 wr r b m (rTexts k s3).2 (rc ⟨er, v, A, k, c, (rTexts k s3).1, 0, l0⟩) A k c (rTexts k s3).1)
theorem rc_sl (e : Int) (v : ByteArray) (A A' : Option Addr) (k k' c c' : Nat) (l l' : List ByteArray) (n : Int) (g : LinkZ) : (rc ⟨e, v, A, k, c, l, n, g⟩).set 2 (.slice A' k' c') = rc ⟨e, v, A', k', c', l', n, g⟩ := rfl
end Go.Proofs.Ytcgclaailhhbpaa
