/- What is read beside variables and rows that grow. -/
import Derived.Test.YtfihiandifnkpaaMsJ
import Derived.Test.YtfihiandifnkpaaB5
namespace Go.Proofs.Ytfihiandifnkpaa
open Go.ChangeShapes Go.WideShapes Go.ChangeAt Go.RowKit
set_option linter.unusedVariables false
set_option maxRecDepth 100000
set_option linter.unusedSimpArgs false
open Plain Sha Ms
/-- A reader at block b that stands whatever is made from block m on. -/
structure RdK (R : World → St → Prop) (b m : Nat) : Prop where
  lt : b < m
  keep : ∀ (v v' : World) (s : St) (q : Option Nat), R v s → v.grownBy v' q → (∀ j, q = some j → m ≤ j) → R v' s
theorem RdK.more {R : World → St → Prop} {b m m' : Nat} (h : RdK R b m) (hm : m ≤ m') : RdK R b m' := ⟨by have := h.lt; omega, fun v v' s q hr hg hq => h.keep v v' s q hr hg (fun j hj => Nat.le_trans hm (hq j hj))⟩
theorem rdk_P {b m : Nat} {B : Span} (h : b < m) : RdK (RdP b B) b m := ⟨h, fun v v' s q hr hg hq => Rd.grown hr hg (fun j hj => by have := hq j hj; exact ⟨by omega, .inl (by omega)⟩)⟩
theorem rdk_D {b m B : Nat} (h : b < m) (hB : B ≤ b) : RdK (RdD b B) b m := ⟨h, fun v v' s q hr hg hq => Rr.grown hr hg (fun j hj => by have := hq j hj; exact ⟨by omega, by omega⟩)⟩
theorem grown_new {a b c : World} {r q : Option Nat} (h : a.grownBy b r) (k : b.grownBy c q) (hq : ∀ j, q = some j → a.heap.size ≤ j) : a.grownBy c r :=
  ⟨k.os.trans h.os, k.tape.trans h.tape, k.output.trans h.output, Nat.le_trans h.size k.size, fun i hi hr => (k.block i (Nat.lt_of_lt_of_le hi h.size) (fun e => by have := hq i (by first | exact e | exact e.symm); omega)).trans (h.block i hi hr)⟩
/-- A row of one's own stands as long as its block does. -/
theorem own_keepO {w w' : World} {base n size : Nat} {t : TypeId} {v : Value} {xs : List Value} (h : w.ownsRow base t size v n xs) (hk : ∀ g, v.ownBlock = some g → w'.heap[g]? = w.heap[g]?) : w'.ownsRow base t size v n xs := by
  obtain ⟨h1, h2 | ⟨g, cap, cur, rfl, hg, hh, h3⟩⟩ := h
  · exact ⟨h1, .inl h2⟩
  · exact ⟨h1, .inr ⟨g, cap, cur, rfl, hg, (hk g rfl).trans hh, h3⟩⟩
/-- Rows of things of two types stand in two blocks. -/
theorem own_apart {w : World} {b1 b2 n1 n2 s1 s2 : Nat} {t1 t2 : TypeId} {v1 v2 : Value} {x1 x2 : List Value} (h1 : w.ownsRow b1 t1 s1 v1 n1 x1) (h2 : w.ownsRow b2 t2 s2 v2 n2 x2) (ht : t1 ≠ t2) {g : Nat} (e1 : v1.ownBlock = some g) : v2.ownBlock ≠ some g := by
  intro e2
  obtain ⟨_, k1 | ⟨g1, c1, cur1, rfl, _, hh1, _⟩⟩ := h1
  · obtain ⟨rfl, _⟩ := k1; simp [Value.ownBlock] at e1
  · obtain ⟨_, k2 | ⟨g2, c2, cur2, rfl, _, hh2, _⟩⟩ := h2
    · obtain ⟨rfl, _⟩ := k2; simp [Value.ownBlock] at e2
    · simp only [Value.ownBlock, Option.some.injEq] at e1 e2
      subst e1 e2
      rw [hh1] at hh2
      injection hh2 with hh2
      injection hh2 with _ hh2
      exact ht hh2
/-- The bodies of entries are rows of one's own, from block m on. -/
def Bodies (w : World) (m : Nat) (l : List EX) : Prop := ∀ x, x ∈ l → w.ownsRow m 5 1 (.slice x.A x.n x.c) x.n (vals x.body)
theorem Bodies.keep {w w' : World} {m : Nat} {l : List EX} (h : Bodies w m l) (hk : ∀ g, m ≤ g → g < w.heap.size → w'.heap[g]? = w.heap[g]?) : Bodies w' m l := fun x hx => own_keepB (h x hx) hk
/-- A reader, a variable, a variable for the answer, a row that grows. -/
structure QS (R : World → St → Prop) (b : Nat) (w0 w : World) (r kr r2 k2 : Nat) (s : St) (cs cs2 : List Value) (m : Nat) (T : TypeId) (sz : Nat) (v : Value) (n : Nat) (vs : List Value) (l : List EX) : Prop where
  rd : R w s
  gb : w0.grownBy w (some b)
  keep : RdK R b w0.heap.size
  box : VBox w r kr cs
  box2 : VBox w r2 k2 cs2
  lo : w0.heap.size ≤ r
  lo2 : w0.heap.size ≤ r2
  ne : r ≠ r2
  rm : r < m
  rm2 : r2 < m
  ms : m ≤ w.heap.size
  ow : w.ownsRow m T sz v n vs
  bo : Bodies w m l
  ty : T ≠ 5
section
variable {R : World → St → Prop} {b : Nat} {w0 w w' : World} {r kr r2 k2 : Nat} {s s' : St} {cs cs2 : List Value} {m : Nat} {T : TypeId} {sz : Nat} {v v' : Value} {n n' : Nat} {vs vs' : List Value} {l : List EX}
theorem QS.read (h : QS R b w0 w r kr r2 k2 s cs cs2 m T sz v n vs l) (hr : R w' s') (hg : w.grownBy w' (some b)) : QS R b w0 w' r kr r2 k2 s' cs cs2 m T sz v n vs l := by
  have hb := h.keep.lt
  have h1 := h.lo
  have h2 := h.lo2
  have h3 := h.ms
  have h4 := h.rm
  have h5 := h.rm2
  have ht : ∀ g, m ≤ g → g < w.heap.size → w'.heap[g]? = w.heap[g]? := fun g hm hs => hg.block g hs (fun e => by injection e with e; omega)
  exact ⟨hr, grown_trans h.gb hg, h.keep, h.box.same (hg.block r (by omega) (fun e => by injection e with e; omega)), h.box2.same (hg.block r2 (by omega) (fun e => by injection e with e; omega)), h1, h2, h.ne, h4, h5, Nat.le_trans h3 hg.size, own_keepB h.ow ht, h.bo.keep ht, h.ty⟩
/-- New memory. -/
theorem QS.grow (h : QS R b w0 w r kr r2 k2 s cs cs2 m T sz v n vs l) (hg : w.grownBy w' none) : QS R b w0 w' r kr r2 k2 s cs cs2 m T sz v n vs l := by
  have h3 := h.ms
  have h4 := h.rm
  have h5 := h.rm2
  have ht : ∀ g, m ≤ g → g < w.heap.size → w'.heap[g]? = w.heap[g]? := fun g hm hs => hg.block g hs (by simp)
  exact ⟨h.keep.keep w w' s none h.rd hg (fun j hj => by cases hj), grown_new h.gb hg (fun j hj => by cases hj), h.keep, h.box.same (hg.block r (by omega) (by simp)), h.box2.same (hg.block r2 (by omega) (by simp)), h.lo, h.lo2, h.ne, h4, h5, Nat.le_trans h3 hg.size, own_keepB h.ow ht, h.bo.keep ht, h.ty⟩
theorem QS.drew1 (h : QS R b w0 w r kr r2 k2 s cs cs2 m T sz v n vs l) : QS R b w0 w.drew r kr r2 k2 s cs cs2 m T sz v n vs l := h.grow (grown_drewN w 1 none)
/-- The row grew. -/
theorem QS.app (h : QS R b w0 w r kr r2 k2 s cs cs2 m T sz v n vs l) (ho : w'.ownsRow m T sz v' n' vs') (hg : w.grownBy w' v.ownBlock) : QS R b w0 w' r kr r2 k2 s cs cs2 m T sz v' n' vs' l := by
  have h3 := h.ms
  have h4 := h.rm
  have h5 := h.rm2
  have h1 := h.lo
  have hq : ∀ j, v.ownBlock = some j → m ≤ j := fun j hj => (h.ow.lt j hj).1
  refine ⟨h.keep.keep w w' s _ h.rd hg (fun j hj => by have := hq j hj; omega), grown_new h.gb hg (fun j hj => by have := hq j hj; omega), h.keep, h.box.same (hg.block r (by omega) (fun e => by have := hq r e.symm; omega)), h.box2.same (hg.block r2 (by omega) (fun e => by have := hq r2 e.symm; omega)), h1, h.lo2, h.ne, h4, h5, Nat.le_trans h3 hg.size, ho, fun x hx => own_keepO (h.bo x hx) (fun g hgx => hg.block g ((h.bo x hx).lt g hgx).2 (fun e => own_apart (h.bo x hx) h.ow (fun e => h.ty e.symm) hgx e.symm)), h.ty⟩
/-- A cell of the variable turns. -/
theorem QS.set (h : QS R b w0 w r kr r2 k2 s cs cs2 m T sz v n vs l) {i : Nat} (hi : i < kr) (u : Value) : QS R b w0 (w.setCell ⟨r, i, none⟩ u) r kr r2 k2 s (cs.set i u) cs2 m T sz v n vs l := by
  have h4 := h.rm
  have ht : ∀ g, m ≤ g → g < w.heap.size → (w.setCell ⟨r, i, none⟩ u).heap[g]? = w.heap[g]? := fun g hm hs => Below.heap_setCell _ _ _ _ (by show g ≠ r; omega)
  exact ⟨h.keep.keep w _ s (some r) h.rd (grown_cell w ⟨r, i, none⟩ u) (fun j hj => by injection hj with hj; have := h.lo; omega), grown_new h.gb (grown_cell w ⟨r, i, none⟩ u) (fun j hj => by injection hj with hj; have := h.lo; have : r = j := hj; omega), h.keep, h.box.set1 hi u, h.box2.same (Below.heap_setCell _ _ _ _ (by show r2 ≠ r; exact fun e => h.ne e.symm)), h.lo, h.lo2, h.ne, h4, h.rm2, by simpa [World.setCell] using h.ms, own_keepB h.ow ht, h.bo.keep ht, h.ty⟩
theorem QS.cell (h : QS R b w0 w r kr r2 k2 s cs cs2 m T sz v n vs l) (i : Nat) {u : Value} (hv : cs[i]? = some u) : w.cell? ⟨r, i, none⟩ = some u ∧ w.frozen? ⟨r, i, none⟩ = false := by
  have hi : i < kr := by rw [← h.box.len]; exact (List.getElem?_eq_some_iff.1 hv).1
  exact ⟨h.box.at1 hv, h.box.fr1 hi⟩
/-- One more body. -/
theorem QS.body (h : QS R b w0 w r kr r2 k2 s cs cs2 m T sz v n vs l) {x : EX} (hx : w.ownsRow m 5 1 (.slice x.A x.n x.c) x.n (vals x.body)) : QS R b w0 w r kr r2 k2 s cs cs2 m T sz v n vs (l ++ [x]) :=
  ⟨h.rd, h.gb, h.keep, h.box, h.box2, h.lo, h.lo2, h.ne, h.rm, h.rm2, h.ms, h.ow, fun y hy => by
    rcases List.mem_append.1 hy with hy | hy
    · exact h.bo y hy
    · rw [List.mem_singleton.1 hy]; exact hx, h.ty⟩
end
theorem rws_new {α : Type} {f : α → List Value} (w : World) (x : α) (t : TypeId) : Rws f (w.alloc (.cells (f x).toArray t)) (w.heap.size + 1) (some ⟨w.heap.size, 0, none⟩) 1 [x] :=
  ⟨rfl, fun _ => ⟨w.heap.size, 0, rfl, by omega, fun j u hu => by
    rw [List.flatMap_cons, List.flatMap_nil, List.append_nil] at hu
    rw [cell_of_row _ _ _ _ _ _ (heap_alloc_new w _), Nat.zero_add, List.getElem?_toArray, hu]⟩⟩
theorem own_shapeM {w : World} {base n size : Nat} {t : TypeId} {v : Value} {xs : List Value} (h : w.ownsRow base t size v n xs) : ∃ A c, v = .slice A n c ∧ n ≤ c ∧ c ≤ maxLen := by
  rcases h.2 with ⟨rfl, rfl⟩ | ⟨g, cap, cur, rfl, _, _, h1, h2, _⟩
  · exact ⟨none, 0, rfl, Nat.le_refl _, by simp [maxLen]⟩
  · exact ⟨_, _, rfl, h1, h2⟩
/-- An entry that was read: its body in new memory. -/
def ReadsE (R : World → St → Prop) (b : Nat) (w : World) (z : EntZ) (s' : St) (e : Ending) (w' : World) : Prop := ∃ x : EX, e = .returned (.agg (ec x).toArray) ∧ x.z = z ∧ R w' s' ∧ w.grownBy w' (some b) ∧ w'.ownsRow w.heap.size 5 1 (.slice x.A x.n x.c) x.n (vals x.body) ∧ EOk w' w'.heap.size x ∧ x.n ≤ 65536
/-- A configuration that was read. -/
def ReadsC (R : World → St → Prop) (b : Nat) (w : World) (ep : Int) (ms : List MemZ) (s' : St) (e : Ending) (w' : World) : Prop := ∃ (A : Option Addr) (c : Nat), e = .returned (.agg (gc ep A ms.length c).toArray) ∧ R w' s' ∧ w.grownBy w' (some b) ∧ w'.ownsRow w.heap.size 91 3 (.slice A ms.length c) ms.length (ms.flatMap bc) ∧ (∀ x, x ∈ ms → MemOk x) ∧ InM ep ∧ ms.length ≤ c ∧ c ≤ maxLen
/-- A message's rows stand in new memory. -/
structure NewM (w' : World) (base : Nat) (x : MX) : Prop where
  body : w'.ownsRow base 5 1 (.slice x.A x.n x.c) x.n (vals x.body)
  es : w'.ownsRow base 42 5 (.slice x.EA x.en x.ecp) x.en (x.es.flatMap ec)
  bo : Bodies w' base x.es
  ms : w'.ownsRow base 91 3 (.slice x.MA x.mn x.mcp) x.mn (x.ms.flatMap bc)
/-- A message that was read. -/
def ReadsM (R : World → St → Prop) (b : Nat) (w : World) (P : MsgZ → Prop) (s' : St) (e : Ending) (w' : World) : Prop := ∃ x : MX, e = .returned (.agg (mc x).toArray) ∧ P x.z ∧ R w' s' ∧ w.grownBy w' (some b) ∧ NewM w' w.heap.size x ∧ MXOk w' w'.heap.size x
/-- Ranges of what is read. -/
theorem rest_rm {pos : Int} {s : St} (h : StM s) (hp : InM pos) : EntOk (restR pos s).1 ∧ StM (restR pos s).2 := by
  obtain ⟨a1, s1, e1⟩ : ∃ a s', rInt s = (a, s') := ⟨_, _, rfl⟩
  obtain ⟨a2, s2, e2⟩ : ∃ a s', rInt s1 = (a, s') := ⟨_, _, rfl⟩
  obtain ⟨a3, s3, e3⟩ : ∃ a s', rInt s2 = (a, s') := ⟨_, _, rfl⟩
  obtain ⟨a4, s4, e4⟩ : ∃ a s', rBytes s3 = (a, s') := ⟨_, _, rfl⟩
  obtain ⟨g1, t1⟩ := int_rm h e1
  obtain ⟨g2, t2⟩ := int_rm t1 e2
  obtain ⟨g3, t3⟩ := int_rm t2 e3
  obtain ⟨g4, t4⟩ := bytes_rm t3 e4
  have : restR pos s = (⟨pos, a1, a2, a3, a4⟩, s4) := by
    unfold restR
    simp only [e1, e2, e3, e4]
  rw [this]
  exact ⟨⟨hp, g1, g2, g3, g4.1, g4.2⟩, t4⟩
theorem mem_rm {s : St} (h : StM s) : MemOk (memR s).1 ∧ StM (memR s).2 := by
  obtain ⟨a1, s1, e1⟩ : ∃ a s', rInt s = (a, s') := ⟨_, _, rfl⟩
  obtain ⟨a2, s2, e2⟩ : ∃ a s', rInt s1 = (a, s') := ⟨_, _, rfl⟩
  obtain ⟨a3, s3, e3⟩ : ∃ a s', rFlag s2 = (a, s') := ⟨_, _, rfl⟩
  obtain ⟨g1, t1⟩ := int_rm h e1
  obtain ⟨g2, t2⟩ := int_rm t1 e2
  have t3 := flag_rm t2 e3
  have : memR s = (⟨a1, a2, a3⟩, s3) := by
    unfold memR
    simp only [e1, e2, e3]
  rw [this]
  exact ⟨⟨g1, g2⟩, t3⟩
theorem wrap_in (n : Int) : InM (wrap64 n) := by unfold InM wrap64; omega
theorem ents_rm {frm : Int} : ∀ (k : Nat) {s : St}, StM s → (∀ x, x ∈ (entsR frm k s).1 → EntOk x) ∧ (entsR frm k s).1.length = k ∧ StM (entsR frm k s).2
  | 0, s, h => ⟨fun x hx => by simp [entsR] at hx, rfl, h⟩
  | k + 1, s, h => by
    obtain ⟨h1, h2, h3⟩ := ents_rm (frm := frm) k h
    obtain ⟨h4, h5⟩ := rest_rm h3 (wrap_in (frm + k))
    refine ⟨fun x hx => ?_, by simp [entsR, h2], h5⟩
    rcases List.mem_append.1 hx with hx | hx
    · exact h1 x hx
    · rw [List.mem_singleton.1 hx]; exact h4
theorem mems_rm : ∀ (k : Nat) {s : St}, StM s → (∀ x, x ∈ (memsR k s).1 → MemOk x) ∧ (memsR k s).1.length = k ∧ StM (memsR k s).2
  | 0, s, h => ⟨fun x hx => by simp [memsR] at hx, rfl, h⟩
  | k + 1, s, h => by
    obtain ⟨h1, h2, h3⟩ := mems_rm k h
    obtain ⟨h4, h5⟩ := mem_rm h3
    refine ⟨fun x hx => ?_, by simp [memsR, h2], h5⟩
    rcases List.mem_append.1 hx with hx | hx
    · exact h1 x hx
    · rw [List.mem_singleton.1 hx]; exact h4
end Go.Proofs.Ytfihiandifnkpaa
