/- Variables of many cells; readers beside a variable; writers: what stage 20 takes of elder texts. Printed by gen_msa.py. -/
import Derived.Test.YtfihiandifnkpaaMsM
import Derived.Test.YtfihiandifnkpaaB3
import Derived.Test.YtfihiandifnkpaaB4
import Derived.Test.YtfihiandifnkpaaB2
import Derived.Test.YtfihiandifnkpaaB5
namespace Go.Proofs.Ytfihiandifnkpaa
open Go.ChangeShapes Go.WideShapes Go.ChangeAt Go.RowKit
set_option linter.unusedVariables false
set_option maxRecDepth 100000
set_option linter.unusedSimpArgs false
open Plain Sha Ms
/-- A variable of the call's own: its block holds those cells from its head on, and may be stored into. -/
structure VBox (w : World) (b : Nat) (k : Nat) (cs : List Value) : Prop where
  range : w.rangeAt b 0 cs
  there : w.there b 0 k
  len : cs.length = k
  pos : 0 < k
section
variable {w w' : World} {B b k : Nat} {cs : List Value}
theorem VBox.same (h : VBox w b k cs) (e : w'.heap[b]? = w.heap[b]?) : VBox w' b k cs := ⟨rangeAt_same h.range e, there_same h.there e, h.len, h.pos⟩
theorem VBox.lt (h : VBox w b k cs) : b < w.heap.size := by
  have hp := h.pos
  have hl := h.len
  have := h.range 0 cs[0] (List.getElem?_eq_getElem (by omega))
  exact World.block_lt_of_cell? _ _ this
theorem VBox.below (h : VBox w b k cs) (hb : Below B w w') (hB : b < B) : VBox w' b k cs := h.same (hb.block b hB)
theorem VBox.grow (h : VBox w b k cs) (hb : Below w.heap.size w w') : VBox w' b k cs := h.below hb h.lt
theorem VBox.store {us : List Value} (h : VBox w b k cs) (hu : us.length = k) (e : Hid (w' = w.setCells b 0 us)) : VBox w' b k us :=
  ⟨by rw [e.out]; exact World.rangeAt_setCells_same _ _ _ _ (by rw [hu]; exact h.there), by rw [e.out]; exact World.there_setCells h.there _ _ _, hu, h.pos⟩
end
theorem vbox_new (w : World) (cs : List Value) (y : TypeId) (g k : Nat) (hg : w.heap.size = g) (hk : cs.length = k) (h0 : 0 < k) : VBox (w.alloc (.cells cs.toArray y)) g k cs := by
  subst hg
  have e := heap_alloc_new w (.cells cs.toArray y)
  refine ⟨fun j v hv => ?_, fun j hj => ⟨?_, frozen_of_row _ _ _ _ _ e⟩, hk, h0⟩
  · rw [cell_of_row _ _ _ _ _ _ e, Nat.zero_add, List.getElem?_toArray, hv]
  · rw [cell_of_row _ _ _ _ _ _ e, Nat.zero_add, List.getElem?_toArray, List.getElem?_eq_getElem (by rw [hk]; exact hj)]; rfl
theorem below_one (w : World) (o : Obj) : Below w.heap.size w (w.alloc o) := (Below.refl _ _).alloc (Nat.le_refl _) _
/-- One cell of a variable of one's own turns; some, one behind the other. -/
theorem VBox.set1 {w : World} {b k : Nat} {cs : List Value} (h : VBox w b k cs) {i : Nat} (hi : i < k) (v : Value) : VBox (w.setCell ⟨b, i, none⟩ v) b k (cs.set i v) := by
  have e : w.setCell ⟨b, i, none⟩ v = w.setCells b i [v] := rfl
  refine ⟨fun j u hu => ?_, by rw [e]; exact World.there_setCells h.there _ _ _, by rw [List.length_set, h.len], h.pos⟩
  rw [List.getElem?_set] at hu
  rw [e]
  by_cases hj : i = j
  · subst hj
    rw [if_pos rfl, if_pos (by rw [h.len]; exact hi)] at hu
    injection hu with hu
    subst hu
    rw [Nat.zero_add]
    exact World.rangeAt_setCells_same w b i [v] (there_sub h.there (Nat.zero_le _) (by simp; omega)) 0 _ rfl
  · rw [if_neg hj] at hu
    rw [World.cell?_setCells_out b [v] i w ⟨b, 0 + j, none⟩ (fun _ _ => by
      show 0 + j < i ∨ i + 1 ≤ 0 + j
      omega)]
    exact h.range j u hu
theorem VBox.at1 {w : World} {b k i : Nat} {cs : List Value} {v : Value} (h : VBox w b k cs) (hv : cs[i]? = some v) : w.cell? ⟨b, i, none⟩ = some v := by have := h.range i v hv; rwa [Nat.zero_add] at this
theorem VBox.fr1 {w : World} {b k i : Nat} {cs : List Value} (h : VBox w b k cs) (hi : i < k) : w.frozen? ⟨b, i, none⟩ = false := by have := (h.there i hi).2; rwa [Nat.zero_add] at this
theorem VBox.thereI {w : World} {b k i n : Nat} {cs : List Value} (h : VBox w b k cs) (hi : i + n ≤ k) : w.there b i n := fun m hm => by
  have := h.there (i + m) (by omega)
  rwa [Nat.zero_add] at this
theorem vthere {w : World} {b : Nat} {cs : List Value} {k : Nat} (h : VBox w b k cs) {us : List Value} (hu : us.length = k) : w.there b 0 us.toArray.size := by rw [List.size_toArray, hu]; exact h.there
theorem vstored {B : Nat} {a w w' : World} {b k : Nat} {cs us : List Value} (h : VBox w b k cs) (hu : us.length = k) (hw : Hid (w' = w.setCells b 0 us.toArray.toList)) (hb : B ≤ b) (h0 : Below B a w) : VBox w' b k us ∧ Below B a w' :=
  ⟨h.store hu hw, by rw [hw.out]; exact below_setCells hb _ _ _ h0⟩
theorem results_mid_tmp2 {P : Program} {fn : Func} {p u v : Tmp} {ty : TypeId} (h : fn.results = #[.cell p ty, .tmp u, .tmp v]) (tmps : Array Value) (w : World) (b o : Nat) (cs : List Value) (d : TypeDesc)
    (hp : tmps.getD p undef = .pointer (some ⟨b, o, none⟩)) (hc : w.rangeAt b o cs) (hu : P.underlying ty = some d) (hd : d.isRow = true) (hi : (P.info? ty).map (·.size) = some cs.length) :
    (results fn tmps).run P w = .ok (.tuple #[.agg cs.toArray, tmps.getD u undef, tmps.getD v undef]) w := by
  have hp' : tmps[p]?.getD undef = .pointer (some ⟨b, o, none⟩) := by simpa using hp
  simp [results, h, hp', asAddr, run_loadVar_mid w b o ty cs d hc hu hd hi]
theorem own_keepB {w w' : World} {base n size : Nat} {t : TypeId} {v : Value} {xs : List Value} (h : w.ownsRow base t size v n xs) (hk : ∀ g, base ≤ g → g < w.heap.size → w'.heap[g]? = w.heap[g]?) : w'.ownsRow base t size v n xs := by
  have hlt := h.lt
  obtain ⟨h1, h2 | ⟨g, cap, cur, rfl, hg, hh, h3⟩⟩ := h
  · exact ⟨h1, .inl h2⟩
  · have := hlt g rfl
    exact ⟨h1, .inr ⟨g, cap, cur, rfl, hg, (hk g this.1 this.2).trans hh, h3⟩⟩
/-- A guarded load of a long array, whose guard holds. -/
theorem wpList_load_guardL {P : Program} {ops : Array Oper} {rest : List Oper} {op : Oper} {a : Act} {w : World} {Q : Exit → Act → World → Prop} (hw : Region.wanted op (yielded ops a.tmps) = true) (ty : TypeId) (x : Operand) (ho : op.op = .load ty x)
    (b o : Nat) (hx : a.eval x = .pointer (some ⟨b, o, none⟩)) (cs : List Value) (d : TypeDesc) (hc : w.rangeAt b o cs)
    (hu : P.underlying ty = some d) (hd : d.isRow = true) (hi : (P.info? ty).map (·.size) = some cs.length)
    (h : wpList P ops Q rest (a.put op.dst (.agg cs.toArray)) w) : wpList P ops Q (op :: rest) a w := by
  simp only [wpList, hw, if_true]
  exact .inl (wp_load_mid ty x ho b o hx cs d hc hu hd hi h)
/-- An operation whose run is known. -/
theorem wpList_exec {P : Program} {ops : Array Oper} {rest : List Oper} {op : Oper} {a : Act} {w : World} {Q : Exit → Act → World → Prop} (hgd : op.guard = none) (v : Value)
    (hrun : (execOp a.eval op).run P w = .ok (.value v) w) (h : wpList P ops Q rest (a.put op.dst v) w) : wpList P ops Q (op :: rest) a w :=
  wpList_plain hgd fun K hK => by
    unfold Oper.wp
    simp only [hrun]
    exact hK _ _ h
/-- A reader R at block b whose bytes stand in the blocks of B; a variable at block r, that holds k cells; a list of bytes. -/
structure PS (R : World → Int × List Int → Prop) (w0 w : World) (r b m k : Nat) (s : Int × List Int) (cs : List Value) (T : Value) (zt : List Int) : Prop where
  rd : R w s
  box : VBox w r k cs
  below : Below w0.heap.size w0 w
  lo : w0.heap.size ≤ r
  rb : r ≠ b
  rm : r < m
  bm : b < m
  ms : m ≤ w.heap.size
  bl : w0.heap.size ≤ b
  keep : ∀ (v v' : World) (s : Int × List Int) (q : Option Nat), R v s → v.grownBy v' q → (∀ j, q = some j → j = r ∨ m ≤ j) → R v' s
  tok : IsList T w m zt
theorem IsList.keep {w w' : World} {T : Value} {base : Nat} {zs : List Int} (h : IsList T w base zs) (hk : ∀ g, base ≤ g → g < w.heap.size → w'.heap[g]? = w.heap[g]?) : IsList T w' base zs := by
  obtain ⟨A, c, e, ho, h1, h2⟩ := h
  exact ⟨A, c, e, own_keepB ho hk, h1, h2⟩
theorem IsList.base {w : World} {T : Value} {base base' : Nat} {zs : List Int} (h : IsList T w base zs) (hb : base' ≤ base) : IsList T w base' zs := by
  obtain ⟨A, c, e, ho, h1, h2⟩ := h
  exact ⟨A, c, e, own_base ho hb, h1, h2⟩
section
variable {R : World → Int × List Int → Prop} {w0 w w' : World} {r b m k : Nat} {s s' : Int × List Int} {cs : List Value} {T : Value} {zt : List Int}
/-- The reader has gone on. -/
theorem PS.read (h : PS R w0 w r b m k s cs T zt) (hr : R w' s') (hg : w.grownBy w' (some b)) : PS R w0 w' r b m k s' cs T zt := by
  have hb := h.bm
  have hm := h.ms
  have hr' := h.rm
  refine ⟨hr, h.box.same (hg.block r (by omega) (fun e => by injection e with e; exact h.rb e)), h.below.trans (below_of_grown hg h.below.size (fun j hj => by injection hj with hj; have := h.bl; omega)), h.lo, h.rb, h.rm, h.bm, Nat.le_trans hm hg.size, h.bl, h.keep, h.tok.keep (fun g h1 h2 => hg.block g h2 (fun e => by injection e with e; omega))⟩
/-- The list that it has read. -/
theorem PS.list (h : PS R w0 w r b m k s cs T zt) {T' : Value} {zt' : List Int} (ht : IsList T' w m zt') : PS R w0 w r b m k s cs T' zt' := ⟨h.rd, h.box, h.below, h.lo, h.rb, h.rm, h.bm, h.ms, h.bl, h.keep, ht⟩
theorem PS.set (h : PS R w0 w r b m k s cs T zt) {i : Nat} (hi : i < k) (v : Value) : PS R w0 (w.setCell ⟨r, i, none⟩ v) r b m k s (cs.set i v) T zt := by
  refine ⟨h.keep w _ s (some r) h.rd (grown_cell w ⟨r, i, none⟩ v) (fun j hj => by injection hj with hj; exact .inl hj.symm), h.box.set1 hi v, h.below.setCell (p := ⟨r, i, none⟩) h.lo v, h.lo, h.rb, h.rm, h.bm, by simpa [World.setCell] using h.ms, h.bl, h.keep, h.tok.keep (fun g h1 h2 => Below.heap_setCell _ _ _ _ (by show g ≠ r; have := h.rm; omega))⟩
/-- What the walk is told of a cell. -/
theorem PS.cell (h : PS R w0 w r b m k s cs T zt) (i : Nat) {v : Value} (hv : cs[i]? = some v) : w.cell? ⟨r, i, none⟩ = some v ∧ w.frozen? ⟨r, i, none⟩ = false := by
  have h1 := h.box.range i v hv
  have hi : i < k := by rw [← h.box.len]; exact (List.getElem?_eq_some_iff.1 hv).1
  have h2 := (h.box.there i hi).2
  rw [Nat.zero_add] at h1 h2
  exact ⟨h1, h2⟩
theorem PS.drew (h : PS R w0 w r b m k s cs T zt) (n : Nat) : PS R w0 (w.drewN n) r b m k s cs T zt :=
  ⟨h.keep w _ s none h.rd (grown_drewN w n none) (fun j hj => by cases hj), h.box.same rfl, below_drewN h.below n, h.lo, h.rb, h.rm, h.bm, h.ms, h.bl, h.keep, h.tok.keep (fun g h1 h2 => rfl)⟩
end
/-- The program's reader, the document's. -/
def RdP (b : Nat) (B : Span) (w : World) (s : Int × List Int) : Prop := Rd w b B s.1 s.2
def RdD (b B : Nat) (w : World) (s : Int × List Int) : Prop := Rr w b B s
theorem rdP_keep {r b m : Nat} {B : Span} (hlo : r < B.lo) (hb : B.lo ≤ b) (hm : b < m) (v v' : World) (s : Int × List Int) (q : Option Nat) (h : RdP b B v s) (hg : v.grownBy v' q) (hq : ∀ j, q = some j → j = r ∨ m ≤ j) : RdP b B v' s :=
  Rd.grown h hg (fun j hj => by
    rcases hq j hj with e | e
    · exact ⟨by omega, .inr (.inl (by omega))⟩
    · exact ⟨by omega, .inl (by omega)⟩)
theorem rdD_keep {r b m B : Nat} (hlo : B ≤ r) (hb : r ≠ b) (hB : B ≤ b) (hm : b < m) (v v' : World) (s : Int × List Int) (q : Option Nat) (h : RdD b B v s) (hg : v.grownBy v' q) (hq : ∀ j, q = some j → j = r ∨ m ≤ j) : RdD b B v' s :=
  Rr.grown h hg (fun j hj => by
    rcases hq j hj with e | e
    · exact ⟨by omega, by omega⟩
    · exact ⟨by omega, by omega⟩)
section
variable {w : World} {b : Nat} {B : Span} {s s' : Int × List Int}
theorem byte_st (h : RdP b B w s) {a : Int} (e : rByte s = (a, s')) : Calls Try.prog 56 #[.pointer (some ⟨b, 0, none⟩)] w (fun e w' => e = .returned (.int .u8 a) ∧ RdP b B w' s' ∧ w.grownBy w' (some b)) := by
  obtain ⟨y, zs⟩ := s
  have := byte_rd h
  rw [e] at this
  exact this
theorem int_st (h : RdP b B w s) {a : Int} (e : rInt s = (a, s')) : Calls Try.prog 68 #[.pointer (some ⟨b, 0, none⟩)] w (fun e w' => e = .returned (.int .i64 a) ∧ RdP b B w' s' ∧ w.grownBy w' (some b)) := by
  obtain ⟨y, zs⟩ := s
  have := int_rd h
  rw [e] at this
  exact this
theorem bytes_st (h : RdP b B w s) {a : List Int} (e : rBytes s = (a, s')) : Calls Try.prog 83 #[.pointer (some ⟨b, 0, none⟩)] w (fun e w' => ∃ T, e = .returned T ∧ RdP b B w' s' ∧ w.grownBy w' (some b) ∧ IsList T w' w.heap.size a) := by
  obtain ⟨y, zs⟩ := s
  have := bytes_rd h
  rw [e] at this
  exact this.mono fun e w' ⟨T, ⟨h1, h2, h3⟩, h4⟩ => ⟨T, h1, h2, h3, h4⟩
theorem count_st (most : Int) (h : RdP b B w s) {a : Int} (e : rCount most s = (a, s')) : Calls Try.prog 70 #[.pointer (some ⟨b, 0, none⟩), .int .i64 most] w (fun e w' => e = .returned (.int .i64 a) ∧ RdP b B w' s' ∧ w.grownBy w' (some b)) := by
  obtain ⟨y, zs⟩ := s
  have := count_rd most h
  rw [e] at this
  exact this
theorem end_st (h : RdP b B w s) (z : Int) (e : endZ s.1 s.2 = z) : Calls Try.prog 36 #[.pointer (some ⟨b, 0, none⟩)] w (Says (.int .i64 z) w) := by
  have := end_rd h
  rw [e] at this
  exact this
theorem flag_st (h : RdP b B w s) {a : Bool} (e : rFlag s = (a, s')) : Calls Try.prog 71 #[.pointer (some ⟨b, 0, none⟩)] w (fun e w' => e = .returned (.bool a) ∧ RdP b B w' s' ∧ w.grownBy w' (some b)) := by
  obtain ⟨y, zs⟩ := s
  have := flag_rd h
  rw [e] at this
  exact this
end
section
variable {w : World} {b : Nat} {B : Nat} {s s' : Int × List Int}
theorem byte_sd (h : RdD b B w s) {a : Int} (e : rByte s = (a, s')) : Calls Try.prog 49 #[.pointer (some ⟨b, 0, none⟩)] w (fun e w' => e = .returned (.int .u8 a) ∧ RdD b B w' s' ∧ w.grownBy w' (some b)) := by
  obtain ⟨y, zs⟩ := s
  have := byte_rr h
  rw [e] at this
  exact this
theorem int_sd (h : RdD b B w s) {a : Int} (e : rInt s = (a, s')) : Calls Try.prog 50 #[.pointer (some ⟨b, 0, none⟩)] w (fun e w' => e = .returned (.int .i64 a) ∧ RdD b B w' s' ∧ w.grownBy w' (some b)) := by
  obtain ⟨y, zs⟩ := s
  have := int_rr h
  rw [e] at this
  exact this
theorem bytes_sd (h : RdD b B w s) {a : List Int} (e : rBytes s = (a, s')) : Calls Try.prog 51 #[.pointer (some ⟨b, 0, none⟩)] w (fun e w' => ∃ T, e = .returned T ∧ RdD b B w' s' ∧ w.grownBy w' (some b) ∧ IsList T w' w.heap.size a) := by
  obtain ⟨y, zs⟩ := s
  have := bytes_rr h
  rw [e] at this
  exact this.mono fun e w' ⟨T, ⟨h1, h2, h3⟩, h4⟩ => ⟨T, h1, h2, h3, h4⟩
theorem count_sd (most : Int) (h : RdD b B w s) {a : Int} (e : rCount most s = (a, s')) : Calls Try.prog 52 #[.pointer (some ⟨b, 0, none⟩), .int .i64 most] w (fun e w' => e = .returned (.int .i64 a) ∧ RdD b B w' s' ∧ w.grownBy w' (some b)) := by
  obtain ⟨y, zs⟩ := s
  have := count_rr h most
  rw [e] at this
  exact this
theorem end_sd (h : RdD b B w s) (z : Int) (e : endZ s.1 s.2 = z) : Calls Try.prog 55 #[.pointer (some ⟨b, 0, none⟩)] w (Quiet (.int .i64 z) w) := by
  obtain ⟨y, zs⟩ := s
  have := end_rr h
  rw [e] at this
  exact this
theorem flag_sd (h : RdD b B w s) {a : Bool} (e : rFlag s = (a, s')) : Calls Try.prog 78 #[.pointer (some ⟨b, 0, none⟩)] w (fun e w' => e = .returned (.bool a) ∧ RdD b B w' s' ∧ w.grownBy w' (some b)) := by
  obtain ⟨y, zs⟩ := s
  have := flag_rr h
  rw [e] at this
  exact this
end
theorem size_setCellsQ (b : Nat) : ∀ (vs : List Value) (o : Nat) (w : World), (w.setCells b o vs).heap.size = w.heap.size
  | [], _, _ => rfl
  | v :: r, o, w => by rw [World.setCells, size_setCellsQ b r]; simp [World.setCell]
theorem newwriter_at (w : World) (g : Nat) (hg : w.heap.size = g) : Calls Try.prog 21 #[] w (fun e w' => e = .returned (.pointer (some ⟨g, 0, none⟩)) ∧ Wr w' g none (some []) ∧ Below g w w' ∧ g < w'.heap.size) := by
  subst hg
  exact newwriter_any w
section
variable {w w' : World} {b n : Nat} {g : Option Nat} {st : Option (List Int)}
theorem Wr.below (r : Wr w b g st) (o : Wrote w w' b g) (hn : n ≤ b) : Below n w w' :=
  ⟨o.os, o.tape, o.output, o.size, fun k hk => o.block k (by have := r.lt; omega) (by omega) (fun e => by have := (r.own k e.symm).1; omega)⟩
theorem Wr.drew (r : Wr w b g st) : Wr w.drew b g st := r.keep rfl (fun _ _ => rfl)
theorem Wr.apart (r : Wr w b g st) {B m : Nat} {A : Option Addr} {zs : List Int} (hz : Bs w' B A m zs) (hB : B ≤ b) : Apart b g A m := fun hm a ha => by
  obtain ⟨k, off, e, hk, _⟩ := hz.row hm
  rw [e] at ha; injection ha with ha; subst ha
  exact ⟨by show k ≠ b; omega, fun e => by have := (r.own k e.symm).1; omega⟩
end
theorem endZ_zero {a : Int} {r : List Int} (h : endZ a r = 0) : a = 0 ∧ r = [] := by
  unfold endZ at h
  by_cases h0 : a = 0
  · rw [if_neg (by simpa using h0)] at h
    by_cases hr : r.length = 0
    · exact ⟨h0, List.eq_nil_of_length_eq_zero hr⟩
    · rw [if_neg hr] at h; exact absurd h (by decide)
  · rw [if_pos h0] at h; exact absurd h h0
theorem isBytes_take {zs : List Int} (h : IsBytes zs) (k : Nat) : IsBytes (zs.take k) := by
  rw [isBytes_iff] at *
  exact fun z hz => h z (List.mem_of_mem_take hz)
section
variable {w : World} {B b : Nat}
theorem VBox.m {x : MX} (h : VBox w b 12 (mc x)) : w.cell? ⟨b, 0, none⟩ = some (.int .u8 x.kind) ∧ w.cell? ⟨b, 1, none⟩ = some (.int .i64 x.client) ∧ w.cell? ⟨b, 2, none⟩ = some (.int .i64 x.id) ∧ w.cell? ⟨b, 3, none⟩ = some (.slice x.A x.n x.c) ∧ w.cell? ⟨b, 4, none⟩ = some (.int .i64 x.upto) ∧ w.cell? ⟨b, 5, none⟩ = some (.int .i64 x.frm) ∧ w.cell? ⟨b, 6, none⟩ = some (.slice x.EA x.en x.ecp) ∧ w.cell? ⟨b, 7, none⟩ = some (.int .i64 x.hav) ∧ w.cell? ⟨b, 8, none⟩ = some (.int .i64 x.don) ∧ w.cell? ⟨b, 9, none⟩ = some (.int .i64 x.ep) ∧ w.cell? ⟨b, 10, none⟩ = some (.slice x.MA x.mn x.mcp) ∧ w.cell? ⟨b, 11, none⟩ = some (.int .i64 x.since) := by
  have := rng_m h.range
  simpa only [Nat.zero_add] using this
theorem VBox.e {x : EX} (h : VBox w b 5 (ec x)) : w.cell? ⟨b, 0, none⟩ = some (.int .i64 x.pos) ∧ w.cell? ⟨b, 1, none⟩ = some (.int .i64 x.stamp) ∧ w.cell? ⟨b, 2, none⟩ = some (.int .i64 x.client) ∧ w.cell? ⟨b, 3, none⟩ = some (.int .i64 x.id) ∧ w.cell? ⟨b, 4, none⟩ = some (.slice x.A x.n x.c) := by
  have := rng_e h.range
  simpa only [Nat.zero_add] using this
theorem VBox.mb {x : MemZ} (h : VBox w b 3 (bc x)) : w.cell? ⟨b, 0, none⟩ = some (.int .i64 x.node) ∧ w.cell? ⟨b, 1, none⟩ = some (.int .i64 x.since) ∧ w.cell? ⟨b, 2, none⟩ = some (.bool x.whole) := by
  have := rng_b h.range
  simpa only [Nat.zero_add] using this
theorem VBox.g {ep : Int} {A : Option Addr} {n c : Nat} (h : VBox w b 2 (gc ep A n c)) : w.cell? ⟨b, 0, none⟩ = some (.int .i64 ep) ∧ w.cell? ⟨b, 1, none⟩ = some (.slice A n c) := ⟨by have := h.range 0 _ rfl; simpa only [Nat.zero_add] using this, by have := h.range 1 _ rfl; simpa only [Nat.zero_add] using this⟩
end
end Go.Proofs.Ytfihiandifnkpaa
