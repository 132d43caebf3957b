/- Texts of the proof, one behind the other: Rd Wr Take Reads Reads2 Writes. -/
import Derived.Test.YtlknjaoamkcmjaaDoorB1
import Derived.Test.YtlknjaoamkcmjaaDoorB2
import Derived.Laws.BytesArg
import Derived.Test.YtlknjaoamkcmjaaDoorB4
/- A reader as it lies in memory; why it is bad, what is left. -/
namespace Go.Proofs.YtlknjaoamkcmjaaDoor
open Go.ChangeShapes Go.WideShapes Go.ChangeAt Go.RowKit
set_option linter.unusedVariables false
open Plain
theorem grown_refl (w : World) (r : Option Nat) : w.grownBy w r := ⟨rfl, rfl, rfl, Nat.le_refl _, fun _ _ _ => rfl⟩
theorem grown_trans {a b c : World} {r : Option Nat} (h : a.grownBy b r) (k : b.grownBy c r) : a.grownBy c r :=
  ⟨k.os.trans h.os, k.tape.trans h.tape, k.output.trans h.output, Nat.le_trans h.size k.size, fun i hi hr => (k.block i (Nat.lt_of_lt_of_le hi h.size) hr).trans (h.block i hi hr)⟩
theorem grown_more {a b : World} {r : Option Nat} (h : a.grownBy b none) : a.grownBy b r := ⟨h.os, h.tape, h.output, h.size, fun i hi _ => h.block i hi (by simp)⟩
theorem grown_cell (w : World) (p : Addr) (v : Value) : w.grownBy (w.setCell p v) (some p.block) :=
  ⟨rfl, rfl, rfl, by simp [World.setCell], fun k _ hr => Below.heap_setCell _ _ _ _ (fun e => hr (by rw [e]))⟩
theorem grown_alloc (w : World) (o : Obj) (r : Option Nat) : w.grownBy (w.alloc o) r := ⟨rfl, rfl, rfl, by simp, fun k hk _ => Below.heap_alloc _ _ _ hk⟩
theorem grown_drewN_wire (w : World) (n : Nat) (r : Option Nat) : w.grownBy (w.drewN n) r := ⟨rfl, rfl, rfl, Nat.le_refl _, fun _ _ _ => rfl⟩
theorem grown_of_below {w w' : World} (h : Below w.heap.size w w') (r : Option Nat) : w.grownBy w' r := ⟨h.os, h.tape, h.output, h.size, fun k hk _ => h.block k hk⟩
theorem below_of_grown {w w' : World} {B : Nat} {r : Option Nat} (h : w.grownBy w' r) (hB : B ≤ w.heap.size) (hr : ∀ k, r = some k → B ≤ k) : Below B w w' :=
  ⟨h.os, h.tape, h.output, h.size, fun k hk => h.block k (by omega) (fun e => by have := hr k e.symm; omega)⟩
/-- Blocks from lo on, below hi. -/
structure Span where
  lo : Nat
  hi : Nat
/-- Block b holds a reader: why it is bad (0: it isn't); what is left of it stands in the blocks of B, below b. -/
structure Rd (w : World) (b : Nat) (B : Span) (why : Int) (zs : List Int) : Prop where
  made : w.cell? ⟨b, 0, none⟩ = some (.bool true)
  errno : w.cell? ⟨b, 1, none⟩ = some (.int .i64 why)
  rest : ∃ A n c, w.cell? ⟨b, 2, none⟩ = some (.slice A n c) ∧ Bs w B.hi A n zs ∧ n ≤ c ∧ c ≤ maxLen ∧ n ≤ 65536
  low : ∀ A n c, w.cell? ⟨b, 2, none⟩ = some (.slice A n c) → 0 < n → ∀ a, A = some a → B.lo ≤ a.block
  f1 : w.frozen? ⟨b, 1, none⟩ = false
  f2 : w.frozen? ⟨b, 2, none⟩ = false
  le : B.hi ≤ b
  bad : why ≠ 0 → zs = []
section
variable {w w' : World} {b : Nat} {B : Span} {why : Int} {zs : List Int}
theorem Rd.lt (h : Rd w b B why zs) : b < w.heap.size := World.block_lt_of_cell? _ _ h.made
theorem Rd.small (h : Rd w b B why zs) : zs.length ≤ 65536 := by
  obtain ⟨A, n, c, _, h2, _, _, h5⟩ := h.rest
  rw [h2.len]; exact h5
theorem Rd.isBytes (h : Rd w b B why zs) : IsBytes zs := by
  obtain ⟨A, n, c, _, h2, _, _, h5⟩ := h.rest
  exact h2.isBytes
theorem Rd.keep (h : Rd w b B why zs) (hb : w'.heap[b]? = w.heap[b]?) (hB : ∀ k, B.lo ≤ k → k < B.hi → w'.heap[k]? = w.heap[k]?) : Rd w' b B why zs := by
  obtain ⟨A, n, c, h1, h2, h3⟩ := h.rest
  refine ⟨(World.cell?_of_block (a := ⟨b, 0, none⟩) hb).trans h.made, (World.cell?_of_block (a := ⟨b, 1, none⟩) hb).trans h.errno,
    ⟨A, n, c, (World.cell?_of_block (a := ⟨b, 2, none⟩) hb).trans h1, ⟨h2.len, h2.rng, fun hn => ?_⟩, h3⟩,
    fun A n c hc => h.low A n c ((World.cell?_of_block (a := ⟨b, 2, none⟩) hb).symm.trans hc),
    (World.frozen?_of_block (a := ⟨b, 1, none⟩) hb).trans h.f1, (World.frozen?_of_block (a := ⟨b, 2, none⟩) hb).trans h.f2, h.le, h.bad⟩
  obtain ⟨k, off, rfl, hk, hc⟩ := h2.row hn
  have hl := h.low _ _ _ h1 hn _ rfl
  exact ⟨k, off, rfl, hk, fun j hj => (World.cell?_of_block (a := ⟨k, off + j, none⟩) (hB k hl hk)).trans (hc j hj)⟩
theorem Rd.grown {r : Option Nat} (h : Rd w b B why zs) (hg : w.grownBy w' r) (hr : ∀ k, r = some k → k ≠ b ∧ (b < k ∨ k < B.lo ∨ B.hi ≤ k)) : Rd w' b B why zs :=
  h.keep (hg.block b h.lt (fun e => (hr b e.symm).1 rfl)) (fun k hl hk => hg.block k (by have := h.lt; have := h.le; omega) (fun e => by have := (hr k e.symm).2; have := h.le; omega))
theorem Rd.below {B' : Nat} (h : Rd w b B why zs) (hb : Below B' w w') (hB : b < B') : Rd w' b B why zs :=
  h.keep (hb.block b hB) (fun k _ hk => hb.block k (by have := h.le; omega))
theorem Rd.drewN (h : Rd w b B why zs) (n : Nat) : Rd (w.drewN n) b B why zs := h.keep rfl (fun _ _ _ => rfl)
/-- It is bad from now on. -/
theorem Rd.spoilt (h : Rd w b B why zs) (x : Int) (hx : x ≠ 0) : Rd ((w.setCell ⟨b, 1, none⟩ (.int .i64 x)).setCell ⟨b, 2, none⟩ (.slice none 0 0)) b B x [] := by
  obtain ⟨A, n, c, h1, h2, h3⟩ := h.rest
  have e1 : (w.setCell ⟨b, 1, none⟩ (.int .i64 x)).cell? ⟨b, 2, none⟩ = some (.slice A n c) := by rw [World.cell?_setCell_other _ _ _ _ (by simp)]; exact h1
  refine ⟨?_, ?_, ⟨none, 0, 0, World.cell?_setCell_same _ _ _ e1, Bs.nil, Nat.le_refl _, by simp [maxLen], by omega⟩, fun A1 n1 c1 hc hn a ha => ?_, ?_, ?_, h.le, fun _ => rfl⟩
  · rw [World.cell?_setCell_other _ _ _ _ (by simp), World.cell?_setCell_other _ _ _ _ (by simp)]; exact h.made
  · rw [World.cell?_setCell_other _ _ _ _ (by simp)]; exact World.cell?_setCell_same _ _ _ h.errno
  · rw [World.cell?_setCell_same _ _ _ e1] at hc
    injection hc with hc
    injection hc with q1 q2 q3
    omega
  · rw [World.frozen?_setCell, World.frozen?_setCell]; exact h.f1
  · rw [World.frozen?_setCell, World.frozen?_setCell]; exact h.f2
/-- Its first bytes are taken. -/
theorem Rd.taken (h : Rd w b B 0 zs) {A A' : Option Addr} {n c k c' : Nat} (h1 : w.cell? ⟨b, 2, none⟩ = some (.slice A n c)) (hk : k ≤ n) (hA : CutAt A A' k (n - k)) (hc : n - k ≤ c') (hc2 : c' ≤ maxLen) :
    Rd (w.setCell ⟨b, 2, none⟩ (.slice A' (n - k) c')) b B 0 (zs.drop k) ∧ Bs (w.setCell ⟨b, 2, none⟩ (.slice A' (n - k) c')) B.hi A k (zs.take k) := by
  obtain ⟨A0, n0, c0, g1, g2, g3, g4, g5⟩ := h.rest
  rw [h1] at g1
  injection g1 with g1
  injection g1 with e1 e2 e3
  subst e1 e2 e3
  have hB := h.le
  refine ⟨⟨?_, ?_, ⟨A', n - k, c', World.cell?_setCell_same _ _ _ h1, ?_, hc, hc2, by omega⟩, fun A1 n1 c1 hc' hn a ha => ?_, ?_, ?_, h.le, fun e => absurd rfl e⟩, ?_⟩
  · rw [World.cell?_setCell_other _ _ _ _ (by simp)]; exact h.made
  · rw [World.cell?_setCell_other _ _ _ _ (by simp)]; exact h.errno
  · have := (g2.cut (k := k) (m := n - k) (by omega) A' hA).setCell (p := ⟨b, 2, none⟩) hB (.slice A' (n - k) c')
    rwa [List.take_of_length_le (by rw [List.length_drop, g2.len]; omega)] at this
  · rw [World.cell?_setCell_same _ _ _ h1] at hc'
    injection hc' with hc'
    injection hc' with q1 q2 q3
    obtain ⟨k0, off, e0, _⟩ := g2.row (by omega)
    have e9 := hA k0 off e0 (by omega)
    have := h.low _ _ _ h1 (by omega) _ e0
    rw [← q1, e9] at ha
    injection ha with ha
    rw [← ha]; exact this
  · rw [World.frozen?_setCell]; exact h.f1
  · rw [World.frozen?_setCell]; exact h.f2
  · have := (g2.cut (k := 0) (m := k) (by omega) A (fun b off e _ => by rw [e]; simp)).setCell (p := ⟨b, 2, none⟩) hB (.slice A' (n - k) c')
    rwa [List.drop_zero] at this
end
/-- A call that tells a value and leaves the world as it is. -/
def Says (v : Value) (w : World) (e : Ending) (w' : World) : Prop := e = .returned v ∧ w = w'
set_option maxRecDepth 100000 in
theorem err_any {w : World} {b : Nat} {B : Span} {why : Int} {zs : List Int} (h : Rd w b B why zs) : Calls Tryd.prog 68 #[.pointer (some ⟨b, 0, none⟩)] w (Says (.int .i64 why) w) := by
  have h0 := h.made
  have h1 := h.errno
  clear h
  go_enter Tryd.func68, Tryd.ntmps68
  go_wp2
  go_ret
  exact ⟨rfl, rfl⟩
set_option maxRecDepth 100000 in
theorem left_any {w : World} {b : Nat} {B : Span} {why : Int} {zs : List Int} (h : Rd w b B why zs) : Calls Tryd.prog 69 #[.pointer (some ⟨b, 0, none⟩)] w (Says (.int .i64 (zs.length : Nat)) w) := by
  obtain ⟨A, n, c, h1, h2, _⟩ := h.rest
  rw [h2.len]
  clear h h2
  go_enter Tryd.func69, Tryd.ntmps69
  go_wp2
  go_ret
  exact ⟨rfl, rfl⟩
/-- What End tells. -/
def endZ (why : Int) (zs : List Int) : Int := if why ≠ 0 then why else if zs.length = 0 then 0 else 40
set_option maxRecDepth 100000 in
theorem end_rd {w : World} {b : Nat} {B : Span} {why : Int} {zs : List Int} (h : Rd w b B why zs) : Calls Tryd.prog 44 #[.pointer (some ⟨b, 0, none⟩)] w (Says (.int .i64 (endZ why zs)) w) := by
  have HE := Lib.hid (err_any h)
  have HL := Lib.hid (left_any h)
  obtain ⟨n, hn⟩ : ∃ n, zs.length = n := ⟨_, rfl⟩
  by_cases hw : why = 0
  · have HZ : Hid (endZ why zs = if n = 0 then 0 else 40) := Lib.hid (by unfold endZ; rw [if_neg (by simpa using hw), hn])
    rw [hn] at HL
    clear h hn
    rw [hw] at HE
    by_cases h0 : n = 0
    · have HZ2 : Hid (endZ why zs = 0) := Lib.hid (by rw [HZ.out, if_pos h0])
      clear HZ
      go_enter Tryd.func44, Tryd.ntmps44
      go_wp2_with (first | (go_at_call 68; refine HE.out.mono ?_; rintro e w' ⟨rfl, rfl⟩) | (go_at_call 69; refine HL.out.mono ?_; rintro e w' ⟨rfl, rfl⟩))
      go_ret
      exact ⟨by rw [HZ2.out]; rfl, rfl⟩
    · have HZ2 : Hid (endZ why zs = 40) := Lib.hid (by rw [HZ.out, if_neg h0])
      have hp : 0 < (n : Int) := by omega
      clear HZ
      go_enter Tryd.func44, Tryd.ntmps44
      go_wp2_with (first | (go_at_call 68; refine HE.out.mono ?_; rintro e w' ⟨rfl, rfl⟩) | (go_at_call 69; refine HL.out.mono ?_; rintro e w' ⟨rfl, rfl⟩))
      go_ret
      exact ⟨by rw [HZ2.out]; rfl, rfl⟩
  · have HZ : Hid (endZ why zs = why) := Lib.hid (by unfold endZ; rw [if_pos hw])
    clear h HL hn
    have hw2 : (why == 0) = false := by simpa using hw
    go_enter Tryd.func44, Tryd.ntmps44
    go_wp2_with (first | (go_at_call 68; refine HE.out.mono ?_; rintro e w' ⟨rfl, rfl⟩))
    go_ret
    exact ⟨by rw [HZ.out]; rfl, rfl⟩
end Go.Proofs.YtlknjaoamkcmjaaDoor
/- A writer as it lies in memory; what puts bytes behind. -/
namespace Go.Proofs.YtlknjaoamkcmjaaDoor
open Go.ChangeShapes Go.WideShapes Go.ChangeAt Go.RowKit
set_option linter.unusedVariables false
open Plain
/-- Where a row stands that was appended to: where it stood, or in a new block. -/
theorem append_where {P : Program} (w : World) (base : Nat) (t ty e : TypeId) (i : TypeInfo) (z : Value) (size bytes : Nat) (ht : P.underlying t = some (.slice e)) (hi : P.info? e = some i) (hz : i.zero = some z)
    (hsize : i.size = size) (hby : i.bytes = bytes) (hzs : z.cells.size = size) (hsz : 0 < size)
    (v : Value) (n : Nat) (xs : List Value) (hown : w.ownsRow base e size v n xs)
    (a : Addr) (m c : Nat) (news : List Value) (hl : news.length = m * size) (hnews : ∀ j u, news[j]? = some u → w.cell? (a.add j) = some u) (h1 : ∀ u ∈ news, u.oneCell' = true)
    (h63 : n + m ≤ maxLen) (hbytes : (n + m) * bytes ≤ 140737488355328) (hbase : base ≤ w.heap.size) {v' : Value} {w' : World}
    (hr : (Builtin.append_ #[t, t] ty #[v, .slice (some a) m c]).run P w = .ok v' w') : v'.ownBlock = v.ownBlock ∨ ∀ k, v'.ownBlock = some k → w.heap.size ≤ k := by
  have h63' : n + m ≤ 9223372036854775807 := by simp only [maxLen] at h63; omega
  rcases hown.2 with ⟨rfl, rfl⟩ | ⟨g, cap, cur, rfl, hbg, hg, hnc, hcm, hcs, htake⟩
  · right
    have hx : xs = [] := List.eq_nil_of_length_eq_zero (by simpa using hown.1)
    subst hx
    obtain ⟨v2, w2, hr2, ho2, _⟩ := run_append_own (P := P) w w.heap.size t ty e i z size bytes ht hi hz hsize hby hzs hsz (.slice none 0 0) 0 [] (World.ownsRow_nil _ _ _ _) a m c news hl hnews h1 h63 hbytes (Nat.le_refl _)
    rw [hr] at hr2
    injection hr2 with e1 e2
    subst e1 e2
    exact fun k hk => (ho2.lt k hk).1
  · by_cases hroom : n + m ≤ cap
    · left
      have hfit : n * i.size + news.length ≤ cur.size := by rw [hl, hcs, hsize, ← Nat.add_mul]; exact Nat.mul_le_mul_right _ hroom
      have hr2 := run_append_room (P := P) w t ty e i ht hi g n cap cur hg a m c news (by rw [hl, hsize]) hnews h1 hroom hfit
      rw [hr] at hr2
      injection hr2 with e1 e2
      rw [e1]; rfl
    · right
      have holds : ∀ j u, xs[j]? = some u → w.cell? ((⟨g, 0, none⟩ : Addr).add j) = some u := hown.cells (g := g) rfl
      have hr2 := run_append_grow (P := P) w t ty e i z ht hi hz ⟨g, 0, none⟩ n cap xs (by rw [hown.1, hsize]) holds a m c news (by rw [hl, hsize]) hnews (by omega) (by omega) (growslice_fits (by omega) (by rw [hby]; exact hbytes))
      rw [hr] at hr2
      injection hr2 with e1 e2
      rw [e1]
      intro k hk
      simp only [Value.ownBlock, Option.some.injEq] at hk
      omega
/-- The law for the walk: as wpList_app, and where the row stands. -/
theorem wpList_appW {P : Program} (w : World) {ops : Array Oper} {rest : List Oper} {o : Oper} {a : Act} {Q : Exit → Act → World → Prop} (hgd : o.guard = none) (s x : Operand) (t : TypeId)
    (ho : o.op = .call { callee := .builtin .append, args := #[s, x], argTypes := #[t, t] })
    (base : Nat) (e : TypeId) (size bytes : Nat) (ht : P.underlying t = some (.slice e)) (hinfo : ∃ i z, P.info? e = some i ∧ i.zero = some z ∧ i.size = size ∧ i.bytes = bytes ∧ z.cells.size = size) (hsz : 0 < size)
    (v : Value) (n : Nat) (xs : List Value) (hs : a.eval s = v) (hown : w.ownsRow base e size v n xs)
    (A : Option Addr) (m c : Nat) (news : List Value) (hx : a.eval x = .slice A m c) (hr : Lies w size A m news) (hso : Sourced A m) (h1 : ∀ u ∈ news, u.oneCell' = true)
    (h63 : n + m ≤ maxLen) (hbytes : (n + m) * bytes ≤ 140737488355328) (hbase : base ≤ w.heap.size)
    (h : ∀ v' w', w'.ownsRow base e size v' (n + m) (xs ++ news) → w.grownBy w' v.ownBlock → (v'.ownBlock = v.ownBlock ∨ ∀ k, v'.ownBlock = some k → w.heap.size ≤ k) → wpList P ops Q rest (a.put o.dst v') w') : wpList P ops Q (o :: rest) a w := by
  obtain ⟨i, z, hi, hz, hsize, hby, hzs⟩ := hinfo
  cases A with
  | none =>
    have hm : m = 0 := hso rfl
    subst hm
    have hn : news = [] := List.eq_nil_of_length_eq_zero (by simpa using hr.1)
    subst hn
    refine wpList_plain hgd fun K hK => ?_
    have hrun := run_append_nothing (P := P) w base t o.type e i size ht hi v n xs hown c
    unfold Oper.wp
    simp only [execOp, ho, resolve, invoke, builtin, Sem.run_bind, Sem.run_pure, Result.andThen_ok, List.map_toArray, List.map_cons, List.map_nil, hs, hx, hrun]
    exact hK _ _ (h v w (by simpa using hown) (World.grownBy.refl w _) (.inl rfl))
  | some ad =>
    obtain ⟨v', w', hrun, h2, h3, h4⟩ := run_append_own (P := P) w base t o.type e i z size bytes ht hi hz hsize hby hzs hsz v n xs hown ad m c news hr.1 (hr.2 ad rfl) h1 h63 hbytes hbase
    have h5 := append_where (P := P) w base t o.type e i z size bytes ht hi hz hsize hby hzs hsz v n xs hown ad m c news hr.1 (hr.2 ad rfl) h1 h63 hbytes hbase hrun
    refine wpList_plain hgd fun K hK => ?_
    unfold Oper.wp
    simp only [execOp, ho, resolve, invoke, builtin, Sem.run_bind, Sem.run_pure, Result.andThen_ok, List.map_toArray, List.map_cons, List.map_nil, hs, hx, hrun]
    exact hK _ _ (h v' w' h2 h3 h5)
/-- Block b holds a writer: its form so far, or none if it is too long; block g has the form's bytes. -/
structure Wr (w : World) (b : Nat) (g : Option Nat) (st : Option (List Int)) : Prop where
  made : w.cell? ⟨b, 0, none⟩ = some (.bool true)
  long : w.cell? ⟨b, 1, none⟩ = some (.bool st.isNone)
  form : ∃ A n c, w.cell? ⟨b, 2, none⟩ = some (.slice A n c) ∧ w.ownsRow (b + 1) 5 1 (.slice A n c) n (vals (st.getD [])) ∧ (Value.slice A n c).ownBlock = g ∧ (st.getD []).length = n ∧ n ≤ 65536
  bytes : IsBytes (st.getD [])
  f1 : w.frozen? ⟨b, 1, none⟩ = false
  f2 : w.frozen? ⟨b, 2, none⟩ = false
/-- But for a writer's blocks all stands as it stood. -/
structure Wrote (w w' : World) (b : Nat) (g : Option Nat) : Prop where
  os : w'.os = w.os
  tape : w'.tape = w.tape
  output : w'.output = w.output
  size : w.heap.size ≤ w'.heap.size
  block : ∀ k, k < w.heap.size → k ≠ b → some k ≠ g → w'.heap[k]? = w.heap[k]?
theorem Wrote.refl (w : World) (b : Nat) (g : Option Nat) : Wrote w w b g := ⟨rfl, rfl, rfl, Nat.le_refl _, fun _ _ _ _ => rfl⟩
/-- A block of a writer's form, or a new one. -/
def Fresh (w : World) (g g' : Option Nat) : Prop := g' = g ∨ ∀ k, g' = some k → w.heap.size ≤ k
theorem Wrote.trans {w w1 w2 : World} {b : Nat} {g g1 : Option Nat} (h : Wrote w w1 b g) (k : Wrote w1 w2 b g1) (hf : Fresh w g g1) : Wrote w w2 b g :=
  ⟨k.os.trans h.os, k.tape.trans h.tape, k.output.trans h.output, Nat.le_trans h.size k.size, fun i hi h1 h2 => (k.block i (Nat.lt_of_lt_of_le hi h.size) h1 (fun e => by
    rcases hf with hf | hf
    · exact h2 (e.trans hf)
    · have := hf i e.symm; omega)).trans (h.block i hi h1 h2)⟩
theorem Fresh.trans {w w1 : World} {g g1 g2 : Option Nat} (h : Fresh w g g1) (k : Fresh w1 g1 g2) (hs : w.heap.size ≤ w1.heap.size) : Fresh w g g2 := by
  rcases k with rfl | k
  · exact h
  · exact .inr (fun i hi => Nat.le_trans hs (k i hi))
theorem Wrote.of_grown {w w' : World} {b : Nat} {g r : Option Nat} (h : w.grownBy w' r) (hr : r = none ∨ r = some b ∨ r = g) : Wrote w w' b g :=
  ⟨h.os, h.tape, h.output, h.size, fun k hk h1 h2 => h.block k hk (fun e => by
    rcases hr with rfl | rfl | rfl
    · cases e
    · injection e with e; exact h1 e
    · exact h2 e)⟩
section
variable {w w' : World} {b : Nat} {g : Option Nat} {st : Option (List Int)}
theorem Wr.lt (h : Wr w b g st) : b < w.heap.size := World.block_lt_of_cell? _ _ h.made
theorem Wr.own (h : Wr w b g st) : ∀ k, g = some k → b < k ∧ k < w.heap.size := by
  obtain ⟨A, n, c, _, ho, hg, _⟩ := h.form
  intro k hk
  have := ho.lt k (hg.trans hk)
  omega
theorem Wr.keep (h : Wr w b g st) (hb : w'.heap[b]? = w.heap[b]?) (hg : ∀ k, g = some k → w'.heap[k]? = w.heap[k]?) : Wr w' b g st := by
  obtain ⟨A, n, c, h1, h2, h3, h4⟩ := h.form
  refine ⟨(World.cell?_of_block (a := ⟨b, 0, none⟩) hb).trans h.made, (World.cell?_of_block (a := ⟨b, 1, none⟩) hb).trans h.long,
    ⟨A, n, c, (World.cell?_of_block (a := ⟨b, 2, none⟩) hb).trans h1, ?_, h3, h4⟩, h.bytes,
    (World.frozen?_of_block (a := ⟨b, 1, none⟩) hb).trans h.f1, (World.frozen?_of_block (a := ⟨b, 2, none⟩) hb).trans h.f2⟩
  obtain ⟨o1, o2⟩ := h2
  refine ⟨o1, ?_⟩
  rcases o2 with o2 | ⟨k, cap, cur, hv, hk, hh, r⟩
  · exact .inl o2
  · refine .inr ⟨k, cap, cur, hv, hk, ?_, r⟩
    rw [hg k (by rw [← h3, hv]; rfl)]
    exact hh
theorem Wr.grown {r : Option Nat} (h : Wr w b g st) (hg : w.grownBy w' r) (h1 : r ≠ some b) (h2 : ∀ k, g = some k → r ≠ some k) : Wr w' b g st :=
  h.keep (hg.block b h.lt (fun e => h1 e.symm)) (fun k hk => hg.block k (h.own k hk).2 (fun e => h2 k hk e.symm))
end
def wPut (st : Option (List Int)) (zs : List Int) : Option (List Int) := match st with
  | some fs => if fs.length + zs.length ≤ 65536 then some (fs ++ zs) else none
  | none => none
theorem wPut_yes (fs zs : List Int) (h : fs.length + zs.length ≤ 65536) : wPut (some fs) zs = some (fs ++ zs) := by simp [wPut, h]
theorem wPut_no (fs zs : List Int) (h : 65536 < fs.length + zs.length) : wPut (some fs) zs = none := by unfold wPut; exact if_neg (by omega)
/-- It is too long from now on. -/
theorem Wr.tooLong {w : World} {b : Nat} {g : Option Nat} {st : Option (List Int)} (h : Wr w b g st) : Wr ((w.setCell ⟨b, 1, none⟩ (.bool true)).setCell ⟨b, 2, none⟩ (.slice none 0 0)) b none none := by
  obtain ⟨A, n, c, h1, h2, h3⟩ := h.form
  have e1 : (w.setCell ⟨b, 1, none⟩ (.bool true)).cell? ⟨b, 2, none⟩ = some (.slice A n c) := by rw [World.cell?_setCell_other _ _ _ _ (by simp)]; exact h1
  refine ⟨?_, ?_, ⟨none, 0, 0, World.cell?_setCell_same _ _ _ e1, World.ownsRow_nil _ _ _ _, rfl, rfl, by omega⟩, IsBytes.nil, ?_, ?_⟩
  · rw [World.cell?_setCell_other _ _ _ _ (by simp), World.cell?_setCell_other _ _ _ _ (by simp)]; exact h.made
  · rw [World.cell?_setCell_other _ _ _ _ (by simp)]; exact World.cell?_setCell_same _ _ _ h.long
  · rw [World.frozen?_setCell, World.frozen?_setCell]; exact h.f1
  · rw [World.frozen?_setCell, World.frozen?_setCell]; exact h.f2
/-- Bytes were appended, and the slice is stored. -/
theorem Wr.appended {w w2 : World} {b n m : Nat} {g : Option Nat} {fs zs : List Int} {v2 : Value} (h : Wr w b g (some fs)) (hn : fs.length = n) (hm : zs.length = m) (hz : IsBytes zs) (ho : w2.ownsRow (b + 1) 5 1 v2 (n + m) (vals fs ++ vals zs)) (hg : w.grownBy w2 g) (hl : n + m ≤ 65536) :
    Wr (w2.setCell ⟨b, 2, none⟩ v2) b v2.ownBlock (some (fs ++ zs)) := by
  have hb : w2.heap[b]? = w.heap[b]? := hg.block b h.lt (fun e => by have := h.own b e.symm; omega)
  obtain ⟨A, n0, c, h1, h2, h3⟩ := h.form
  obtain ⟨A2, c2, rfl, q1, q2⟩ := own_shape ho
  have e1 : w2.cell? ⟨b, 2, none⟩ = some (.slice A n0 c) := (World.cell?_of_block (a := ⟨b, 2, none⟩) hb).trans h1
  refine ⟨?_, ?_, ⟨A2, n + m, c2, World.cell?_setCell_same _ _ _ e1, ?_, rfl, by show (fs ++ zs).length = _; rw [List.length_append, hn, hm], hl⟩, h.bytes.app hz, ?_, ?_⟩
  · rw [World.cell?_setCell_other _ _ _ _ (by simp)]; exact (World.cell?_of_block (a := ⟨b, 0, none⟩) hb).trans h.made
  · rw [World.cell?_setCell_other _ _ _ _ (by simp)]; exact (World.cell?_of_block (a := ⟨b, 1, none⟩) hb).trans h.long
  · have := ownsRow_setCell_below ho (a := ⟨b, 2, none⟩) (by show b < b + 1; omega) (.slice A2 (n + m) c2)
    show World.ownsRow _ _ _ _ _ _ (vals (fs ++ zs))
    rw [vals_app]
    exact this
  · rw [World.frozen?_setCell]; exact (World.frozen?_of_block (a := ⟨b, 1, none⟩) hb).trans h.f1
  · rw [World.frozen?_setCell]; exact (World.frozen?_of_block (a := ⟨b, 2, none⟩) hb).trans h.f2
/-- A writer's call: the writer is answered. -/
def Puts (w : World) (b : Nat) (g : Option Nat) (st' : Option (List Int)) (e : Ending) (w' : World) : Prop :=
  e = .returned (.pointer (some ⟨b, 0, none⟩)) ∧ ∃ g', Wr w' b g' st' ∧ Wrote w w' b g ∧ Fresh w g g'
/-- A slice stands apart from a writer's blocks. -/
def Apart (b : Nat) (g : Option Nat) (A : Option Addr) (n : Nat) : Prop := 0 < n → ∀ a, A = some a → a.block ≠ b ∧ some a.block ≠ g
theorem Bs.wrote {w w' : World} {b B n : Nat} {g : Option Nat} {A : Option Addr} {zs : List Int} (h : Bs w B A n zs) (hw : Wrote w w' b g) (ha : Apart b g A n) (hB : B ≤ w.heap.size) : Bs w' B A n zs := by
  refine ⟨h.len, h.rng, fun hn => ?_⟩
  obtain ⟨k, off, rfl, hk, hc⟩ := h.row hn
  exact ⟨k, off, rfl, hk, fun j hj => (World.cell?_of_block (a := ⟨k, off + j, none⟩) (hw.block k (by omega) (ha hn _ rfl).1 (ha hn _ rfl).2)).trans (hc j hj)⟩
theorem Lists.wrote {w w' : World} {b B m : Nat} {g : Option Nat} {A : Option Addr} {As : Nat → Option Addr} {Ns Cs : Nat → Nat} {Zs : Nat → List Int} (h : Lists w B A m As Ns Cs Zs) (hw : Wrote w w' b g) (ha : Apart b g A m) (hs : ∀ j, j < m → Apart b g (As j) (Ns j)) (hB : B ≤ w.heap.size) : Lists w' B A m As Ns Cs Zs :=
  ⟨fun hm => by
    obtain ⟨k, off, rfl, hlt, hc⟩ := h.row hm
    exact ⟨k, off, rfl, hlt, fun j hj => (World.cell?_of_block (a := ⟨k, off + j, none⟩) (hw.block k (by omega) (ha hm _ rfl).1 (ha hm _ rfl).2)).trans (hc j hj)⟩, fun j hj => (h.bs j hj).wrote hw (hs j hj) hB⟩
set_option maxRecDepth 100000 in
set_option maxHeartbeats 1000000 in
theorem put_long {w : World} {b : Nat} {g : Option Nat} (h : Wr w b g none) (l : Value) : Calls Tryd.prog 57 #[.pointer (some ⟨b, 0, none⟩), l] w (Puts w b g none) := by
  have h0 := h.made
  have h1 : w.cell? ⟨b, 1, none⟩ = some (.bool true) := h.long
  have H := Lib.hid h
  clear h
  go_enter Tryd.func57, Tryd.ntmps57
  go_wp2
  go_ret
  exact ⟨rfl, g, H.out, Wrote.refl _ _ _, .inl rfl⟩
set_option maxRecDepth 100000 in
set_option maxHeartbeats 2000000 in
theorem put_ok {w : World} {b : Nat} {g : Option Nat} {fs : List Int} (h : Wr w b g (some fs)) {B : Nat} {A : Option Addr} {m : Nat} (c : Nat) {As : Nat → Option Addr} {Ns Cs : Nat → Nat} {Zs : Nat → List Int} (hl : Lists w B A m As Ns Cs Zs) (hB : B ≤ w.heap.size) (hm : m ≤ maxLen)
    (hN : ∀ j, j < m → Ns j ≤ 140737488355328) (ha : Apart b g A m) (hs : ∀ j, j < m → Apart b g (As j) (Ns j)) :
    Calls Tryd.prog 57 #[.pointer (some ⟨b, 0, none⟩), .slice A m c] w (Puts w b g (wPut (some fs) (catTo Zs m))) := by
  unfold maxLen at hm
  have h0 := h.made
  have h1 : w.cell? ⟨b, 1, none⟩ = some (.bool false) := h.long
  have HW := Lib.hid h
  have HL := Lib.hid hl
  have HLen : Hid (∀ k, k ≤ m → (catTo Zs k).length = sumTo Ns k) := Lib.hid (fun k hk => catTo_len Zs Ns k (fun j hj => (hl.bs j (by omega)).len))
  have HSum : Hid (∀ k, k ≤ m → sumTo Ns k ≤ sumTo Ns m) := Lib.hid (fun k hk => sumTo_le Ns k m hk)
  have HN := Lib.hid hN
  clear h hl hN
  go_enter Tryd.func57, Tryd.ntmps57
  go_wp2
  go_loopw [25] (fun i wr => ∃ k : Nat, k ≤ m ∧ i = .int .i64 k ∧ ∃ g', Hid (Wr wr b g' (some (fs ++ catTo Zs k))) ∧ Hid (Wrote w wr b g) ∧ Hid (Fresh w g g')) (fun i _ => m - (intOf i).toNat)
  case atStart => exact ⟨0, by omega, rfl, g, Lib.hid (by show Wr w b g (some (fs ++ [])); rw [List.append_nil]; exact HW.out), Lib.hid (Wrote.refl _ _ _), Lib.hid (.inl rfl)⟩
  case round =>
    obtain ⟨k, hk, rfl, g', RW, RO, RF⟩ := hrel
    by_cases hlt : k < m
    · have LL := HL.out.wrote RO.out ha hs hB
      obtain ⟨bl, off, rfl, hbl, hc⟩ := LL.at_ hlt
      have HZ := Lib.hid (LL.bs k hlt)
      have hnk := HN.out k hlt
      have hap := hs k hlt
      obtain ⟨A2, n2, c2, f1, f2, f3, f4, f5⟩ := RW.out.form
      have g1 := RW.out.f1
      have g2 := RW.out.f2
      have c1 := RW.out.long
      have hlen : Hid ((fs ++ catTo Zs k).length = n2) := Lib.hid f4
      have F2 := Lib.hid f2
      have F3 := Lib.hid f3
      have hsz := RW.out.lt
      have hst : Hid (fs ++ catTo Zs (k + 1) = fs ++ catTo Zs k ++ Zs k) := Lib.hid (by show fs ++ (catTo Zs k ++ Zs k) = _; rw [List.append_assoc])
      have hsl : Hid (sumTo Ns (k + 1) = sumTo Ns k + Ns k) := Lib.hid rfl
      clear LL f2 f3 f4
      generalize hnn : Ns k = nk at *
      generalize Cs k = ck at *
      generalize As k = ak at *
      by_cases hfit : n2 + nk ≤ 65536
      · have hfi : ¬ (65536 - (n2 : Int)) < (nk : Int) := by omega
        have hnb : some b ≠ (Value.slice A2 n2 c2).ownBlock := fun e => by have := RW.out.own b (F3.out.symm.trans e.symm); omega
        go_wp2_with (at_builtin; refine wpList_appW _ rfl (.tmp 49) (.tmp 50) 22 rfl (b + 1) 5 1 1 Tryd.underlying22 u8_info (by omega) (.slice A2 n2 c2) n2 (vals (fs ++ catTo Zs k)) rfl F2.out ak nk ck (vals (Zs k)) rfl HZ.out.lies.1 HZ.out.lies.2 (vals_one _) (by unfold maxLen; omega) (by omega) (by omega) ?_; intro v2 w2 ho2 hg2 hw2; obtain ⟨A3, c3, rfl, _, _⟩ := own_shape ho2; have d1 : w2.cell? ⟨b, 2, none⟩ = some (.slice A2 n2 c2) := (World.cell?_of_block (a := ⟨b, 2, none⟩) (hg2.block b hsz hnb)).trans f1; have d2 : w2.frozen? ⟨b, 2, none⟩ = false := (World.frozen?_of_block (a := ⟨b, 2, none⟩) (hg2.block b hsz hnb)).trans g2; have HO := Lib.hid ho2; have HG := Lib.hid hg2; have HWh : Hid ((Value.slice A3 (n2 + nk) c3).ownBlock = (Value.slice A2 n2 c2).ownBlock ∨ ∀ k, (Value.slice A3 (n2 + nk) c3).ownBlock = some k → wr.heap.size ≤ k) := Lib.hid hw2; clear ho2 hg2 hw2)
        have hg3 : wr.grownBy w2 g' := by rw [← F3.out]; exact HG.out
        have W3 := Lib.hid (RW.out.appended hlen.out (HZ.out.len) HZ.out.isBytes HO.out hg3 hfit)
        have O3 : Hid (Wrote w (w2.setCell ⟨b, 2, none⟩ (.slice A3 (n2 + nk) c3)) b g) := Lib.hid (RO.out.trans ((Wrote.of_grown hg3 (.inr (.inr rfl))).trans (Wrote.of_grown (grown_cell w2 ⟨b, 2, none⟩ _) (.inr (.inl rfl))) (.inl rfl)) RF.out)
        have F4 : Hid (Fresh w g (Value.slice A3 (n2 + nk) c3).ownBlock) := Lib.hid (RF.out.trans (by rw [F3.out] at HWh; exact HWh.out) RO.out.size)
        clear hg3
        go_roundw
        case rel => exact ⟨k + 1, by omega, by go_num, _, Lib.hid (by rw [hst.out]; exact W3.out), O3, F4⟩
        case measure => simp [intOf]; omega
      · have hfi : (65536 - (n2 : Int)) < (nk : Int) := by omega
        have W3 := Lib.hid RW.out.tooLong
        have O3 : Hid (Wrote w ((wr.setCell ⟨b, 1, none⟩ (.bool true)).setCell ⟨b, 2, none⟩ (.slice none 0 0)) b g) := Lib.hid (RO.out.trans ((Wrote.of_grown (grown_cell wr ⟨b, 1, none⟩ _) (.inr (.inl rfl))).trans (Wrote.of_grown (grown_cell _ ⟨b, 2, none⟩ _) (.inr (.inl rfl))) (.inl rfl)) RF.out)
        have HP : Hid (wPut (some fs) (catTo Zs m) = none) := Lib.hid (wPut_no _ _ (by
          have e1 := HLen.out m (Nat.le_refl _)
          have e2 := HSum.out (k + 1) (by omega)
          have e3 := HLen.out k hk
          have e4 := hlen.out
          rw [List.length_append, e3] at e4
          have e5 := hsl.out
          omega))
        go_wp2
        go_ret
        exact ⟨rfl, none, by rw [HP.out]; exact W3.out, O3.out, .inr (fun k hk => by cases hk)⟩
    · have hkm : k = m := by omega
      have HP : Hid (wPut (some fs) (catTo Zs m) = some (fs ++ catTo Zs k)) := Lib.hid (by
        rw [← hkm]
        obtain ⟨A2, n2, c2, _, _, _, f4, f5⟩ := RW.out.form
        refine wPut_yes _ _ ?_
        rw [← List.length_append]
        have f6 : (fs ++ catTo Zs k).length = n2 := f4
        omega)
      clear hkm
      go_wp2
      go_ret
      exact ⟨rfl, g', by rw [HP.out]; exact RW.out, RO.out, RF.out⟩
end Go.Proofs.YtlknjaoamkcmjaaDoor
/- What a reader's next bytes are taken by: of one that is bad, or too short; of one that has them. -/
namespace Go.Proofs.YtlknjaoamkcmjaaDoor
open Go.ChangeShapes Go.WideShapes Go.ChangeAt Go.RowKit
set_option linter.unusedVariables false
open Plain
/-- A reader's call: what it tells, and the reader behind it. -/
def Takes (w : World) (b : Nat) (B : Span) (why : Int) (zs : List Int) (v : Value) (e : Ending) (w' : World) : Prop := e = .returned v ∧ Rd w' b B why zs ∧ w.grownBy w' (some b)
/-- What is made of the next bytes. -/
def Makes (w1 : World) (ok : Bool) (Post : Value → World → Prop) (e : Ending) (w2 : World) : Prop := ∃ x, e = .returned (.tuple #[x, .bool ok]) ∧ w1.grownBy w2 none ∧ Post x w2
set_option maxRecDepth 100000 in
theorem take_i_none (p F : Value) (why size : Int) (hw : why ≠ 0) (w : World) (h : Calls Tryd.prog 68 #[p] w (Says (.int .i64 why) w)) :
    Calls Tryd.prog 60 #[p, .int .i64 size, F] w (Says (.int .i64 0) w) := by
  have HE := Lib.hid h
  have hw2 : (why == 0) = false := by simpa using hw
  clear h
  go_enter Tryd.func60, Tryd.ntmps60
  go_wp2_with (go_at_call 68; refine HE.out.mono ?_; rintro e w' ⟨rfl, rfl⟩)
  go_ret
  exact ⟨rfl, rfl⟩
set_option maxRecDepth 100000 in
theorem take_i_short {w : World} {b : Nat} {B : Span} {zs : List Int} (F : Value) (size : Int) (h : Rd w b B 0 zs) (hs : (zs.length : Int) < size) :
    Calls Tryd.prog 60 #[.pointer (some ⟨b, 0, none⟩), .int .i64 size, F] w (Takes w b B 40 [] (.int .i64 0)) := by
  have HE := Lib.hid (err_any h)
  have HL := Lib.hid (left_any h)
  have HS := Lib.hid (h.spoilt 40 (by omega))
  obtain ⟨A, n, c, h2, _⟩ := h.rest
  have h1 := h.errno
  have g1 := h.f1
  have g2 := h.f2
  obtain ⟨m, hm⟩ : ∃ m, zs.length = m := ⟨_, rfl⟩
  rw [hm] at HL hs
  clear h hm
  have hlt : ¬ size ≤ (m : Int) := by omega
  go_enter Tryd.func60, Tryd.ntmps60
  go_wp2_with (first | (go_at_call 68; refine HE.out.mono ?_; rintro e w' ⟨rfl, rfl⟩) | (go_at_call 69; refine HL.out.mono ?_; rintro e w' ⟨rfl, rfl⟩))
  go_ret
  exact ⟨rfl, HS.out, grown_trans (grown_cell _ ⟨b, 1, none⟩ _) (grown_cell _ ⟨b, 2, none⟩ _)⟩
set_option maxRecDepth 100000 in
set_option maxHeartbeats 1000000 in
theorem take_i_no {w : World} {b : Nat} {B : Span} {zs : List Int} (k : Nat) (f : FuncId) (caps : Array Value) (hin : ∀ args W, (callFunc f args).run Tryd.prog W = .ok (.enter f args) W) (h : Rd w b B 0 zs) (hs : k ≤ zs.length) (Post : Value → World → Prop)
    (hf : ∀ w1 A c, Rd w1 b B 0 (zs.drop k) → w.grownBy w1 (some b) → Bs w1 B.hi A k (zs.take k) → k ≤ c → c ≤ maxLen → Calls Tryd.prog f (#[.slice A k c] ++ caps) w1 (Makes w1 false Post)) :
    Calls Tryd.prog 60 #[.pointer (some ⟨b, 0, none⟩), .int .i64 k, .func (.func f) #[] caps] w (Takes w b B 40 [] (.int .i64 0)) := by
  have HE := Lib.hid (err_any h)
  have HL := Lib.hid (left_any h)
  obtain ⟨A, n, c, h2, hz, hnc, hcm, hn5⟩ := h.rest
  rw [hz.len] at HL hs
  have h1 := h.errno
  have g1 := h.f1
  have g2 := h.f2
  have C1 := cut_h A n c k k rfl (by omega)
  obtain ⟨A2, C2, hA2⟩ := cut_l A n c k k rfl hs hnc
  have HT := Lib.hid (h.taken (c' := c - k) h2 hs hA2 (by omega) (by omega))
  have HF := Lib.hid hf
  clear h hz hf
  have hle : (k : Int) ≤ (n : Int) := by omega
  go_enter Tryd.func60, Tryd.ntmps60
  go_wp2_with (first | (go_at_call 68; refine HE.out.mono ?_; rintro e w' ⟨rfl, rfl⟩) | (go_at_call 69; refine HL.out.mono ?_; rintro e w' ⟨rfl, rfl⟩))
  have C := Lib.hid (HF.out _ A c HT.out.1 (grown_cell w ⟨b, 2, none⟩ _) HT.out.2 (by omega) hcm)
  clear HF
  refine C.out.mono ?_
  rintro e w2 ⟨x, rfl, hg, hp⟩
  have r2 := HT.out.1.grown hg (fun k hk => by cases hk)
  have HS := Lib.hid (r2.spoilt 40 (by omega))
  have gg : Hid (w.grownBy w2 (some b)) := Lib.hid (grown_trans (grown_cell w ⟨b, 2, none⟩ _) (grown_more hg))
  obtain ⟨A3, n3, c3, h5, _⟩ := r2.rest
  have h4 := r2.errno
  have g3 := r2.f1
  have g4 := r2.f2
  clear C HT r2 hg h1 h2 g1 g2 hp
  go_wp2
  go_ret
  exact ⟨rfl, HS.out, grown_trans gg.out (grown_trans (grown_cell _ ⟨b, 1, none⟩ _) (grown_cell _ ⟨b, 2, none⟩ _))⟩
set_option maxRecDepth 100000 in
set_option maxHeartbeats 1000000 in
theorem take_i_ok {w : World} {b : Nat} {B : Span} {zs : List Int} (k : Nat) (f : FuncId) (caps : Array Value) (hin : ∀ args W, (callFunc f args).run Tryd.prog W = .ok (.enter f args) W) (h : Rd w b B 0 zs) (hs : k ≤ zs.length) (Post : Value → World → Prop)
    (hf : ∀ w1 A c, Rd w1 b B 0 (zs.drop k) → w.grownBy w1 (some b) → Bs w1 B.hi A k (zs.take k) → k ≤ c → c ≤ maxLen → Calls Tryd.prog f (#[.slice A k c] ++ caps) w1 (Makes w1 true Post)) :
    Calls Tryd.prog 60 #[.pointer (some ⟨b, 0, none⟩), .int .i64 k, .func (.func f) #[] caps] w (fun e w' => ∃ x, Takes w b B 0 (zs.drop k) x e w' ∧ Post x w') := by
  have HE := Lib.hid (err_any h)
  have HL := Lib.hid (left_any h)
  obtain ⟨A, n, c, h2, hz, hnc, hcm, hn5⟩ := h.rest
  rw [hz.len] at HL hs
  have h1 := h.errno
  have g1 := h.f1
  have g2 := h.f2
  have C1 := cut_h A n c k k rfl (by omega)
  obtain ⟨A2, C2, hA2⟩ := cut_l A n c k k rfl hs hnc
  have HT := Lib.hid (h.taken (c' := c - k) h2 hs hA2 (by omega) (by omega))
  have HF := Lib.hid hf
  clear h hz hf
  have hle : (k : Int) ≤ (n : Int) := by omega
  go_enter Tryd.func60, Tryd.ntmps60
  go_wp2_with (first | (go_at_call 68; refine HE.out.mono ?_; rintro e w' ⟨rfl, rfl⟩) | (go_at_call 69; refine HL.out.mono ?_; rintro e w' ⟨rfl, rfl⟩))
  have C := Lib.hid (HF.out _ A c HT.out.1 (grown_cell w ⟨b, 2, none⟩ _) HT.out.2 (by omega) hcm)
  clear HF
  refine C.out.mono ?_
  rintro e w2 ⟨x, rfl, hg, hp⟩
  have r2 := HT.out.1.grown hg (fun k hk => by cases hk)
  have gg : Hid (w.grownBy w2 (some b)) := Lib.hid (grown_trans (grown_cell w ⟨b, 2, none⟩ _) (grown_more hg))
  go_wp2
  go_ret
  exact ⟨x, ⟨rfl, r2, gg.out⟩, hp⟩
set_option maxRecDepth 100000 in
theorem take_l_none (p F : Value) (why size : Int) (hw : why ≠ 0) (w : World) (h : Calls Tryd.prog 68 #[p] w (Says (.int .i64 why) w)) :
    Calls Tryd.prog 63 #[p, .int .i64 size, F] w (Says (.slice none 0 0) w) := by
  have HE := Lib.hid h
  have hw2 : (why == 0) = false := by simpa using hw
  clear h
  go_enter Tryd.func63, Tryd.ntmps63
  go_wp2_with (go_at_call 68; refine HE.out.mono ?_; rintro e w' ⟨rfl, rfl⟩)
  go_ret
  exact ⟨rfl, rfl⟩
set_option maxRecDepth 100000 in
theorem take_l_short {w : World} {b : Nat} {B : Span} {zs : List Int} (F : Value) (size : Int) (h : Rd w b B 0 zs) (hs : (zs.length : Int) < size) :
    Calls Tryd.prog 63 #[.pointer (some ⟨b, 0, none⟩), .int .i64 size, F] w (Takes w b B 40 [] (.slice none 0 0)) := by
  have HE := Lib.hid (err_any h)
  have HL := Lib.hid (left_any h)
  have HS := Lib.hid (h.spoilt 40 (by omega))
  obtain ⟨A, n, c, h2, _⟩ := h.rest
  have h1 := h.errno
  have g1 := h.f1
  have g2 := h.f2
  obtain ⟨m, hm⟩ : ∃ m, zs.length = m := ⟨_, rfl⟩
  rw [hm] at HL hs
  clear h hm
  have hlt : ¬ size ≤ (m : Int) := by omega
  go_enter Tryd.func63, Tryd.ntmps63
  go_wp2_with (first | (go_at_call 68; refine HE.out.mono ?_; rintro e w' ⟨rfl, rfl⟩) | (go_at_call 69; refine HL.out.mono ?_; rintro e w' ⟨rfl, rfl⟩))
  go_ret
  exact ⟨rfl, HS.out, grown_trans (grown_cell _ ⟨b, 1, none⟩ _) (grown_cell _ ⟨b, 2, none⟩ _)⟩
set_option maxRecDepth 100000 in
set_option maxHeartbeats 1000000 in
theorem take_l_ok {w : World} {b : Nat} {B : Span} {zs : List Int} (k : Nat) (f : FuncId) (caps : Array Value) (hin : ∀ args W, (callFunc f args).run Tryd.prog W = .ok (.enter f args) W) (h : Rd w b B 0 zs) (hs : k ≤ zs.length) (Post : Value → World → Prop)
    (hf : ∀ w1 A c, Rd w1 b B 0 (zs.drop k) → w.grownBy w1 (some b) → Bs w1 B.hi A k (zs.take k) → k ≤ c → c ≤ maxLen → Calls Tryd.prog f (#[.slice A k c] ++ caps) w1 (Makes w1 true Post)) :
    Calls Tryd.prog 63 #[.pointer (some ⟨b, 0, none⟩), .int .i64 k, .func (.func f) #[] caps] w (fun e w' => ∃ x, Takes w b B 0 (zs.drop k) x e w' ∧ Post x w') := by
  have HE := Lib.hid (err_any h)
  have HL := Lib.hid (left_any h)
  obtain ⟨A, n, c, h2, hz, hnc, hcm, hn5⟩ := h.rest
  rw [hz.len] at HL hs
  have h1 := h.errno
  have g1 := h.f1
  have g2 := h.f2
  have C1 := cut_h A n c k k rfl (by omega)
  obtain ⟨A2, C2, hA2⟩ := cut_l A n c k k rfl hs hnc
  have HT := Lib.hid (h.taken (c' := c - k) h2 hs hA2 (by omega) (by omega))
  have HF := Lib.hid hf
  clear h hz hf
  have hle : (k : Int) ≤ (n : Int) := by omega
  go_enter Tryd.func63, Tryd.ntmps63
  go_wp2_with (first | (go_at_call 68; refine HE.out.mono ?_; rintro e w' ⟨rfl, rfl⟩) | (go_at_call 69; refine HL.out.mono ?_; rintro e w' ⟨rfl, rfl⟩))
  have C := Lib.hid (HF.out _ A c HT.out.1 (grown_cell w ⟨b, 2, none⟩ _) HT.out.2 (by omega) hcm)
  clear HF
  refine C.out.mono ?_
  rintro e w2 ⟨x, rfl, hg, hp⟩
  have r2 := HT.out.1.grown hg (fun k hk => by cases hk)
  have gg : Hid (w.grownBy w2 (some b)) := Lib.hid (grown_trans (grown_cell w ⟨b, 2, none⟩ _) (grown_more hg))
  go_wp2
  go_ret
  exact ⟨x, ⟨rfl, r2, gg.out⟩, hp⟩
theorem in_any (f : FuncId) (h : (Tryd.prog.funcs[f]?.map fun fn => (fn.name == "runtime.NumGoroutine", fn.body.isSome)) = some (false, true)) (args : Array Value) (W : World) : (callFunc f args).run Tryd.prog W = .ok (.enter f args) W := by
  cases hf : Tryd.prog.funcs[f]? with
  | none => rw [hf] at h; cases h
  | some fn =>
    rw [hf] at h
    simp only [Option.map_some, Option.some.injEq, Prod.mk.injEq] at h
    obtain ⟨h1, h2⟩ := h
    obtain ⟨c, hc⟩ := Option.isSome_iff_exists.1 h2
    have h3 : fn.name ≠ "runtime.NumGoroutine" := by simpa using h1
    simp [callFunc, hf, hc, h3]
end Go.Proofs.YtlknjaoamkcmjaaDoor
/- What a reader's calls tell: a field of one cell. -/
namespace Go.Proofs.YtlknjaoamkcmjaaDoor
open Go.ChangeShapes Go.WideShapes Go.ChangeAt Go.RowKit
set_option linter.unusedVariables false
open Plain
/-- The next k bytes are read: what is told, why the reader is bad behind it, what is left. -/
def tk {α : Type} (k : Nat) (okf : List Int → List Int → Bool) (val : List Int → α) (nv : α) (s : Int × List Int) : α × Int × List Int :=
  if s.1 = 0 ∧ k ≤ s.2.length ∧ okf (s.2.take k) (s.2.drop k) = true then (val (s.2.take k), 0, s.2.drop k) else (nv, if s.1 = 0 then 40 else s.1, [])
theorem tk_bad {α : Type} (k : Nat) (okf : List Int → List Int → Bool) (val : List Int → α) (nv : α) (why : Int) (zs : List Int) (h : why ≠ 0) : tk k okf val nv (why, zs) = (nv, why, []) := by
  unfold tk; rw [if_neg (by rintro ⟨h1, _⟩; exact h h1)]; simp only; rw [if_neg h]
theorem tk_short {α : Type} (k : Nat) (okf : List Int → List Int → Bool) (val : List Int → α) (nv : α) (zs : List Int) (h : zs.length < k) : tk k okf val nv (0, zs) = (nv, 40, []) := by
  unfold tk; rw [if_neg (by rintro ⟨_, h1, _⟩; simp only at h1; omega)]; rfl
theorem tk_no {α : Type} (k : Nat) (okf : List Int → List Int → Bool) (val : List Int → α) (nv : α) (zs : List Int) (h : okf (zs.take k) (zs.drop k) = false) : tk k okf val nv (0, zs) = (nv, 40, []) := by
  unfold tk; rw [if_neg (by rintro ⟨_, _, h1⟩; simp only at h1; rw [h] at h1; cases h1)]; rfl
theorem tk_ok {α : Type} (k : Nat) (okf : List Int → List Int → Bool) (val : List Int → α) (nv : α) (zs : List Int) (hk : k ≤ zs.length) (h : okf (zs.take k) (zs.drop k) = true) : tk k okf val nv (0, zs) = (val (zs.take k), 0, zs.drop k) := by
  unfold tk; rw [if_pos ⟨rfl, hk, h⟩]
/-- A reader's call whose answer is a value. -/
def Reads (w : World) (b : Nat) (B : Span) (v : Value) (s : Int × List Int) (e : Ending) (w' : World) : Prop := e = .returned v ∧ Rd w' b B s.1 s.2 ∧ w.grownBy w' (some b)
theorem take_i_any {α : Type} (mk : α → Value) (nv : α) (hn : mk nv = .int .i64 0) {w : World} {b : Nat} {B : Span} {why : Int} {zs : List Int} (k : Nat) (okf : List Int → List Int → Bool) (val : List Int → α) (f : FuncId) (caps : Array Value) (hin : ∀ args W, (callFunc f args).run Tryd.prog W = .ok (.enter f args) W)
    (h : Rd w b B why zs)
    (hf : why = 0 → k ≤ zs.length → ∀ w1 A c, Rd w1 b B 0 (zs.drop k) → w.grownBy w1 (some b) → Bs w1 B.hi A k (zs.take k) → k ≤ c → c ≤ maxLen → Calls Tryd.prog f (#[.slice A k c] ++ caps) w1 (Makes w1 (okf (zs.take k) (zs.drop k)) (fun x _ => x = mk (val (zs.take k))))) :
    Calls Tryd.prog 60 #[.pointer (some ⟨b, 0, none⟩), .int .i64 k, .func (.func f) #[] caps] w (Reads w b B (mk (tk k okf val nv (why, zs)).1) (tk k okf val nv (why, zs)).2) := by
  by_cases hw : why = 0
  · subst hw
    by_cases hk : k ≤ zs.length
    · cases hok : okf (zs.take k) (zs.drop k)
      · rw [tk_no _ _ _ _ _ hok]
        rw [hok] at hf
        refine (take_i_no k f caps hin h hk _ (hf rfl hk)).mono ?_
        rintro e w' ⟨rfl, r, g⟩
        exact ⟨by rw [hn], r, g⟩
      · rw [tk_ok _ _ _ _ _ hk hok]
        rw [hok] at hf
        refine (take_i_ok k f caps hin h hk _ (hf rfl hk)).mono ?_
        rintro e w' ⟨x, ⟨rfl, r, g⟩, rfl⟩
        exact ⟨rfl, r, g⟩
    · rw [tk_short _ _ _ _ _ (by omega)]
      refine (take_i_short _ _ h (by omega)).mono ?_
      rintro e w' ⟨rfl, r, g⟩
      exact ⟨by rw [hn], r, g⟩
  · rw [tk_bad _ _ _ _ _ _ hw]
    refine (take_i_none _ _ why _ hw w (err_any h)).mono ?_
    rintro e w' ⟨rfl, rfl⟩
    refine ⟨by rw [hn], ?_, grown_refl _ _⟩
    have := h.bad hw
    subst this
    exact h
/-- Each reading, of why a reader is bad and what is left of it. -/
def yes2 (_ _ : List Int) : Bool := true
def intZ (b : List Int) : Int := wrap64 (numZ b)
def rByte := tk 1 yes2 (fun b => b.getD 0 0) 0
def rInt := tk 8 yes2 intZ 0
def rFlag := tk 1 (fun b _ => decide (b.getD 0 0 ≤ 1)) (fun b => b.getD 0 0 == 1) false
def rLen := tk 4 (fun b _ => decide (numZ b ≤ 65536)) numZ 0
def rCount (most : Int) := tk 8 (fun b r => decide (0 ≤ intZ b ∧ intZ b ≤ most ∧ intZ b ≤ (r.length : Nat))) intZ 0
def rBytes (s : Int × List Int) : List Int × Int × List Int := tk (rLen s).1.toNat yes2 id [] (rLen s).2
def rTag := tk 32 yes2 id (List.replicate 32 0)
set_option maxRecDepth 100000 in
theorem number_any {w : World} {B c : Nat} {A : Option Addr} {zs : List Int} (h : Bs w B A 8 zs) : Calls Tryd.prog 62 #[.slice A 8 c] w (fun e w' => e = .returned (.int .i64 (intZ zs)) ∧ ∃ m, w' = w.drewN m) := by
  have HC := Lib.hid (load64_any c h (by simp [maxLen]) 0 (by omega))
  have e1 : loadZ zs 0 8 = numZ zs := by
    have := loadZ_yes zs 0 8 (by rw [h.len]; omega)
    rw [List.drop_zero, List.take_of_length_le (by rw [h.len]; omega)] at this
    exact this
  rw [e1] at HC
  have HI : Hid (intZ zs = wrap64 (numZ zs)) := Lib.hid rfl
  generalize numZ zs = u at *
  generalize loadOk 8 0 8 = ok at *
  clear h e1
  go_enter Tryd.func62, Tryd.ntmps62
  go_wp2_with (go_at_call 81; refine HC.out.mono ?_; rintro e w' ⟨rfl, m, rfl⟩)
  go_ret
  exact ⟨by rw [HI.out]; rfl, m, rfl⟩
set_option maxRecDepth 100000 in
theorem int_mk {w : World} {B c : Nat} {A : Option Addr} {zs : List Int} (h : Bs w B A 8 zs) : Calls Tryd.prog 61 #[.slice A 8 c] w (Makes w true (fun x _ => x = .int .i64 (intZ zs))) := by
  have HC := Lib.hid (number_any (c := c) h)
  clear h
  go_enter Tryd.func61, Tryd.ntmps61
  go_wp2_with (go_at_call 62; refine HC.out.mono ?_; rintro e w' ⟨rfl, m, rfl⟩)
  go_ret2
  exact ⟨_, rfl, grown_drewN_wire _ _ _, rfl⟩
set_option maxRecDepth 100000 in
theorem int_rd {w : World} {b : Nat} {B : Span} {why : Int} {zs : List Int} (h : Rd w b B why zs) : Calls Tryd.prog 41 #[.pointer (some ⟨b, 0, none⟩)] w (Reads w b B (.int .i64 (rInt (why, zs)).1) (rInt (why, zs)).2) := by
  have HC := Lib.hid (take_i_any (Value.int .i64) 0 rfl 8 yes2 intZ 61 #[] (in_any _ (by kernel_rfl)) h (fun _ _ w1 A c _ _ hb _ _ => int_mk hb))
  clear h
  go_enter Tryd.func41, Tryd.ntmps41
  go_wp2_with (go_at_call 60; refine HC.out.mono ?_; rintro e w' ⟨rfl, r, g⟩)
  go_ret
  exact ⟨rfl, r, g⟩
set_option maxRecDepth 100000 in
theorem len_mk {w : World} {B c : Nat} {A : Option Addr} {zs : List Int} (h : Bs w B A 4 zs) : Calls Tryd.prog 82 #[.slice A 4 c] w (Makes w (decide (numZ zs ≤ 65536)) (fun x _ => x = .int .i64 (numZ zs))) := by
  have HC := Lib.hid (load32_any c h (by simp [maxLen]) 0 (by omega))
  have hr := loadZ_range zs 0 4 h.rng'
  have e1 : loadZ zs 0 4 = numZ zs := by
    have := loadZ_yes zs 0 4 (by rw [h.len]; omega)
    rw [List.drop_zero, List.take_of_length_le (by rw [h.len]; omega)] at this
    exact this
  rw [e1] at HC hr
  generalize numZ zs = u at *
  generalize loadOk 4 0 4 = ok at *
  have h0 : 0 ≤ u := hr.1
  have h4 : u < 4294967296 := by omega
  clear h e1 hr
  go_enter Tryd.func82, Tryd.ntmps82
  go_wp2_with (go_at_call 83; refine HC.out.mono ?_; rintro e w' ⟨rfl, m, rfl⟩)
  go_ret2
  exact ⟨_, rfl, grown_drewN_wire _ _ _, rfl⟩
set_option maxRecDepth 100000 in
theorem len_rd {w : World} {b : Nat} {B : Span} {why : Int} {zs : List Int} (h : Rd w b B why zs) : Calls Tryd.prog 64 #[.pointer (some ⟨b, 0, none⟩)] w (Reads w b B (.int .i64 (rLen (why, zs)).1) (rLen (why, zs)).2) := by
  have HC := Lib.hid (take_i_any (Value.int .i64) 0 rfl 4 (fun b _ => decide (numZ b ≤ 65536)) numZ 82 #[] (in_any _ (by kernel_rfl)) h (fun _ _ w1 A c _ _ hb _ _ => len_mk hb))
  clear h
  go_enter Tryd.func64, Tryd.ntmps64
  go_wp2_with (go_at_call 60; refine HC.out.mono ?_; rintro e w' ⟨rfl, r, g⟩)
  go_ret
  exact ⟨rfl, r, g⟩
theorem rLen_nonneg {w : World} {b : Nat} {B : Span} {why : Int} {zs : List Int} (h : Rd w b B why zs) : 0 ≤ (rLen (why, zs)).1 := by
  obtain ⟨A, n, c, _, hz, _⟩ := h.rest
  unfold rLen tk
  split
  · have := loadZ_range zs 0 4 hz.rng'
    rw [show (0 : Int) = ((0 : Nat) : Int) from rfl, loadZ_yes zs 0 4 (by next hh => have := hh.2.1; simpa using this), List.drop_zero] at this
    exact this.1
  · exact Int.le_refl _
end Go.Proofs.YtlknjaoamkcmjaaDoor
/- What a reader's calls tell: bytes, a count; a new reader; one that nobody made. -/
namespace Go.Proofs.YtlknjaoamkcmjaaDoor
open Go.ChangeShapes Go.WideShapes Go.ChangeAt Go.RowKit
set_option linter.unusedVariables false
open Plain
/-- A value that is a list of bytes of its own. -/
def IsList (x : Value) (w : World) (base : Nat) (zs : List Int) : Prop := ∃ A c, x = .slice A zs.length c ∧ w.ownsRow base 5 1 x zs.length (vals zs) ∧ zs.length ≤ c ∧ c ≤ maxLen
theorem IsList.made {w w' : World} {zs : List Int} {e : Ending} (h : Made w zs e w') : ∃ x, e = .returned x ∧ IsList x w' w.heap.size zs ∧ Below w.heap.size w w' := by
  obtain ⟨A, c, rfl, ho, hb, h1, h2⟩ := h
  exact ⟨_, rfl, ⟨A, c, rfl, ho, h1, h2⟩, hb⟩
set_option maxRecDepth 100000 in
theorem bytes_mk {w : World} {B n c : Nat} {A : Option Addr} {zs : List Int} (h : Bs w B A n zs) (hB : B ≤ w.heap.size) (hn : n ≤ 1000000) : Calls Tryd.prog 65 #[.slice A n c] w (Makes w true (fun x w' => IsList x w' w.heap.size zs)) := by
  have HC := Lib.hid (cat1_any (w := w) c 22 h hB (by omega) 1 w.heap.size rfl)
  clear h
  go_enter Tryd.func65, Tryd.ntmps65
  go_wp2_with (go_at_call 25; refine HC.out.mono ?_; intro e w5 hm; obtain ⟨x, rfl, hx, hb⟩ := IsList.made hm; clear hm)
  go_ret2
  have hb2 : Below w.heap.size w w5 := ((Below.refl _ _).alloc (Nat.le_refl _) _).trans (hb.mono (by simp))
  obtain ⟨D, c5, h1, h2, h3⟩ := hx
  exact ⟨_, rfl, grown_of_below hb2 _, D, c5, h1, own_base h2 (by simp), h3⟩
theorem rBytes_ok (s : Int × List Int) (k : Nat) (s1 : Int) (s2 : List Int) (h : rLen s = ((k : Int), s1, s2)) : rBytes s = tk k yes2 id [] (s1, s2) := by
  unfold rBytes; rw [h]; rfl
set_option maxRecDepth 100000 in
theorem bytes_rd {w : World} {b : Nat} {B : Span} {why : Int} {zs : List Int} (h : Rd w b B why zs) : Calls Tryd.prog 42 #[.pointer (some ⟨b, 0, none⟩)] w (fun e w' => ∃ x, Reads w b B x (rBytes (why, zs)).2 e w' ∧ IsList x w' w.heap.size (rBytes (why, zs)).1) := by
  have HL := Lib.hid (len_rd h)
  have h0 : Hid (0 ≤ (rLen (why, zs)).1) := Lib.hid (rLen_nonneg h)
  have HR : Hid (rBytes (why, zs) = tk (rLen (why, zs)).1.toNat yes2 id [] (rLen (why, zs)).2) := Lib.hid rfl
  have hlt := h.lt
  generalize rLen (why, zs) = s at *
  obtain ⟨x, s1, s2⟩ := s
  obtain ⟨k, rfl⟩ := Int.eq_ofNat_of_zero_le h0.out
  have HC : Hid (∀ w1, Rd w1 b B s1 s2 → Calls Tryd.prog 63 #[.pointer (some ⟨b, 0, none⟩), .int .i64 k, .func (.func 65) #[] #[]] w1 (fun e w' => ∃ x, Reads w1 b B x (tk k yes2 id [] (s1, s2)).2 e w' ∧ IsList x w' w1.heap.size (tk k yes2 id [] (s1, s2)).1)) := Lib.hid (by
    intro w1 r
    have nil : ∀ W base, IsList (.slice none 0 0) W base [] := fun W base => ⟨none, 0, rfl, World.ownsRow_nil _ _ _ _, Nat.le_refl _, by simp [maxLen]⟩
    by_cases hw : s1 = 0
    · subst hw
      by_cases hk : k ≤ s2.length
      · rw [tk_ok _ _ _ _ _ hk rfl]
        refine (take_l_ok k 65 #[] (in_any _ (by kernel_rfl)) r hk (fun x w' => IsList x w' w1.heap.size (s2.take k)) (fun w2 A c r2 g2 hb _ _ => ?_)).mono ?_
        · have hs := r.small
          have hbB : B.hi ≤ w2.heap.size := by have := r2.le; have := r2.lt; omega
          refine (bytes_mk (c := c) hb hbB (by omega)).mono ?_
          rintro e w' ⟨x, rfl, g, D, c5, h1, h2, h3⟩
          exact ⟨x, rfl, g, D, c5, h1, own_base h2 g2.size, h3⟩
        · rintro e w' ⟨x, ⟨rfl, r, g⟩, hx⟩
          exact ⟨x, ⟨rfl, r, g⟩, hx⟩
      · rw [tk_short _ _ _ _ _ (by omega)]
        refine (take_l_short _ _ r (by omega)).mono ?_
        rintro e w' ⟨rfl, r, g⟩
        exact ⟨_, ⟨rfl, r, g⟩, nil _ _⟩
    · rw [tk_bad _ _ _ _ _ _ hw]
      refine (take_l_none _ _ s1 _ hw w1 (err_any r)).mono ?_
      rintro e w' ⟨rfl, rfl⟩
      have := r.bad hw
      subst this
      exact ⟨_, ⟨rfl, r, grown_refl _ _⟩, nil _ _⟩)
  clear h h0
  go_enter Tryd.func42, Tryd.ntmps42
  go_wp2_with (first | (go_at_call 64; refine HL.out.mono ?_; rintro e w1 ⟨rfl, r1, g1⟩) | (go_at_call 63; refine (HC.out _ r1).mono ?_; rintro e w2 ⟨x, ⟨rfl, r2, g2⟩, hx⟩))
  go_ret
  rw [HR.out]
  obtain ⟨D, c5, h1, h2, h3⟩ := hx
  exact ⟨x, ⟨rfl, r2, grown_trans g1 g2⟩, D, c5, h1, own_base h2 g1.size, h3⟩
def okCount (most : Int) (b r : List Int) : Bool := decide (0 ≤ intZ b ∧ intZ b ≤ most ∧ intZ b ≤ (r.length : Nat))
/-- A new reader of bytes. -/
def newWhy (zs : List Int) : Int × List Int := if zs.length ≤ 65536 then (0, zs) else (3, [])
theorem rd_new {w : World} {b n c : Nat} {B : Span} {why : Int} {A : Option Addr} {zs : List Int} {t : TypeId} (h : w.heap[b]? = some (.cells #[.bool true, .int .i64 why, .slice A n c] t)) (hz : Bs w B.hi A n zs) (hB : B.hi ≤ b) (hn : n ≤ c) (hc : c ≤ maxLen) (h5 : n ≤ 65536) (hl : 0 < n → ∀ a, A = some a → B.lo ≤ a.block) (hw : why ≠ 0 → zs = []) : Rd w b B why zs := by
  have h2 : w.cell? ⟨b, 2, none⟩ = some (.slice A n c) := by rw [cell_of_row _ _ _ _ _ _ h]; rfl
  refine ⟨by rw [cell_of_row _ _ _ _ _ _ h]; rfl, by rw [cell_of_row _ _ _ _ _ _ h]; rfl, ⟨A, n, c, h2, hz, hn, hc, h5⟩, fun A1 n1 c1 hc' hn1 a ha => ?_, frozen_of_row _ _ _ _ _ h, frozen_of_row _ _ _ _ _ h, hB, hw⟩
  rw [h2] at hc'
  injection hc' with hc'
  injection hc' with q1 q2 q3
  exact hl (by omega) a (q1.trans ha)
set_option maxRecDepth 100000 in
theorem newreader_any {w : World} {B n : Nat} {A : Option Addr} (c : Nat) {zs : List Int} (h : Bs w B A n zs) (hB : B ≤ w.heap.size) (hn : n ≤ 140737488355328) :
    Calls Tryd.prog 40 #[.slice A n c] w (fun e w' => ∃ b, e = .returned (.pointer (some ⟨b, 0, none⟩)) ∧ Rd w' b ⟨w.heap.size, b⟩ (newWhy zs).1 (newWhy zs).2 ∧ w.heap.size ≤ b ∧ Below w.heap.size w w') := by
  by_cases hl : n ≤ 65536
  · have HN : Hid (newWhy zs = (0, zs)) := Lib.hid (by unfold newWhy; rw [if_pos (by rw [h.len]; exact hl)])
    have HC := Lib.hid (cat1_any (w := w) c 22 h hB (by omega) 1 w.heap.size rfl)
    have HLn := Lib.hid h.len
    have HZ := Lib.hid h.isBytes
    have hli : ¬ 65536 < (n : Int) := by omega
    clear h
    go_enter Tryd.func40, Tryd.ntmps40
    go_wp2_with (go_at_call 25; refine HC.out.mono ?_; intro e w5 hm; obtain ⟨D, c5, rfl, ho, hb, h1, h2⟩ := hm.n HLn.out; clear hm)
    go_ret
    have hb2 : Below w.heap.size w w5 := ((Below.refl _ _).alloc (Nat.le_refl _) _).trans (hb.mono (by simp))
    have z5 := Made.bs ho HZ.out
    rw [HN.out]
    exact ⟨_, rfl, rd_new (B := ⟨w.heap.size, w5.heap.size⟩) (heap_alloc_new w5 _) (z5.alloc (Nat.le_refl _) _) (Nat.le_refl _) h1 h2 hl (fun _ a ha => by have := (ho.lt a.block (by rw [ha]; rfl)).1; simp at this; show w.heap.size ≤ _; omega) (fun e => absurd rfl e), hb2.size, hb2.alloc hb2.size _⟩
  · have HN : Hid (newWhy zs = (3, [])) := Lib.hid (by unfold newWhy; rw [if_neg (by rw [h.len]; exact hl)])
    have hli : 65536 < (n : Int) := by omega
    clear h
    go_enter Tryd.func40, Tryd.ntmps40
    go_wp2
    go_ret
    rw [HN.out]
    exact ⟨_, rfl, rd_new (B := ⟨w.heap.size, w.heap.size⟩) (heap_alloc_new w _) Bs.nil (Nat.le_refl _) (Nat.le_refl _) (by simp [maxLen]) (by omega) (fun h => absurd h (by omega)) (fun _ => rfl), Nat.le_refl _, (Below.refl _ _).alloc (Nat.le_refl _) _⟩
end Go.Proofs.YtlknjaoamkcmjaaDoor
/- What a writer's calls put behind; what Done tells. -/
namespace Go.Proofs.YtlknjaoamkcmjaaDoor
open Go.ChangeShapes Go.WideShapes Go.ChangeAt Go.RowKit
set_option linter.unusedVariables false
open Plain
theorem Puts.from {w w1 w' : World} {b : Nat} {g : Option Nat} {st : Option (List Int)} {e : Ending} (h : w.grownBy w1 none) (k : Puts w1 b g st e w') : Puts w b g st e w' := by
  obtain ⟨k1, g', k2, k3, k4⟩ := k
  exact ⟨k1, g', k2, (Wrote.of_grown h (.inl rfl)).trans k3 (.inl rfl), Fresh.trans (.inl rfl) k4 h.size⟩
theorem lists_one {w : World} {B n : Nat} {A : Option Addr} {zs : List Int} (h : Bs w B A n zs) (hB : B ≤ w.heap.size) (t : TypeId) (c g : Nat) (hg : w.heap.size = g) :
    Lists (w.alloc (.cells #[.slice A n c] t)) (g + 1) (some ⟨g, 0, none⟩) 1 (fun _ => A) (fun _ => n) (fun _ => c) (fun _ => zs) := by
  subst hg
  exact ⟨fun _ => ⟨w.heap.size, 0, rfl, by omega, fun j hj => by
      have hh : (w.alloc (.cells #[.slice A n c] t)).cell? ⟨w.heap.size, 0 + j, none⟩ = (#[Value.slice A n c])[0 + j]? := cell_of_row _ _ _ _ _ _ (heap_alloc_new w _)
      rw [hh]
      match j, hj with
      | 0, _ => rfl⟩, fun j hj => ((h.more hB).alloc (Nat.le_refl _) _).more (by omega)⟩
theorem lists_two {w : World} {B1 B2 n1 n2 : Nat} {A1 A2 : Option Addr} {zs1 zs2 : List Int} (h1 : Bs w B1 A1 n1 zs1) (h2 : Bs w B2 A2 n2 zs2) (hB1 : B1 ≤ w.heap.size) (hB2 : B2 ≤ w.heap.size) (t : TypeId) (c1 c2 g : Nat) (hg : w.heap.size = g) :
    Lists (w.alloc (.cells #[.slice A1 n1 c1, .slice A2 n2 c2] t)) (g + 1) (some ⟨g, 0, none⟩) 2 (fun j => if j = 0 then A1 else A2) (fun j => if j = 0 then n1 else n2) (fun j => if j = 0 then c1 else c2) (fun j => if j = 0 then zs1 else zs2) := by
  subst hg
  exact ⟨fun _ => ⟨w.heap.size, 0, rfl, by omega, fun j hj => by
      have hh : (w.alloc (.cells #[.slice A1 n1 c1, .slice A2 n2 c2] t)).cell? ⟨w.heap.size, 0 + j, none⟩ = (#[Value.slice A1 n1 c1, .slice A2 n2 c2])[0 + j]? := cell_of_row _ _ _ _ _ _ (heap_alloc_new w _)
      rw [hh]
      match j, hj with
      | 0, _ => rfl
      | 1, _ => rfl⟩, fun j hj => by
      match j, hj with
      | 0, _ => exact ((h1.more hB1).alloc (Nat.le_refl _) _).more (by omega)
      | 1, _ => exact ((h2.more hB2).alloc (Nat.le_refl _) _).more (by omega)⟩
theorem apart_new {w : World} {b : Nat} {g : Option Nat} {st : Option (List Int)} (h : Wr w b g st) (k : Nat) (hk : w.heap.size ≤ k) {n : Nat} : Apart b g (some ⟨k, 0, none⟩) n := by
  intro _ a ha
  injection ha with ha
  subst ha
  exact ⟨by have := h.lt; show k ≠ b; omega, fun e => by have := (h.own k e.symm).2; omega⟩
theorem put1 {w : World} {b : Nat} {g : Option Nat} {st : Option (List Int)} (h : Wr w b g st) {B n : Nat} {A : Option Addr} {zs : List Int} (hz : Bs w B A n zs) (hB : B ≤ w.heap.size) (hn : n ≤ 140737488355328) (ha : Apart b g A n) (t : TypeId) (c c' gg : Nat) (hg : w.heap.size = gg) :
    Calls Tryd.prog 57 #[.pointer (some ⟨b, 0, none⟩), .slice (some ⟨gg, 0, none⟩) 1 c'] (w.alloc (.cells #[.slice A n c] t)) (Puts w b g (wPut st zs)) := by
  have h' : Wr (w.alloc (.cells #[.slice A n c] t)) b g st := h.grown (grown_alloc _ _ none) (by simp) (by simp)
  cases st with
  | none => exact (put_long h' _).mono fun e w' k => Puts.from (grown_alloc _ _ none) k
  | some fs =>
    have := put_ok h' c' (lists_one hz hB t c gg hg) (by simp; omega) (by simp [maxLen]) (fun _ _ => hn) (apart_new h gg (by omega)) (fun _ _ => ha)
    rw [show catTo (fun _ => zs) 1 = zs from List.nil_append _] at this
    exact this.mono fun e w' k => Puts.from (grown_alloc _ _ none) k
theorem put2 {w : World} {b : Nat} {g : Option Nat} {st : Option (List Int)} (h : Wr w b g st) {B1 B2 n1 n2 : Nat} {A1 A2 : Option Addr} {zs1 zs2 : List Int} (h1 : Bs w B1 A1 n1 zs1) (h2 : Bs w B2 A2 n2 zs2) (hB1 : B1 ≤ w.heap.size) (hB2 : B2 ≤ w.heap.size) (hn1 : n1 ≤ 140737488355328) (hn2 : n2 ≤ 140737488355328) (ha1 : Apart b g A1 n1) (ha2 : Apart b g A2 n2) (t : TypeId) (c1 c2 c' gg : Nat) (hg : w.heap.size = gg) :
    Calls Tryd.prog 57 #[.pointer (some ⟨b, 0, none⟩), .slice (some ⟨gg, 0, none⟩) 2 c'] (w.alloc (.cells #[.slice A1 n1 c1, .slice A2 n2 c2] t)) (Puts w b g (wPut st (zs1 ++ zs2))) := by
  have h' : Wr (w.alloc (.cells #[.slice A1 n1 c1, .slice A2 n2 c2] t)) b g st := h.grown (grown_alloc _ _ none) (by simp) (by simp)
  cases st with
  | none => exact (put_long h' _).mono fun e w' k => Puts.from (grown_alloc _ _ none) k
  | some fs =>
    have := put_ok h' c' (lists_two h1 h2 hB1 hB2 t c1 c2 gg hg) (by simp; omega) (by simp [maxLen]) (fun j _ => by split <;> assumption) (apart_new h gg (by omega)) (fun j _ => by split <;> assumption)
    rw [show catTo (fun j => if j = 0 then zs1 else zs2) 2 = zs1 ++ zs2 from by simp [catTo]] at this
    exact this.mono fun e w' k => Puts.from (grown_alloc _ _ none) k
set_option maxRecDepth 100000 in
theorem newwriter_any (w : World) : Calls Tryd.prog 54 #[] w (fun e w' => e = .returned (.pointer (some ⟨w.heap.size, 0, none⟩)) ∧ Wr w' w.heap.size none (some []) ∧ Below w.heap.size w w' ∧ w.heap.size < w'.heap.size) := by
  go_enter Tryd.func54, Tryd.ntmps54
  go_wp2
  go_ret
  have hh := heap_alloc_new w (.cells #[.bool true, .bool false, .slice none 0 0] 90)
  exact ⟨rfl, ⟨by rw [cell_of_row _ _ _ _ _ _ hh]; rfl, by rw [cell_of_row _ _ _ _ _ _ hh]; rfl, ⟨none, 0, 0, by rw [cell_of_row _ _ _ _ _ _ hh]; rfl, World.ownsRow_nil _ _ _ _, rfl, rfl, by omega⟩, IsBytes.nil, frozen_of_row _ _ _ _ _ hh, frozen_of_row _ _ _ _ _ hh⟩, (Below.refl _ _).alloc (Nat.le_refl _) _, by simp⟩
theorem one_byte (x : Int) (h0 : 0 ≤ x) (h1 : x < 256) : IsBytes [x] := by
  intro j hj
  have : j = 0 := by simpa using hj
  subst this
  exact ⟨h0, h1⟩
section
variable {w : World} {b : Nat} {g : Option Nat} {st : Option (List Int)}
/-- A number's eight bytes, below 0 as 2^64 more. -/
def n64 (n : Int) : List Int := putZ (n % 18446744073709551616) 8
set_option maxRecDepth 100000 in
theorem int_wr (h : Wr w b g st) (n : Int) (h0 : -9223372036854775808 ≤ n) (h1 : n ≤ 9223372036854775807) : Calls Tryd.prog 55 #[.pointer (some ⟨b, 0, none⟩), .int .i64 n] w (Puts w b g (wPut st (n64 n))) := by
  have HP := Lib.hid (put64_any (n % 18446744073709551616) (by omega) (by omega) w)
  have HN : Hid (n64 n = putZ (n % 18446744073709551616) 8) := Lib.hid rfl
  have HZ := Lib.hid (putZ_bytes (n % 18446744073709551616) 8)
  have H := Lib.hid h
  clear h
  go_enter Tryd.func55, Tryd.ntmps55
  go_wp2_with (go_at_call 78; refine HP.out.mono ?_; intro e w1 hm; obtain ⟨A, c, rfl, ho, hb, _, _⟩ := hm.n (putZ_len ..); clear hm)
  have z1 := Made.bs ho HZ.out
  have W1 := H.out.grown (grown_of_below hb none) (by simp) (by simp)
  have ha : Apart b g A 8 := fun _ a ha => by
    have := ho.lt a.block (by rw [ha]; rfl)
    have l1 := H.out.lt
    exact ⟨by omega, fun e => by have := (H.out.own _ e.symm).2; omega⟩
  refine (put1 W1 z1 (Nat.le_refl _) (by omega) ha 22 c 1 _ rfl).mono ?_
  intro e w' k
  replace k := Puts.from (grown_of_below hb none) k
  obtain ⟨rfl, k⟩ := k
  go_wp2
  go_ret
  exact ⟨rfl, by rw [HN.out]; exact k⟩
/-- Bytes behind their length. -/
def bytesF (zs : List Int) : List Int := putZ ((zs.length : Nat) % 4294967296) 4 ++ zs
set_option maxRecDepth 100000 in
theorem bytes_wr (h : Wr w b g st) {B n : Nat} {A : Option Addr} {zs : List Int} (c : Nat) (hz : Bs w B A n zs) (hB : B ≤ w.heap.size) (hn : n ≤ 140737488355328) (ha : Apart b g A n) : Calls Tryd.prog 56 #[.pointer (some ⟨b, 0, none⟩), .slice A n c] w (Puts w b g (wPut st (bytesF zs))) := by
  have HP := Lib.hid (put32_any ((n : Int) % 4294967296) (by omega) (by omega) w)
  have HN : Hid (bytesF zs = putZ ((n : Int) % 4294967296) 4 ++ zs) := Lib.hid (by unfold bytesF; rw [hz.len])
  have HZ := Lib.hid (putZ_bytes ((n : Int) % 4294967296) 4)
  have H := Lib.hid h
  have HB := Lib.hid hz
  clear h hz
  go_enter Tryd.func56, Tryd.ntmps56
  go_wp2_with (go_at_call 79; refine HP.out.mono ?_; intro e w1 hm; obtain ⟨A1, c1, rfl, ho, hb, _, _⟩ := hm.n (putZ_len ..); clear hm)
  have z1 := Made.bs ho HZ.out
  have W1 := H.out.grown (grown_of_below hb none) (by simp) (by simp)
  have ha1 : Apart b g A1 4 := fun _ a ha => by
    have := ho.lt a.block (by rw [ha]; rfl)
    have l1 := H.out.lt
    exact ⟨by omega, fun e => by have := (H.out.own _ e.symm).2; omega⟩
  refine (put2 W1 z1 (HB.out.below (hb.mono hB)) (Nat.le_refl _) (Nat.le_trans hB hb.size) (by omega) hn ha1 ha 22 c1 c 2 _ rfl).mono ?_
  intro e w' k
  replace k := Puts.from (grown_of_below hb none) k
  obtain ⟨rfl, k⟩ := k
  go_wp2
  go_ret
  exact ⟨rfl, by rw [HN.out]; exact k⟩
set_option maxRecDepth 100000 in
theorem done_ok {fs : List Int} (h : Wr w b g (some fs)) : Calls Tryd.prog 37 #[.pointer (some ⟨b, 0, none⟩)] w (fun e w' => ∃ x, e = .returned (.tuple #[x, .int .i64 0]) ∧ IsList x w' w.heap.size fs ∧ Below w.heap.size w w') := by
  have h0 := h.made
  have h1 : w.cell? ⟨b, 1, none⟩ = some (.bool false) := h.long
  obtain ⟨A, n, c, h2, ho, _, hn, h5⟩ := h.form
  have z := bs_of_own ho h.bytes
  have HC := Lib.hid (cat1_any (w := w) c 22 z (Nat.le_refl _) (by omega) 1 w.heap.size rfl)
  clear h ho z hn
  go_enter Tryd.func37, Tryd.ntmps37
  go_wp2_with (go_at_call 25; refine HC.out.mono ?_; intro e w5 hm; obtain ⟨x, rfl, hx, hb⟩ := IsList.made hm; clear hm)
  go_ret2
  have hb2 : Below w.heap.size w w5 := ((Below.refl _ _).alloc (Nat.le_refl _) _).trans (hb.mono (by simp))
  obtain ⟨D, c5, h1, h2, h3⟩ := hx
  exact ⟨_, rfl, ⟨D, c5, h1, own_base h2 (by simp), h3⟩, hb2⟩
set_option maxRecDepth 100000 in
theorem done_long (h : Wr w b g none) : Calls Tryd.prog 37 #[.pointer (some ⟨b, 0, none⟩)] w (Says (.tuple #[.slice none 0 0, .int .i64 3]) w) := by
  have h0 := h.made
  have h1 : w.cell? ⟨b, 1, none⟩ = some (.bool true) := h.long
  clear h
  go_enter Tryd.func37, Tryd.ntmps37
  go_wp2
  go_ret2
  exact ⟨rfl, rfl⟩
end
end Go.Proofs.YtlknjaoamkcmjaaDoor
