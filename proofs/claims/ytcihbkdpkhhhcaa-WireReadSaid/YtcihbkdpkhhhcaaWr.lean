/- A writer as it lies in memory; what puts bytes behind. -/
import Derived.Test.YtcihbkdpkhhhcaaRd
namespace Go.Proofs.Ytcihbkdpkhhhcaa
open Go.ChangeShapes Go.WideShapes Go.ChangeAt Go.RowKit
set_option linter.unusedVariables false
open Plain
/-- Where a row stands that was appended to: where it stood, or in a new block. -/
theorem append_where {P : Program} (w : World) (base : Nat) (t ty e : TypeId) (i : TypeInfo) (z : Value) (size bytes : Nat) (ht : P.underlying t = some (.slice e)) (hi : P.info? e = some i) (hz : i.zero = some z)
    (hsize : i.size = size) (hby : i.bytes = bytes) (hzs : z.cells.size = size) (hsz : 0 < size)
    (v : Value) (n : Nat) (xs : List Value) (hown : w.ownsRow base e size v n xs)
    (a : Addr) (m c : Nat) (news : List Value) (hl : news.length = m * size) (hnews : ∀ j u, news[j]? = some u → w.cell? (a.add j) = some u) (h1 : ∀ u ∈ news, u.oneCell' = true)
    (h63 : n + m ≤ maxLen) (hbytes : (n + m) * bytes ≤ 140737488355328) (hbase : base ≤ w.heap.size) {v' : Value} {w' : World}
    (hr : (Builtin.append_ #[t, t] ty #[v, .slice (some a) m c]).run P w = .ok v' w') : v'.ownBlock = v.ownBlock ∨ ∀ k, v'.ownBlock = some k → w.heap.size ≤ k := by
  have h63' : n + m ≤ 9223372036854775807 := by simp only [maxLen] at h63; omega
  rcases hown.2 with ⟨rfl, rfl⟩ | ⟨g, cap, cur, rfl, hbg, hg, hnc, hcm, hcs, htake⟩
  · right
    have hx : xs = [] := List.eq_nil_of_length_eq_zero (by simpa using hown.1)
    subst hx
    obtain ⟨v2, w2, hr2, ho2, _⟩ := run_append_own (P := P) w w.heap.size t ty e i z size bytes ht hi hz hsize hby hzs hsz (.slice none 0 0) 0 [] (World.ownsRow_nil _ _ _ _) a m c news hl hnews h1 h63 hbytes (Nat.le_refl _)
    rw [hr] at hr2
    injection hr2 with e1 e2
    subst e1 e2
    exact fun k hk => (ho2.lt k hk).1
  · by_cases hroom : n + m ≤ cap
    · left
      have hfit : n * i.size + news.length ≤ cur.size := by rw [hl, hcs, hsize, ← Nat.add_mul]; exact Nat.mul_le_mul_right _ hroom
      have hr2 := run_append_room (P := P) w t ty e i ht hi g n cap cur hg a m c news (by rw [hl, hsize]) hnews h1 hroom hfit
      rw [hr] at hr2
      injection hr2 with e1 e2
      rw [e1]; rfl
    · right
      have holds : ∀ j u, xs[j]? = some u → w.cell? ((⟨g, 0, none⟩ : Addr).add j) = some u := hown.cells (g := g) rfl
      have hr2 := run_append_grow (P := P) w t ty e i z ht hi hz ⟨g, 0, none⟩ n cap xs (by rw [hown.1, hsize]) holds a m c news (by rw [hl, hsize]) hnews (by omega) (by omega) (growslice_fits (by omega) (by rw [hby]; exact hbytes))
      rw [hr] at hr2
      injection hr2 with e1 e2
      rw [e1]
      intro k hk
      simp only [Value.ownBlock, Option.some.injEq] at hk
      omega
/-- The law for the walk: as wpList_app, and where the row stands. -/
theorem wpList_appW {P : Program} (w : World) {ops : Array Oper} {rest : List Oper} {o : Oper} {a : Act} {Q : Exit → Act → World → Prop} (hgd : o.guard = none) (s x : Operand) (t : TypeId)
    (ho : o.op = .call { callee := .builtin .append, args := #[s, x], argTypes := #[t, t] })
    (base : Nat) (e : TypeId) (size bytes : Nat) (ht : P.underlying t = some (.slice e)) (hinfo : ∃ i z, P.info? e = some i ∧ i.zero = some z ∧ i.size = size ∧ i.bytes = bytes ∧ z.cells.size = size) (hsz : 0 < size)
    (v : Value) (n : Nat) (xs : List Value) (hs : a.eval s = v) (hown : w.ownsRow base e size v n xs)
    (A : Option Addr) (m c : Nat) (news : List Value) (hx : a.eval x = .slice A m c) (hr : Lies w size A m news) (hso : Sourced A m) (h1 : ∀ u ∈ news, u.oneCell' = true)
    (h63 : n + m ≤ maxLen) (hbytes : (n + m) * bytes ≤ 140737488355328) (hbase : base ≤ w.heap.size)
    (h : ∀ v' w', w'.ownsRow base e size v' (n + m) (xs ++ news) → w.grownBy w' v.ownBlock → (v'.ownBlock = v.ownBlock ∨ ∀ k, v'.ownBlock = some k → w.heap.size ≤ k) → wpList P ops Q rest (a.put o.dst v') w') : wpList P ops Q (o :: rest) a w := by
  obtain ⟨i, z, hi, hz, hsize, hby, hzs⟩ := hinfo
  cases A with
  | none =>
    have hm : m = 0 := hso rfl
    subst hm
    have hn : news = [] := List.eq_nil_of_length_eq_zero (by simpa using hr.1)
    subst hn
    refine wpList_plain hgd fun K hK => ?_
    have hrun := run_append_nothing (P := P) w base t o.type e i size ht hi v n xs hown c
    unfold Oper.wp
    simp only [execOp, ho, resolve, invoke, builtin, Sem.run_bind, Sem.run_pure, Result.andThen_ok, List.map_toArray, List.map_cons, List.map_nil, hs, hx, hrun]
    exact hK _ _ (h v w (by simpa using hown) (World.grownBy.refl w _) (.inl rfl))
  | some ad =>
    obtain ⟨v', w', hrun, h2, h3, h4⟩ := run_append_own (P := P) w base t o.type e i z size bytes ht hi hz hsize hby hzs hsz v n xs hown ad m c news hr.1 (hr.2 ad rfl) h1 h63 hbytes hbase
    have h5 := append_where (P := P) w base t o.type e i z size bytes ht hi hz hsize hby hzs hsz v n xs hown ad m c news hr.1 (hr.2 ad rfl) h1 h63 hbytes hbase hrun
    refine wpList_plain hgd fun K hK => ?_
    unfold Oper.wp
    simp only [execOp, ho, resolve, invoke, builtin, Sem.run_bind, Sem.run_pure, Result.andThen_ok, List.map_toArray, List.map_cons, List.map_nil, hs, hx, hrun]
    exact hK _ _ (h v' w' h2 h3 h5)
/-- Block b holds a writer: its form so far, or none if it is too long; block g has the form's bytes. -/
structure Wr (w : World) (b : Nat) (g : Option Nat) (st : Option (List Int)) : Prop where
  made : w.cell? ⟨b, 0, none⟩ = some (.bool true)
  long : w.cell? ⟨b, 1, none⟩ = some (.bool st.isNone)
  form : ∃ A n c, w.cell? ⟨b, 2, none⟩ = some (.slice A n c) ∧ w.ownsRow (b + 1) 5 1 (.slice A n c) n (vals (st.getD [])) ∧ (Value.slice A n c).ownBlock = g ∧ (st.getD []).length = n ∧ n ≤ 65536
  bytes : IsBytes (st.getD [])
  f1 : w.frozen? ⟨b, 1, none⟩ = false
  f2 : w.frozen? ⟨b, 2, none⟩ = false
/-- But for a writer's blocks all stands as it stood. -/
structure Wrote (w w' : World) (b : Nat) (g : Option Nat) : Prop where
  os : w'.os = w.os
  tape : w'.tape = w.tape
  output : w'.output = w.output
  size : w.heap.size ≤ w'.heap.size
  block : ∀ k, k < w.heap.size → k ≠ b → some k ≠ g → w'.heap[k]? = w.heap[k]?
theorem Wrote.refl (w : World) (b : Nat) (g : Option Nat) : Wrote w w b g := ⟨rfl, rfl, rfl, Nat.le_refl _, fun _ _ _ _ => rfl⟩
/-- A block of a writer's form, or a new one. -/
def Fresh (w : World) (g g' : Option Nat) : Prop := g' = g ∨ ∀ k, g' = some k → w.heap.size ≤ k
theorem Wrote.trans {w w1 w2 : World} {b : Nat} {g g1 : Option Nat} (h : Wrote w w1 b g) (k : Wrote w1 w2 b g1) (hf : Fresh w g g1) : Wrote w w2 b g :=
  ⟨k.os.trans h.os, k.tape.trans h.tape, k.output.trans h.output, Nat.le_trans h.size k.size, fun i hi h1 h2 => (k.block i (Nat.lt_of_lt_of_le hi h.size) h1 (fun e => by
    rcases hf with hf | hf
    · exact h2 (e.trans hf)
    · have := hf i e.symm; omega)).trans (h.block i hi h1 h2)⟩
theorem Fresh.trans {w w1 : World} {g g1 g2 : Option Nat} (h : Fresh w g g1) (k : Fresh w1 g1 g2) (hs : w.heap.size ≤ w1.heap.size) : Fresh w g g2 := by
  rcases k with rfl | k
  · exact h
  · exact .inr (fun i hi => Nat.le_trans hs (k i hi))
theorem Wrote.of_grown {w w' : World} {b : Nat} {g r : Option Nat} (h : w.grownBy w' r) (hr : r = none ∨ r = some b ∨ r = g) : Wrote w w' b g :=
  ⟨h.os, h.tape, h.output, h.size, fun k hk h1 h2 => h.block k hk (fun e => by
    rcases hr with rfl | rfl | rfl
    · cases e
    · injection e with e; exact h1 e
    · exact h2 e)⟩
section
variable {w w' : World} {b : Nat} {g : Option Nat} {st : Option (List Int)}
theorem Wr.lt (h : Wr w b g st) : b < w.heap.size := World.block_lt_of_cell? _ _ h.made
theorem Wr.own (h : Wr w b g st) : ∀ k, g = some k → b < k ∧ k < w.heap.size := by
  obtain ⟨A, n, c, _, ho, hg, _⟩ := h.form
  intro k hk
  have := ho.lt k (hg.trans hk)
  omega
theorem Wr.keep (h : Wr w b g st) (hb : w'.heap[b]? = w.heap[b]?) (hg : ∀ k, g = some k → w'.heap[k]? = w.heap[k]?) : Wr w' b g st := by
  obtain ⟨A, n, c, h1, h2, h3, h4⟩ := h.form
  refine ⟨(World.cell?_of_block (a := ⟨b, 0, none⟩) hb).trans h.made, (World.cell?_of_block (a := ⟨b, 1, none⟩) hb).trans h.long,
    ⟨A, n, c, (World.cell?_of_block (a := ⟨b, 2, none⟩) hb).trans h1, ?_, h3, h4⟩, h.bytes,
    (World.frozen?_of_block (a := ⟨b, 1, none⟩) hb).trans h.f1, (World.frozen?_of_block (a := ⟨b, 2, none⟩) hb).trans h.f2⟩
  obtain ⟨o1, o2⟩ := h2
  refine ⟨o1, ?_⟩
  rcases o2 with o2 | ⟨k, cap, cur, hv, hk, hh, r⟩
  · exact .inl o2
  · refine .inr ⟨k, cap, cur, hv, hk, ?_, r⟩
    rw [hg k (by rw [← h3, hv]; rfl)]
    exact hh
theorem Wr.grown {r : Option Nat} (h : Wr w b g st) (hg : w.grownBy w' r) (h1 : r ≠ some b) (h2 : ∀ k, g = some k → r ≠ some k) : Wr w' b g st :=
  h.keep (hg.block b h.lt (fun e => h1 e.symm)) (fun k hk => hg.block k (h.own k hk).2 (fun e => h2 k hk e.symm))
end
def wPut (st : Option (List Int)) (zs : List Int) : Option (List Int) := match st with
  | some fs => if fs.length + zs.length ≤ 65536 then some (fs ++ zs) else none
  | none => none
theorem wPut_yes (fs zs : List Int) (h : fs.length + zs.length ≤ 65536) : wPut (some fs) zs = some (fs ++ zs) := by simp [wPut, h]
theorem wPut_no (fs zs : List Int) (h : 65536 < fs.length + zs.length) : wPut (some fs) zs = none := by unfold wPut; exact if_neg (by omega)
/-- It is too long from now on. -/
theorem Wr.tooLong {w : World} {b : Nat} {g : Option Nat} {st : Option (List Int)} (h : Wr w b g st) : Wr ((w.setCell ⟨b, 1, none⟩ (.bool true)).setCell ⟨b, 2, none⟩ (.slice none 0 0)) b none none := by
  obtain ⟨A, n, c, h1, h2, h3⟩ := h.form
  have e1 : (w.setCell ⟨b, 1, none⟩ (.bool true)).cell? ⟨b, 2, none⟩ = some (.slice A n c) := by rw [World.cell?_setCell_other _ _ _ _ (by simp)]; exact h1
  refine ⟨?_, ?_, ⟨none, 0, 0, World.cell?_setCell_same _ _ _ e1, World.ownsRow_nil _ _ _ _, rfl, rfl, by omega⟩, IsBytes.nil, ?_, ?_⟩
  · rw [World.cell?_setCell_other _ _ _ _ (by simp), World.cell?_setCell_other _ _ _ _ (by simp)]; exact h.made
  · rw [World.cell?_setCell_other _ _ _ _ (by simp)]; exact World.cell?_setCell_same _ _ _ h.long
  · rw [World.frozen?_setCell, World.frozen?_setCell]; exact h.f1
  · rw [World.frozen?_setCell, World.frozen?_setCell]; exact h.f2
/-- Bytes were appended, and the slice is stored. -/
theorem Wr.appended {w w2 : World} {b n m : Nat} {g : Option Nat} {fs zs : List Int} {v2 : Value} (h : Wr w b g (some fs)) (hn : fs.length = n) (hm : zs.length = m) (hz : IsBytes zs) (ho : w2.ownsRow (b + 1) 5 1 v2 (n + m) (vals fs ++ vals zs)) (hg : w.grownBy w2 g) (hl : n + m ≤ 65536) :
    Wr (w2.setCell ⟨b, 2, none⟩ v2) b v2.ownBlock (some (fs ++ zs)) := by
  have hb : w2.heap[b]? = w.heap[b]? := hg.block b h.lt (fun e => by have := h.own b e.symm; omega)
  obtain ⟨A, n0, c, h1, h2, h3⟩ := h.form
  obtain ⟨A2, c2, rfl, q1, q2⟩ := own_shape ho
  have e1 : w2.cell? ⟨b, 2, none⟩ = some (.slice A n0 c) := (World.cell?_of_block (a := ⟨b, 2, none⟩) hb).trans h1
  refine ⟨?_, ?_, ⟨A2, n + m, c2, World.cell?_setCell_same _ _ _ e1, ?_, rfl, by show (fs ++ zs).length = _; rw [List.length_append, hn, hm], hl⟩, h.bytes.app hz, ?_, ?_⟩
  · rw [World.cell?_setCell_other _ _ _ _ (by simp)]; exact (World.cell?_of_block (a := ⟨b, 0, none⟩) hb).trans h.made
  · rw [World.cell?_setCell_other _ _ _ _ (by simp)]; exact (World.cell?_of_block (a := ⟨b, 1, none⟩) hb).trans h.long
  · have := ownsRow_setCell_below ho (a := ⟨b, 2, none⟩) (by show b < b + 1; omega) (.slice A2 (n + m) c2)
    show World.ownsRow _ _ _ _ _ _ (vals (fs ++ zs))
    rw [vals_app]
    exact this
  · rw [World.frozen?_setCell]; exact (World.frozen?_of_block (a := ⟨b, 1, none⟩) hb).trans h.f1
  · rw [World.frozen?_setCell]; exact (World.frozen?_of_block (a := ⟨b, 2, none⟩) hb).trans h.f2
/-- A writer's call: the writer is answered. -/
def Puts (w : World) (b : Nat) (g : Option Nat) (st' : Option (List Int)) (e : Ending) (w' : World) : Prop :=
  e = .returned (.pointer (some ⟨b, 0, none⟩)) ∧ ∃ g', Wr w' b g' st' ∧ Wrote w w' b g ∧ Fresh w g g'
theorem Bs.keepAt {w w' : World} {B n : Nat} {A : Option Addr} {zs : List Int} (h : Bs w B A n zs) (hk : ∀ a, A = some a → w'.heap[a.block]? = w.heap[a.block]?) : Bs w' B A n zs :=
  ⟨h.len, h.rng, fun hn => by
    obtain ⟨b, off, rfl, hb, hc⟩ := h.row hn
    exact ⟨b, off, rfl, hb, fun j hj => (World.cell?_of_block (a := ⟨b, off + j, none⟩) (hk ⟨b, off, none⟩ rfl)).trans (hc j hj)⟩⟩
/-- A slice stands apart from a writer's blocks. -/
def Apart (b : Nat) (g : Option Nat) (A : Option Addr) (n : Nat) : Prop := 0 < n → ∀ a, A = some a → a.block ≠ b ∧ some a.block ≠ g
theorem Bs.wrote {w w' : World} {b B n : Nat} {g : Option Nat} {A : Option Addr} {zs : List Int} (h : Bs w B A n zs) (hw : Wrote w w' b g) (ha : Apart b g A n) (hB : B ≤ w.heap.size) : Bs w' B A n zs := by
  refine ⟨h.len, h.rng, fun hn => ?_⟩
  obtain ⟨k, off, rfl, hk, hc⟩ := h.row hn
  exact ⟨k, off, rfl, hk, fun j hj => (World.cell?_of_block (a := ⟨k, off + j, none⟩) (hw.block k (by omega) (ha hn _ rfl).1 (ha hn _ rfl).2)).trans (hc j hj)⟩
theorem Lists.wrote {w w' : World} {b B m : Nat} {g : Option Nat} {A : Option Addr} {As : Nat → Option Addr} {Ns Cs : Nat → Nat} {Zs : Nat → List Int} (h : Lists w B A m As Ns Cs Zs) (hw : Wrote w w' b g) (ha : Apart b g A m) (hs : ∀ j, j < m → Apart b g (As j) (Ns j)) (hB : B ≤ w.heap.size) : Lists w' B A m As Ns Cs Zs :=
  ⟨fun hm => by
    obtain ⟨k, off, rfl, hlt, hc⟩ := h.row hm
    exact ⟨k, off, rfl, hlt, fun j hj => (World.cell?_of_block (a := ⟨k, off + j, none⟩) (hw.block k (by omega) (ha hm _ rfl).1 (ha hm _ rfl).2)).trans (hc j hj)⟩, fun j hj => (h.bs j hj).wrote hw (hs j hj) hB⟩
set_option maxHeartbeats 1000000 in
theorem put_long {w : World} {b : Nat} {g : Option Nat} (h : Wr w b g none) (l : Value) : Calls Try.prog 64 #[.pointer (some ⟨b, 0, none⟩), l] w (Puts w b g none) := by
  have h0 := h.made
  have h1 : w.cell? ⟨b, 1, none⟩ = some (.bool true) := h.long
  have H := Lib.hid h
  clear h
  go_enter Try.func64, Try.ntmps64
  go_wp2
  go_ret
  exact ⟨rfl, g, H.out, Wrote.refl _ _ _, .inl rfl⟩
set_option maxHeartbeats 2000000 in
theorem put_ok {w : World} {b : Nat} {g : Option Nat} {fs : List Int} (h : Wr w b g (some fs)) {B : Nat} {A : Option Addr} {m : Nat} (c : Nat) {As : Nat → Option Addr} {Ns Cs : Nat → Nat} {Zs : Nat → List Int} (hl : Lists w B A m As Ns Cs Zs) (hB : B ≤ w.heap.size) (hm : m ≤ maxLen)
    (hN : ∀ j, j < m → Ns j ≤ 140737488355328) (ha : Apart b g A m) (hs : ∀ j, j < m → Apart b g (As j) (Ns j)) :
    Calls Try.prog 64 #[.pointer (some ⟨b, 0, none⟩), .slice A m c] w (Puts w b g (wPut (some fs) (catTo Zs m))) := by
  unfold maxLen at hm
  have h0 := h.made
  have h1 : w.cell? ⟨b, 1, none⟩ = some (.bool false) := h.long
  have HW := Lib.hid h
  have HL := Lib.hid hl
  have HLen : Hid (∀ k, k ≤ m → (catTo Zs k).length = sumTo Ns k) := Lib.hid (fun k hk => catTo_len Zs Ns k (fun j hj => (hl.bs j (by omega)).len))
  have HSum : Hid (∀ k, k ≤ m → sumTo Ns k ≤ sumTo Ns m) := Lib.hid (fun k hk => sumTo_le Ns k m hk)
  have HN := Lib.hid hN
  clear h hl hN
  go_enter Try.func64, Try.ntmps64
  go_wp2
  go_loopw [25] (fun i wr => ∃ k : Nat, k ≤ m ∧ i = .int .i64 k ∧ ∃ g', Hid (Wr wr b g' (some (fs ++ catTo Zs k))) ∧ Hid (Wrote w wr b g) ∧ Hid (Fresh w g g')) (fun i _ => m - (intOf i).toNat)
  case atStart => exact ⟨0, by omega, rfl, g, Lib.hid (by show Wr w b g (some (fs ++ [])); rw [List.append_nil]; exact HW.out), Lib.hid (Wrote.refl _ _ _), Lib.hid (.inl rfl)⟩
  case round =>
    obtain ⟨k, hk, rfl, g', RW, RO, RF⟩ := hrel
    by_cases hlt : k < m
    · have LL := HL.out.wrote RO.out ha hs hB
      obtain ⟨bl, off, rfl, hbl, hc⟩ := LL.at_ hlt
      have HZ := Lib.hid (LL.bs k hlt)
      have hnk := HN.out k hlt
      have hap := hs k hlt
      obtain ⟨A2, n2, c2, f1, f2, f3, f4, f5⟩ := RW.out.form
      have g1 := RW.out.f1
      have g2 := RW.out.f2
      have c1 := RW.out.long
      have hlen : Hid ((fs ++ catTo Zs k).length = n2) := Lib.hid f4
      have F2 := Lib.hid f2
      have F3 := Lib.hid f3
      have hsz := RW.out.lt
      have hst : Hid (fs ++ catTo Zs (k + 1) = fs ++ catTo Zs k ++ Zs k) := Lib.hid (by show fs ++ (catTo Zs k ++ Zs k) = _; rw [List.append_assoc])
      have hsl : Hid (sumTo Ns (k + 1) = sumTo Ns k + Ns k) := Lib.hid rfl
      clear LL f2 f3 f4
      generalize hnn : Ns k = nk at *
      generalize Cs k = ck at *
      generalize As k = ak at *
      by_cases hfit : n2 + nk ≤ 65536
      · have hfi : ¬ (65536 - (n2 : Int)) < (nk : Int) := by omega
        have hnb : some b ≠ (Value.slice A2 n2 c2).ownBlock := fun e => by have := RW.out.own b (F3.out.symm.trans e.symm); omega
        go_wp2_with (at_builtin; refine wpList_appW _ rfl (.tmp 49) (.tmp 50) 26 rfl (b + 1) 5 1 1 Try.underlying26 u8_info (by omega) (.slice A2 n2 c2) n2 (vals (fs ++ catTo Zs k)) rfl F2.out ak nk ck (vals (Zs k)) rfl HZ.out.lies.1 HZ.out.lies.2 (vals_one _) (by unfold maxLen; omega) (by omega) (by omega) ?_; intro v2 w2 ho2 hg2 hw2; obtain ⟨A3, c3, rfl, _, _⟩ := own_shape ho2; have d1 : w2.cell? ⟨b, 2, none⟩ = some (.slice A2 n2 c2) := (World.cell?_of_block (a := ⟨b, 2, none⟩) (hg2.block b hsz hnb)).trans f1; have d2 : w2.frozen? ⟨b, 2, none⟩ = false := (World.frozen?_of_block (a := ⟨b, 2, none⟩) (hg2.block b hsz hnb)).trans g2; have HO := Lib.hid ho2; have HG := Lib.hid hg2; have HWh : Hid ((Value.slice A3 (n2 + nk) c3).ownBlock = (Value.slice A2 n2 c2).ownBlock ∨ ∀ k, (Value.slice A3 (n2 + nk) c3).ownBlock = some k → wr.heap.size ≤ k) := Lib.hid hw2; clear ho2 hg2 hw2)
        have hg3 : wr.grownBy w2 g' := by rw [← F3.out]; exact HG.out
        have W3 := Lib.hid (RW.out.appended hlen.out (HZ.out.len) HZ.out.isBytes HO.out hg3 hfit)
        have O3 : Hid (Wrote w (w2.setCell ⟨b, 2, none⟩ (.slice A3 (n2 + nk) c3)) b g) := Lib.hid (RO.out.trans ((Wrote.of_grown hg3 (.inr (.inr rfl))).trans (Wrote.of_grown (grown_cell w2 ⟨b, 2, none⟩ _) (.inr (.inl rfl))) (.inl rfl)) RF.out)
        have F4 : Hid (Fresh w g (Value.slice A3 (n2 + nk) c3).ownBlock) := Lib.hid (RF.out.trans (by rw [F3.out] at HWh; exact HWh.out) RO.out.size)
        clear hg3
        go_roundw
        case rel => exact ⟨k + 1, by omega, by go_num, _, Lib.hid (by rw [hst.out]; exact W3.out), O3, F4⟩
        case measure => simp [intOf]; omega
      · have hfi : (65536 - (n2 : Int)) < (nk : Int) := by omega
        have W3 := Lib.hid RW.out.tooLong
        have O3 : Hid (Wrote w ((wr.setCell ⟨b, 1, none⟩ (.bool true)).setCell ⟨b, 2, none⟩ (.slice none 0 0)) b g) := Lib.hid (RO.out.trans ((Wrote.of_grown (grown_cell wr ⟨b, 1, none⟩ _) (.inr (.inl rfl))).trans (Wrote.of_grown (grown_cell _ ⟨b, 2, none⟩ _) (.inr (.inl rfl))) (.inl rfl)) RF.out)
        have HP : Hid (wPut (some fs) (catTo Zs m) = none) := Lib.hid (wPut_no _ _ (by
          have e1 := HLen.out m (Nat.le_refl _)
          have e2 := HSum.out (k + 1) (by omega)
          have e3 := HLen.out k hk
          have e4 := hlen.out
          rw [List.length_append, e3] at e4
          have e5 := hsl.out
          omega))
        go_wp2
        go_ret
        exact ⟨rfl, none, by rw [HP.out]; exact W3.out, O3.out, .inr (fun k hk => by cases hk)⟩
    · have hkm : k = m := by omega
      have HP : Hid (wPut (some fs) (catTo Zs m) = some (fs ++ catTo Zs k)) := Lib.hid (by
        rw [← hkm]
        obtain ⟨A2, n2, c2, _, _, _, f4, f5⟩ := RW.out.form
        refine wPut_yes _ _ ?_
        rw [← List.length_append]
        have f6 : (fs ++ catTo Zs k).length = n2 := f4
        omega)
      clear hkm
      go_wp2
      go_ret
      exact ⟨rfl, g', by rw [HP.out]; exact RW.out, RO.out, RF.out⟩
end Go.Proofs.Ytcihbkdpkhhhcaa
