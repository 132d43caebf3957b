/- Messages, entries, members as they stand in memory. -/
import Derived.Test.YtfihiandifnkpaaMsZ
import Derived.Test.YtfihiandifnkpaaB5
import Derived.Test.YtfihiandifnkpaaB1
import Derived.Test.YtfihiandifnkpaaB2
namespace Go.Proofs.Ytfihiandifnkpaa
open Go.ChangeShapes Go.WideShapes Go.ChangeAt Go.RowKit
set_option linter.unusedVariables false
set_option linter.unusedSimpArgs false
set_option maxRecDepth 100000
open Plain Ms
section
variable {α : Type} {f : α → List Value} {k : Nat}
theorem flat_len (hf : ∀ x, (f x).length = k) : ∀ l : List α, (l.flatMap f).length = l.length * k
  | [] => by simp
  | g :: l => by
    have := flat_len hf l
    rw [List.flatMap_cons, List.length_append, hf, this, List.length_cons, Nat.add_mul]; omega
theorem flat_at (hf : ∀ x, (f x).length = k) : ∀ (l : List α) (j : Nat) (g : α), l[j]? = some g → ∀ i, i < k → (l.flatMap f)[j * k + i]? = (f g)[i]?
  | [], j, g, h, i, hi => by simp at h
  | a :: l, 0, g, h, i, hi => by
    obtain rfl : a = g := by simpa using h
    rw [List.flatMap_cons, Nat.zero_mul, Nat.zero_add, List.getElem?_append_left (by rw [hf]; exact hi)]
  | a :: l, j + 1, g, h, i, hi => by
    have := flat_at hf l j g (by simpa using h) i hi
    have e : (j + 1) * k = j * k + k := Nat.succ_mul _ _
    rw [List.flatMap_cons, List.getElem?_append_right (by rw [hf]; omega), hf, show (j + 1) * k + i - k = j * k + i by omega]
    exact this
theorem flat_one (h1 : ∀ x, ∀ u ∈ f x, u.oneCell' = true) (l : List α) : ∀ u ∈ l.flatMap f, u.oneCell' = true := by
  intro u hu
  obtain ⟨x, _, h⟩ := List.mem_flatMap.1 hu
  exact h1 x u h
/-- The n things that the slice at A holds, as cells below block B. -/
structure Rws (f : α → List Value) (w : World) (B : Nat) (A : Option Addr) (n : Nat) (l : List α) : Prop where
  len : l.length = n
  row : 0 < n → ∃ b off, A = some ⟨b, off, none⟩ ∧ b < B ∧ ∀ i u, (l.flatMap f)[i]? = some u → w.cell? ⟨b, off + i, none⟩ = some u
variable {w w' : World} {B B' n : Nat} {A : Option Addr} {l : List α}
theorem Rws.keep (h : Rws f w B A n l) (hk : ∀ p : Addr, p.block < B → w'.cell? p = w.cell? p) : Rws f w' B A n l :=
  ⟨h.len, fun hn => by
    obtain ⟨b, off, rfl, hb, hc⟩ := h.row hn
    exact ⟨b, off, rfl, hb, fun i u hu => (hk ⟨b, off + i, none⟩ hb).trans (hc i u hu)⟩⟩
theorem Rws.below (h : Rws f w B A n l) (hb : Below B' w w') (hB : B ≤ B') : Rws f w' B A n l := h.keep fun _ hp => (hb.mono hB).cell hp
theorem Rws.more (h : Rws f w B A n l) (hB : B ≤ B') : Rws f w B' A n l :=
  ⟨h.len, fun hn => by
    obtain ⟨b, off, rfl, hb, hc⟩ := h.row hn
    exact ⟨b, off, rfl, by omega, hc⟩⟩
theorem Rws.nil : Rws f w B A 0 [] := ⟨rfl, fun h => absurd h (by omega)⟩
theorem Rws.at_ (hf : ∀ x, (f x).length = k) (h : Rws f w B A n l) {j : Nat} (hj : j < n) :
    ∃ b off x, A = some ⟨b, off, none⟩ ∧ b < B ∧ Hid (l[j]? = some x) ∧ x ∈ l ∧ w.rangeAt b (off + j * k) (f x) := by
  obtain ⟨b, off, rfl, hb, hc⟩ := h.row (by omega)
  have hl := h.len
  have hg : l[j]? = some l[j] := List.getElem?_eq_getElem (by omega)
  refine ⟨b, off, l[j], rfl, hb, hg, List.getElem_mem .., fun i v hv => ?_⟩
  have hi : i < k := by have := (List.getElem?_eq_some_iff.1 hv).1; rwa [hf] at this
  have := hc (j * k + i) v (by rw [flat_at hf l j _ hg i hi]; exact hv)
  rwa [← Nat.add_assoc] at this
theorem Rws.lies (hf : ∀ x, (f x).length = k) (hk : 0 < k) (h : Rws f w B A n l) : Lies w k A n (l.flatMap f) ∧ Sourced A n := by
  refine ⟨⟨by rw [flat_len hf, h.len], fun ad hA j u hu => ?_⟩, fun hA => ?_⟩
  · have hj : j < (l.flatMap f).length := (List.getElem?_eq_some_iff.1 hu).1
    rw [flat_len hf, h.len] at hj
    have hn : 0 < n := by
      rcases Nat.eq_zero_or_pos n with h0 | h0
      · rw [h0, Nat.zero_mul] at hj; omega
      · exact h0
    obtain ⟨b, off, e, _, hc⟩ := h.row hn
    rw [hA] at e; injection e with e; subst e
    rw [Go.WideShapes.add_plain]
    exact hc j u hu
  · rcases Nat.eq_zero_or_pos n with h0 | h0
    · exact h0
    · obtain ⟨b, off, e, _⟩ := h.row h0
      rw [hA] at e; cases e
theorem Rws.front (h : Rws f w B A n l) (k : Nat) (hk : k ≤ n) : Rws f w B A k (l.take k) :=
  ⟨by rw [List.length_take, h.len]; omega, fun h0 => by
    obtain ⟨b, off, rfl, hb, hc⟩ := h.row (by omega)
    refine ⟨b, off, rfl, hb, fun i u hu => hc i u ?_⟩
    have e : l.flatMap f = (l.take k).flatMap f ++ (l.drop k).flatMap f := by rw [← List.flatMap_append, List.take_append_drop]
    rw [e, List.getElem?_append_left (List.getElem?_eq_some_iff.1 hu).1]
    exact hu⟩
/-- Every row of its own reads as such. -/
theorem rws_of_own (hf : ∀ x, (f x).length = k) (hk : 0 < k) {base c : Nat} {t : TypeId} (h : w.ownsRow base t k (.slice A n c) n (l.flatMap f)) : Rws f w w.heap.size A n l := by
  have hl : l.length = n := by
    have := h.1
    rw [flat_len hf] at this
    exact Nat.eq_of_mul_eq_mul_right hk this
  refine ⟨hl, fun hn => ?_⟩
  obtain ⟨g, cap, hv, _, hlt⟩ := h.form hn
  have hA : A = some ⟨g, 0, none⟩ := by injection hv
  subst hA
  refine ⟨g, 0, rfl, hlt, fun j u hu => ?_⟩
  have := h.cells (g := g) rfl j u hu
  rwa [← Go.WideShapes.add_plain]
end
namespace Ms
/-- An entry as it stands: with where its body stands. -/
structure EX where
  pos : Int
  stamp : Int
  client : Int
  id : Int
  A : Option Addr
  n : Nat
  c : Nat
  body : List Int
def EX.z (x : EX) : EntZ := ⟨x.pos, x.stamp, x.client, x.id, x.body⟩
def ex0 : EX := ⟨0, 0, 0, 0, none, 0, 0, []⟩
/-- A message as it stands. -/
structure MX where
  kind : Int
  client : Int
  id : Int
  A : Option Addr
  n : Nat
  c : Nat
  body : List Int
  upto : Int
  frm : Int
  EA : Option Addr
  en : Nat
  ecp : Nat
  es : List EX
  hav : Int
  don : Int
  ep : Int
  MA : Option Addr
  mn : Nat
  mcp : Nat
  ms : List MemZ
  since : Int
def MX.z (x : MX) : MsgZ := ⟨x.kind, x.client, x.id, x.body, x.upto, x.frm, x.es.map EX.z, x.hav, x.don, x.ep, x.ms, x.since⟩
def mx0 : MX := ⟨0, 0, 0, none, 0, 0, [], 0, 0, none, 0, 0, [], 0, 0, 0, none, 0, 0, [], 0⟩
def ec (x : EX) : List Value := [.int .i64 x.pos, .int .i64 x.stamp, .int .i64 x.client, .int .i64 x.id, .slice x.A x.n x.c]
def bc (m : MemZ) : List Value := [.int .i64 m.node, .int .i64 m.since, .bool m.whole]
def gc (ep : Int) (A : Option Addr) (n c : Nat) : List Value := [.int .i64 ep, .slice A n c]
def mc (x : MX) : List Value := [.int .u8 x.kind, .int .i64 x.client, .int .i64 x.id, .slice x.A x.n x.c, .int .i64 x.upto, .int .i64 x.frm, .slice x.EA x.en x.ecp, .int .i64 x.hav, .int .i64 x.don, .int .i64 x.ep, .slice x.MA x.mn x.mcp, .int .i64 x.since]
theorem ec_len (x : EX) : (ec x).length = 5 := rfl
theorem bc_len (x : MemZ) : (bc x).length = 3 := rfl
theorem mc_len (x : MX) : (mc x).length = 12 := rfl
theorem ec_one (x : EX) : ∀ u ∈ ec x, u.oneCell' = true := by
  intro u hu
  unfold ec at hu
  simp only [List.mem_cons, List.not_mem_nil, or_false] at hu
  rcases hu with rfl | rfl | rfl | rfl | rfl <;> rfl
theorem bc_one (x : MemZ) : ∀ u ∈ bc x, u.oneCell' = true := by
  intro u hu
  unfold bc at hu
  simp only [List.mem_cons, List.not_mem_nil, or_false] at hu
  rcases hu with rfl | rfl | rfl <;> rfl
theorem gc_one (ep : Int) (A : Option Addr) (n c : Nat) : ∀ u ∈ gc ep A n c, u.oneCell' = true := by
  intro u hu
  unfold gc at hu
  simp only [List.mem_cons, List.not_mem_nil, or_false] at hu
  rcases hu with rfl | rfl <;> rfl
theorem mc_one (x : MX) : ∀ u ∈ mc x, u.oneCell' = true := by
  intro u hu
  unfold mc at hu
  simp only [List.mem_cons, List.not_mem_nil, or_false] at hu
  rcases hu with rfl | rfl | rfl | rfl | rfl | rfl | rfl | rfl | rfl | rfl | rfl | rfl <;> rfl
end Ms
/-- An entry whose body stands below block B. -/
structure EOk (w : World) (B : Nat) (x : EX) : Prop where
  pos : InM x.pos
  stamp : InM x.stamp
  client : InM x.client
  id : InM x.id
  cap : x.n ≤ x.c
  max : x.c ≤ maxLen
  body : Bs w B x.A x.n x.body
/-- Entries, members, a message. -/
structure Ents (w : World) (B : Nat) (A : Option Addr) (n : Nat) (l : List EX) : Prop where
  row : Rws ec w B A n l
  ok : ∀ x, x ∈ l → EOk w B x
structure Mems (w : World) (B : Nat) (A : Option Addr) (n : Nat) (l : List MemZ) : Prop where
  row : Rws bc w B A n l
  ok : ∀ x, x ∈ l → MemOk x
structure MXOk (w : World) (B : Nat) (x : MX) : Prop where
  kind : 0 ≤ x.kind ∧ x.kind < 256
  client : InM x.client
  id : InM x.id
  cap : x.n ≤ x.c
  max : x.c ≤ maxLen
  body : Bs w B x.A x.n x.body
  upto : InM x.upto
  frm : InM x.frm
  ecap : x.en ≤ x.ecp
  emax : x.ecp ≤ maxLen
  es : Ents w B x.EA x.en x.es
  hav : InM x.hav
  don : InM x.don
  ep : InM x.ep
  mcap : x.mn ≤ x.mcp
  mmax : x.mcp ≤ maxLen
  ms : Mems w B x.MA x.mn x.ms
  since : InM x.since
section
variable {w w' : World} {B B' n : Nat} {A : Option Addr} {x : EX} {l : List EX} {ml : List MemZ} {m : MX}
theorem EOk.keep (h : EOk w B x) (hk : ∀ p : Addr, p.block < B → w'.cell? p = w.cell? p) : EOk w' B x := ⟨h.pos, h.stamp, h.client, h.id, h.cap, h.max, h.body.keep hk⟩
theorem EOk.below (h : EOk w B x) (hb : Below B' w w') (hB : B ≤ B') : EOk w' B x := h.keep fun _ hp => (hb.mono hB).cell hp
theorem EOk.more (h : EOk w B x) (hB : B ≤ B') : EOk w B' x := ⟨h.pos, h.stamp, h.client, h.id, h.cap, h.max, h.body.more hB⟩
theorem Ents.keep (h : Ents w B A n l) (hk : ∀ p : Addr, p.block < B → w'.cell? p = w.cell? p) : Ents w' B A n l := ⟨h.row.keep hk, fun x hx => (h.ok x hx).keep hk⟩
theorem Ents.below (h : Ents w B A n l) (hb : Below B' w w') (hB : B ≤ B') : Ents w' B A n l := h.keep fun _ hp => (hb.mono hB).cell hp
theorem Ents.more (h : Ents w B A n l) (hB : B ≤ B') : Ents w B' A n l := ⟨h.row.more hB, fun x hx => (h.ok x hx).more hB⟩
theorem Mems.keep (h : Mems w B A n ml) (hk : ∀ p : Addr, p.block < B → w'.cell? p = w.cell? p) : Mems w' B A n ml := ⟨h.row.keep hk, h.ok⟩
theorem Mems.below (h : Mems w B A n ml) (hb : Below B' w w') (hB : B ≤ B') : Mems w' B A n ml := h.keep fun _ hp => (hb.mono hB).cell hp
theorem Mems.more (h : Mems w B A n ml) (hB : B ≤ B') : Mems w B' A n ml := ⟨h.row.more hB, h.ok⟩
theorem MXOk.keep (h : MXOk w B m) (hk : ∀ p : Addr, p.block < B → w'.cell? p = w.cell? p) : MXOk w' B m :=
  ⟨h.kind, h.client, h.id, h.cap, h.max, h.body.keep hk, h.upto, h.frm, h.ecap, h.emax, h.es.keep hk, h.hav, h.don, h.ep, h.mcap, h.mmax, h.ms.keep hk, h.since⟩
theorem MXOk.below (h : MXOk w B m) (hb : Below B' w w') (hB : B ≤ B') : MXOk w' B m := h.keep fun _ hp => (hb.mono hB).cell hp
theorem MXOk.more (h : MXOk w B m) (hB : B ≤ B') : MXOk w B' m :=
  ⟨h.kind, h.client, h.id, h.cap, h.max, h.body.more hB, h.upto, h.frm, h.ecap, h.emax, h.es.more hB, h.hav, h.don, h.ep, h.mcap, h.mmax, h.ms.more hB, h.since⟩
theorem EOk.grow (h : EOk w B x) (hb : Below w.heap.size w w') (hB : B ≤ w.heap.size) : EOk w' w'.heap.size x := (h.below hb hB).more (Nat.le_trans hB hb.size)
theorem Ents.grow (h : Ents w B A n l) (hb : Below w.heap.size w w') (hB : B ≤ w.heap.size) : Ents w' w'.heap.size A n l := (h.below hb hB).more (Nat.le_trans hB hb.size)
theorem Mems.grow (h : Mems w B A n ml) (hb : Below w.heap.size w w') (hB : B ≤ w.heap.size) : Mems w' w'.heap.size A n ml := (h.below hb hB).more (Nat.le_trans hB hb.size)
theorem MXOk.grow (h : MXOk w B m) (hb : Below w.heap.size w w') (hB : B ≤ w.heap.size) : MXOk w' w'.heap.size m := (h.below hb hB).more (Nat.le_trans hB hb.size)
end
theorem inM0 : InM 0 := by unfold InM; omega
theorem ents0 (w : World) (B : Nat) : Ents w B none 0 [] := ⟨Rws.nil, fun x h => by simp at h⟩
theorem mems0 (w : World) (B : Nat) : Mems w B none 0 [] := ⟨Rws.nil, fun x h => by simp at h⟩
theorem ex0_ok (w : World) (B : Nat) : EOk w B ex0 := ⟨inM0, inM0, inM0, inM0, Nat.le_refl _, by simp [ex0, maxLen], Bs.nil⟩
theorem mx0_ok (w : World) (B : Nat) : MXOk w B mx0 := ⟨by unfold mx0; dsimp only; omega, inM0, inM0, Nat.le_refl _, by simp [mx0, maxLen], Bs.nil, inM0, inM0, Nat.le_refl _, by simp [mx0, maxLen], ents0 w B, inM0, inM0, inM0, Nat.le_refl _, by simp [mx0, maxLen], mems0 w B, inM0⟩
theorem mx0_z : mx0.z = mz0 := rfl
theorem m_size (x : MX) : (Try.prog.info? 28).map (·.size) = some (mc x).length := by rw [mc_len]; kernel_rfl
theorem m_sizeA (x : MX) : (Try.prog.info? 28).map (·.size) = some (mc x).toArray.size := by rw [List.size_toArray]; exact m_size x
theorem m_oneA (x : MX) : (mc x).toArray.all (·.oneCell') = true := all_oneCell_toArray (mc_one x)
theorem e_size (x : EX) : (Try.prog.info? 42).map (·.size) = some (ec x).length := by rw [ec_len]; kernel_rfl
theorem e_sizeA (x : EX) : (Try.prog.info? 42).map (·.size) = some (ec x).toArray.size := by rw [List.size_toArray]; exact e_size x
theorem e_oneA (x : EX) : (ec x).toArray.all (·.oneCell') = true := all_oneCell_toArray (ec_one x)
theorem b_size (x : MemZ) : (Try.prog.info? 91).map (·.size) = some (bc x).length := by rw [bc_len]; kernel_rfl
theorem b_sizeA (x : MemZ) : (Try.prog.info? 91).map (·.size) = some (bc x).toArray.size := by rw [List.size_toArray]; exact b_size x
theorem b_oneA (x : MemZ) : (bc x).toArray.all (·.oneCell') = true := all_oneCell_toArray (bc_one x)
theorem g_size (ep : Int) (A : Option Addr) (n c : Nat) : (Try.prog.info? 26).map (·.size) = some (gc ep A n c).length := by show _ = some 2; kernel_rfl
theorem g_sizeA (ep : Int) (A : Option Addr) (n c : Nat) : (Try.prog.info? 26).map (·.size) = some (gc ep A n c).toArray.size := by rw [List.size_toArray]; exact g_size ep A n c
theorem g_oneA (ep : Int) (A : Option Addr) (n c : Nat) : (gc ep A n c).toArray.all (·.oneCell') = true := all_oneCell_toArray (gc_one ep A n c)
theorem e_info : ∃ i z, Try.prog.info? 42 = some i ∧ i.zero = some z ∧ i.size = 5 ∧ i.bytes = 56 ∧ z.cells.size = 5 := by
  obtain ⟨i, hi, hz, hs, hb⟩ := info_parts (show (Try.prog.info? 42).map (fun i => (i.zero, i.size, i.bytes)) = some (some (.agg (ec ex0).toArray), 5, 56) by kernel_rfl)
  exact ⟨i, _, hi, hz, hs, hb, rfl⟩
theorem b_info : ∃ i z, Try.prog.info? 91 = some i ∧ i.zero = some z ∧ i.size = 3 ∧ i.bytes = 24 ∧ z.cells.size = 3 := by
  obtain ⟨i, hi, hz, hs, hb⟩ := info_parts (show (Try.prog.info? 91).map (fun i => (i.zero, i.size, i.bytes)) = some (some (.agg (bc mm0).toArray), 3, 24) by kernel_rfl)
  exact ⟨i, _, hi, hz, hs, hb, rfl⟩
/-- What their cells read as, wherever they stand. -/
theorem rng_e {w : World} {b o : Nat} {x : EX} (h : w.rangeAt b o (ec x)) : w.cell? ⟨b, o, none⟩ = some (.int .i64 x.pos) ∧ w.cell? ⟨b, o + 1, none⟩ = some (.int .i64 x.stamp) ∧ w.cell? ⟨b, o + 2, none⟩ = some (.int .i64 x.client) ∧ w.cell? ⟨b, o + 3, none⟩ = some (.int .i64 x.id) ∧ w.cell? ⟨b, o + 4, none⟩ = some (.slice x.A x.n x.c) :=
  ⟨h 0 _ rfl, h 1 _ rfl, h 2 _ rfl, h 3 _ rfl, h 4 _ rfl⟩
theorem rng_b {w : World} {b o : Nat} {x : MemZ} (h : w.rangeAt b o (bc x)) : w.cell? ⟨b, o, none⟩ = some (.int .i64 x.node) ∧ w.cell? ⟨b, o + 1, none⟩ = some (.int .i64 x.since) ∧ w.cell? ⟨b, o + 2, none⟩ = some (.bool x.whole) :=
  ⟨h 0 _ rfl, h 1 _ rfl, h 2 _ rfl⟩
theorem rng_m {w : World} {b o : Nat} {x : MX} (h : w.rangeAt b o (mc x)) : w.cell? ⟨b, o, none⟩ = some (.int .u8 x.kind) ∧ w.cell? ⟨b, o + 1, none⟩ = some (.int .i64 x.client) ∧ w.cell? ⟨b, o + 2, none⟩ = some (.int .i64 x.id) ∧ w.cell? ⟨b, o + 3, none⟩ = some (.slice x.A x.n x.c) ∧ w.cell? ⟨b, o + 4, none⟩ = some (.int .i64 x.upto) ∧ w.cell? ⟨b, o + 5, none⟩ = some (.int .i64 x.frm) ∧ w.cell? ⟨b, o + 6, none⟩ = some (.slice x.EA x.en x.ecp) ∧ w.cell? ⟨b, o + 7, none⟩ = some (.int .i64 x.hav) ∧ w.cell? ⟨b, o + 8, none⟩ = some (.int .i64 x.don) ∧ w.cell? ⟨b, o + 9, none⟩ = some (.int .i64 x.ep) ∧ w.cell? ⟨b, o + 10, none⟩ = some (.slice x.MA x.mn x.mcp) ∧ w.cell? ⟨b, o + 11, none⟩ = some (.int .i64 x.since) :=
  ⟨h 0 _ rfl, h 1 _ rfl, h 2 _ rfl, h 3 _ rfl, h 4 _ rfl, h 5 _ rfl, h 6 _ rfl, h 7 _ rfl, h 8 _ rfl, h 9 _ rfl, h 10 _ rfl, h 11 _ rfl⟩
end Go.Proofs.Ytfihiandifnkpaa
