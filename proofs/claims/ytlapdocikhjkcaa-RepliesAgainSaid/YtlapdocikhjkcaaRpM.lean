/- Replies and what clients were told last: cells, rows, variables. -/
import Derived.Test.YtlapdocikhjkcaaRpL
namespace Go.Proofs.Ytlapdocikhjkcaa
open Go.ChangeShapes Go.WideShapes Go.ChangeAt Go.RowKit
set_option linter.unusedVariables false
set_option linter.unusedSimpArgs false
open Plain Sha Au
namespace Rp
/-- A reply, plain. -/
structure RepZ where
  err : Int
  val : ByteArray
  ks : List ByteArray
  n : Int
  g : LinkZ
/-- What a client was told last, plain. -/
structure LastZ where
  c : Int
  id : Int
  r : RepZ
/-- A reply as it stands: with where its keys stand. -/
structure RX where
  err : Int
  val : ByteArray
  A : Option Addr
  kn : Nat
  kc : Nat
  ks : List ByteArray
  n : Int
  g : LinkZ
structure LX where
  c : Int
  id : Int
  r : RX
def RX.z (x : RX) : RepZ := ⟨x.err, x.val, x.ks, x.n, x.g⟩
def LX.z (x : LX) : LastZ := ⟨x.c, x.id, x.r.z⟩
/-- Are two replies the same; two tables? -/
def repB (a b : RepZ) : Bool := a.err == b.err && decide (a.val = b.val) && decide (a.ks = b.ks) && a.n == b.n && lkB a.g b.g
theorem repB_refl (a : RepZ) : repB a a = true := by simp [repB, lkB_refl]
def lastB (a b : LastZ) : Bool := a.c == b.c && a.id == b.id && repB a.r b.r
theorem lastB_refl (a : LastZ) : lastB a a = true := by simp [lastB, repB_refl]
def tabB : List LastZ → List LastZ → Bool
  | [], [] => true
  | a :: r, b :: s => lastB a b && tabB r s
  | _, _ => false
theorem tabB_refl : ∀ l, tabB l l = true
  | [] => rfl
  | a :: r => by simp [tabB, lastB_refl, tabB_refl r]
theorem tabB_len : ∀ {a b : List LastZ}, a.length ≠ b.length → tabB a b = false
  | [], [], h => absurd rfl h
  | [], _ :: _, _ => rfl
  | _ :: _, [], _ => rfl
  | a :: r, b :: s, h => by
    simp only [tabB]
    rw [tabB_len (by simpa using h), Bool.and_false]
theorem tabB_no : ∀ {a b : List LastZ} {k : Nat} {x y : LastZ}, a[k]? = some x → b[k]? = some y → lastB x y = false → tabB a b = false
  | [], _, k, x, y, h, _, _ => by simp at h
  | _ :: _, [], k, x, y, _, h, _ => by simp at h
  | a :: r, b :: s, 0, x, y, h1, h2, h3 => by
    simp at h1 h2; subst h1 h2
    simp [tabB, h3]
  | a :: r, b :: s, k + 1, x, y, h1, h2, h3 => by
    simp only [tabB]
    rw [tabB_no (a := r) (b := s) (k := k) (by simpa using h1) (by simpa using h2) h3, Bool.and_false]
theorem tabB_yes : ∀ {a b : List LastZ}, a.length = b.length → (∀ (k : Nat) (x y : LastZ), a[k]? = some x → b[k]? = some y → lastB x y = true) → tabB a b = true
  | [], [], _, _ => rfl
  | [], _ :: _, h, _ => by simp at h
  | _ :: _, [], h, _ => by simp at h
  | a :: r, b :: s, h, hk => by
    simp only [tabB]
    rw [hk 0 a b rfl rfl, Bool.true_and]
    exact tabB_yes (by simpa using h) (fun k x y h1 h2 => hk (k + 1) x y (by simpa using h1) (by simpa using h2))
def r0 : RX := ⟨0, ByteArray.empty, none, 0, 0, [], 0, l0⟩
def x0 : LX := ⟨0, 0, r0⟩
/-- The cells of a reply; of what a client was told last. -/
def rhead (x : RX) : List Value := [.int .i64 x.err, .string x.val, .slice x.A x.kn x.kc, .int .i64 x.n]
def rc (x : RX) : List Value := rhead x ++ lc x.g
def xc (x : LX) : List Value := [.int .i64 x.c, .int .i64 x.id] ++ rc x.r
theorem rc_len (x : RX) : (rc x).length = 75 := by unfold rc; rw [List.length_append, lc_len]; rfl
theorem xc_len (x : LX) : (xc x).length = 77 := by unfold xc; rw [List.length_append, rc_len]; rfl
theorem rc_one (x : RX) : ∀ u ∈ rc x, u.oneCell' = true := by
  intro u hu
  unfold rc rhead at hu
  rw [List.mem_append] at hu
  rcases hu with hu | hu
  · simp only [List.mem_cons, List.not_mem_nil, or_false] at hu
    rcases hu with rfl | rfl | rfl | rfl <;> rfl
  · exact lc_one _ u hu
theorem xc_one (x : LX) : ∀ u ∈ xc x, u.oneCell' = true := by
  intro u hu
  unfold xc at hu
  rw [List.mem_append] at hu
  rcases hu with hu | hu
  · simp only [List.mem_cons, List.not_mem_nil, or_false] at hu
    rcases hu with rfl | rfl <;> rfl
  · exact rc_one _ u hu
theorem rc_g (x : RX) (j : Nat) : (rc x)[4 + j]? = (lc x.g)[j]? := by
  unfold rc
  rw [List.getElem?_append_right (by simp [rhead])]
  congr 1
  simp [rhead]
theorem xc_r (x : LX) (j : Nat) : (xc x)[2 + j]? = (rc x.r)[j]? := by
  unfold xc
  rw [List.getElem?_append_right (by simp)]
  congr 1
  simp
def xvs : List LX → List Value
  | [] => []
  | x :: l => xc x ++ xvs l
theorem xvs_len : ∀ l, (xvs l).length = l.length * 77
  | [] => rfl
  | g :: l => by simp only [xvs, List.length_append, xc_len, List.length_cons, xvs_len l]; omega
theorem xvs_app : ∀ a b, xvs (a ++ b) = xvs a ++ xvs b
  | [], b => rfl
  | g :: a, b => by simp [xvs, xvs_app a b]
theorem xvs_sing (g : LX) : xvs [g] = xc g := by simp [xvs]
theorem xvs_one : ∀ l, ∀ u ∈ xvs l, u.oneCell' = true
  | [], u, h => by simp [xvs] at h
  | g :: l, u, h => by
    simp only [xvs, List.mem_append] at h
    rcases h with h | h
    · exact xc_one g u h
    · exact xvs_one l u h
theorem xvs_at : ∀ (l : List LX) (j : Nat) (g : LX), l[j]? = some g → ∀ i, i < 77 → (xvs l)[j * 77 + i]? = (xc g)[i]?
  | [], j, g, h, i, hi => by simp at h
  | a :: l, 0, g, h, i, hi => by
    obtain rfl : a = g := by simpa using h
    simp only [xvs]
    rw [Nat.zero_mul, Nat.zero_add, List.getElem?_append_left (by rw [xc_len]; exact hi)]
  | a :: l, j + 1, g, h, i, hi => by
    have := xvs_at l j g (by simpa using h) i hi
    simp only [xvs]
    rw [List.getElem?_append_right (by rw [xc_len]; omega), xc_len, show (j + 1) * 77 + i - 77 = j * 77 + i by omega]
    exact this
theorem xvs_drop : ∀ (l : List LX) (k : Nat), (xvs l).drop (k * 77) = xvs (l.drop k)
  | [], k => by simp [xvs]
  | a :: l, 0 => by simp
  | a :: l, k + 1 => by
    simp only [xvs, List.drop_succ_cons]
    rw [show (k + 1) * 77 = (xc a).length + k * 77 by rw [xc_len]; omega, List.drop_append, List.drop_of_length_le (by omega), List.nil_append, Nat.add_sub_cancel_left, xvs_drop l k]
def svs (l : List ByteArray) : List Value := l.map Value.string
theorem svs_len (l : List ByteArray) : (svs l).length = l.length := by simp [svs]
theorem svs_app (a b : List ByteArray) : svs (a ++ b) = svs a ++ svs b := by simp [svs]
theorem svs_one (l : List ByteArray) : ∀ u ∈ svs l, u.oneCell' = true := by
  intro u hu
  simp only [svs, List.mem_map] at hu
  obtain ⟨z, _, rfl⟩ := hu
  rfl
end Rp
open Rp
/-- A row of texts. -/
structure Sr (w : World) (B : Nat) (A : Option Addr) (n : Nat) (zs : List ByteArray) : Prop where
  len : zs.length = n
  row : 0 < n → ∃ b off, A = some ⟨b, off, none⟩ ∧ b < B ∧ ∀ j z, zs[j]? = some z → w.cell? ⟨b, off + j, none⟩ = some (.string z)
section
variable {w w' : World} {B B' n : Nat} {A : Option Addr} {zs : List ByteArray}
theorem Sr.keep (h : Sr w B A n zs) (hk : ∀ p : Addr, p.block < B → w'.cell? p = w.cell? p) : Sr w' B A n zs :=
  ⟨h.len, fun hn => by
    obtain ⟨b, off, rfl, h1, hc⟩ := h.row hn
    exact ⟨b, off, rfl, h1, fun j z hz => (hk ⟨b, off + j, none⟩ h1).trans (hc j z hz)⟩⟩
theorem Sr.below (h : Sr w B A n zs) (hb : Below B' w w') (hB : B ≤ B') : Sr w' B A n zs := h.keep fun _ hp => (hb.mono hB).cell hp
theorem Sr.more (h : Sr w B A n zs) (hB : B ≤ B') : Sr w B' A n zs :=
  ⟨h.len, fun hn => by
    obtain ⟨b, off, rfl, hb, hc⟩ := h.row hn
    exact ⟨b, off, rfl, by omega, hc⟩⟩
theorem Sr.nil : Sr w B A 0 [] := ⟨rfl, fun h => absurd h (by omega)⟩
theorem Sr.at_ (h : Sr w B A n zs) {k : Nat} (hk : k < n) : ∃ b off z, A = some ⟨b, off, none⟩ ∧ b < B ∧ Hid (zs[k]? = some z) ∧ w.cell? ⟨b, off + k, none⟩ = some (.string z) := by
  obtain ⟨b, off, rfl, hb, hc⟩ := h.row (by omega)
  have hkl : k < zs.length := by rw [h.len]; exact hk
  have hg : zs[k]? = some zs[k] := List.getElem?_eq_getElem hkl
  exact ⟨b, off, zs[k], rfl, hb, hg, hc k _ hg⟩
theorem Sr.lies (h : Sr w B A n zs) : Lies w 1 A n (svs zs) ∧ Sourced A n := by
  refine ⟨⟨by rw [svs_len, h.len, Nat.mul_one], fun ad hA j u hu => ?_⟩, fun hA => ?_⟩
  · have hj : j < (svs zs).length := (List.getElem?_eq_some_iff.1 hu).1
    rw [svs_len, h.len] at hj
    obtain ⟨b, off, e, _, hc⟩ := h.row (by omega)
    rw [hA] at e; injection e with e; subst e
    rw [Go.WideShapes.add_plain]
    rw [svs, List.getElem?_map] at hu
    cases hz : zs[j]? with
    | none => rw [hz] at hu; cases hu
    | some z => rw [hz] at hu; injection hu with hu; subst hu; exact hc j z hz
  · rcases Nat.eq_zero_or_pos n with h0 | h0
    · exact h0
    · obtain ⟨b, off, e, _⟩ := h.row h0
      rw [hA] at e; cases e
end
theorem sr_of_own {w : World} {base n c : Nat} {t : TypeId} {A : Option Addr} {zs : List ByteArray} (h : w.ownsRow base t 1 (.slice A n c) n (svs zs)) : Sr w w.heap.size A n zs := by
  have hl : zs.length = n := by have := h.1; rw [svs_len] at this; omega
  refine ⟨hl, fun hn => ?_⟩
  obtain ⟨g, cap, hv, _, hlt⟩ := h.form hn
  have hA : A = some ⟨g, 0, none⟩ := by injection hv
  subst hA
  refine ⟨g, 0, rfl, hlt, fun j z hz => ?_⟩
  have := h.cells (g := g) rfl j (.string z) (by rw [svs, List.getElem?_map, hz]; rfl)
  rwa [← Go.WideShapes.add_plain]
theorem own_shapeA {w : World} {base n size : Nat} {t : TypeId} {v : Value} {xs : List Value} (h : w.ownsRow base t size v n xs) : ∃ A c, v = .slice A n c ∧ n ≤ c ∧ c ≤ maxLen := by
  rcases h.2 with ⟨rfl, rfl⟩ | ⟨g, cap, cur, rfl, _, _, h1, h2, _⟩
  · exact ⟨none, 0, rfl, Nat.le_refl _, by simp [maxLen]⟩
  · exact ⟨_, _, rfl, h1, h2⟩
/-- A reply whose keys stand below block B. -/
structure ROk (w : World) (B : Nat) (x : RX) : Prop where
  err : InA x.err
  n : InA x.n
  g : LOk x.g
  kc : x.kn ≤ x.kc
  km : x.kc ≤ maxLen
  ks : Sr w B x.A x.kn x.ks
structure XOk (w : World) (B : Nat) (x : LX) : Prop where
  c : InA x.c
  id : InA x.id
  r : ROk w B x.r
section
variable {w w' : World} {B B' : Nat} {x : RX} {y : LX}
theorem ROk.keep (h : ROk w B x) (hk : ∀ p : Addr, p.block < B → w'.cell? p = w.cell? p) : ROk w' B x := ⟨h.err, h.n, h.g, h.kc, h.km, h.ks.keep hk⟩
theorem ROk.below (h : ROk w B x) (hb : Below B' w w') (hB : B ≤ B') : ROk w' B x := h.keep fun _ hp => (hb.mono hB).cell hp
theorem ROk.more (h : ROk w B x) (hB : B ≤ B') : ROk w B' x := ⟨h.err, h.n, h.g, h.kc, h.km, h.ks.more hB⟩
theorem ROk.grow (h : ROk w B x) (hb : Below w.heap.size w w') (hB : B ≤ w.heap.size) : ROk w' w'.heap.size x := (h.below hb hB).more (Nat.le_trans hB hb.size)
theorem XOk.keep (h : XOk w B y) (hk : ∀ p : Addr, p.block < B → w'.cell? p = w.cell? p) : XOk w' B y := ⟨h.c, h.id, h.r.keep hk⟩
theorem XOk.below (h : XOk w B y) (hb : Below B' w w') (hB : B ≤ B') : XOk w' B y := ⟨h.c, h.id, h.r.below hb hB⟩
theorem XOk.more (h : XOk w B y) (hB : B ≤ B') : XOk w B' y := ⟨h.c, h.id, h.r.more hB⟩
theorem XOk.grow (h : XOk w B y) (hb : Below w.heap.size w w') (hB : B ≤ w.heap.size) : XOk w' w'.heap.size y := (h.below hb hB).more (Nat.le_trans hB hb.size)
end
theorem l0_ok : LOk l0 := ⟨by unfold InA l0; dsimp only; omega, by unfold InA l0; dsimp only; omega, by unfold l0; dsimp only; omega, by unfold InA l0; dsimp only; omega, by unfold InA l0; dsimp only; omega, by unfold InA l0; dsimp only; omega, by unfold InA l0; dsimp only; omega, rep_bytes 32 0 (by omega) (by omega), rep_bytes 32 0 (by omega) (by omega)⟩
theorem r0_ok (w : World) (B : Nat) : ROk w B r0 := ⟨by unfold InA r0; dsimp only; omega, by unfold InA r0; dsimp only; omega, l0_ok, Nat.le_refl _, by simp [r0, maxLen], Sr.nil⟩
theorem x0_ok (w : World) (B : Nat) : XOk w B x0 := ⟨by unfold InA x0; dsimp only; omega, by unfold InA x0; dsimp only; omega, r0_ok w B⟩
/-- The table that the slice at A holds; it, and its keys, read below block B. -/
structure Las (w : World) (B : Nat) (A : Option Addr) (n : Nat) (l : List LX) : Prop where
  len : l.length = n
  row : 0 < n → ∃ b off, A = some ⟨b, off, none⟩ ∧ b < B ∧ ∀ i u, (xvs l)[i]? = some u → w.cell? ⟨b, off + i, none⟩ = some u
  ok : ∀ x, x ∈ l → XOk w B x
section
variable {w w' : World} {B B' n : Nat} {A : Option Addr} {l : List LX}
theorem Las.keep (h : Las w B A n l) (hk : ∀ p : Addr, p.block < B → w'.cell? p = w.cell? p) : Las w' B A n l :=
  ⟨h.len, fun hn => by
    obtain ⟨b, off, rfl, hb, hc⟩ := h.row hn
    exact ⟨b, off, rfl, hb, fun i u hu => (hk ⟨b, off + i, none⟩ hb).trans (hc i u hu)⟩, fun x hx => (h.ok x hx).keep hk⟩
theorem Las.below (h : Las w B A n l) (hb : Below B' w w') (hB : B ≤ B') : Las w' B A n l := h.keep fun _ hp => (hb.mono hB).cell hp
theorem Las.more (h : Las w B A n l) (hB : B ≤ B') : Las w B' A n l :=
  ⟨h.len, fun hn => by
    obtain ⟨b, off, rfl, hb, hc⟩ := h.row hn
    exact ⟨b, off, rfl, by omega, hc⟩, fun x hx => (h.ok x hx).more hB⟩
theorem Las.grow (h : Las w B A n l) (hb : Below w.heap.size w w') (hB : B ≤ w.heap.size) : Las w' w'.heap.size A n l := (h.below hb hB).more (Nat.le_trans hB hb.size)
theorem Las.nil : Las w B A 0 [] := ⟨rfl, fun h => absurd h (by omega), fun g h => by simp at h⟩
theorem Las.at_ (h : Las w B A n l) {k : Nat} (hk : k < n) :
    ∃ b off x, A = some ⟨b, off, none⟩ ∧ b < B ∧ Hid (l[k]? = some x) ∧ XOk w B x ∧ w.rangeAt b (off + k * 77) (xc x) := by
  obtain ⟨b, off, rfl, hb, hc⟩ := h.row (by omega)
  have hl := h.len
  have hg : l[k]? = some l[k] := List.getElem?_eq_getElem (by omega)
  refine ⟨b, off, l[k], rfl, hb, hg, h.ok _ (List.getElem_mem ..), fun j v hv => ?_⟩
  have hj : j < 77 := by have := (List.getElem?_eq_some_iff.1 hv).1; rwa [xc_len] at this
  have := hc (k * 77 + j) v (by rw [xvs_at l k _ hg j hj]; exact hv)
  rwa [← Nat.add_assoc] at this
theorem Las.lies (h : Las w B A n l) : Lies w 77 A n (xvs l) ∧ Sourced A n := by
  refine ⟨⟨by rw [xvs_len, h.len], fun ad hA j u hu => ?_⟩, fun hA => ?_⟩
  · have hj : j < (xvs l).length := (List.getElem?_eq_some_iff.1 hu).1
    rw [xvs_len, h.len] at hj
    obtain ⟨b, off, e, _, hc⟩ := h.row (by omega)
    rw [hA] at e; injection e with e; subst e
    rw [Go.WideShapes.add_plain]
    exact hc j u hu
  · rcases Nat.eq_zero_or_pos n with h0 | h0
    · exact h0
    · obtain ⟨b, off, e, _⟩ := h.row h0
      rw [hA] at e; cases e
theorem Las.front (h : Las w B A n l) (k : Nat) (hk : k ≤ n) : Las w B A k (l.take k) :=
  ⟨by rw [List.length_take, h.len]; omega, fun h0 => by
    obtain ⟨b, off, rfl, hb, hc⟩ := h.row (by omega)
    refine ⟨b, off, rfl, hb, fun i u hu => hc i u ?_⟩
    have e : xvs l = xvs (l.take k) ++ xvs (l.drop k) := by rw [← xvs_app, List.take_append_drop]
    rw [e, List.getElem?_append_left (List.getElem?_eq_some_iff.1 hu).1]
    exact hu, fun g hg => h.ok g (List.mem_of_mem_take hg)⟩
theorem Las.back (h : Las w B A n l) (k : Nat) (hk : k ≤ n) (T : Option Addr) (hT : 0 < n - k → T = A.map fun x => x.add (k * 77)) : Las w B T (n - k) (l.drop k) :=
  ⟨by rw [List.length_drop, h.len], fun h0 => by
    obtain ⟨b, off, rfl, hb, hc⟩ := h.row (by omega)
    refine ⟨b, off + k * 77, by rw [hT h0, Option.map_some, Go.WideShapes.add_plain], hb, fun i u hu => ?_⟩
    have := hc (k * 77 + i) u (by rw [← List.getElem?_drop, xvs_drop]; exact hu)
    rwa [← Nat.add_assoc] at this, fun g hg => h.ok g (List.mem_of_mem_drop hg)⟩
end
/-- Every row of its own reads as a table. -/
theorem las_of_own {w : World} {base c n : Nat} {t : TypeId} {A : Option Addr} {l : List LX} (h : w.ownsRow base t 77 (.slice A n c) n (xvs l)) (hok : ∀ x, x ∈ l → XOk w w.heap.size x) : Las w w.heap.size A n l := by
  have hl : l.length = n := by have := h.1; rw [xvs_len] at this; omega
  refine ⟨hl, fun hn => ?_, hok⟩
  obtain ⟨g, cap, hv, _, hlt⟩ := h.form hn
  have hA : A = some ⟨g, 0, none⟩ := by injection hv
  subst hA
  refine ⟨g, 0, rfl, hlt, fun j u hu => ?_⟩
  have := h.cells (g := g) rfl j u hu
  rwa [← Go.WideShapes.add_plain]
/-- What the parts of it read as, wherever it stands. -/
theorem rng_x {w : World} {b o : Nat} {x : LX} (h : w.rangeAt b o (xc x)) : w.cell? ⟨b, o, none⟩ = some (.int .i64 x.c) ∧ w.cell? ⟨b, o + 1, none⟩ = some (.int .i64 x.id) ∧ w.rangeAt b (o + 2) (rc x.r) :=
  ⟨h 0 _ rfl, h 1 _ rfl, fun j v hv => by
    have := h (2 + j) v (by rw [xc_r]; exact hv)
    rwa [← Nat.add_assoc] at this⟩
theorem rng_r {w : World} {b o : Nat} {x : RX} (h : w.rangeAt b o (rc x)) : w.cell? ⟨b, o, none⟩ = some (.int .i64 x.err) ∧ w.cell? ⟨b, o + 1, none⟩ = some (.string x.val) ∧ w.cell? ⟨b, o + 2, none⟩ = some (.slice x.A x.kn x.kc) ∧ w.cell? ⟨b, o + 3, none⟩ = some (.int .i64 x.n) ∧ w.rangeAt b (o + 4) (lc x.g) :=
  ⟨h 0 _ rfl, h 1 _ rfl, h 2 _ rfl, h 3 _ rfl, fun j v hv => by
    have := h (4 + j) v (by rw [rc_g]; exact hv)
    rwa [← Nat.add_assoc] at this⟩
theorem r_size (x : RX) : (Try.prog.info? 33).map (·.size) = some (rc x).length := by rw [rc_len]; kernel_rfl
theorem r_sizeA (x : RX) : (Try.prog.info? 33).map (·.size) = some (rc x).toArray.size := by rw [List.size_toArray]; exact r_size x
theorem r_oneA (x : RX) : (rc x).toArray.all (·.oneCell') = true := all_oneCell_toArray (rc_one x)
theorem p_size (x : LX) : (Try.prog.info? 53).map (·.size) = some (xc x).length := by rw [xc_len]; kernel_rfl
theorem p_sizeA (x : LX) : (Try.prog.info? 53).map (·.size) = some (xc x).toArray.size := by rw [List.size_toArray]; exact p_size x
theorem d_size (x : LX) : (Try.prog.info? 40).map (·.size) = some (xc x).length := by rw [xc_len]; kernel_rfl
theorem d_sizeA (x : LX) : (Try.prog.info? 40).map (·.size) = some (xc x).toArray.size := by rw [List.size_toArray]; exact d_size x
theorem x_oneA (x : LX) : (xc x).toArray.all (·.oneCell') = true := all_oneCell_toArray (xc_one x)
theorem p_info : ∃ i z, Try.prog.info? 53 = some i ∧ i.zero = some z ∧ i.size = 77 ∧ i.bytes = 192 ∧ z.cells.size = 77 := by
  obtain ⟨i, hi, hz, hs, hb⟩ := info_parts (show (Try.prog.info? 53).map (fun i => (i.zero, i.size, i.bytes)) = some (some (.agg (xc x0).toArray), 77, 192) by kernel_rfl)
  exact ⟨i, _, hi, hz, hs, hb, by show (xc x0).toArray.size = 77; rw [List.size_toArray, xc_len]⟩
theorem d_info : ∃ i z, Try.prog.info? 40 = some i ∧ i.zero = some z ∧ i.size = 77 ∧ i.bytes = 192 ∧ z.cells.size = 77 := by
  obtain ⟨i, hi, hz, hs, hb⟩ := info_parts (show (Try.prog.info? 40).map (fun i => (i.zero, i.size, i.bytes)) = some (some (.agg (xc x0).toArray), 77, 192) by kernel_rfl)
  exact ⟨i, _, hi, hz, hs, hb, by show (xc x0).toArray.size = 77; rw [List.size_toArray, xc_len]⟩
/-- New variables' cells. -/
def zR : Array Value := (rc r0).toArray
def zX : Array Value := (xc x0).toArray
theorem zR_size : zR.size = 75 := by unfold zR; rw [List.size_toArray, rc_len]
theorem zR_ne : ¬ zR = #[] := fun h => by have := zR_size; rw [h] at this; simp at this
theorem zX_size : zX.size = 77 := by unfold zX; rw [List.size_toArray, xc_len]
theorem zX_ne : ¬ zX = #[] := fun h => by have := zX_size; rw [h] at this; simp at this
theorem zRk (w : World) : (zeroValue 33).run Try.prog w = .ok (.agg zR) w := by
  obtain ⟨i, hi, hz, hs, hb⟩ := info_parts (show (Try.prog.info? 33).map (fun i => (i.zero, i.size, i.bytes)) = some (some (.agg (rc r0).toArray), 75, 176) by kernel_rfl)
  simp [zeroValue, run_typeInfo w hi, hz, zR]
theorem zPk (w : World) : (zeroValue 53).run Try.prog w = .ok (.agg zX) w := by
  obtain ⟨i, hi, hz, hs, hb⟩ := info_parts (show (Try.prog.info? 53).map (fun i => (i.zero, i.size, i.bytes)) = some (some (.agg (xc x0).toArray), 77, 192) by kernel_rfl)
  simp [zeroValue, run_typeInfo w hi, hz, zX]
theorem zDk (w : World) : (zeroValue 40).run Try.prog w = .ok (.agg zX) w := by
  obtain ⟨i, hi, hz, hs, hb⟩ := info_parts (show (Try.prog.info? 40).map (fun i => (i.zero, i.size, i.bytes)) = some (some (.agg (xc x0).toArray), 77, 192) by kernel_rfl)
  simp [zeroValue, run_typeInfo w hi, hz, zX]
/-- A variable of the call's own: its block holds those cells from its head on, and may be stored into. -/
structure VBox (w : World) (b : Nat) (k : Nat) (cs : List Value) : Prop where
  range : w.rangeAt b 0 cs
  there : w.there b 0 k
  len : cs.length = k
  pos : 0 < k
section
variable {w w' : World} {B b k : Nat} {cs : List Value}
theorem VBox.same (h : VBox w b k cs) (e : w'.heap[b]? = w.heap[b]?) : VBox w' b k cs := ⟨rangeAt_same h.range e, there_same h.there e, h.len, h.pos⟩
theorem VBox.lt (h : VBox w b k cs) : b < w.heap.size := by
  have hp := h.pos
  have hl := h.len
  have := h.range 0 cs[0] (List.getElem?_eq_getElem (by omega))
  exact World.block_lt_of_cell? _ _ this
theorem VBox.below (h : VBox w b k cs) (hb : Below B w w') (hB : b < B) : VBox w' b k cs := h.same (hb.block b hB)
theorem VBox.grow (h : VBox w b k cs) (hb : Below w.heap.size w w') : VBox w' b k cs := h.below hb h.lt
theorem VBox.store {us : List Value} (h : VBox w b k cs) (hu : us.length = k) (e : Hid (w' = w.setCells b 0 us)) : VBox w' b k us :=
  ⟨by rw [e.out]; exact World.rangeAt_setCells_same _ _ _ _ (by rw [hu]; exact h.there), by rw [e.out]; exact World.there_setCells h.there _ _ _, hu, h.pos⟩
end
theorem vbox_new (w : World) (cs : List Value) (y : TypeId) (g k : Nat) (hg : w.heap.size = g) (hk : cs.length = k) (h0 : 0 < k) : VBox (w.alloc (.cells cs.toArray y)) g k cs := by
  subst hg
  have e := heap_alloc_new w (.cells cs.toArray y)
  refine ⟨fun j v hv => ?_, fun j hj => ⟨?_, frozen_of_row _ _ _ _ _ e⟩, hk, h0⟩
  · rw [cell_of_row _ _ _ _ _ _ e, Nat.zero_add, List.getElem?_toArray, hv]
  · rw [cell_of_row _ _ _ _ _ _ e, Nat.zero_add, List.getElem?_toArray, List.getElem?_eq_getElem (by rw [hk]; exact hj)]; rfl
theorem below_one (w : World) (o : Obj) : Below w.heap.size w (w.alloc o) := (Below.refl _ _).alloc (Nat.le_refl _) _
end Go.Proofs.Ytlapdocikhjkcaa
