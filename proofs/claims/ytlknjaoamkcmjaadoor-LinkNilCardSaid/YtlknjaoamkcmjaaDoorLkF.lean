/- One's ends of all links, as they stand in memory: the program's. -/
import Derived.Test.YtlknjaoamkcmjaaDoorLkE
namespace Go.Proofs.YtlknjaoamkcmjaaDoor
open Go.ChangeShapes Go.WideShapes Go.ChangeAt Go.RowKit
set_option linter.unusedVariables false
set_option linter.unusedSimpArgs false
set_option maxRecDepth 100000
open Plain Sha Wn Lk
/-- Block b holds one's ends x; K: all blocks that they stand in. A, n, c: the root's slice; m: the map's block; q: the windows' blocks. -/
structure EPs (w : World) (b : Nat) (K : Nat → Prop) (x : EdZ) (A : Option Addr) (n c m : Nat) (q : Int → Int → Option Nat) : Prop where
  box : VBox w b 4 [.slice A n c, .int .i64 x.who, .int .i64 x.boot, .map (some m)]
  root : Bs w w.heap.size A n x.root
  rn : n ≤ 3000
  rK : 0 < n → ∀ a, A = some a → K a.block ∧ a.block ≠ b ∧ a.block ≠ m ∧ ∀ o e, q o e ≠ some a.block
  map : LMap w m (fun o e => kev (x.sent o e) (q o e))
  none_ : ∀ o e, q o e = none → x.wb o e = -1 ∧ x.ws o e = []
  win : ∀ o e p, q o e = some p → Win w p (x.wb o e) (x.ws o e) ∧ K p ∧ p ≠ b ∧ p ≠ m
  inj : ∀ o e o' e' p, q o e = some p → q o' e' = some p → o = o' ∧ e = e'
  Kb : K b
  Km : K m
  bm : b ≠ m
  lt : ∀ k, K k → k < w.heap.size
  who : InL x.who
  boot : InL x.boot
def EP (w : World) (b : Nat) (K : Nat → Prop) (x : EdZ) : Prop := ∃ A n c m q, EPs w b K x A n c m q
section
variable {w w' : World} {b : Nat} {K : Nat → Prop} {x : EdZ} {A : Option Addr} {n c m : Nat} {q : Int → Int → Option Nat}
theorem bs_at {B B' : Nat} {zs : List Int} (h : Bs w B A n zs) (hk : 0 < n → ∀ a, A = some a → w'.heap[a.block]? = w.heap[a.block]? ∧ a.block < B') : Bs w' B' A n zs :=
  ⟨h.len, h.rng, fun hn => by
    obtain ⟨b, off, rfl, hb, hc⟩ := h.row hn
    obtain ⟨h1, h2⟩ := hk hn _ rfl
    exact ⟨b, off, rfl, h2, fun j hj => (World.cell?_of_block (a := ⟨b, off + j, none⟩) h1).trans (hc j hj)⟩⟩
theorem EPs.keep (h : EPs w b K x A n c m q) (hk : ∀ k, K k → w'.heap[k]? = w.heap[k]?) (hs : w.heap.size ≤ w'.heap.size) : EPs w' b K x A n c m q where
  box := h.box.same (hk b h.Kb)
  root := bs_at h.root (fun hn a ha => ⟨hk _ (h.rK hn a ha).1, Nat.lt_of_lt_of_le (h.lt _ (h.rK hn a ha).1) hs⟩)
  rn := h.rn
  rK := h.rK
  map := h.map.same (hk m h.Km)
  none_ := h.none_
  win o e p hp := ⟨⟨(h.win o e p hp).1.x.same (hk p (h.win o e p hp).2.1), (h.win o e p hp).1.i⟩, (h.win o e p hp).2⟩
  inj := h.inj
  Kb := h.Kb
  Km := h.Km
  bm := h.bm
  lt k hK := Nat.lt_of_lt_of_le (h.lt k hK) hs
  who := h.who
  boot := h.boot
theorem EP.keep (h : EP w b K x) (hk : ∀ k, K k → w'.heap[k]? = w.heap[k]?) (hs : w.heap.size ≤ w'.heap.size) : EP w' b K x := by
  obtain ⟨A, n, c, m, q, h⟩ := h
  exact ⟨A, n, c, m, q, h.keep hk hs⟩
theorem EP.lt (h : EP w b K x) : ∀ k, K k → k < w.heap.size := by
  obtain ⟨A, n, c, m, q, h⟩ := h
  exact h.lt
theorem EP.moved {F : Nat → Prop} (h : EP w b K x) (hm : Moved F w w') (hd : ∀ k, K k → ¬ F k) : EP w' b K x := h.keep (fun k hk => hm.block k (h.lt k hk) (hd k hk)) hm.size
theorem EP.grow (h : EP w b K x) (hb : Below w.heap.size w w') : EP w' b K x := h.keep (fun k hk => hb.block k (h.lt k hk)) hb.size
theorem EPs.grow (h : EPs w b K x A n c m q) (hb : Below w.heap.size w w') : EPs w' b K x A n c m q := h.keep (fun k hk => hb.block k (h.lt k hk)) hb.size
theorem EPs.drew (h : EPs w b K x A n c m q) : EPs w.drew b K x A n c m q := h.keep (fun k hk => rfl) (Nat.le_refl _)
theorem EPs.c0 (h : EPs w b K x A n c m q) : w.cell? ⟨b, 0, none⟩ = some (.slice A n c) := h.box.at1 rfl
theorem EPs.c1 (h : EPs w b K x A n c m q) : w.cell? ⟨b, 1, none⟩ = some (.int .i64 x.who) := h.box.at1 rfl
theorem EPs.c2 (h : EPs w b K x A n c m q) : w.cell? ⟨b, 2, none⟩ = some (.int .i64 x.boot) := h.box.at1 rfl
theorem EPs.c3 (h : EPs w b K x A n c m q) : w.cell? ⟨b, 3, none⟩ = some (.map (some m)) := h.box.at1 rfl
/-- A number more was sent. -/
theorem EPs.send (h : EPs w b K x A n c m q) (hg : w.grownBy w' (some m)) {o e : Int} {s : Int} (hm : LMap w' m (upd (fun o e => kev (x.sent o e) (q o e)) o e (kev s (q o e)))) : EPs w' b K { x with sent := upd x.sent o e s } A n c m q where
  box := h.box.same (hg.block b (h.lt b h.Kb) (fun e => by injection e with e; exact h.bm e))
  root := bs_at h.root (fun hn a ha => ⟨hg.block _ (h.lt _ (h.rK hn a ha).1) (fun e => by injection e with e; exact (h.rK hn a ha).2.2.1 e), Nat.lt_of_lt_of_le (h.lt _ (h.rK hn a ha).1) hg.size⟩)
  rn := h.rn
  rK := h.rK
  map := by
    have : (fun o' e' => kev (upd x.sent o e s o' e') (q o' e')) = upd (fun o e => kev (x.sent o e) (q o e)) o e (kev s (q o e)) := by
      funext o' e'
      unfold upd
      split
      · next hh => rw [hh.1, hh.2]
      · rfl
    show LMap w' m (fun o' e' => kev (upd x.sent o e s o' e') (q o' e'))
    rw [this]; exact hm
  none_ := h.none_
  win o' e' p hp := ⟨⟨(h.win o' e' p hp).1.x.same (hg.block p (h.lt p (h.win o' e' p hp).2.1) (fun e => by injection e with e; exact (h.win o' e' p hp).2.2.2 e)), (h.win o' e' p hp).1.i⟩, (h.win o' e' p hp).2⟩
  inj := h.inj
  Kb := h.Kb
  Km := h.Km
  bm := h.bm
  lt k hK := Nat.lt_of_lt_of_le (h.lt k hK) hg.size
  who := h.who
  boot := h.boot
end
/-- A number was taken by the window at p; it is kept (w1: with the map stored, w2: with the window turned). -/
theorem EPs.take {w w1 w2 : World} {b : Nat} {K : Nat → Prop} {x : EdZ} {A : Option Addr} {n c m : Nat} {q : Int → Int → Option Nat} (h : EPs w b K x A n c m q) {o e : Int} {p : Nat} (hp : q o e = some p ∨ (q o e = none ∧ ¬ K p ∧ p < w.heap.size)) (hg : w.grownBy w1 (some m))
    (hm : LMap w1 m (upd (fun o e => kev (x.sent o e) (q o e)) o e (kev (x.sent o e) (some p)))) {wb : Int} {ws : List Int} (hW : Win w2 p wb ws) (hg2 : w1.grownBy w2 (some p)) :
    EPs w2 b (fun k => K k ∨ k = p) { x with wb := upd x.wb o e wb, ws := upd x.ws o e ws } A n c m (upd q o e (some p)) := by
  have hpk : p ≠ b ∧ p ≠ m ∧ p < w.heap.size := by
    rcases hp with hp | ⟨_, hp, hl⟩
    · have := h.win o e p hp; exact ⟨this.2.2.1, this.2.2.2, h.lt p this.2.1⟩
    · exact ⟨fun e => hp (e ▸ h.Kb), fun e => hp (e ▸ h.Km), hl⟩
  have blk : ∀ k, K k → k ≠ m → k ≠ p → w2.heap[k]? = w.heap[k]? := fun k hk h1 h2 => by
    have hl := h.lt k hk
    rw [hg2.block k (Nat.lt_of_lt_of_le hl hg.size) (fun e => by injection e with e; exact h2 e), hg.block k hl (fun e => by injection e with e; exact h1 e)]
  have hs := Nat.le_trans hg.size hg2.size
  have far : ∀ o' e' p', ¬ (o' = o ∧ e' = e) → q o' e' = some p' → p' ≠ p := fun o' e' p' hne hq hpp => by
    subst hpp
    rcases hp with hp | ⟨hp, hk, _⟩
    · exact hne (h.inj o' e' o e p' hq hp)
    · exact hk (h.win o' e' p' hq).2.1
  have rp : 0 < n → ∀ a, A = some a → a.block ≠ p := fun hn a ha e' => by
    rcases hp with hp | ⟨_, hp, _⟩
    · exact (h.rK hn a ha).2.2.2 o e (e' ▸ hp)
    · exact hp (e' ▸ (h.rK hn a ha).1)
  refine ⟨h.box.same (blk b h.Kb h.bm hpk.1.symm), bs_at h.root (fun hn a ha => ⟨blk _ (h.rK hn a ha).1 (h.rK hn a ha).2.2.1 (rp hn a ha), Nat.lt_of_lt_of_le (h.lt _ (h.rK hn a ha).1) hs⟩), h.rn, ?_, ?_, ?_, ?_, ?_, .inl h.Kb, .inl h.Km, h.bm, ?_, h.who, h.boot⟩
  · intro hn a ha
    refine ⟨.inl (h.rK hn a ha).1, (h.rK hn a ha).2.1, (h.rK hn a ha).2.2.1, fun o' e' hq => ?_⟩
    unfold upd at hq
    split at hq
    · injection hq with hq; exact rp hn a ha hq.symm
    · exact (h.rK hn a ha).2.2.2 o' e' hq
  · have : (fun o' e' => kev (x.sent o' e') (upd q o e (some p) o' e')) = upd (fun o e => kev (x.sent o e) (q o e)) o e (kev (x.sent o e) (some p)) := by
      funext o' e'
      unfold upd
      split
      · next hh => rw [hh.1, hh.2]
      · rfl
    show LMap w2 m (fun o' e' => kev (x.sent o' e') (upd q o e (some p) o' e'))
    rw [this]
    exact hm.same (hg2.block m (Nat.lt_of_lt_of_le (h.lt m h.Km) hg.size) (fun e => by injection e with e; exact hpk.2.1 e.symm))
  · intro o' e' hq
    show upd x.wb o e wb o' e' = -1 ∧ upd x.ws o e ws o' e' = []
    unfold upd at hq ⊢
    split at hq
    · cases hq
    · next hh => rw [if_neg hh, if_neg hh]; exact h.none_ o' e' hq
  · intro o' e' p' hq
    show Win w2 p' (upd x.wb o e wb o' e') (upd x.ws o e ws o' e') ∧ _
    unfold upd at hq ⊢
    split at hq
    · next hh => injection hq with hq; subst hq; rw [if_pos hh, if_pos hh]; exact ⟨hW, .inr rfl, hpk.1, hpk.2.1⟩
    · next hh =>
      rw [if_neg hh, if_neg hh]
      obtain ⟨h1, h2, h3, h4⟩ := h.win o' e' p' hq
      exact ⟨⟨h1.x.same (blk p' h2 h4 (far o' e' p' hh hq)), h1.i⟩, .inl h2, h3, h4⟩
  · intro o1 e1 o2 e2 p' h1 h2
    unfold upd at h1 h2
    split at h1
    · next hh =>
      injection h1 with h1; subst h1
      split at h2
      · next hh2 => exact ⟨hh.1.trans hh2.1.symm, hh.2.trans hh2.2.symm⟩
      · next hh2 => exact absurd rfl (far o2 e2 p hh2 h2)
    · next hh =>
      split at h2
      · next hh2 => injection h2 with h2; subst h2; exact absurd rfl (far o1 e1 p hh h1)
      · exact h.inj o1 e1 o2 e2 p' h1 h2
  · rintro k (hk | rfl)
    · exact Nat.lt_of_lt_of_le (h.lt k hk) hs
    · exact Nat.lt_of_lt_of_le hpk.2.2 hs
end Go.Proofs.YtlknjaoamkcmjaaDoor
