/- Three ends at once; bytes that stand apart from them; what calls tell, plainly. -/
import Derived.Test.YtlknjaoamkcmjaaDoorLkI
namespace Go.Proofs.YtlknjaoamkcmjaaDoor
open Go.ChangeShapes Go.WideShapes Go.ChangeAt Go.RowKit
set_option linter.unusedVariables false
set_option linter.unusedSimpArgs false
set_option maxRecDepth 100000
open Plain Sha Wn Lk
namespace Lk
def setW (x : EdZ) (o e b : Int) (S : List Int) : EdZ := { x with wb := upd x.wb o e b, ws := upd x.ws o e S }
theorem setW_wb (x : EdZ) (o e b : Int) (S : List Int) : (setW x o e b S).wb o e = b := upd_same _ _ _ _
theorem setW_ws (x : EdZ) (o e b : Int) (S : List Int) : (setW x o e b S).ws o e = S := upd_same _ _ _ _
theorem seal_ok {root : List Int} {p : PkZ} (h : POk p) : POk (sealZ root p) := ⟨h.fr, h.tw, h.ep, h.bo, h.sq, h.body, h.bl, tagR_bytes _ _, tagR_len _ _⟩
/-- A sealed packet is got: what the window tells. -/
theorem getZ_take {x : EdZ} {p : PkZ} (h : POk p) (hl : p.body.length ≤ 65000) (hm : mayP p = true) (hw : p.tw = x.who) {er b : Int} {S : List Int} (ht : takeZ (x.wb p.fr p.ep) (x.ws p.fr p.ep) p.bo p.sq = (er, b, S)) :
    getZ x (bytesP (sealZ x.root p)) = (if er = 0 then sealZ x.root p else p0, er, setW x p.fr p.ep b S) := by
  have hp := parseL_form (seal_ok (root := x.root) h) hl (show mayP (sealZ x.root p) = true from hm)
  unfold getZ
  rw [hp]
  simp only [ne_eq, not_true_eq_false, if_false]
  have : takeE x (sealZ x.root p) = (er, setW x p.fr p.ep b S) := by
    unfold takeE
    rw [if_neg (fun hh => hh hw), if_neg (fun hh => hh rfl)]
    show ((takeZ (x.wb p.fr p.ep) (x.ws p.fr p.ep) p.bo p.sq).1, _) = _
    have e1 : (sealZ x.root p).fr = p.fr := rfl
    have e2 : (sealZ x.root p).ep = p.ep := rfl
    have e3 : (sealZ x.root p).bo = p.bo := rfl
    have e4 : (sealZ x.root p).sq = p.sq := rfl
    rw [e1, e2, e3, e4, ht]
    rfl
  rw [this]
/-- It is for another one. -/
theorem getZ_other {x : EdZ} {p : PkZ} (h : POk p) (hl : p.body.length ≤ 65000) (hm : mayP p = true) (hw : p.tw ≠ x.who) : getZ x (bytesP p) = (p0, 190, x) := by
  unfold getZ
  rw [parseL_form h hl hm]
  have : takeE x p = (190, x) := by unfold takeE; rw [if_pos hw]
  simp [this]
/-- It has another tag. -/
theorem getZ_tag {x : EdZ} {p : PkZ} (h : POk p) (hl : p.body.length ≤ 65000) (hm : mayP p = true) (hw : p.tw = x.who) (ht : p.tag ≠ tagR x.root p) : getZ x (bytesP p) = (p0, 91, x) := by
  unfold getZ
  rw [parseL_form h hl hm]
  have : takeE x p = (91, x) := by unfold takeE; rw [if_neg (fun hh => hh hw), if_pos ht]
  simp [this]
theorem getZ_none {x : EdZ} {bs : List Int} (h : parseL bs = (p0, 190)) : getZ x bs = (p0, 190, x) := by
  unfold getZ
  rw [h]; rfl
def incS (x : EdZ) (dd ep : Int) : EdZ := { x with sent := upd x.sent dd ep (x.sent dd ep + 1) }
theorem sendZ_ok {x : EdZ} {dd ep : Int} {body : List Int} (hm : mayP (bareZ x dd ep body) = true) : sendZ x dd ep body = (bytesP (nextP x dd ep body), 0, incS x dd ep) := by
  unfold sendZ; rw [if_pos hm]; rfl
end Lk
/-- Three ends that stand apart, not below block B. -/
structure T3 (B : Nat) (w : World) (K1 K2 K3 : Nat → Prop) (b1 b2 b3 : Nat) (x1 x2 x3 : EdZ) : Prop where
  e1 : EP w b1 K1 x1
  e2 : EP w b2 K2 x2
  e3 : EP w b3 K3 x3
  d12 : ∀ k, K1 k → ¬ K2 k
  d13 : ∀ k, K1 k → ¬ K3 k
  d23 : ∀ k, K2 k → ¬ K3 k
  l1 : ∀ k, K1 k → B ≤ k
  l2 : ∀ k, K2 k → B ≤ k
  l3 : ∀ k, K3 k → B ≤ k
/-- Bytes that stand somewhere, but in no blocks of K. -/
structure KBs (w : World) (K1 K2 K3 : Nat → Prop) (A : Option Addr) (n : Nat) (zs : List Int) : Prop where
  bs : Bs w w.heap.size A n zs
  ap : 0 < n → ∀ a, A = some a → ¬ K1 a.block ∧ ¬ K2 a.block ∧ ¬ K3 a.block
section
variable {B : Nat} {w w' : World} {K1 K2 K3 K : Nat → Prop} {b1 b2 b3 : Nat} {x1 x2 x3 x : EdZ} {A : Option Addr} {n : Nat} {zs : List Int}
theorem newer_no {F G H : Nat → Prop} (hn : Newer w F G) (hd : ∀ k, F k → ¬ H k) (hl : ∀ k, H k → k < w.heap.size) : ∀ k, G k → ¬ H k := fun k hk h => by
  rcases hn k hk with h1 | h1
  · exact hd k h1 h
  · have := hl k h; omega
theorem newer_lo {F G : Nat → Prop} (hn : Newer w F G) (hl : ∀ k, F k → B ≤ k) (hB : B ≤ w.heap.size) : ∀ k, G k → B ≤ k := fun k hk => by
  rcases hn k hk with h1 | h1
  · exact hl k h1
  · omega
theorem T3.s1 (h : T3 B w K1 K2 K3 b1 b2 b3 x1 x2 x3) (hB : B ≤ w.heap.size) (he : EP w' b1 K x) (hm : Moved K1 w w') (hn : Newer w K1 K) : T3 B w' K K2 K3 b1 b2 b3 x x2 x3 :=
  ⟨he, h.e2.moved hm (fun k h2 h1 => h.d12 k h1 h2), h.e3.moved hm (fun k h2 h1 => h.d13 k h1 h2), newer_no hn h.d12 h.e2.lt, newer_no hn h.d13 h.e3.lt, h.d23, newer_lo hn h.l1 hB, h.l2, h.l3⟩
theorem T3.s2 (h : T3 B w K1 K2 K3 b1 b2 b3 x1 x2 x3) (hB : B ≤ w.heap.size) (he : EP w' b2 K x) (hm : Moved K2 w w') (hn : Newer w K2 K) : T3 B w' K1 K K3 b1 b2 b3 x1 x x3 :=
  ⟨h.e1.moved hm h.d12, he, h.e3.moved hm (fun k h2 h1 => h.d23 k h1 h2), fun k h1 h2 => newer_no hn (fun j j2 j1 => h.d12 j j1 j2) h.e1.lt k h2 h1, h.d13, newer_no hn h.d23 h.e3.lt, h.l1, newer_lo hn h.l2 hB, h.l3⟩
theorem T3.s3 (h : T3 B w K1 K2 K3 b1 b2 b3 x1 x2 x3) (hB : B ≤ w.heap.size) (he : EP w' b3 K x) (hm : Moved K3 w w') (hn : Newer w K3 K) : T3 B w' K1 K2 K b1 b2 b3 x1 x2 x :=
  ⟨h.e1.moved hm h.d13, h.e2.moved hm h.d23, he, h.d12, fun k h1 h2 => newer_no hn (fun j j2 j1 => h.d13 j j1 j2) h.e1.lt k h2 h1, fun k h1 h2 => newer_no hn (fun j j2 j1 => h.d23 j j1 j2) h.e2.lt k h2 h1, h.l1, h.l2, newer_lo hn h.l3 hB⟩
theorem T3.grow (h : T3 B w K1 K2 K3 b1 b2 b3 x1 x2 x3) (hb : Below w.heap.size w w') : T3 B w' K1 K2 K3 b1 b2 b3 x1 x2 x3 :=
  ⟨h.e1.grow hb, h.e2.grow hb, h.e3.grow hb, h.d12, h.d13, h.d23, h.l1, h.l2, h.l3⟩
theorem KBs.s1 (h : KBs w K1 K2 K3 A n zs) (hm : Moved K1 w w') (hn : Newer w K1 K) : KBs w' K K2 K3 A n zs := by
  have hl : 0 < n → ∀ a, A = some a → a.block < w.heap.size := fun h0 a ha => by
    obtain ⟨b, off, e, hb, _⟩ := h.bs.row h0
    rw [e] at ha; injection ha with ha; subst ha; exact hb
  refine ⟨bs_at h.bs (fun h0 a ha => ⟨hm.block _ (hl h0 a ha) (h.ap h0 a ha).1, Nat.lt_of_lt_of_le (hl h0 a ha) hm.size⟩), fun h0 a ha => ⟨fun hk => ?_, (h.ap h0 a ha).2.1, (h.ap h0 a ha).2.2⟩⟩
  rcases hn _ hk with h1 | h1
  · exact (h.ap h0 a ha).1 h1
  · have := hl h0 a ha; omega
theorem KBs.turn (h : KBs w K1 K2 K3 A n zs) : KBs w K2 K1 K3 A n zs := ⟨h.bs, fun h0 a ha => ⟨(h.ap h0 a ha).2.1, (h.ap h0 a ha).1, (h.ap h0 a ha).2.2⟩⟩
theorem KBs.turn3 (h : KBs w K1 K2 K3 A n zs) : KBs w K3 K2 K1 A n zs := ⟨h.bs, fun h0 a ha => ⟨(h.ap h0 a ha).2.2, (h.ap h0 a ha).2.1, (h.ap h0 a ha).1⟩⟩
theorem KBs.s2 (h : KBs w K1 K2 K3 A n zs) (hm : Moved K2 w w') (hn : Newer w K2 K) : KBs w' K1 K K3 A n zs := (h.turn.s1 hm hn).turn
theorem KBs.s3 (h : KBs w K1 K2 K3 A n zs) (hm : Moved K3 w w') (hn : Newer w K3 K) : KBs w' K1 K2 K A n zs := (h.turn3.s1 hm hn).turn3
theorem KBs.grow (h : KBs w K1 K2 K3 A n zs) (hb : Below w.heap.size w w') : KBs w' K1 K2 K3 A n zs := by
  refine ⟨bs_at h.bs (fun h0 a ha => ?_), h.ap⟩
  obtain ⟨b, off, e, hb', _⟩ := h.bs.row h0
  rw [e] at ha; injection ha with ha; subst ha
  exact ⟨hb.block _ hb', Nat.lt_of_lt_of_le hb' hb.size⟩
/-- A list in new memory stands apart. -/
theorem kbs_new {v : Value} (h : IsList v w' w.heap.size zs) (hb : IsBytes zs) (h1 : ∀ k, K1 k → k < w.heap.size) (h2 : ∀ k, K2 k → k < w.heap.size) (h3 : ∀ k, K3 k → k < w.heap.size) : ∃ A c, v = .slice A zs.length c ∧ KBs w' K1 K2 K3 A zs.length zs ∧ zs.length ≤ c ∧ c ≤ maxLen := by
  obtain ⟨A, c, rfl, ho, e1, e2⟩ := h
  refine ⟨A, c, rfl, ⟨bs_of_own ho hb, fun _ a ha => ?_⟩, e1, e2⟩
  have := (ho.lt a.block (by rw [ha]; rfl)).1
  exact ⟨fun h => by have := h1 _ h; omega, fun h => by have := h2 _ h; omega, fun h => by have := h3 _ h; omega⟩
end
end Go.Proofs.YtlknjaoamkcmjaaDoor
