/- Messages, plainly: what they are, which may be, their forms; what is read of bytes; there and back. -/
import Derived.Test.YtfihiandifnkpaaB3
namespace Go.Proofs.Ytfihiandifnkpaa
open Go.ChangeShapes Go.WideShapes Go.ChangeAt Go.RowKit
set_option linter.unusedVariables false
set_option linter.unusedSimpArgs false
set_option maxRecDepth 100000
open Plain
namespace Ms
def InM (x : Int) : Prop := -9223372036854775808 ≤ x ∧ x ≤ 9223372036854775807
structure MemZ where
  node : Int
  since : Int
  whole : Bool
structure EntZ where
  pos : Int
  stamp : Int
  client : Int
  id : Int
  body : List Int
structure MsgZ where
  kind : Int
  client : Int
  id : Int
  body : List Int
  upto : Int
  frm : Int
  es : List EntZ
  hav : Int
  don : Int
  ep : Int
  ms : List MemZ
  since : Int
def mm0 : MemZ := ⟨0, 0, false⟩
def ez0 : EntZ := ⟨0, 0, 0, 0, []⟩
def mz0 : MsgZ := ⟨0, 0, 0, [], 0, 0, [], 0, 0, 0, [], 0⟩
/-- Each below n. -/
def allT (p : Nat → Bool) : Nat → Bool
  | 0 => true
  | k + 1 => allT p k && p k
theorem allT_no {p : Nat → Bool} : ∀ {n k : Nat}, k < n → p k = false → allT p n = false
  | 0, k, h, _ => absurd h (by omega)
  | n + 1, k, h, hp => by
    by_cases e : k = n
    · subst e; simp [allT, hp]
    · simp [allT, allT_no (n := n) (k := k) (by omega) hp]
theorem allT_yes {p : Nat → Bool} : ∀ {n : Nat}, allT p n = true ↔ ∀ k, k < n → p k = true
  | 0 => by simp [allT]
  | n + 1 => by
    simp only [allT, Bool.and_eq_true]
    rw [allT_yes (n := n)]
    constructor
    · rintro ⟨h1, h2⟩ k hk
      by_cases e : k = n
      · rw [e]; exact h2
      · exact h1 k (by omega)
    · intro h; exact ⟨fun k hk => h k (by omega), h n (by omega)⟩
def cliB (c i : Int) : Bool := decide (0 ≤ c) && decide (c < 4) && decide (1 ≤ i)
def entB (e : EntZ) : Bool := decide (1 ≤ e.pos) && decide (0 ≤ e.stamp) && cliB e.client e.id && decide (e.body.length ≤ 1024)
/-- May the k-th member be, behind those ahead of it? -/
def memB (ep : Int) (ms : List MemZ) (k : Nat) : Bool := decide (0 ≤ (ms.getD k mm0).node) && decide ((ms.getD k mm0).node < 5) && decide (1 ≤ (ms.getD k mm0).since) && decide ((ms.getD k mm0).since ≤ ep) && allT (fun j => !decide ((ms.getD j mm0).node = (ms.getD k mm0).node)) k
def confB (ep : Int) (ms : List MemZ) : Bool := decide (1 ≤ ep) && decide (ms.length ≤ 5) && allT (memB ep ms) ms.length
def rowB (frm : Int) (es : List EntZ) (k : Nat) : Bool := decide ((es.getD k ez0).pos = wrap64 (frm + k)) && entB (es.getD k ez0)
def appB (upto frm : Int) (es : List EntZ) : Bool := decide (0 ≤ upto) && decide (1 ≤ frm) && decide (es.length ≤ 4) && allT (rowB frm es) es.length
/-- A Kind's own fields are zero. -/
def zA (m : MsgZ) : Bool := decide (m.client = 0) && decide (m.id = 0) && decide (m.body = [])
def zB (m : MsgZ) : Bool := decide (m.upto = 0) && decide (m.frm = 0) && decide (m.es.length = 0)
def zC (m : MsgZ) : Bool := decide (m.hav = 0) && decide (m.don = 0)
def zD (m : MsgZ) : Bool := decide (m.ep = 0) && decide (m.ms.length = 0)
def zE (m : MsgZ) : Bool := decide (m.since = 0)
def noneB (m : MsgZ) : Bool := zA m && zB m && zC m && zD m && zE m
/-- The message without its Kind's own fields. -/
def othM (m : MsgZ) : MsgZ :=
  if m.kind = 1 ∨ m.kind = 6 then { m with client := 0, id := 0, body := [] }
  else if m.kind = 2 then { m with upto := 0, frm := 0, es := [] }
  else if m.kind = 3 then { m with hav := 0, don := 0 }
  else if m.kind = 4 then { m with ep := 0, ms := [] }
  else { m with since := 0 }
def askM (m : MsgZ) : Bool :=
  if m.kind = 1 ∨ m.kind = 6 then cliB m.client m.id && decide (m.body.length ≤ 20000)
  else if m.kind = 2 then appB m.upto m.frm m.es
  else if m.kind = 3 then decide (0 ≤ m.don) && decide (m.don ≤ m.hav)
  else if m.kind = 4 then confB m.ep m.ms
  else decide (1 ≤ m.since)
def kindB (k : Int) : Bool := decide (1 ≤ k) && decide (k ≤ 6)
def mayM (m : MsgZ) : Bool := kindB m.kind && noneB (othM m) && askM m
/-- Forms. -/
def restF (e : EntZ) : List Int := n64 e.stamp ++ n64 e.client ++ n64 e.id ++ bytesF e.body
def entF (e : EntZ) : List Int := n64 e.pos ++ restF e
def memF (m : MemZ) : List Int := n64 m.node ++ n64 m.since ++ [if m.whole then 1 else 0]
def esF (es : List EntZ) : List Int := es.flatMap restF
def msF (ms : List MemZ) : List Int := ms.flatMap memF
def confF (ep : Int) (ms : List MemZ) : List Int := n64 ep ++ n64 (ms.length : Nat) ++ msF ms
def ownF (m : MsgZ) : List Int :=
  if m.kind = 1 ∨ m.kind = 6 then n64 m.client ++ n64 m.id ++ bytesF m.body
  else if m.kind = 2 then n64 m.upto ++ n64 m.frm ++ n64 (m.es.length : Nat) ++ esF m.es
  else if m.kind = 3 then n64 m.hav ++ n64 m.don
  else if m.kind = 4 then confF m.ep m.ms
  else n64 m.since
def formM (m : MsgZ) : List Int := [m.kind] ++ ownF m
/-- What is read. -/
abbrev St := Int × List Int
def restR (pos : Int) (s : St) : EntZ × St :=
  let a := rInt s
  let b := rInt a.2
  let c := rInt b.2
  let d := rBytes c.2
  (⟨pos, a.1, b.1, c.1, d.1⟩, d.2)
def memR (s : St) : MemZ × St :=
  let a := rInt s
  let b := rInt a.2
  let c := rFlag b.2
  (⟨a.1, b.1, c.1⟩, c.2)
def entsR (frm : Int) : Nat → St → List EntZ × St
  | 0, s => ([], s)
  | k + 1, s => ((entsR frm k s).1 ++ [(restR (wrap64 (frm + k)) (entsR frm k s).2).1], (restR (wrap64 (frm + k)) (entsR frm k s).2).2)
def memsR : Nat → St → List MemZ × St
  | 0, s => ([], s)
  | k + 1, s => ((memsR k s).1 ++ [(memR (memsR k s).2).1], (memR (memsR k s).2).2)
def confR (s : St) : (Int × List MemZ) × St :=
  let a := rInt s
  let b := rCount 5 a.2
  let c := memsR b.1.toNat b.2
  ((a.1, c.1), c.2)
def entR (s : St) : EntZ × St :=
  let a := rInt s
  restR a.1 a.2
def ownR (k : Int) (s : St) : MsgZ × St :=
  if k = 1 ∨ k = 6 then
    let a := rInt s
    let b := rInt a.2
    let c := rBytes b.2
    ({ mz0 with kind := k, client := a.1, id := b.1, body := c.1 }, c.2)
  else if k = 2 then
    let a := rInt s
    let b := rInt a.2
    let c := rCount 4 b.2
    let d := entsR b.1 c.1.toNat c.2
    ({ mz0 with kind := k, upto := a.1, frm := b.1, es := d.1 }, d.2)
  else if k = 3 then
    let a := rInt s
    let b := rInt a.2
    ({ mz0 with kind := k, hav := a.1, don := b.1 }, b.2)
  else if k = 4 then
    let c := confR s
    ({ mz0 with kind := k, ep := c.1.1, ms := c.1.2 }, c.2)
  else if k = 5 then
    let a := rInt s
    ({ mz0 with kind := k, since := a.1 }, a.2)
  else ({ mz0 with kind := k }, s)
def msgR (s : St) : MsgZ × St := ownR (rByte s).1 (rByte s).2
def parseM (bs : List Int) : MsgZ × Int := if endZ (msgR (0, bs)).2.1 (msgR (0, bs)).2.2 = 0 ∧ mayM (msgR (0, bs)).1 = true then ((msgR (0, bs)).1, 0) else (mz0, 200)
/-- Are two the same? -/
def memE (a b : MemZ) : Bool := decide (a.node = b.node) && decide (a.since = b.since) && decide (a.whole = b.whole)
def entE (a b : EntZ) : Bool := decide (a.pos = b.pos) && decide (a.stamp = b.stamp) && decide (a.client = b.client) && decide (a.id = b.id) && eqB a.body b.body
def esE (a b : List EntZ) : Bool := decide (a.length = b.length) && allT (fun k => entE (a.getD k ez0) (b.getD k ez0)) a.length
def msE (a b : List MemZ) : Bool := decide (a.length = b.length) && allT (fun k => memE (a.getD k mm0) (b.getD k mm0)) a.length
def msgE (a b : MsgZ) : Bool := decide (a.kind = b.kind) && decide (a.client = b.client) && decide (a.id = b.id) && eqB a.body b.body && decide (a.upto = b.upto) && decide (a.frm = b.frm) && esE a.es b.es && decide (a.hav = b.hav) && decide (a.don = b.don) && (decide (a.ep = b.ep) && msE a.ms b.ms) && decide (a.since = b.since)
theorem eqB_refl (a : List Int) : eqB a a = true := by simp [eqB]
theorem memE_refl (a : MemZ) : memE a a = true := by simp [memE]
theorem entE_refl (a : EntZ) : entE a a = true := by simp [entE, eqB_refl]
theorem esE_refl (a : List EntZ) : esE a a = true := by
  unfold esE
  rw [Bool.and_eq_true]
  exact ⟨by simp, allT_yes.2 fun k _ => entE_refl _⟩
theorem msE_refl (a : List MemZ) : msE a a = true := by
  unfold msE
  rw [Bool.and_eq_true]
  exact ⟨by simp, allT_yes.2 fun k _ => memE_refl _⟩
theorem msgE_refl (a : MsgZ) : msgE a a = true := by simp [msgE, eqB_refl, esE_refl, msE_refl]
/-- Numbers that fit, bytes, texts that aren't too long. -/
structure MemOk (m : MemZ) : Prop where
  node : InM m.node
  since : InM m.since
structure EntOk (e : EntZ) : Prop where
  pos : InM e.pos
  stamp : InM e.stamp
  client : InM e.client
  id : InM e.id
  body : IsBytes e.body
  len : e.body.length ≤ 65536
structure MsgOk (m : MsgZ) : Prop where
  kind : 0 ≤ m.kind ∧ m.kind < 256
  client : InM m.client
  id : InM m.id
  body : IsBytes m.body
  len : m.body.length ≤ 65536
  upto : InM m.upto
  frm : InM m.frm
  es : ∀ e, e ∈ m.es → EntOk e
  hav : InM m.hav
  don : InM m.don
  ep : InM m.ep
  ms : ∀ e, e ∈ m.ms → MemOk e
  since : InM m.since
end Ms
open Ms
section
variable {s s' : St} {a : Int}
/-- What is read is in its range, whatever is left is bytes. -/
def StM (s : St) : Prop := IsBytes s.2 ∧ s.2.length ≤ 65536
theorem tk_ms {α : Type} (k : Nat) (okf : List Int → List Int → Bool) (val : List Int → α) (nv : α) {s s' : St} {a : α} (h : StM s) (e : tk k okf val nv s = (a, s')) : StM s' := by
  unfold tk at e
  split at e
  · injection e with _ e; subst e
    refine ⟨?_, ?_⟩
    · have := h.1; rw [isBytes_iff] at *; exact fun z hz => this z (List.mem_of_mem_drop hz)
    · show (s.2.drop k).length ≤ _; rw [List.length_drop]; have := h.2; omega
  · injection e with _ e; subst e
    exact ⟨IsBytes.nil, by simp⟩
theorem byte_rm (h : StM s) (e : rByte s = (a, s')) : (0 ≤ a ∧ a < 256) ∧ StM s' := by
  refine ⟨?_, tk_ms _ _ _ _ h e⟩
  have := rByte_rng s.1 h.1
  rw [show rByte (s.1, s.2) = (a, s') from e] at this
  exact this
theorem int_rm (h : StM s) (e : rInt s = (a, s')) : InM a ∧ StM s' := by
  refine ⟨?_, tk_ms _ _ _ _ h e⟩
  have := rInt_rng s.1 h.1
  rw [show rInt (s.1, s.2) = (a, s') from e] at this
  exact this
theorem bytes_rm {a : List Int} (h : StM s) (e : rBytes s = (a, s')) : (IsBytes a ∧ a.length ≤ 65536) ∧ StM s' := by
  have h1 := rBytes_good s.1 h.1 h.2
  rw [show rBytes (s.1, s.2) = (a, s') from e] at h1
  refine ⟨h1, ?_⟩
  unfold rBytes at e
  obtain ⟨v, s1, e1⟩ : ∃ v s1, rLen s = (v, s1) := ⟨_, _, rfl⟩
  rw [e1] at e
  exact tk_ms _ _ _ _ (tk_ms _ _ _ _ h e1) e
theorem flag_rm {a : Bool} (h : StM s) (e : rFlag s = (a, s')) : StM s' := tk_ms _ _ _ _ h e
theorem count_rm {most : Int} (h : StM s) (e : rCount most s = (a, s')) : StM s' := tk_ms _ _ _ _ h e
theorem tk_cases {α : Type} (k : Nat) (okf : List Int → List Int → Bool) (val : List Int → α) (nv : α) (s : St) : (tk k okf val nv s).1 = nv ∨ (∃ zs : List Int, (tk k okf val nv s).1 = val (zs.take k) ∧ okf (zs.take k) (zs.drop k) = true) := by
  unfold tk
  split
  · next h => exact .inr ⟨s.2, rfl, h.2.2⟩
  · exact .inl rfl
theorem count_le {most : Int} (hm : 0 ≤ most) (e : rCount most s = (a, s')) : 0 ≤ a ∧ a ≤ most := by
  rcases tk_cases 8 (fun b r => decide (0 ≤ intZ b ∧ intZ b ≤ most ∧ intZ b ≤ (r.length : Nat))) intZ 0 s with h | ⟨zs, h, ho⟩
  · rw [show tk 8 (fun b r => decide (0 ≤ intZ b ∧ intZ b ≤ most ∧ intZ b ≤ (r.length : Nat))) intZ 0 s = (a, s') from e] at h
    have h : a = 0 := h
    omega
  · rw [show tk 8 (fun b r => decide (0 ≤ intZ b ∧ intZ b ≤ most ∧ intZ b ≤ (r.length : Nat))) intZ 0 s = (a, s') from e] at h
    have := of_decide_eq_true ho
    have h : a = _ := h
    omega
end
end Go.Proofs.Ytfihiandifnkpaa
