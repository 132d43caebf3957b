/- Sealed packets, plainly: a packet, its head, its right tag, its bytes; what is read of bytes; one's ends of all links. -/
import Derived.Test.YtlknjaoamkcmjaaDoorB9
import Derived.Test.YtlknjaoamkcmjaaDoorB4
import Derived.Test.YtlknjaoamkcmjaaDoorB11
namespace Go.Proofs.YtlknjaoamkcmjaaDoor
open Go.ChangeShapes Go.WideShapes Go.ChangeAt Go.RowKit
set_option linter.unusedVariables false
set_option linter.unusedSimpArgs false
set_option maxRecDepth 100000
open Plain Sha Wn
namespace Lk
def InL (x : Int) : Prop := -9223372036854775808 ≤ x ∧ x ≤ 9223372036854775807
structure PkZ where
  fr : Int
  tw : Int
  ep : Int
  bo : Int
  sq : Int
  body : List Int
  tag : List Int
theorem PkZ.ext' {x y : PkZ} (h1 : x.fr = y.fr) (h2 : x.tw = y.tw) (h3 : x.ep = y.ep) (h4 : x.bo = y.bo) (h5 : x.sq = y.sq) (h6 : x.body = y.body) (h7 : x.tag = y.tag) : x = y := by
  cases x; cases y; simp only at h1 h2 h3 h4 h5 h6 h7; subst h1 h2 h3 h4 h5 h6 h7; rfl
def p0 : PkZ := ⟨0, 0, 0, 0, 0, [], List.replicate 32 0⟩
def whoB (n : Int) : Bool := (decide (0 ≤ n) && decide (n < 5)) || decide (n = 8) || decide (n = 9)
def mayP (p : PkZ) : Bool := whoB p.fr && whoB p.tw && !decide (p.fr = p.tw) && decide (1 ≤ p.ep) && decide (0 ≤ p.bo) && decide (1 ≤ p.sq)
theorem who_iff (n : Int) : whoB n = true ↔ (0 ≤ n ∧ n < 5) ∨ n = 8 ∨ n = 9 := by
  unfold whoB
  simp only [Bool.or_eq_true, Bool.and_eq_true, decide_eq_true_eq]
  omega
theorem may_iff (p : PkZ) : mayP p = true ↔ whoB p.fr = true ∧ whoB p.tw = true ∧ p.fr ≠ p.tw ∧ 1 ≤ p.ep ∧ 0 ≤ p.bo ∧ 1 ≤ p.sq := by
  unfold mayP
  simp only [Bool.and_eq_true, decide_eq_true_eq, Bool.not_eq_true', decide_eq_false_iff_not, ne_eq]
  constructor
  · rintro ⟨⟨⟨⟨⟨h1, h2⟩, h3⟩, h4⟩, h5⟩, h6⟩; exact ⟨h1, h2, h3, h4, h5, h6⟩
  · rintro ⟨h1, h2, h3, h4, h5, h6⟩; exact ⟨⟨⟨⟨⟨h1, h2⟩, h3⟩, h4⟩, h5⟩, h6⟩
/-- What a packet's tag is of. -/
def headF (p : PkZ) : List Int := n64 p.fr ++ n64 p.tw ++ n64 p.ep ++ n64 p.bo ++ n64 p.sq ++ bytesF p.body
def linkS : ByteArray := { data := #[108, 105, 110, 107] }
/-- The right tag. -/
def tagR (root : List Int) (p : PkZ) : List Int := hmacZ (deriveZ root linkS [p.fr, p.tw, p.ep]) (headF p)
def bytesP (p : PkZ) : List Int := headF p ++ p.tag
/-- What is read of bytes, one field behind the other. -/
def pkR (s : Int × List Int) : PkZ × Int × List Int :=
  let a := rInt s
  let b := rInt a.2
  let c := rInt b.2
  let d := rInt c.2
  let e := rInt d.2
  let f := rBytes e.2
  let g := rTag f.2
  (⟨a.1, b.1, c.1, d.1, e.1, f.1, g.1⟩, g.2)
def parseL (bs : List Int) : PkZ × Int := if endZ (pkR (newWhy bs)).2.1 (pkR (newWhy bs)).2.2 = 0 ∧ mayP (pkR (newWhy bs)).1 = true then ((pkR (newWhy bs)).1, 0) else (p0, 190)
/-- A packet whose numbers fit. -/
structure POk (p : PkZ) : Prop where
  fr : InL p.fr
  tw : InL p.tw
  ep : InL p.ep
  bo : InL p.bo
  sq : InL p.sq
  body : IsBytes p.body
  bl : p.body.length ≤ 65536
  tag : IsBytes p.tag
  tl : p.tag.length = 32
theorem bytesF_lenL (zs : List Int) : (bytesF zs).length = 4 + zs.length := by unfold bytesF; rw [List.length_append, putZ_len]
theorem headF_len (p : PkZ) : (headF p).length = 44 + p.body.length := by
  unfold headF
  simp only [List.length_append, bytesF_lenL, n64_len']
  omega
theorem bytesF_bytes {zs : List Int} (h : IsBytes zs) : IsBytes (bytesF zs) := by unfold bytesF; exact (putZ_bytes _ _).app h
theorem headF_bytes {p : PkZ} (h : IsBytes p.body) : IsBytes (headF p) := by
  unfold headF
  exact (((((n64_bytes' _).app (n64_bytes' _)).app (n64_bytes' _)).app (n64_bytes' _)).app (n64_bytes' _)).app (bytesF_bytes h)
theorem tagR_len (root : List Int) (p : PkZ) : (tagR root p).length = 32 := hmacZ_len _ _
theorem tagR_bytes (root : List Int) (p : PkZ) : IsBytes (tagR root p) := hmacZ_bytes _ _
/-- Bytes that a reader has left. -/
def StL (s : Int × List Int) : Prop := IsBytes s.2 ∧ s.2.length ≤ 65536
theorem tk_st {α : Type} (k : Nat) (okf : List Int → List Int → Bool) (val : List Int → α) (nv : α) {s s' : Int × List Int} {a : α} (h : StL s) (e : tk k okf val nv s = (a, s')) : StL s' := by
  unfold tk at e
  split at e
  · injection e with _ e; subst e
    refine ⟨?_, ?_⟩
    · have := h.1; rw [isBytes_iff] at *; exact fun z hz => this z (List.mem_of_mem_drop hz)
    · show (s.2.drop k).length ≤ _; rw [List.length_drop]; have := h.2; omega
  · injection e with _ e; subst e
    exact ⟨IsBytes.nil, by simp⟩
theorem int_rg {s s' : Int × List Int} {a : Int} (h : StL s) (e : rInt s = (a, s')) : InL a ∧ StL s' := by
  refine ⟨?_, tk_st _ _ _ _ h e⟩
  have := rInt_rng s.1 h.1
  rw [show rInt (s.1, s.2) = (a, s') from e] at this
  exact this
theorem bytes_rg {s s' a} (h : StL s) (e : rBytes s = (a, s')) : (IsBytes a ∧ a.length ≤ 65536) ∧ StL s' := by
  have h1 := rBytes_good s.1 h.1 h.2
  rw [show rBytes (s.1, s.2) = (a, s') from e] at h1
  refine ⟨h1, ?_⟩
  unfold rBytes at e
  obtain ⟨v, s1, e1⟩ : ∃ v s1, rLen s = (v, s1) := ⟨_, _, rfl⟩
  rw [e1] at e
  exact tk_st _ _ _ _ (tk_st _ _ _ _ h e1) e
theorem tag_rg {s s' : Int × List Int} {a : List Int} (h : StL s) (e : rTag s = (a, s')) : (a.length = 32 ∧ IsBytes a) ∧ StL s' := by
  refine ⟨?_, tk_st _ _ _ _ h e⟩
  have := rTag_ok s.1 h.1
  rw [show rTag (s.1, s.2) = (a, s') from e] at this
  exact this
theorem newWhy_st {bs : List Int} (hB : IsBytes bs) : StL (newWhy bs) := by
  unfold newWhy
  split
  · exact ⟨hB, by assumption⟩
  · exact ⟨IsBytes.nil, by simp⟩
/-- What is read fits. -/
theorem pkR_ok {s : Int × List Int} (t0 : StL s) : POk (pkR s).1 := by
  obtain ⟨a1, s1, e1⟩ : ∃ a s', rInt s = (a, s') := ⟨_, _, rfl⟩
  obtain ⟨a2, s2, e2⟩ : ∃ a s, rInt s1 = (a, s) := ⟨_, _, rfl⟩
  obtain ⟨a3, s3, e3⟩ : ∃ a s, rInt s2 = (a, s) := ⟨_, _, rfl⟩
  obtain ⟨a4, s4, e4⟩ : ∃ a s, rInt s3 = (a, s) := ⟨_, _, rfl⟩
  obtain ⟨a5, s5, e5⟩ : ∃ a s, rInt s4 = (a, s) := ⟨_, _, rfl⟩
  obtain ⟨a6, s6, e6⟩ : ∃ a s, rBytes s5 = (a, s) := ⟨_, _, rfl⟩
  obtain ⟨a7, s7, e7⟩ : ∃ a s, rTag s6 = (a, s) := ⟨_, _, rfl⟩
  obtain ⟨g1, t1⟩ := int_rg t0 e1
  obtain ⟨g2, t2⟩ := int_rg t1 e2
  obtain ⟨g3, t3⟩ := int_rg t2 e3
  obtain ⟨g4, t4⟩ := int_rg t3 e4
  obtain ⟨g5, t5⟩ := int_rg t4 e5
  obtain ⟨g6, t6⟩ := bytes_rg t5 e6
  obtain ⟨g7, t7⟩ := tag_rg t6 e7
  have HR : pkR s = (⟨a1, a2, a3, a4, a5, a6, a7⟩, s7) := by
    unfold pkR
    simp only [e1, e2, e3, e4, e5, e6, e7]
  rw [HR]
  exact ⟨g1, g2, g3, g4, g5, g6.1, g6.2, g7.2, g7.1⟩
theorem int_app {n : Int} (h : InL n) (q : List Int) : rInt (0, n64 n ++ q) = (n, 0, q) := by
  unfold rInt
  rw [tk_app 8 _ _ _ (n64 n) q (n64_len' n) rfl, intZ_n64' n h.1 h.2]
theorem tag_app {t : List Int} (h : t.length = 32) (q : List Int) : rTag (0, t ++ q) = (t, 0, q) := by
  unfold rTag
  rw [tk_app 32 _ _ _ t q h rfl]
  rfl
/-- Bytes of a packet, and whatever stands behind them, are read as the packet; that is left. -/
theorem pkR_app {p : PkZ} (h : POk p) (q : List Int) : pkR (0, bytesP p ++ q) = (p, 0, q) := by
  have e : bytesP p ++ q = n64 p.fr ++ (n64 p.tw ++ (n64 p.ep ++ (n64 p.bo ++ (n64 p.sq ++ (bytesF p.body ++ (p.tag ++ q)))))) := by
    unfold bytesP headF
    simp only [List.append_assoc]
  rw [e]
  unfold pkR
  simp only [int_app h.fr, int_app h.tw, int_app h.ep, int_app h.bo, int_app h.sq, rBytes_app h.bl, tag_app h.tl]
theorem endZ_zero {a : Int} {r : List Int} (h : endZ a r = 0) : a = 0 ∧ r = [] := by
  unfold endZ at h
  by_cases h0 : a = 0
  · rw [if_neg (by simpa using h0)] at h
    by_cases hr : r.length = 0
    · exact ⟨h0, List.eq_nil_of_length_eq_zero hr⟩
    · rw [if_neg hr] at h; exact absurd h (by decide)
  · rw [if_pos h0] at h; exact absurd h h0
theorem bytesP_len {p : PkZ} (h : POk p) : (bytesP p).length = 76 + p.body.length := by
  unfold bytesP
  rw [List.length_append, headF_len, h.tl]; omega
theorem bytesP_bytes {p : PkZ} (h : POk p) : IsBytes (bytesP p) := by unfold bytesP; exact (headF_bytes h.body).app h.tag
theorem newWhy_ok {bs : List Int} (h : bs.length ≤ 65536) : newWhy bs = (0, bs) := if_pos h
theorem parseL_form {p : PkZ} (h : POk p) (hl : p.body.length ≤ 65000) (hm : mayP p = true) : parseL (bytesP p) = (p, 0) := by
  have e := pkR_app h []
  rw [List.append_nil] at e
  have hn := bytesP_len h
  unfold parseL
  rw [newWhy_ok (by omega), e, if_pos ⟨rfl, hm⟩]
theorem parseL_behind {p : PkZ} (h : POk p) (hl : p.body.length ≤ 65000) {q : List Int} (hq : q ≠ []) (hs : q.length ≤ 100) : parseL (bytesP p ++ q) = (p0, 190) := by
  have hn := bytesP_len h
  unfold parseL
  rw [newWhy_ok (by rw [List.length_append]; omega), if_neg]
  rintro ⟨h2, _⟩
  rw [pkR_app h q] at h2
  exact hq (endZ_zero h2).2
/-- What is read to the end has those bytes. -/
theorem pkR_back {bs : List Int} (hl : bs.length ≤ 65536) (hB : IsBytes bs) {p : PkZ} (h : pkR (0, bs) = (p, 0, [])) : bytesP p = bs := by
  obtain ⟨a1, s1, e1⟩ : ∃ a s', rInt (0, bs) = (a, s') := ⟨_, _, rfl⟩
  obtain ⟨a2, s2, e2⟩ : ∃ a s, rInt s1 = (a, s) := ⟨_, _, rfl⟩
  obtain ⟨a3, s3, e3⟩ : ∃ a s, rInt s2 = (a, s) := ⟨_, _, rfl⟩
  obtain ⟨a4, s4, e4⟩ : ∃ a s, rInt s3 = (a, s) := ⟨_, _, rfl⟩
  obtain ⟨a5, s5, e5⟩ : ∃ a s, rInt s4 = (a, s) := ⟨_, _, rfl⟩
  obtain ⟨a6, s6, e6⟩ : ∃ a s, rBytes s5 = (a, s) := ⟨_, _, rfl⟩
  obtain ⟨a7, s7, e7⟩ : ∃ a s, rTag s6 = (a, s) := ⟨_, _, rfl⟩
  have HR : pkR (0, bs) = (⟨a1, a2, a3, a4, a5, a6, a7⟩, s7) := by
    unfold pkR
    simp only [e1, e2, e3, e4, e5, e6, e7]
  rw [h] at HR
  injection HR with h1 h2
  have G0 : GoodS bs 0 bs (some []) := .inl ⟨rfl, [], rfl, rfl⟩
  have gi : ∀ {s s' : Int × List Int} {a : Int} {st}, rInt s = (a, s') → GoodS bs s.1 s.2 st → GoodS bs s'.1 s'.2 (wPut st (n64 a)) := fun {s s' a st} e g => by
    have := good_int hl hB g
    rw [show rInt (s.1, s.2) = (a, s') from e] at this
    exact this
  have gl : ∀ {s s' : Int × List Int} {a : List Int} {st}, rBytes s = (a, s') → GoodS bs s.1 s.2 st → GoodS bs s'.1 s'.2 (wPut st (bytesF a)) := fun {s s' a st} e g => by
    have := good_bytes hl hB g
    rw [show rBytes (s.1, s.2) = (a, s') from e] at this
    exact this
  have gt : ∀ {s s' : Int × List Int} {a : List Int} {st}, rTag s = (a, s') → GoodS bs s.1 s.2 st → GoodS bs s'.1 s'.2 (wPut st a) := fun {s s' a st} e g => by
    have := good_tag hl hB g
    rw [show rTag (s.1, s.2) = (a, s') from e] at this
    exact this
  have G := gt e7 (gl e6 (gi e5 (gi e4 (gi e3 (gi e2 (gi e1 G0))))))
  rw [← h2] at G
  rcases G with ⟨_, fs, e, e'⟩ | ⟨e, _⟩
  · rw [List.append_nil] at e'
    have key : ∀ {st : Option (List Int)} {zs fs : List Int}, wPut st zs = some fs → ∃ gs, st = some gs ∧ fs = gs ++ zs := fun {st zs fs} h => by
      cases st with
      | none => simp [wPut] at h
      | some gs =>
        unfold wPut at h
        simp only at h
        split at h
        · injection h with h; exact ⟨gs, rfl, h.symm⟩
        · cases h
    obtain ⟨g6, k6, f6⟩ := key e
    obtain ⟨g5, k5, f5⟩ := key k6
    obtain ⟨g4, k4, f4⟩ := key k5
    obtain ⟨g3, k3, f3⟩ := key k4
    obtain ⟨g2, k2, f2⟩ := key k3
    obtain ⟨g1, k1, f1⟩ := key k2
    obtain ⟨g0, k0, f0⟩ := key k1
    injection k0 with k0
    subst k0
    rw [h1, ← e', f6, f5, f4, f3, f2, f1, f0]
    rfl
  · exact absurd e (by decide)
/-- What is told beside no error. -/
theorem parseL_back {bs : List Int} (hl : bs.length ≤ 65536) (hB : IsBytes bs) {p : PkZ} (h : parseL bs = (p, 0)) : POk p ∧ mayP p = true ∧ bytesP p = bs := by
  unfold parseL at h
  rw [newWhy_ok hl] at h
  by_cases h2 : endZ (pkR (0, bs)).2.1 (pkR (0, bs)).2.2 = 0 ∧ mayP (pkR (0, bs)).1 = true
  · rw [if_pos h2] at h
    injection h with h _
    obtain ⟨e1, e2⟩ := endZ_zero h2.1
    have hm := h2.2
    have ok := pkR_ok (s := (0, bs)) ⟨hB, hl⟩
    rw [h] at hm ok
    exact ⟨ok, hm, pkR_back hl hB (by rw [← h]; exact Prod.ext rfl (Prod.ext e1 e2))⟩
  · rw [if_neg h2] at h; injection h with _ h; exact absurd h (by decide)
theorem parseL_err (bs : List Int) : (parseL bs).2 = 0 ∨ parseL bs = (p0, 190) := by
  unfold parseL
  split
  · exact .inl rfl
  · exact .inr rfl
theorem isBytes_takeL {zs : List Int} (h : IsBytes zs) (k : Nat) : IsBytes (zs.take k) := by
  rw [isBytes_iff] at *
  exact fun z hz => h z (List.mem_of_mem_take hz)
theorem parseL_cut {p : PkZ} (h : POk p) (hl : p.body.length ≤ 65000) {c : Nat} (hc : c < (bytesP p).length) : parseL ((bytesP p).take c) = (p0, 190) := by
  rcases parseL_err ((bytesP p).take c) with h0 | h0
  · exfalso
    have hn := bytesP_len h
    have hlt : ((bytesP p).take c).length = c := by rw [List.length_take]; omega
    obtain ⟨y, hy⟩ : ∃ y, (parseL ((bytesP p).take c)).1 = y := ⟨_, rfl⟩
    obtain ⟨yok, _, e⟩ := parseL_back (p := y) (by omega) (isBytes_takeL (bytesP_bytes h) c) (by rw [← hy, ← h0])
    obtain ⟨q, hq⟩ : ∃ q, (bytesP p).drop c = q := ⟨_, rfl⟩
    have e1 := pkR_app yok q
    rw [e, ← hq, List.take_append_drop] at e1
    have e2 := pkR_app h []
    rw [List.append_nil, e1] at e2
    injection e2 with _ e2
    injection e2 with _ e2
    have := congrArg List.length e2
    rw [List.length_drop] at this
    simp at this
    omega
  · exact h0
/-- One's own of all its links: how many packets were sent to whom, in which epoch; each sender's window. -/
structure EdZ where
  root : List Int
  who : Int
  boot : Int
  sent : Int → Int → Int
  wb : Int → Int → Int
  ws : Int → Int → List Int
def upd {α : Type} (f : Int → Int → α) (a b : Int) (v : α) : Int → Int → α := fun x y => if x = a ∧ y = b then v else f x y
theorem upd_same {α : Type} (f : Int → Int → α) (a b : Int) (v : α) : upd f a b v a b = v := if_pos ⟨rfl, rfl⟩
theorem upd_other {α : Type} (f : Int → Int → α) {a b x y : Int} (v : α) (h : ¬ (x = a ∧ y = b)) : upd f a b v x y = f x y := if_neg h
theorem upd_self {α : Type} (f : Int → Int → α) (a b : Int) {v : α} (h : f a b = v) : upd f a b v = f := by
  funext x y
  unfold upd
  split
  · next e => rw [e.1, e.2, h]
  · rfl
def newZ (root : List Int) (who boot : Int) : EdZ := ⟨root, who, boot, fun _ _ => 0, fun _ _ => -1, fun _ _ => []⟩
/-- The packet that is sent next, sealed. -/
def bareZ (x : EdZ) (tw ep : Int) (body : List Int) : PkZ := ⟨x.who, tw, ep, x.boot, x.sent tw ep + 1, body, List.replicate 32 0⟩
def sealZ (root : List Int) (p : PkZ) : PkZ := { p with tag := tagR root p }
def nextP (x : EdZ) (tw ep : Int) (body : List Int) : PkZ := sealZ x.root (bareZ x tw ep body)
def sendZ (x : EdZ) (tw ep : Int) (body : List Int) : List Int × Int × EdZ :=
  if mayP (bareZ x tw ep body) = true then (bytesP (nextP x tw ep body), 0, { x with sent := upd x.sent tw ep (x.sent tw ep + 1) }) else ([], 2, x)
/-- A packet that may be is got: the error, and what is kept. -/
def takeE (x : EdZ) (p : PkZ) : Int × EdZ :=
  if p.tw ≠ x.who then (190, x)
  else if p.tag ≠ tagR x.root p then (91, x)
  else ((takeZ (x.wb p.fr p.ep) (x.ws p.fr p.ep) p.bo p.sq).1, { x with wb := upd x.wb p.fr p.ep (takeZ (x.wb p.fr p.ep) (x.ws p.fr p.ep) p.bo p.sq).2.1, ws := upd x.ws p.fr p.ep (takeZ (x.wb p.fr p.ep) (x.ws p.fr p.ep) p.bo p.sq).2.2 })
def getZ (x : EdZ) (bs : List Int) : PkZ × Int × EdZ :=
  if (parseL bs).2 ≠ 0 then (p0, 190, x)
  else (if (takeE x (parseL bs).1).1 = 0 then (parseL bs).1 else p0, (takeE x (parseL bs).1).1, (takeE x (parseL bs).1).2)
theorem tagR_seal (root : List Int) (p : PkZ) (t : List Int) : tagR root { p with tag := t } = tagR root p := rfl
theorem may_seal (root : List Int) (p : PkZ) : mayP (sealZ root p) = mayP p := rfl
end Lk
end Go.Proofs.YtlknjaoamkcmjaaDoor
