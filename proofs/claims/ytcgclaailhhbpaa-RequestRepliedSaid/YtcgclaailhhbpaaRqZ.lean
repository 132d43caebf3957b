/- Requests there and back, plainly. -/
import Derived.Test.YtcgclaailhhbpaaRqL
namespace Go.Proofs.Ytcgclaailhhbpaa
open Go.ChangeShapes Go.WideShapes Go.ChangeAt Go.RowKit
set_option linter.unusedVariables false
set_option maxRecDepth 100000
open Plain Sha Au Rp Rq
theorem strOf_strZ (s : ByteArray) : strOfNums (strZ s) = s := by
  apply ByteArray.ext
  apply Array.ext'
  rw [strOfNums_data]
  unfold strZ
  rw [List.map_map]
  have : (fun (n : UInt8) => UInt8.ofNat ((n.toNat : Int)).toNat) = id := by
    funext n
    simp
  show List.map (fun (n : UInt8) => UInt8.ofNat ((n.toNat : Int)).toNat) s.data.toList = _
  rw [this, List.map_id]
theorem byte_app (x : Int) (q : List Int) : rByte (0, [x] ++ q) = (x, 0, q) := by
  unfold rByte
  rw [tk_app 1 _ _ _ [x] q rfl rfl]
  rfl
theorem int_app {n : Int} (h : InA n) (q : List Int) : rInt (0, n64 n ++ q) = (n, 0, q) := by
  unfold rInt
  rw [tk_app 8 _ _ _ (n64 n) q (n64_len' n) rfl, intZ_n64' n h.1 h.2]
theorem bytes_app {zs : List Int} (h : zs.length ≤ 65536) (q : List Int) : rBytes (0, bytesF zs ++ q) = (zs, 0, q) := rBytes_app h
theorem text_app {s : ByteArray} (h : s.size ≤ 65536) (q : List Int) : rBytes (0, bytesF (strZ s) ++ q) = (strZ s, 0, q) := rBytes_app (by rw [strZ_len]; exact h)
/-- A request whose numbers fit, whose texts are not too long. -/
structure ReqOk (z : ReqZ) : Prop where
  n : InA z.n
  tn : InA z.tn
  ks : InA z.ks
  sp : InA z.sp
  ex : InA z.ex
  sr : InA z.sr
  tok : z.tok.length ≤ 65536
  key : z.key.size ≤ 65536
  val : z.val.size ≤ 65536
  old : z.old.size ≤ 65536
theorem QOk.z {w : World} {B : Nat} {x : QX} (h : QOk w B x) (hm : mayB x.z = true) : ReqOk x.z := by
  obtain ⟨h1, h2, h3, h4⟩ := may_short hm
  exact ⟨h.n, h.tn, h.ks, h.sp, h.ex, h.sr, by omega, by omega, by omega, by omega⟩
/-- A form, and whatever stands behind it, is read as the request; that is left. -/
theorem reqR_app {z : ReqZ} (h : ReqOk z) (q : List Int) : reqR (0, reqF z ++ q) = (z, 0, q) := by
  have e : reqF z ++ q = [z.op] ++ (bytesF z.tok ++ (bytesF (strZ z.key) ++ (bytesF (strZ z.val) ++ (bytesF (strZ z.old) ++ (n64 z.n ++ (n64 z.tn ++ (n64 z.ks ++ (n64 z.sp ++ ([z.rt] ++ (n64 z.ex ++ (n64 z.sr ++ q))))))))))) := by
    unfold reqF
    simp only [List.append_assoc]
  rw [e]
  unfold reqR
  simp only [byte_app, bytes_app h.tok, text_app h.key, text_app h.val, text_app h.old, int_app h.n, int_app h.tn, int_app h.ks, int_app h.sp, int_app h.ex, int_app h.sr, strOf_strZ]
/-- What is read to the end has that form. -/
theorem reqR_back {bs : List Int} (hl : bs.length ≤ 65536) (hB : IsBytes bs) {z : ReqZ} (h : reqR (0, bs) = (z, 0, [])) (hz : (reqF z).length ≤ 65536) : reqF z = bs := by
  obtain ⟨a1, s1, e1⟩ : ∃ a s, rByte (0, bs) = (a, s) := ⟨_, _, rfl⟩
  obtain ⟨a2, s2, e2⟩ : ∃ a s, rBytes s1 = (a, s) := ⟨_, _, rfl⟩
  obtain ⟨a3, s3, e3⟩ : ∃ a s, rBytes s2 = (a, s) := ⟨_, _, rfl⟩
  obtain ⟨a4, s4, e4⟩ : ∃ a s, rBytes s3 = (a, s) := ⟨_, _, rfl⟩
  obtain ⟨a5, s5, e5⟩ : ∃ a s, rBytes s4 = (a, s) := ⟨_, _, rfl⟩
  obtain ⟨a6, s6, e6⟩ : ∃ a s, rInt s5 = (a, s) := ⟨_, _, rfl⟩
  obtain ⟨a7, s7, e7⟩ : ∃ a s, rInt s6 = (a, s) := ⟨_, _, rfl⟩
  obtain ⟨a8, s8, e8⟩ : ∃ a s, rInt s7 = (a, s) := ⟨_, _, rfl⟩
  obtain ⟨a9, s9, e9⟩ : ∃ a s, rInt s8 = (a, s) := ⟨_, _, rfl⟩
  obtain ⟨a10, s10, e10⟩ : ∃ a s, rByte s9 = (a, s) := ⟨_, _, rfl⟩
  obtain ⟨a11, s11, e11⟩ : ∃ a s, rInt s10 = (a, s) := ⟨_, _, rfl⟩
  obtain ⟨a12, s12, e12⟩ : ∃ a s, rInt s11 = (a, s) := ⟨_, _, rfl⟩
  have t0 : StB (0, bs) := ⟨hB, hl⟩
  obtain ⟨g1, t1⟩ := byte_rg t0 e1
  obtain ⟨g2, t2⟩ := bytes_rg t1 e2
  obtain ⟨g3, t3⟩ := bytes_rg t2 e3
  obtain ⟨g4, t4⟩ := bytes_rg t3 e4
  obtain ⟨g5, t5⟩ := bytes_rg t4 e5
  have HR : reqR (0, bs) = (⟨a1, a2, strOfNums a3, strOfNums a4, strOfNums a5, a6, a7, a8, a9, a10, a11, a12⟩, s12) := by
    unfold reqR
    simp only [e1, e2, e3, e4, e5, e6, e7, e8, e9, e10, e11, e12]
  rw [h] at HR
  injection HR with h1 h2
  have G0 : GoodS bs 0 bs (some []) := .inl ⟨rfl, [], rfl, rfl⟩
  have gb : ∀ {s s' : Int × List Int} {a : Int} {st}, rByte s = (a, s') → GoodS bs s.1 s.2 st → GoodS bs s'.1 s'.2 (wPut st [a]) := fun {s s' a st} e g => by
    have := good_byte hl hB g
    rw [show rByte (s.1, s.2) = (a, s') from e] at this
    exact this
  have gi : ∀ {s s' : Int × List Int} {a : Int} {st}, rInt s = (a, s') → GoodS bs s.1 s.2 st → GoodS bs s'.1 s'.2 (wPut st (n64 a)) := fun {s s' a st} e g => by
    have := good_int hl hB g
    rw [show rInt (s.1, s.2) = (a, s') from e] at this
    exact this
  have gl : ∀ {s s' : Int × List Int} {a : List Int} {st}, rBytes s = (a, s') → GoodS bs s.1 s.2 st → GoodS bs s'.1 s'.2 (wPut st (bytesF a)) := fun {s s' a st} e g => by
    have := good_bytes hl hB g
    rw [show rBytes (s.1, s.2) = (a, s') from e] at this
    exact this
  have G := gi e12 (gi e11 (gb e10 (gi e9 (gi e8 (gi e7 (gi e6 (gl e5 (gl e4 (gl e3 (gl e2 (gb e1 G0)))))))))))
  rw [← h2] at G
  have hst := st_req z hz
  rw [h1] at hst ⊢
  simp only [strZ_of g3.1, strZ_of g4.1, strZ_of g5.1] at hst
  rw [hst] at G
  rcases G with ⟨_, fs, e, e'⟩ | ⟨e, _⟩
  · injection e with e
    rw [e, ← e', List.append_nil]
  · exact absurd e (by decide)
/-- What is read fits. -/
theorem reqR_ok {s : Int × List Int} (t0 : StB s) : ReqOk (reqR s).1 := by
  obtain ⟨a1, s1, e1⟩ : ∃ a s', rByte s = (a, s') := ⟨_, _, rfl⟩
  obtain ⟨a2, s2, e2⟩ : ∃ a s, rBytes s1 = (a, s) := ⟨_, _, rfl⟩
  obtain ⟨a3, s3, e3⟩ : ∃ a s, rBytes s2 = (a, s) := ⟨_, _, rfl⟩
  obtain ⟨a4, s4, e4⟩ : ∃ a s, rBytes s3 = (a, s) := ⟨_, _, rfl⟩
  obtain ⟨a5, s5, e5⟩ : ∃ a s, rBytes s4 = (a, s) := ⟨_, _, rfl⟩
  obtain ⟨a6, s6, e6⟩ : ∃ a s, rInt s5 = (a, s) := ⟨_, _, rfl⟩
  obtain ⟨a7, s7, e7⟩ : ∃ a s, rInt s6 = (a, s) := ⟨_, _, rfl⟩
  obtain ⟨a8, s8, e8⟩ : ∃ a s, rInt s7 = (a, s) := ⟨_, _, rfl⟩
  obtain ⟨a9, s9, e9⟩ : ∃ a s, rInt s8 = (a, s) := ⟨_, _, rfl⟩
  obtain ⟨a10, s10, e10⟩ : ∃ a s, rByte s9 = (a, s) := ⟨_, _, rfl⟩
  obtain ⟨a11, s11, e11⟩ : ∃ a s, rInt s10 = (a, s) := ⟨_, _, rfl⟩
  obtain ⟨a12, s12, e12⟩ : ∃ a s, rInt s11 = (a, s) := ⟨_, _, rfl⟩
  obtain ⟨g1, t1⟩ := byte_rg t0 e1
  obtain ⟨g2, t2⟩ := bytes_rg t1 e2
  obtain ⟨g3, t3⟩ := bytes_rg t2 e3
  obtain ⟨g4, t4⟩ := bytes_rg t3 e4
  obtain ⟨g5, t5⟩ := bytes_rg t4 e5
  obtain ⟨g6, t6⟩ := int_rg t5 e6
  obtain ⟨g7, t7⟩ := int_rg t6 e7
  obtain ⟨g8, t8⟩ := int_rg t7 e8
  obtain ⟨g9, t9⟩ := int_rg t8 e9
  obtain ⟨g10, t10⟩ := byte_rg t9 e10
  obtain ⟨g11, t11⟩ := int_rg t10 e11
  obtain ⟨g12, t12⟩ := int_rg t11 e12
  have HR : reqR s = (⟨a1, a2, strOfNums a3, strOfNums a4, strOfNums a5, a6, a7, a8, a9, a10, a11, a12⟩, s12) := by
    unfold reqR
    simp only [e1, e2, e3, e4, e5, e6, e7, e8, e9, e10, e11, e12]
  rw [HR]
  exact ⟨g6, g7, g8, g9, g11, g12, g2.2, by show (strOfNums a3).size ≤ _; rw [strOfNums_size]; exact g3.2, by show (strOfNums a4).size ≤ _; rw [strOfNums_size]; exact g4.2, by show (strOfNums a5).size ≤ _; rw [strOfNums_size]; exact g5.2⟩
theorem endZ_zero {a : Int} {r : List Int} (h : endZ a r = 0) : a = 0 ∧ r = [] := by
  unfold endZ at h
  by_cases h0 : a = 0
  · rw [if_neg (by simpa using h0)] at h
    by_cases hr : r.length = 0
    · exact ⟨h0, List.eq_nil_of_length_eq_zero hr⟩
    · rw [if_neg hr] at h; exact absurd h (by decide)
  · rw [if_pos h0] at h; exact absurd h h0
/-- A form of a request that may be is read as the request. -/
theorem parseQ_form {z : ReqZ} (h : ReqOk z) (hm : mayB z = true) : parseQ (reqF z) = (z, 0) := by
  have hl := reqF_short hm
  have e := reqR_app h []
  rw [List.append_nil] at e
  unfold parseQ
  rw [if_neg (by omega), e, if_pos ⟨rfl, hm⟩]
/-- What is read as a request has its form. -/
theorem parseQ_back {bs : List Int} (hB : IsBytes bs) {z : ReqZ} (h : parseQ bs = (z, 0)) : bs.length ≤ 1024 ∧ mayB z = true ∧ reqF z = bs := by
  unfold parseQ at h
  by_cases h1 : 1024 < bs.length
  · rw [if_pos h1] at h; injection h with _ h; exact absurd h (by decide)
  · rw [if_neg h1] at h
    by_cases h2 : endZ (reqR (0, bs)).2.1 (reqR (0, bs)).2.2 = 0 ∧ mayB (reqR (0, bs)).1 = true
    · rw [if_pos h2] at h
      injection h with h _
      obtain ⟨e1, e2⟩ := endZ_zero h2.1
      have hm := h2.2
      rw [h] at hm
      exact ⟨by omega, hm, reqR_back (by omega) hB (by rw [← h]; exact Prod.ext rfl (Prod.ext e1 e2)) (by have := reqF_short hm; omega)⟩
    · rw [if_neg h2] at h; injection h with _ h; exact absurd h (by decide)
/-- Bytes tell 0, 3 or 150; beside an error, nothing. -/
theorem parseQ_err (bs : List Int) : (parseQ bs).2 = 0 ∨ ((parseQ bs).1 = z0 ∧ ((parseQ bs).2 = 3 ∧ 1024 < bs.length ∨ (parseQ bs).2 = 150 ∧ bs.length ≤ 1024)) := by
  unfold parseQ
  by_cases h1 : 1024 < bs.length
  · rw [if_pos h1]; exact .inr ⟨rfl, .inl ⟨rfl, h1⟩⟩
  · rw [if_neg h1]
    split
    · exact .inl rfl
    · exact .inr ⟨rfl, .inr ⟨rfl, by omega⟩⟩
/-- A form with bytes behind it is none. -/
theorem parseQ_behind {z : ReqZ} (h : ReqOk z) {q : List Int} (hq : q ≠ []) : parseQ (reqF z ++ q) = (z0, if 1024 < (reqF z ++ q).length then 3 else 150) := by
  unfold parseQ
  by_cases h1 : 1024 < (reqF z ++ q).length
  · rw [if_pos h1, if_pos h1]
  · rw [if_neg h1, if_neg h1, if_neg]
    rintro ⟨h2, _⟩
    rw [reqR_app h q] at h2
    exact hq (endZ_zero h2).2
theorem isBytes_take {zs : List Int} (h : IsBytes zs) (k : Nat) : IsBytes (zs.take k) := by
  rw [isBytes_iff] at *
  exact fun z hz => h z (List.mem_of_mem_take hz)
/-- Nor a beginning of it. -/
theorem parseQ_cut {z : ReqZ} (h : ReqOk z) (hB : IsBytes (reqF z)) (hs : (reqF z).length ≤ 474) {c : Nat} (hc : c < (reqF z).length) : (parseQ ((reqF z).take c)).2 = 150 := by
  have hl : ((reqF z).take c).length = c := by rw [List.length_take]; omega
  rcases parseQ_err ((reqF z).take c) with h0 | ⟨_, ⟨_, h3⟩ | ⟨h3, _⟩⟩
  · exfalso
    obtain ⟨y, hy⟩ : ∃ y, (parseQ ((reqF z).take c)).1 = y := ⟨_, rfl⟩
    obtain ⟨_, hm, e⟩ := parseQ_back (z := y) (isBytes_take hB c) (by rw [← hy, ← h0])
    obtain ⟨m1, m2, m3, m4⟩ := may_short hm
    have hR : reqR (0, (reqF z).take c) = (y, 0, []) := by
      unfold parseQ at h0 hy
      rw [if_neg (by omega)] at h0 hy
      split at h0
      · next hh =>
        rw [if_pos hh] at hy
        obtain ⟨e1, e2⟩ := endZ_zero hh.1
        rw [← hy]
        exact Prod.ext rfl (Prod.ext e1 e2)
      · exact absurd h0 (by decide)
    -- the numbers of what was read fit
    obtain ⟨q, hq⟩ : ∃ q, (reqF z).drop c = q := ⟨_, rfl⟩
    have hyok : ReqOk y := by
      have := reqR_ok (s := (0, (reqF z).take c)) ⟨isBytes_take hB c, by show ((reqF z).take c).length ≤ 65536; omega⟩
      rw [hR] at this
      exact this
    have e1 := reqR_app hyok q
    rw [e, ← hq, List.take_append_drop] at e1
    have e2 := reqR_app h []
    rw [List.append_nil, e1] at e2
    injection e2 with _ e2
    injection e2 with _ e2
    have := congrArg List.length e2
    rw [List.length_drop] at this
    simp at this
    omega
  · omega
  · exact h3
end Go.Proofs.Ytcgclaailhhbpaa
