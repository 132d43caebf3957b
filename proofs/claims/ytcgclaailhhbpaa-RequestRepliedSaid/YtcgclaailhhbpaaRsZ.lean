/- Replies there and back, plainly. -/
import Derived.Test.YtcgclaailhhbpaaRsE
import Derived.Test.YtcgclaailhhbpaaRqZ
import Derived.Test.YtcgclaailhhbpaaRsPrint
namespace Go.Proofs.Ytcgclaailhhbpaa
open Go.ChangeShapes Go.WideShapes Go.ChangeAt Go.RowKit
set_option linter.unusedVariables false
set_option maxRecDepth 100000
open Plain Sha Au Rp Rq
/-- A reply whose numbers fit, whose texts are not too long. -/
structure RepOk (z : RepZ) : Prop where
  err : InA z.err
  n : InA z.n
  gn : InA z.g.n
  st : InA z.g.st
  tn : InA z.g.tn
  a : InA z.g.a
  b : InA z.g.b
  c : InA z.g.c
  val : z.val.size ≤ 65536
  ks : ∀ k, k ∈ z.ks → k.size ≤ 65536
  len : z.ks.length ≤ 16
theorem ROk.z {w : World} {B : Nat} {x : RX} (h : ROk w B x) (hm : mayR x.z = true) : RepOk x.z := by
  obtain ⟨h1, h2, h3⟩ := mayR_yes hm
  exact ⟨h.err, h.n, h.g.n, h.g.st, h.g.tn, h.g.a, h.g.b, h.g.c, by omega, fun k hk => by have := h3 k hk; omega, h1⟩
theorem rtag_app {H : List Int} (h : H.length = 32) (q : List Int) : rTag (0, H ++ q) = (H, 0, q) := by
  unfold rTag
  rw [tk_app 32 _ _ _ H q h rfl]
  rfl
theorem rcount_app {n : Nat} (h : n ≤ 16) (q : List Int) (hq : n ≤ q.length) : rCount 16 (0, n64 (n : Int) ++ q) = ((n : Int), 0, q) := by
  have e : intZ (n64 (n : Int)) = (n : Int) := intZ_n64' _ (by omega) (by omega)
  unfold rCount
  rw [tk_app 8 _ _ _ (n64 (n : Int)) q (n64_len' _) (by
    rw [e]
    exact decide_eq_true ⟨by omega, by omega, by omega⟩), e]
theorem rtexts_app (ks : List ByteArray) (q : List Int) (hk : ∀ k, k ∈ ks → k.size ≤ 65536) : ∀ k, k ≤ ks.length → rTexts k (0, keysF ks ++ q) = (ks.take k, 0, keysF (ks.drop k) ++ q)
  | 0, _ => by simp [rTexts]
  | k + 1, h => by
    have ih := rtexts_app ks q hk k (by omega)
    have hd : ks.drop k = ks[k] :: ks.drop (k + 1) := (List.getElem_cons_drop (by omega)).symm
    have e : rBytes (rTexts k (0, keysF ks ++ q)).2 = (strZ ks[k], 0, keysF (ks.drop (k + 1)) ++ q) := by
      rw [ih, hd]
      show rBytes (0, (bytesF (strZ ks[k]) ++ keysF (ks.drop (k + 1))) ++ q) = _
      rw [List.append_assoc]
      exact text_app (hk _ (List.getElem_mem _)) _
    rw [rTexts_step e, ih, strOf_strZ]
    show (ks.take k ++ [ks[k]], _) = _
    rw [List.take_succ_eq_append_getElem (by omega)]
theorem keysF_long : ∀ (l : List ByteArray), l.length ≤ (keysF l).length
  | [] => by simp
  | a :: l => by
    have := keysF_long l
    simp only [keysF, List.length_append, bytesF_len, List.length_cons]
    omega
/-- A form, and whatever stands behind it, is read as the reply; that is left. -/
theorem repR_app {z : RepZ} (h : RepOk z) (q : List Int) : repR (0, repF z ++ q) = (z, 0, q) := by
  have e : repF z ++ q = n64 z.err ++ (bytesF (strZ z.val) ++ (n64 (z.ks.length : Nat) ++ (keysF z.ks ++ (n64 z.n ++ (n64 z.g.n ++ (n64 z.g.st ++ ([z.g.op] ++ (n64 z.g.tn ++ (n64 z.g.a ++ (n64 z.g.b ++ (n64 z.g.c ++ (z.g.H ++ (z.g.S ++ q))))))))))))) := by
    unfold repF repF3 repF2 repF1
    simp only [List.append_assoc]
  have hx : ∀ r, rTexts ((z.ks.length : Nat) : Int).toNat (0, keysF z.ks ++ r) = (z.ks, 0, r) := fun r => by
    rw [Int.toNat_natCast, rtexts_app z.ks r h.ks _ (Nat.le_refl _), List.take_of_length_le (Nat.le_refl _), List.drop_of_length_le (Nat.le_refl _)]
    rfl
  have hc : ∀ r, rCount 16 (0, n64 (z.ks.length : Nat) ++ (keysF z.ks ++ r)) = ((z.ks.length : Int), 0, keysF z.ks ++ r) := fun r => rcount_app h.len _ (by
    have := keysF_long z.ks
    rw [List.length_append]
    omega)
  rw [e]
  unfold repR
  simp only [int_app h.err, text_app h.val, hc, hx, int_app h.n, int_app h.gn, int_app h.st, byte_app, int_app h.tn, int_app h.a, int_app h.b, int_app h.c, rtag_app z.g.hH, rtag_app z.g.hS, strOf_strZ, mkL_eq z.g.hH z.g.hS]
def putAll (st : Option (List Int)) (l : List ByteArray) : Option (List Int) := l.foldl (fun st k => wPut st (bytesF (strZ k))) st
theorem putAll_ok : ∀ (l : List ByteArray) (p : List Int), (p ++ keysF l).length ≤ 65536 → putAll (some p) l = some (p ++ keysF l)
  | [], p, _ => by simp [putAll, keysF]
  | a :: l, p, h => by
    simp only [keysF, List.length_append] at h
    show putAll (wPut (some p) (bytesF (strZ a))) l = _
    rw [wPut_yes p _ (by omega), putAll_ok l _ (by simp only [List.length_append]; omega), List.append_assoc]
    rfl
theorem good_texts {bs : List Int} (hl : bs.length ≤ 65536) (hB : IsBytes bs) {st : Option (List Int)} : ∀ (k : Nat) {s : Int × List Int}, StB s → GoodS bs s.1 s.2 st → GoodS bs (rTexts k s).2.1 (rTexts k s).2.2 (putAll st (rTexts k s).1)
  | 0, _, _, g => g
  | k + 1, s, t, g => by
    have ih := good_texts hl hB k t g
    obtain ⟨a, s', e⟩ : ∃ a s', rBytes (rTexts k s).2 = (a, s') := ⟨_, _, rfl⟩
    have hr := (bytes_rg (texts_rg k t) e).1
    rw [rTexts_step e]
    have := good_bytes hl hB ih
    rw [show rBytes ((rTexts k s).2.1, (rTexts k s).2.2) = (a, s') from e] at this
    unfold putAll at this ⊢
    rw [List.foldl_append]
    show GoodS bs s'.1 s'.2 (wPut _ (bytesF (strZ (strOfNums a))))
    rw [strZ_of hr.1]
    exact this
/-- What is read, and what is known of it. -/
theorem repR_back {bs : List Int} (hl : bs.length ≤ 65536) (hB : IsBytes bs) {z : RepZ} {s : Int × List Int} (h : repR (0, bs) = (z, s)) : RepOk z ∧ (s = (0, []) → (repF z).length ≤ 65536 → repF z = bs) := by
  obtain ⟨a1, s1, e1⟩ : ∃ a s, rInt (0, bs) = (a, s) := ⟨_, _, rfl⟩
  obtain ⟨a2, s2, e2⟩ : ∃ a s, rBytes s1 = (a, s) := ⟨_, _, rfl⟩
  obtain ⟨a3, s3, e3⟩ : ∃ a s, rCount 16 s2 = (a, s) := ⟨_, _, rfl⟩
  obtain ⟨c30, c31⟩ := rCount_rng (by decide) e3
  obtain ⟨cnt, hcnt⟩ : ∃ c : Nat, a3 = (c : Int) := ⟨a3.toNat, by omega⟩
  subst hcnt
  obtain ⟨a4, s4, e4⟩ : ∃ a s, rTexts cnt s3 = (a, s) := ⟨_, _, rfl⟩
  obtain ⟨a5, s5, e5⟩ : ∃ a s, rInt s4 = (a, s) := ⟨_, _, rfl⟩
  obtain ⟨a6, s6, e6⟩ : ∃ a s, rInt s5 = (a, s) := ⟨_, _, rfl⟩
  obtain ⟨a7, s7, e7⟩ : ∃ a s, rInt s6 = (a, s) := ⟨_, _, rfl⟩
  obtain ⟨a8, s8, e8⟩ : ∃ a s, rByte s7 = (a, s) := ⟨_, _, rfl⟩
  obtain ⟨a9, s9, e9⟩ : ∃ a s, rInt s8 = (a, s) := ⟨_, _, rfl⟩
  obtain ⟨a10, s10, e10⟩ : ∃ a s, rInt s9 = (a, s) := ⟨_, _, rfl⟩
  obtain ⟨a11, s11, e11⟩ : ∃ a s, rInt s10 = (a, s) := ⟨_, _, rfl⟩
  obtain ⟨a12, s12, e12⟩ : ∃ a s, rInt s11 = (a, s) := ⟨_, _, rfl⟩
  obtain ⟨a13, s13, e13⟩ : ∃ a s, rTag s12 = (a, s) := ⟨_, _, rfl⟩
  obtain ⟨a14, s14, e14⟩ : ∃ a s, rTag s13 = (a, s) := ⟨_, _, rfl⟩
  have t0 : StB (0, bs) := ⟨hB, hl⟩
  obtain ⟨g1, t1⟩ := int_rg t0 e1
  obtain ⟨g2, t2⟩ := bytes_rg t1 e2
  have t3 := count_rg t2 e3
  have t4 : StB s4 := by have := texts_rg cnt t3; rw [e4] at this; exact this
  have l4 : a4.length = cnt := by have := rTexts_len cnt s3; rw [e4] at this; exact this
  obtain ⟨g5, t5⟩ := int_rg t4 e5
  obtain ⟨g6, t6⟩ := int_rg t5 e6
  obtain ⟨g7, t7⟩ := int_rg t6 e7
  obtain ⟨g8, t8⟩ := byte_rg t7 e8
  obtain ⟨g9, t9⟩ := int_rg t8 e9
  obtain ⟨g10, t10⟩ := int_rg t9 e10
  obtain ⟨g11, t11⟩ := int_rg t10 e11
  obtain ⟨g12, t12⟩ := int_rg t11 e12
  obtain ⟨g13, t13⟩ := tag_rg t12 e13
  obtain ⟨g14, t14⟩ := tag_rg t13 e14
  have k4 : ∀ (k : Nat) (s : Int × List Int), StB s → ∀ y, y ∈ (rTexts k s).1 → y.size ≤ 65536 := by
    intro k
    induction k with
    | zero => intro s _ y hy; simp [rTexts] at hy
    | succ k ih =>
      intro s t y hy
      obtain ⟨a, s', e⟩ : ∃ a s', rBytes (rTexts k s).2 = (a, s') := ⟨_, _, rfl⟩
      have hr := (bytes_rg (texts_rg k t) e).1
      rw [rTexts_step e] at hy
      rcases List.mem_append.1 hy with h | h
      · exact ih s t y h
      · rw [List.mem_singleton.1 h, strOfNums_size]; exact hr.2
  have HR : repR (0, bs) = (⟨a1, strOfNums a2, a4, a5, ⟨a6, a7, a8, a9, a10, a11, a12, a13, a14, g13.1, g14.1⟩⟩, s14) := by
    rw [← mkL_eq g13.1 g14.1]
    unfold repR
    simp only [e1, e2, e3, e4, e5, e6, e7, e8, e9, e10, e11, e12, e13, e14, Int.toNat_natCast]
  rw [h] at HR
  injection HR with h1 h2
  refine ⟨?_, fun hs hz => ?_⟩
  · rw [h1]
    exact ⟨g1, g5, g6, g7, g9, g10, g11, g12, by show (strOfNums a2).size ≤ _; rw [strOfNums_size]; exact g2.2, by have := k4 cnt s3 t3; rw [e4] at this; exact this, by show a4.length ≤ 16; omega⟩
  have G0 : GoodS bs 0 bs (some []) := .inl ⟨rfl, [], rfl, rfl⟩
  have gb : ∀ {s s' : Int × List Int} {a : Int} {st}, rByte s = (a, s') → GoodS bs s.1 s.2 st → GoodS bs s'.1 s'.2 (wPut st [a]) := fun {s s' a st} e g => by
    have := good_byte hl hB g
    rw [show rByte (s.1, s.2) = (a, s') from e] at this
    exact this
  have gi : ∀ {s s' : Int × List Int} {a : Int} {st}, rInt s = (a, s') → GoodS bs s.1 s.2 st → GoodS bs s'.1 s'.2 (wPut st (n64 a)) := fun {s s' a st} e g => by
    have := good_int hl hB g
    rw [show rInt (s.1, s.2) = (a, s') from e] at this
    exact this
  have gl : ∀ {s s' : Int × List Int} {a : List Int} {st}, rBytes s = (a, s') → GoodS bs s.1 s.2 st → GoodS bs s'.1 s'.2 (wPut st (bytesF a)) := fun {s s' a st} e g => by
    have := good_bytes hl hB g
    rw [show rBytes (s.1, s.2) = (a, s') from e] at this
    exact this
  have gt : ∀ {s s' : Int × List Int} {a : List Int} {st}, rTag s = (a, s') → GoodS bs s.1 s.2 st → GoodS bs s'.1 s'.2 (wPut st a) := fun {s s' a st} e g => by
    have := good_tag hl hB g
    rw [show rTag (s.1, s.2) = (a, s') from e] at this
    exact this
  have gc : ∀ {s s' : Int × List Int} {a : Int} {st}, rCount 16 s = (a, s') → GoodS bs s.1 s.2 st → GoodS bs s'.1 s'.2 (wPut st (n64 a)) := fun {s s' a st} e g => by
    have := good_tk 8 (fun b r => decide (0 ≤ intZ b ∧ intZ b ≤ 16 ∧ intZ b ≤ (r.length : Nat))) intZ 0 n64 hl hB g (fun p r hl hp _ => n64_intZ p hl hp)
    rw [show tk 8 (fun b r => decide (0 ≤ intZ b ∧ intZ b ≤ 16 ∧ intZ b ≤ (r.length : Nat))) intZ 0 (s.1, s.2) = (a, s') from e] at this
    exact this
  have gx : ∀ {st}, GoodS bs s3.1 s3.2 st → GoodS bs s4.1 s4.2 (putAll st a4) := fun {st} g => by
    have := good_texts hl hB cnt t3 g
    rw [e4] at this
    exact this
  have G := gt e14 (gt e13 (gi e12 (gi e11 (gi e10 (gi e9 (gb e8 (gi e7 (gi e6 (gi e5 (gx (gc e3 (gl e2 (gi e1 G0)))))))))))))
  rw [← h2, hs] at G
  have hv : z.val.size ≤ 65395 := by rw [repF_len] at hz; omega
  have hst1 : wPut (wPut (wPut (some []) (n64 z.err)) (bytesF (strZ z.val))) (n64 (z.ks.length : Nat)) = some (repF1 z) := by
    unfold repF1
    rw [wPut_yes [] _ (by simp [n64_len']), List.nil_append]
    rw [wPut_yes _ _ (by rw [n64_len', bytesF_len, strZ_len]; omega)]
    rw [wPut_yes _ _ (by simp only [List.length_append, n64_len', bytesF_len, strZ_len]; omega)]
  have hst2 : putAll (some (repF1 z)) z.ks = some (repF2 z) := putAll_ok _ _ (by
    have := hz
    rw [repF_len] at this
    rw [List.length_append, repF1_len]
    omega)
  have hst3 := st_rep3 z hz
  have hst4 := st_rep4 z hz
  rw [← hst2, ← hst1] at hst3
  rw [← hst3] at hst4
  rw [h1] at hst4 ⊢
  simp only [strZ_of g2.1, l4] at hst4
  rw [hst4] at G
  rcases G with ⟨_, fs, e, e'⟩ | ⟨e, _⟩
  · injection e with e
    rw [e, ← e', List.append_nil]
  · exact absurd e (by decide)
/-- A form of a reply that may be is read as the reply. -/
theorem parseR_form {z : RepZ} (h : RepOk z) (hm : mayR z = true) : parseR (repF z) = (z, 0) := by
  have e := repR_app h []
  rw [List.append_nil] at e
  unfold parseR
  rw [e, if_pos ⟨rfl, hm⟩]
/-- What is read as a reply has its form. -/
theorem parseR_back {bs : List Int} (hB : IsBytes bs) (hl : bs.length ≤ 65536) {z : RepZ} (h : parseR bs = (z, 0)) : RepOk z ∧ mayR z = true ∧ repF z = bs ∧ repR (0, bs) = (z, 0, []) := by
  unfold parseR at h
  by_cases h2 : endZ (repR (0, bs)).2.1 (repR (0, bs)).2.2 = 0 ∧ mayR (repR (0, bs)).1 = true
  · rw [if_pos h2] at h
    injection h with h _
    obtain ⟨e1, e2⟩ := endZ_zero h2.1
    have hm := h2.2
    rw [h] at hm
    have hR : repR (0, bs) = (z, 0, []) := by rw [← h]; exact Prod.ext rfl (Prod.ext e1 e2)
    obtain ⟨k1, k2⟩ := repR_back hl hB hR
    exact ⟨k1, hm, k2 rfl (by have := repF_short hm; omega), hR⟩
  · rw [if_neg h2] at h; injection h with _ h; exact absurd h (by decide)
theorem parseR_err (bs : List Int) : (parseR bs).2 = 0 ∨ ((parseR bs).1 = rz0 ∧ (parseR bs).2 = 150) := by
  unfold parseR
  split
  · exact .inl rfl
  · exact .inr ⟨rfl, rfl⟩
/-- A beginning of a form is none. -/
theorem parseR_cut {z : RepZ} (h : RepOk z) (hB : IsBytes (repF z)) (hs : (repF z).length ≤ 65536) {c : Nat} (hc : c < (repF z).length) : (parseR ((repF z).take c)).2 = 150 := by
  have hl : ((repF z).take c).length = c := by rw [List.length_take]; omega
  rcases parseR_err ((repF z).take c) with h0 | ⟨_, h3⟩
  · exfalso
    obtain ⟨y, hy⟩ : ∃ y, (parseR ((repF z).take c)).1 = y := ⟨_, rfl⟩
    obtain ⟨hyok, hm, e, hR⟩ := parseR_back (z := y) (isBytes_take hB c) (by omega) (by rw [← hy, ← h0])
    have e1 := repR_app hyok ((repF z).drop c)
    rw [e, List.take_append_drop] at e1
    have e2 := repR_app h []
    rw [List.append_nil, e1] at e2
    injection e2 with _ e2
    injection e2 with _ e2
    have := congrArg List.length e2
    rw [List.length_drop] at this
    simp at this
    omega
  · exact h3
end Go.Proofs.Ytcgclaailhhbpaa
