/- Messages there and back, plainly. -/
import Derived.Test.YtfihiandifnkpaaMsQ
namespace Go.Proofs.Ytfihiandifnkpaa
open Go.ChangeShapes Go.WideShapes Go.ChangeAt Go.RowKit
set_option linter.unusedVariables false
set_option linter.unusedSimpArgs false
set_option maxRecDepth 100000
open Plain Sha Ms
theorem byte_appM (x : Int) (q : List Int) : rByte (0, [x] ++ q) = (x, 0, q) := by
  unfold rByte
  rw [tk_app 1 _ _ _ [x] q rfl rfl]
  rfl
theorem int_appM {n : Int} (h : InM n) (q : List Int) : rInt (0, n64 n ++ q) = (n, 0, q) := by
  unfold rInt
  rw [tk_app 8 _ _ _ (n64 n) q (n64_len' n) rfl, intZ_n64' n h.1 h.2]
theorem bytes_appM {zs : List Int} (h : zs.length ≤ 65536) (q : List Int) : rBytes (0, bytesF zs ++ q) = (zs, 0, q) := rBytes_app h
theorem flag_appM (x : Bool) (q : List Int) : rFlag (0, [if x then 1 else 0] ++ q) = (x, 0, q) := by
  unfold rFlag
  rw [tk_app 1 _ _ _ [if x then 1 else 0] q rfl (by cases x <;> rfl)]
  cases x <;> rfl
theorem count_appM {n : Nat} {most : Int} (h : (n : Int) ≤ most) (hm : most ≤ 100) (q : List Int) (hq : n ≤ q.length) : rCount most (0, n64 (n : Int) ++ q) = ((n : Int), 0, q) := by
  have e : intZ (n64 (n : Int)) = (n : Int) := intZ_n64' _ (by omega) (by omega)
  unfold rCount
  rw [tk_app 8 _ _ _ (n64 (n : Int)) q (n64_len' _) (by
    rw [e]
    exact decide_eq_true ⟨by omega, by omega, by omega⟩), e]
theorem restR_app {e : EntZ} (h : EntOk e) (q : List Int) : restR e.pos (0, restF e ++ q) = (e, 0, q) := by
  have e1 : restF e ++ q = n64 e.stamp ++ (n64 e.client ++ (n64 e.id ++ (bytesF e.body ++ q))) := by unfold restF; simp only [List.append_assoc]
  rw [e1]
  unfold restR
  simp only [int_appM h.stamp, int_appM h.client, int_appM h.id, bytes_appM h.len]
theorem memR_app {m : MemZ} (h : MemOk m) (q : List Int) : memR (0, memF m ++ q) = (m, 0, q) := by
  have e1 : memF m ++ q = n64 m.node ++ (n64 m.since ++ ([if m.whole then 1 else 0] ++ q)) := by unfold memF; simp only [List.append_assoc]
  rw [e1]
  unfold memR
  simp only [int_appM h.node, int_appM h.since, flag_appM]
theorem memsR_app {ms : List MemZ} (h : ∀ m, m ∈ ms → MemOk m) (q : List Int) : ∀ k, k ≤ ms.length → memsR k (0, msF ms ++ q) = (ms.take k, 0, msF (ms.drop k) ++ q)
  | 0, _ => by simp [memsR]
  | k + 1, hk => by
    have ih := memsR_app h q k (by omega)
    have hd : ms.drop k = ms[k] :: ms.drop (k + 1) := (List.getElem_cons_drop (by omega)).symm
    have e : memR (memsR k (0, msF ms ++ q)).2 = (ms[k], 0, msF (ms.drop (k + 1)) ++ q) := by
      rw [ih, hd]
      show memR (0, (memF ms[k] ++ msF (ms.drop (k + 1))) ++ q) = _
      rw [List.append_assoc]
      exact memR_app (h _ (List.getElem_mem _)) _
    show ((memsR k (0, msF ms ++ q)).1 ++ [(memR (memsR k (0, msF ms ++ q)).2).1], (memR (memsR k (0, msF ms ++ q)).2).2) = _
    rw [e, ih]
    show (ms.take k ++ [ms[k]], _) = _
    rw [List.take_succ_eq_append_getElem (by omega)]
theorem entsR_app {frm : Int} {es : List EntZ} (h : ∀ e, e ∈ es → EntOk e) (hp : ∀ k, (hk : k < es.length) → es[k].pos = wrap64 (frm + k)) (q : List Int) : ∀ k, k ≤ es.length → entsR frm k (0, esF es ++ q) = (es.take k, 0, esF (es.drop k) ++ q)
  | 0, _ => by simp [entsR]
  | k + 1, hk => by
    have ih := entsR_app h hp q k (by omega)
    have hd : es.drop k = es[k] :: es.drop (k + 1) := (List.getElem_cons_drop (by omega)).symm
    have e : restR (wrap64 (frm + k)) (entsR frm k (0, esF es ++ q)).2 = (es[k], 0, esF (es.drop (k + 1)) ++ q) := by
      rw [ih, hd, ← hp k (by omega)]
      show restR _ (0, (restF es[k] ++ esF (es.drop (k + 1))) ++ q) = _
      rw [List.append_assoc]
      exact restR_app (h _ (List.getElem_mem _)) _
    show ((entsR frm k (0, esF es ++ q)).1 ++ [(restR (wrap64 (frm + k)) (entsR frm k (0, esF es ++ q)).2).1], (restR (wrap64 (frm + k)) (entsR frm k (0, esF es ++ q)).2).2) = _
    rw [e, ih]
    show (es.take k ++ [es[k]], _) = _
    rw [List.take_succ_eq_append_getElem (by omega)]
theorem esF_long : ∀ (l : List EntZ), l.length ≤ (esF l).length
  | [] => by simp
  | a :: l => by
    have := esF_long l
    unfold esF at this ⊢
    rw [List.flatMap_cons, List.length_append, restF_len, List.length_cons]
    omega
theorem confR_app {ep : Int} {ms : List MemZ} (he : InM ep) (h : ∀ m, m ∈ ms → MemOk m) (hl : ms.length ≤ 5) (q : List Int) : confR (0, confF ep ms ++ q) = ((ep, ms), 0, q) := by
  have e1 : confF ep ms ++ q = n64 ep ++ (n64 (ms.length : Nat) ++ (msF ms ++ q)) := by unfold confF; simp only [List.append_assoc]
  have e2 : rCount 5 (0, n64 (ms.length : Nat) ++ (msF ms ++ q)) = ((ms.length : Int), 0, msF ms ++ q) := count_appM (by omega) (by omega) _ (by rw [List.length_append, msF_len]; omega)
  have e3 : memsR ms.length (0, msF ms ++ q) = (ms, 0, q) := by
    rw [memsR_app h q _ (Nat.le_refl _), List.take_of_length_le (Nat.le_refl _), List.drop_of_length_le (Nat.le_refl _)]; rfl
  rw [e1]
  unfold confR
  simp only [int_appM he, e2, Int.toNat_natCast, e3]
theorem entR_app {e : EntZ} (h : EntOk e) (q : List Int) : entR (0, entF e ++ q) = (e, 0, q) := by
  unfold entF entR
  rw [List.append_assoc]
  simp only [int_appM h.pos, restR_app h]
theorem app_row {u f : Int} {es : List EntZ} (h : appB u f es = true) : ∀ k, (hk : k < es.length) → es[k].pos = wrap64 (f + k) := by
  intro k hk
  unfold appB at h
  simp only [Bool.and_eq_true] at h
  have := allT_yes.1 h.2 k hk
  unfold rowB at this
  simp only [Bool.and_eq_true, decide_eq_true_eq] at this
  have h2 := this.1
  rw [List.getD_eq_getElem?_getD, List.getElem?_eq_getElem hk] at h2
  exact h2
/-- A Kind's message has no other fields. -/
theorem none_parts {z : MsgZ} (h : noneB z = true) : (z.client = 0 ∧ z.id = 0 ∧ z.body = []) ∧ (z.upto = 0 ∧ z.frm = 0 ∧ z.es = []) ∧ (z.hav = 0 ∧ z.don = 0) ∧ (z.ep = 0 ∧ z.ms = []) ∧ z.since = 0 := by
  unfold noneB zA zB zC zD zE at h
  simp only [Bool.and_eq_true, decide_eq_true_eq, List.length_eq_zero_iff] at h
  obtain ⟨⟨⟨⟨⟨⟨a, b⟩, c⟩, ⟨d, e⟩, f⟩, g, i⟩, j, k⟩, l⟩ := h
  exact ⟨⟨a, b, c⟩, ⟨d, e, f⟩, ⟨g, i⟩, ⟨j, k⟩, l⟩
theorem ownR_app {z : MsgZ} (h : MsgOk z) (hm : mayM z = true) (q : List Int) : ownR z.kind (0, ownF z ++ q) = (z, 0, q) := by
  obtain ⟨hk, hn, ha⟩ := mayM_parts hm
  have n := none_parts hn
  have hkc := kind_cases hk
  unfold askM at ha
  unfold othM at n
  unfold ownF ownR
  by_cases h1 : z.kind = 1 ∨ z.kind = 6
  · rw [if_pos h1] at ha n
    rw [if_pos h1, if_pos h1]
    obtain ⟨_, ⟨u, f, es⟩, ⟨hv, dn⟩, ⟨ep, ms⟩, sn⟩ := n
    simp only at u f es hv dn ep ms sn
    simp only [List.append_assoc, int_appM h.client, int_appM h.id, bytes_appM h.len]
    cases z; simp only at u f es hv dn ep ms sn; subst u f es hv dn ep ms sn; rfl
  · rw [if_neg h1] at ha n
    rw [if_neg h1, if_neg h1]
    by_cases h2 : z.kind = 2
    · rw [if_pos h2] at ha n
      rw [if_pos h2, if_pos h2]
      obtain ⟨⟨c, i, b⟩, _, ⟨hv, dn⟩, ⟨ep, ms⟩, sn⟩ := n
      simp only at c i b hv dn ep ms sn
      have e2 : rCount 4 (0, n64 (z.es.length : Nat) ++ (esF z.es ++ q)) = ((z.es.length : Int), 0, esF z.es ++ q) := count_appM (by have := (app_small ha).1; omega) (by omega) _ (by have := esF_long z.es; rw [List.length_append]; omega)
      have e3 : entsR z.frm z.es.length (0, esF z.es ++ q) = (z.es, 0, q) := by
        rw [entsR_app h.es (app_row ha) q _ (Nat.le_refl _), List.take_of_length_le (Nat.le_refl _), List.drop_of_length_le (Nat.le_refl _)]; rfl
      simp only [List.append_assoc, int_appM h.upto, int_appM h.frm, e2, Int.toNat_natCast, e3]
      cases z; simp only at c i b hv dn ep ms sn; subst c i b hv dn ep ms sn; rfl
    · rw [if_neg h2] at ha n
      rw [if_neg h2, if_neg h2]
      by_cases h3 : z.kind = 3
      · rw [if_pos h3] at ha n
        rw [if_pos h3, if_pos h3]
        obtain ⟨⟨c, i, b⟩, ⟨u, f, es⟩, _, ⟨ep, ms⟩, sn⟩ := n
        simp only at c i b u f es ep ms sn
        simp only [List.append_assoc, int_appM h.hav, int_appM h.don]
        cases z; simp only at c i b u f es ep ms sn; subst c i b u f es ep ms sn; rfl
      · rw [if_neg h3] at ha n
        rw [if_neg h3, if_neg h3]
        by_cases h4 : z.kind = 4
        · rw [if_pos h4] at ha n
          rw [if_pos h4, if_pos h4]
          obtain ⟨⟨c, i, b⟩, ⟨u, f, es⟩, ⟨hv, dn⟩, _, sn⟩ := n
          simp only at c i b u f es hv dn sn
          simp only [confR_app h.ep h.ms (conf_small ha)]
          cases z; simp only at c i b u f es hv dn sn; subst c i b u f es hv dn sn; rfl
        · rw [if_neg h4] at ha n
          have h5 : z.kind = 5 := by omega
          rw [if_neg h4, if_neg h4, if_pos h5]
          obtain ⟨⟨c, i, b⟩, ⟨u, f, es⟩, ⟨hv, dn⟩, ⟨ep, ms⟩, _⟩ := n
          simp only at c i b u f es hv dn ep ms
          simp only [int_appM h.since]
          cases z; simp only at c i b u f es hv dn ep ms; subst c i b u f es hv dn ep ms; rfl
theorem msgR_app {z : MsgZ} (h : MsgOk z) (hm : mayM z = true) (q : List Int) : msgR (0, formM z ++ q) = (z, 0, q) := by
  unfold msgR formM
  rw [List.append_assoc, byte_appM]
  exact ownR_app h hm q
theorem parseM_form {z : MsgZ} (h : MsgOk z) (hm : mayM z = true) : parseM (formM z) = (z, 0) := by
  have e := msgR_app h hm []
  rw [List.append_nil] at e
  unfold parseM
  rw [e, if_pos ⟨rfl, hm⟩]
theorem parseM_behind {z : MsgZ} (h : MsgOk z) (hm : mayM z = true) {q : List Int} (hq : q ≠ []) : parseM (formM z ++ q) = (mz0, 200) := by
  unfold parseM
  rw [if_neg]
  rintro ⟨h2, _⟩
  rw [msgR_app h hm q] at h2
  exact hq (endZ_zero h2).2
theorem parseM_err (bs : List Int) : (parseM bs).2 = 0 ∨ ((parseM bs).1 = mz0 ∧ (parseM bs).2 = 200) := by
  unfold parseM
  split
  · exact .inl rfl
  · exact .inr ⟨rfl, rfl⟩
/-- What is read fits. -/
theorem own_ok {k : Int} {s : St} (t : StM s) (hk : 0 ≤ k ∧ k < 256) : MsgOk (ownR k s).1 := by
  have z : InM 0 := inM0
  unfold ownR
  by_cases h1 : k = 1 ∨ k = 6
  · rw [if_pos h1]
    obtain ⟨a1, s1, e1⟩ : ∃ a s', rInt s = (a, s') := ⟨_, _, rfl⟩
    obtain ⟨a2, s2, e2⟩ : ∃ a s', rInt s1 = (a, s') := ⟨_, _, rfl⟩
    obtain ⟨a3, s3, e3⟩ : ∃ a s', rBytes s2 = (a, s') := ⟨_, _, rfl⟩
    obtain ⟨g1, t1⟩ := int_rm t e1
    obtain ⟨g2, t2⟩ := int_rm t1 e2
    obtain ⟨g3, t3⟩ := bytes_rm t2 e3
    simp only [e1, e2, e3]
    exact ⟨hk, g1, g2, g3.1, g3.2, z, z, fun e he => (by cases he), z, z, z, fun e he => (by cases he), z⟩
  · rw [if_neg h1]
    by_cases h2 : k = 2
    · rw [if_pos h2]
      obtain ⟨a1, s1, e1⟩ : ∃ a s', rInt s = (a, s') := ⟨_, _, rfl⟩
      obtain ⟨a2, s2, e2⟩ : ∃ a s', rInt s1 = (a, s') := ⟨_, _, rfl⟩
      obtain ⟨a3, s3, e3⟩ : ∃ a s', rCount 4 s2 = (a, s') := ⟨_, _, rfl⟩
      obtain ⟨g1, t1⟩ := int_rm t e1
      obtain ⟨g2, t2⟩ := int_rm t1 e2
      have t3 := count_rm t2 e3
      simp only [e1, e2, e3]
      exact ⟨hk, z, z, IsBytes.nil, by simp [mz0], g1, g2, (ents_rm a3.toNat t3).1, z, z, z, fun e he => (by cases he), z⟩
    · rw [if_neg h2]
      by_cases h3 : k = 3
      · rw [if_pos h3]
        obtain ⟨a1, s1, e1⟩ : ∃ a s', rInt s = (a, s') := ⟨_, _, rfl⟩
        obtain ⟨a2, s2, e2⟩ : ∃ a s', rInt s1 = (a, s') := ⟨_, _, rfl⟩
        obtain ⟨g1, t1⟩ := int_rm t e1
        obtain ⟨g2, t2⟩ := int_rm t1 e2
        simp only [e1, e2]
        exact ⟨hk, z, z, IsBytes.nil, by simp [mz0], z, z, fun e he => (by cases he), g1, g2, z, fun e he => (by cases he), z⟩
      · rw [if_neg h3]
        by_cases h4 : k = 4
        · rw [if_pos h4]
          obtain ⟨a1, s1, e1⟩ : ∃ a s', rInt s = (a, s') := ⟨_, _, rfl⟩
          obtain ⟨a3, s3, e3⟩ : ∃ a s', rCount 5 s1 = (a, s') := ⟨_, _, rfl⟩
          obtain ⟨g1, t1⟩ := int_rm t e1
          have t3 := count_rm t1 e3
          unfold confR
          simp only [e1, e3]
          exact ⟨hk, z, z, IsBytes.nil, by simp [mz0], z, z, fun e he => (by cases he), z, z, g1, (mems_rm a3.toNat t3).1, z⟩
        · rw [if_neg h4]
          by_cases h5 : k = 5
          · rw [if_pos h5]
            obtain ⟨a1, s1, e1⟩ : ∃ a s', rInt s = (a, s') := ⟨_, _, rfl⟩
            obtain ⟨g1, t1⟩ := int_rm t e1
            simp only [e1]
            exact ⟨hk, z, z, IsBytes.nil, by simp [mz0], z, z, fun e he => (by cases he), z, z, z, fun e he => (by cases he), g1⟩
          · rw [if_neg h5]
            exact ⟨hk, z, z, IsBytes.nil, by simp [mz0], z, z, fun e he => (by cases he), z, z, z, fun e he => (by cases he), z⟩
section
variable {bs : List Int} (hl : bs.length ≤ 65536) (hB : IsBytes bs)
include hl hB
theorem gi {s s' : St} {a : Int} {st} (e : rInt s = (a, s')) (g : GoodS bs s.1 s.2 st) : GoodS bs s'.1 s'.2 (wPut st (n64 a)) := by
  have := good_int hl hB g
  rw [show rInt (s.1, s.2) = (a, s') from e] at this
  exact this
theorem gl {s s' : St} {a : List Int} {st} (e : rBytes s = (a, s')) (g : GoodS bs s.1 s.2 st) : GoodS bs s'.1 s'.2 (wPut st (bytesF a)) := by
  have := good_bytes hl hB g
  rw [show rBytes (s.1, s.2) = (a, s') from e] at this
  exact this
theorem gf {s s' : St} {a : Bool} {st} (e : rFlag s = (a, s')) (g : GoodS bs s.1 s.2 st) : GoodS bs s'.1 s'.2 (wPut st [if a then 1 else 0]) := by
  have := good_flag hl hB g
  rw [show rFlag (s.1, s.2) = (a, s') from e] at this
  exact this
theorem gcn {most : Int} {s s' : St} {a : Int} {st} (e : rCount most s = (a, s')) (g : GoodS bs s.1 s.2 st) : GoodS bs s'.1 s'.2 (wPut st (n64 a)) := by
  have := good_tk 8 (fun b r => decide (0 ≤ intZ b ∧ intZ b ≤ most ∧ intZ b ≤ (r.length : Nat))) intZ 0 n64 hl hB g (fun p r hl hp _ => n64_intZ p hl hp)
  rw [show tk 8 (fun b r => decide (0 ≤ intZ b ∧ intZ b ≤ most ∧ intZ b ≤ (r.length : Nat))) intZ 0 (s.1, s.2) = (a, s') from e] at this
  exact this
theorem g_rest {pos : Int} {s : St} {st} (g : GoodS bs s.1 s.2 st) : GoodS bs (restR pos s).2.1 (restR pos s).2.2 (wPuts st (restP (restR pos s).1)) := by
  obtain ⟨a1, s1, e1⟩ : ∃ a s', rInt s = (a, s') := ⟨_, _, rfl⟩
  obtain ⟨a2, s2, e2⟩ : ∃ a s', rInt s1 = (a, s') := ⟨_, _, rfl⟩
  obtain ⟨a3, s3, e3⟩ : ∃ a s', rInt s2 = (a, s') := ⟨_, _, rfl⟩
  obtain ⟨a4, s4, e4⟩ : ∃ a s', rBytes s3 = (a, s') := ⟨_, _, rfl⟩
  have : restR pos s = (⟨pos, a1, a2, a3, a4⟩, s4) := by unfold restR; simp only [e1, e2, e3, e4]
  rw [this]
  exact gl hl hB e4 (gi hl hB e3 (gi hl hB e2 (gi hl hB e1 g)))
theorem g_mem {s : St} {st} (g : GoodS bs s.1 s.2 st) : GoodS bs (memR s).2.1 (memR s).2.2 (wPuts st (memP (memR s).1)) := by
  obtain ⟨a1, s1, e1⟩ : ∃ a s', rInt s = (a, s') := ⟨_, _, rfl⟩
  obtain ⟨a2, s2, e2⟩ : ∃ a s', rInt s1 = (a, s') := ⟨_, _, rfl⟩
  obtain ⟨a3, s3, e3⟩ : ∃ a s', rFlag s2 = (a, s') := ⟨_, _, rfl⟩
  have : memR s = (⟨a1, a2, a3⟩, s3) := by unfold memR; simp only [e1, e2, e3]
  rw [this]
  exact gf hl hB e3 (gi hl hB e2 (gi hl hB e1 g))
theorem g_ents {frm : Int} : ∀ (k : Nat) {s : St} {st}, GoodS bs s.1 s.2 st → GoodS bs (entsR frm k s).2.1 (entsR frm k s).2.2 (wPuts st ((entsR frm k s).1.flatMap restP))
  | 0, s, st, g => g
  | k + 1, s, st, g => by
    have ih := g_rest hl hB (pos := wrap64 (frm + k)) (g_ents (frm := frm) k g)
    show GoodS bs _ _ (wPuts st (((entsR frm k s).1 ++ [(restR (wrap64 (frm + k)) (entsR frm k s).2).1]).flatMap restP))
    rw [List.flatMap_append, wPuts_app, List.flatMap_cons, List.flatMap_nil, List.append_nil]
    exact ih
theorem g_mems : ∀ (k : Nat) {s : St} {st}, GoodS bs s.1 s.2 st → GoodS bs (memsR k s).2.1 (memsR k s).2.2 (wPuts st ((memsR k s).1.flatMap memP))
  | 0, s, st, g => g
  | k + 1, s, st, g => by
    have ih := g_mem hl hB (g_mems k g)
    show GoodS bs _ _ (wPuts st (((memsR k s).1 ++ [(memR (memsR k s).2).1]).flatMap memP))
    rw [List.flatMap_append, wPuts_app, List.flatMap_cons, List.flatMap_nil, List.append_nil]
    exact ih
theorem g_own {k : Int} {s : St} {st} (t : StM s) (hk : kindB k = true) (g : GoodS bs s.1 s.2 st) : GoodS bs (ownR k s).2.1 (ownR k s).2.2 (wPuts st (ownP (ownR k s).1)) := by
  have hkc := kind_cases hk
  have hkk := own_kind k s
  unfold ownP
  rw [hkk]
  unfold ownR
  by_cases h1 : k = 1 ∨ k = 6
  · rw [if_pos h1, if_pos h1]
    obtain ⟨a1, s1, e1⟩ : ∃ a s', rInt s = (a, s') := ⟨_, _, rfl⟩
    obtain ⟨a2, s2, e2⟩ : ∃ a s', rInt s1 = (a, s') := ⟨_, _, rfl⟩
    obtain ⟨a3, s3, e3⟩ : ∃ a s', rBytes s2 = (a, s') := ⟨_, _, rfl⟩
    simp only [e1, e2, e3]
    exact gl hl hB e3 (gi hl hB e2 (gi hl hB e1 g))
  · rw [if_neg h1, if_neg h1]
    by_cases h2 : k = 2
    · rw [if_pos h2, if_pos h2]
      obtain ⟨a1, s1, e1⟩ : ∃ a s', rInt s = (a, s') := ⟨_, _, rfl⟩
      obtain ⟨a2, s2, e2⟩ : ∃ a s', rInt s1 = (a, s') := ⟨_, _, rfl⟩
      obtain ⟨a3, s3, e3⟩ : ∃ a s', rCount 4 s2 = (a, s') := ⟨_, _, rfl⟩
      obtain ⟨g1, t1⟩ := int_rm t e1
      obtain ⟨g2, t2⟩ := int_rm t1 e2
      have t3 := count_rm t2 e3
      have hc := count_le (by decide) e3
      simp only [e1, e2, e3]
      have G := g_ents hl hB (frm := a2) a3.toNat (gcn hl hB e3 (gi hl hB e2 (gi hl hB e1 g)))
      unfold appP
      rw [wPuts_app, (ents_rm a3.toNat t3).2.1, Int.toNat_of_nonneg hc.1]
      exact G
    · rw [if_neg h2, if_neg h2]
      by_cases h3 : k = 3
      · rw [if_pos h3, if_pos h3]
        obtain ⟨a1, s1, e1⟩ : ∃ a s', rInt s = (a, s') := ⟨_, _, rfl⟩
        obtain ⟨a2, s2, e2⟩ : ∃ a s', rInt s1 = (a, s') := ⟨_, _, rfl⟩
        simp only [e1, e2]
        exact gi hl hB e2 (gi hl hB e1 g)
      · rw [if_neg h3, if_neg h3]
        by_cases h4 : k = 4
        · rw [if_pos h4, if_pos h4]
          obtain ⟨a1, s1, e1⟩ : ∃ a s', rInt s = (a, s') := ⟨_, _, rfl⟩
          obtain ⟨a3, s3, e3⟩ : ∃ a s', rCount 5 s1 = (a, s') := ⟨_, _, rfl⟩
          obtain ⟨g1, t1⟩ := int_rm t e1
          have t3 := count_rm t1 e3
          have hc := count_le (by decide) e3
          unfold confR
          simp only [e1, e3]
          have G := g_mems hl hB a3.toNat (gcn hl hB e3 (gi hl hB e1 g))
          unfold confP
          rw [wPuts_app, (mems_rm a3.toNat t3).2.1, Int.toNat_of_nonneg hc.1]
          exact G
        · have h5 : k = 5 := by omega
          rw [if_neg h4, if_neg h4, if_pos h5]
          obtain ⟨a1, s1, e1⟩ : ∃ a s', rInt s = (a, s') := ⟨_, _, rfl⟩
          simp only [e1]
          exact gi hl hB e1 g
/-- What is read as a message has its form. -/
theorem parseM_back {z : MsgZ} (h : parseM bs = (z, 0)) : MsgOk z ∧ mayM z = true ∧ formM z = bs := by
  unfold parseM at h
  by_cases h2 : endZ (msgR (0, bs)).2.1 (msgR (0, bs)).2.2 = 0 ∧ mayM (msgR (0, bs)).1 = true
  · rw [if_pos h2] at h
    injection h with h _
    obtain ⟨e1, e2⟩ := endZ_zero h2.1
    have hm := h2.2
    obtain ⟨k, s1, ek⟩ : ∃ a s', rByte (0, bs) = (a, s') := ⟨_, _, rfl⟩
    have t0 : StM (0, bs) := ⟨hB, hl⟩
    obtain ⟨gk, t1⟩ := byte_rm t0 ek
    have eM : msgR (0, bs) = ownR k s1 := by unfold msgR; rw [ek]
    rw [eM] at h hm e1 e2
    have hok := own_ok t1 gk
    have hkind := own_kind k s1
    rw [h] at hm hok hkind
    have hk := (mayM_parts hm).1
    rw [hkind] at hk
    refine ⟨hok, hm, ?_⟩
    have G0 : GoodS bs 0 bs (some []) := .inl ⟨rfl, [], rfl, rfl⟩
    have G1 : GoodS bs s1.1 s1.2 (wPut (some []) [k]) := by
      have := good_byte hl hB G0
      rw [ek] at this
      exact this
    have G := g_own hl hB t1 hk G1
    rw [h, e1, e2] at G
    have hs := formM_short hm
    have hst : wPuts (wPut (some []) [k]) (ownP z) = some (formM z) := by
      rw [show wPut (some []) [k] = some [k] from wPut_yes [] _ (by simp)]
      have e3 : [k] ++ (ownP z).flatten = formM z := by rw [ownP_flat]; unfold formM; rw [hkind]
      rw [wPuts_some _ _ (by rw [e3]; omega), e3]
    rw [hst] at G
    rcases G with ⟨_, fs, e, e'⟩ | ⟨e, _⟩
    · injection e with e
      rw [e, ← e', List.append_nil]
    · exact absurd e (by decide)
  · rw [if_neg h2] at h; injection h with _ h; exact absurd h (by decide)
end
/-- A beginning of a form is none. -/
theorem parseM_cut {z : MsgZ} (h : MsgOk z) (hm : mayM z = true) (hB : IsBytes (formM z)) {c : Nat} (hc : c < (formM z).length) : parseM ((formM z).take c) = (mz0, 200) := by
  have hs := formM_short hm
  have hl : ((formM z).take c).length = c := by rw [List.length_take]; omega
  rcases parseM_err ((formM z).take c) with h0 | ⟨h3, h4⟩
  · exfalso
    obtain ⟨y, hy⟩ : ∃ y, (parseM ((formM z).take c)).1 = y := ⟨_, rfl⟩
    obtain ⟨hyok, hym, e⟩ := parseM_back (by omega) (isBytes_take hB c) (z := y) (Prod.ext hy h0)
    have e1 := msgR_app hyok hym ((formM z).drop c)
    rw [e, List.take_append_drop] at e1
    have e2 := msgR_app h hm []
    rw [List.append_nil, e1] at e2
    injection e2 with _ e2
    injection e2 with _ e2
    have := congrArg List.length e2
    rw [List.length_drop] at this
    simp at this
    omega
  · exact Prod.ext h3 h4
end Go.Proofs.Ytfihiandifnkpaa
