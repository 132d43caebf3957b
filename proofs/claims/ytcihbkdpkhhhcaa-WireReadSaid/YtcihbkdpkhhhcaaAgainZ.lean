/- What is read, and written again. -/
import Derived.Test.YtcihbkdpkhhhcaaBackZ
namespace Go.Proofs.Ytcihbkdpkhhhcaa
open Go.ChangeShapes Go.WideShapes Go.ChangeAt Go.RowKit
set_option linter.unusedVariables false
open Plain
theorem putZ_numZ : ∀ (n : Nat) (p : List Int), p.length = n → IsBytes p → putZ (numZ p) n = p
  | 0, p, hl, _ => by
    have : p = [] := List.eq_nil_of_length_eq_zero hl
    subst this; rfl
  | n + 1, p, hl, hb => by
    obtain ⟨q, z, rfl⟩ : ∃ q z, p = q ++ [z] := by
      rcases List.eq_nil_or_concat p with rfl | ⟨q, z, rfl⟩
      · simp at hl
      · exact ⟨q, z, by simp⟩
    have hq : q.length = n := by simpa using hl
    have hbq : IsBytes q := by rw [isBytes_iff] at *; exact fun y hy => hb y (List.mem_append_left _ hy)
    have hz := (isBytes_iff.1 hb) z (by simp)
    have hnn := (numZ_range q (isBytes_iff.1 hbq)).1
    rw [numZ_snoc, putZ_succ _ _ (by omega), show (numZ q * 256 + z) / 256 = numZ q by omega, show (numZ q * 256 + z) % 256 = z by omega, putZ_numZ n q hq hbq]
/-- What is read so far stands in the form; or the reader is bad. -/
def GoodS (bs : List Int) (why : Int) (rest : List Int) (st : Option (List Int)) : Prop := (why = 0 ∧ ∃ fs, st = some fs ∧ fs ++ rest = bs) ∨ (why = 40 ∧ rest = [])
theorem good_tk {α : Type} {bs rest : List Int} {why : Int} {st : Option (List Int)} (k : Nat) (okf : List Int → List Int → Bool) (val : List Int → α) (nv : α) (Zof : α → List Int) (hb : bs.length ≤ 65536) (hB : IsBytes bs)
    (h : GoodS bs why rest st) (hZ : ∀ p r, p.length = k → IsBytes p → okf p r = true → Zof (val p) = p) :
    GoodS bs (tk k okf val nv (why, rest)).2.1 (tk k okf val nv (why, rest)).2.2 (wPut st (Zof (tk k okf val nv (why, rest)).1)) := by
  rcases h with ⟨rfl, fs, rfl, rfl⟩ | ⟨rfl, rfl⟩
  · by_cases hok : k ≤ rest.length ∧ okf (rest.take k) (rest.drop k) = true
    · rw [tk_ok k okf val nv rest hok.1 hok.2]
      have hp : IsBytes (rest.take k) := by rw [isBytes_iff] at *; exact fun z hz => hB z (List.mem_append_right _ (List.mem_of_mem_take hz))
      have hl : (rest.take k).length = k := by rw [List.length_take]; omega
      rw [List.length_append] at hb
      refine .inl ⟨rfl, fs ++ rest.take k, ?_, ?_⟩
      · show wPut (some fs) (Zof (val (rest.take k))) = _
        rw [hZ _ _ hl hp hok.2, wPut_yes _ _ (by rw [hl]; omega)]
      · show fs ++ rest.take k ++ rest.drop k = fs ++ rest
        rw [List.append_assoc, List.take_append_drop]
    · have : tk k okf val nv (0, rest) = (nv, 40, []) := by
        unfold tk
        rw [if_neg (fun h => hok ⟨h.2.1, h.2.2⟩)]
        rfl
      rw [this]
      exact .inr ⟨rfl, rfl⟩
  · rw [tk_bad k okf val nv 40 [] (by decide)]
    exact .inr ⟨rfl, rfl⟩
section
variable {bs rest : List Int} {why : Int} {st : Option (List Int)}
theorem good_byte (hb : bs.length ≤ 65536) (hB : IsBytes bs) (h : GoodS bs why rest st) : GoodS bs (rByte (why, rest)).2.1 (rByte (why, rest)).2.2 (wPut st [(rByte (why, rest)).1]) :=
  good_tk 1 yes2 (fun b => b.getD 0 0) 0 (fun x => [x]) hb hB h (fun p r hl _ _ => by
    match p, hl with
    | [z], _ => rfl)
theorem n64_intZ (p : List Int) (hl : p.length = 8) (hp : IsBytes p) : n64 (intZ p) = p := by
  have h := numZ_range p (isBytes_iff.1 hp)
  rw [hl] at h
  unfold n64 intZ wrap64
  have : (if numZ p % 18446744073709551616 < 9223372036854775808 then numZ p % 18446744073709551616 else numZ p % 18446744073709551616 - 18446744073709551616) % 18446744073709551616 = numZ p := by
    split <;> omega
  first
    | rw [this]; exact putZ_numZ 8 p hl hp
    | (have e : ∀ x : Int, x = numZ p → putZ x 8 = p := fun x hx => by rw [hx]; exact putZ_numZ 8 p hl hp
       apply e
       omega)
theorem good_int (hb : bs.length ≤ 65536) (hB : IsBytes bs) (h : GoodS bs why rest st) : GoodS bs (rInt (why, rest)).2.1 (rInt (why, rest)).2.2 (wPut st (n64 (rInt (why, rest)).1)) :=
  good_tk 8 yes2 intZ 0 n64 hb hB h (fun p r hl hp _ => n64_intZ p hl hp)
theorem good_flag (hb : bs.length ≤ 65536) (hB : IsBytes bs) (h : GoodS bs why rest st) : GoodS bs (rFlag (why, rest)).2.1 (rFlag (why, rest)).2.2 (wPut st [if (rFlag (why, rest)).1 then 1 else 0]) :=
  good_tk 1 (fun b _ => decide (b.getD 0 0 ≤ 1)) (fun b => b.getD 0 0 == 1) false (fun x => [if x then 1 else 0]) hb hB h (fun p r hl hp ho => by
    match p, hl with
    | [z], _ =>
      have h0 := (isBytes_iff.1 hp) z (by simp)
      have h1 : z ≤ 1 := by simpa using ho
      by_cases hz : z = 1
      · subst hz; rfl
      · have : z = 0 := by omega
        subst this; rfl)
theorem good_tag (hb : bs.length ≤ 65536) (hB : IsBytes bs) (h : GoodS bs why rest st) : GoodS bs (rTag (why, rest)).2.1 (rTag (why, rest)).2.2 (wPut st (rTag (why, rest)).1) :=
  good_tk 32 yes2 id (List.replicate 32 0) (fun x => x) hb hB h (fun p r hl hp _ => rfl)
theorem good_bytes (hb : bs.length ≤ 65536) (hB : IsBytes bs) (h : GoodS bs why rest st) : GoodS bs (rBytes (why, rest)).2.1 (rBytes (why, rest)).2.2 (wPut st (bytesF (rBytes (why, rest)).1)) := by
  rcases h with ⟨rfl, fs, rfl, rfl⟩ | ⟨rfl, rfl⟩
  · rw [List.length_append] at hb
    by_cases h4 : 4 ≤ rest.length ∧ numZ (rest.take 4) ≤ 65536
    · have hp : IsBytes (rest.take 4) := by rw [isBytes_iff] at *; exact fun z hz => hB z (List.mem_append_right _ (List.mem_of_mem_take hz))
      have hl : (rest.take 4).length = 4 := by rw [List.length_take]; omega
      have hnn := (numZ_range _ (isBytes_iff.1 hp)).1
      have e1 : rLen (0, rest) = (numZ (rest.take 4), 0, rest.drop 4) := by unfold rLen; exact tk_ok 4 _ _ _ rest h4.1 (by simpa using h4.2)
      have e2 : rBytes (0, rest) = tk (numZ (rest.take 4)).toNat yes2 id [] (0, rest.drop 4) := by unfold rBytes; rw [e1]
      obtain ⟨m, hm⟩ := Int.eq_ofNat_of_zero_le hnn
      rw [e2, hm]
      by_cases hk : m ≤ (rest.drop 4).length
      · have hk2 := hk
        rw [List.length_drop] at hk2
        rw [show ((m : Int)).toNat = m from rfl, tk_ok m yes2 id [] (rest.drop 4) hk rfl]
        have hlm : ((rest.drop 4).take m).length = m := by rw [List.length_take]; omega
        have e3 : bytesF ((rest.drop 4).take m) = rest.take 4 ++ (rest.drop 4).take m := by
          unfold bytesF
          rw [hlm, show ((m : Nat) : Int) % 4294967296 = numZ (rest.take 4) by rw [hm]; have := h4.2; omega, putZ_numZ 4 _ hl hp]
        refine .inl ⟨rfl, fs ++ (rest.take 4 ++ (rest.drop 4).take m), ?_, ?_⟩
        · show wPut (some fs) (bytesF ((rest.drop 4).take m)) = _
          rw [e3, wPut_yes _ _ (by rw [List.length_append, hl, hlm]; omega)]
        · show fs ++ (rest.take 4 ++ (rest.drop 4).take m) ++ (rest.drop 4).drop m = fs ++ rest
          rw [List.append_assoc, List.append_assoc, List.take_append_drop, List.take_append_drop]
      · rw [show ((m : Int)).toNat = m from rfl, tk_short m yes2 id [] (rest.drop 4) (by omega)]
        exact .inr ⟨rfl, rfl⟩
    · have e1 : rLen (0, rest) = (0, 40, []) := by
        unfold rLen tk
        rw [if_neg (fun h => h4 ⟨h.2.1, by simpa using h.2.2⟩)]
        rfl
      have e2 : rBytes (0, rest) = ([], 40, []) := by
        unfold rBytes; rw [e1]; exact tk_bad _ _ _ _ 40 [] (by decide)
      rw [e2]
      exact .inr ⟨rfl, rfl⟩
  · have e1 : rLen (40, []) = (0, 40, []) := tk_bad _ _ _ _ 40 [] (by decide)
    have e2 : rBytes (40, []) = ([], 40, []) := by
      unfold rBytes; rw [e1]; exact tk_bad _ _ _ _ 40 [] (by decide)
    rw [e2]
    exact .inr ⟨rfl, rfl⟩
end
theorem tk_val {α : Type} (P : α → Prop) (k : Nat) (okf : List Int → List Int → Bool) (val : List Int → α) (nv : α) (why : Int) (rest : List Int) (hB : IsBytes rest) (hn : P nv) (hv : ∀ p, p.length = k → IsBytes p → P (val p)) : P (tk k okf val nv (why, rest)).1 := by
  unfold tk
  split
  · next h =>
    have h2 : k ≤ rest.length := h.2.1
    exact hv _ (by rw [List.length_take]; show min k rest.length = k; omega) (by rw [isBytes_iff] at *; exact fun z hz => hB z (List.mem_of_mem_take hz))
  · exact hn
theorem rByte_rng (why : Int) {rest : List Int} (hB : IsBytes rest) : 0 ≤ (rByte (why, rest)).1 ∧ (rByte (why, rest)).1 < 256 :=
  tk_val (fun x => 0 ≤ x ∧ x < 256) 1 yes2 (fun b => b.getD 0 0) 0 why rest hB (by omega) (fun p hl hp => hp 0 (by omega))
theorem rInt_rng (why : Int) {rest : List Int} (hB : IsBytes rest) : -9223372036854775808 ≤ (rInt (why, rest)).1 ∧ (rInt (why, rest)).1 ≤ 9223372036854775807 :=
  tk_val (fun x => -9223372036854775808 ≤ x ∧ x ≤ 9223372036854775807) 8 yes2 intZ 0 why rest hB (by omega) (fun p hl hp => by unfold intZ wrap64; omega)
theorem rTag_ok (why : Int) {rest : List Int} (hB : IsBytes rest) : (rTag (why, rest)).1.length = 32 ∧ IsBytes (rTag (why, rest)).1 :=
  tk_val (fun x => x.length = 32 ∧ IsBytes x) 32 yes2 id (List.replicate 32 0) why rest hB ⟨rfl, rep_bytes 32 0 (by omega) (by omega)⟩ (fun p hl hp => ⟨hl, hp⟩)
theorem rBytes_good (why : Int) {rest : List Int} (hB : IsBytes rest) (hl : rest.length ≤ 65536) : IsBytes (rBytes (why, rest)).1 ∧ (rBytes (why, rest)).1.length ≤ 65536 := by
  have hB2 : IsBytes (rLen (why, rest)).2.2 := by
    unfold rLen tk
    split
    · rw [isBytes_iff] at *; exact fun z hz => hB z (List.mem_of_mem_drop hz)
    · exact IsBytes.nil
  have hl2 : (rLen (why, rest)).2.2.length ≤ 65536 := by
    unfold rLen tk
    split
    · show (rest.drop 4).length ≤ 65536; rw [List.length_drop]; omega
    · show ([] : List Int).length ≤ _; simp
  unfold rBytes
  generalize rLen (why, rest) = s at hB2 hl2 ⊢
  obtain ⟨v, y, r⟩ := s
  refine ⟨tk_val (fun x => IsBytes x) v.toNat yes2 id [] y r hB2 IsBytes.nil (fun p _ hp => hp), ?_⟩
  unfold tk
  split
  · show (r.take v.toNat).length ≤ _; rw [List.length_take]; have : r.length ≤ 65536 := hl2; omega
  · show ([] : List Int).length ≤ _; simp
theorem rd_wrote {w w' : World} {rb bw : Nat} {Y : Span} {why : Int} {zs : List Int} {g : Option Nat} (h : Rd w rb Y why zs) (hw : Wrote w w' bw g) (hlt : rb < bw) (hg : ∀ k, g = some k → bw < k) : Rd w' rb Y why zs :=
  h.keep (hw.block rb h.lt (by omega) (fun e => by have := hg rb e.symm; omega)) (fun k _ hk => hw.block k (by have := h.lt; have := h.le; omega) (by have := h.le; omega) (fun e => by have := hg k e.symm; have := h.le; omega))
end Go.Proofs.Ytcihbkdpkhhhcaa
