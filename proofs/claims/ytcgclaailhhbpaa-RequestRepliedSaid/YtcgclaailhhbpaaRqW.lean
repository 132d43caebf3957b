/- Writers of forms: what stays, what is written at last. -/
import Derived.Test.YtcgclaailhhbpaaRqM
namespace Go.Proofs.Ytcgclaailhhbpaa
open Go.ChangeShapes Go.WideShapes Go.ChangeAt Go.RowKit
set_option linter.unusedVariables false
set_option maxRecDepth 100000
open Plain Sha Au Rp Rq
theorem newwriter_at (w : World) (g : Nat) (hg : w.heap.size = g) : Calls Try.prog 33 #[] w (fun e w' => e = .returned (.pointer (some ⟨g, 0, none⟩)) ∧ Wr w' g none (some []) ∧ Below g w w' ∧ g < w'.heap.size) := by
  subst hg
  exact newwriter_any w
section
variable {w w' : World} {b n : Nat} {g : Option Nat} {st : Option (List Int)}
theorem Wr.below (r : Wr w b g st) (o : Wrote w w' b g) (hn : n ≤ b) : Below n w w' :=
  ⟨o.os, o.tape, o.output, o.size, fun k hk => o.block k (by have := r.lt; omega) (by omega) (fun e => by have := (r.own k e.symm).1; omega)⟩
theorem Wr.drew (r : Wr w b g st) : Wr w.drew b g st := r.keep rfl (fun _ _ => rfl)
theorem Wr.apart (r : Wr w b g st) {B m : Nat} {A : Option Addr} {zs : List Int} (hz : Bs w' B A m zs) (hB : B ≤ b) : Apart b g A m := fun hm a ha => by
  obtain ⟨k, off, e, hk, _⟩ := hz.row hm
  rw [e] at ha; injection ha with ha; subst ha
  exact ⟨by show k ≠ b; omega, fun e => by have := (r.own k e.symm).1; omega⟩
end
theorem bytesF_len (zs : List Int) : (bytesF zs).length = 4 + zs.length := by unfold bytesF; rw [List.length_append, putZ_len]
theorem reqF_len (z : ReqZ) : (reqF z).length = 66 + z.tok.length + z.key.size + z.val.size + z.old.size := by
  unfold reqF
  simp only [List.length_append, List.length_cons, List.length_nil, bytesF_len, n64_len', strZ_len]
  omega
/-- What a request's writer holds at last. -/
theorem st_req (z : ReqZ) (h : (reqF z).length ≤ 65536) : wPut (wPut (wPut (wPut (wPut (wPut (wPut (wPut (wPut (wPut (wPut (wPut (some []) [z.op]) (bytesF z.tok)) (bytesF (strZ z.key))) (bytesF (strZ z.val))) (bytesF (strZ z.old))) (n64 z.n)) (n64 z.tn)) (n64 z.ks)) (n64 z.sp)) [z.rt]) (n64 z.ex)) (n64 z.sr) = some (reqF z) := by
  unfold reqF at h ⊢
  simp only [List.length_append] at h
  rw [wPut_yes [] [z.op] (by simp), List.nil_append]
  iterate 11 rw [wPut_yes _ _ (by (try simp only [List.length_append]); omega)]
theorem inB_le {s lo hi : Int} (h : inB s lo hi = true) : lo ≤ s ∧ s ≤ hi := by
  unfold inB at h
  rw [Bool.and_eq_true] at h
  exact ⟨of_decide_eq_true h.1, of_decide_eq_true h.2⟩
theorem size_empty {s : ByteArray} (h : decide (s = ByteArray.empty) = true) : s.size = 0 := by
  have := of_decide_eq_true h
  subst this; rfl
theorem keyB_le {k : Int} {s : ByteArray} (h : keyB k s = true) : s.size ≤ 24 := by
  unfold keyB at h
  split at h
  · have := inB_le h; omega
  · split at h
    · have := inB_le h; omega
    · have := size_empty h; omega
theorem valB_le {k : Int} {s : ByteArray} (h : valB k s = true) : s.size ≤ 64 := by
  unfold valB at h
  split at h
  · have := inB_le h; omega
  · have := size_empty h; omega
theorem oldB_le {k : Int} {s : ByteArray} (h : oldB k s = true) : s.size ≤ 64 := by
  unfold oldB at h
  split at h
  · have := inB_le h; omega
  · have := size_empty h; omega
/-- A request that may be is short. -/
theorem may_short {z : ReqZ} (h : mayB z = true) : z.tok.length ≤ 256 ∧ z.key.size ≤ 24 ∧ z.val.size ≤ 64 ∧ z.old.size ≤ 64 := by
  unfold mayB at h
  simp only [Bool.and_eq_true] at h
  obtain ⟨⟨⟨_, _⟩, h3⟩, ⟨⟨⟨⟨⟨⟨⟨h4, h5⟩, h6⟩, _⟩, _⟩, _⟩, _⟩, _⟩⟩ := h
  exact ⟨of_decide_eq_true h3, keyB_le h4, valB_le h5, oldB_le h6⟩
theorem reqF_short {z : ReqZ} (h : mayB z = true) : (reqF z).length ≤ 474 := by
  have := may_short h
  rw [reqF_len]; omega
end Go.Proofs.Ytcgclaailhhbpaa
