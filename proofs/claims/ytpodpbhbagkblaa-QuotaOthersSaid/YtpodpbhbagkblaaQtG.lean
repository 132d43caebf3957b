/- One share more at its place (slices.Insert), in a row of the call's own. -/
import Derived.Test.YtpodpbhbagkblaaQtF
import Derived.Shelf.Spec.SlicesInsert
namespace Go.Proofs.Ytpodpbhbagkblaa
open Go.ChangeShapes Go.WideShapes Go.ChangeAt Go.RowKit
set_option linter.unusedVariables false
set_option linter.unusedSimpArgs false
open Plain Qt
/-- What Insert hands back. -/
def InsQ (base n : Nat) (l : List ShZ) (w : World) (e : Ending) (w' : World) : Prop :=
  ∃ D d, e = .returned (.slice D n d) ∧ w'.ownsRow base 27 3 (.slice D n d) n (svs l) ∧ Below base w w'
theorem one_lies {w : World} {vb : Nat} (x : ShZ) (hv : w.heap[vb]? = some (.cells #[.int .i64 x.t, .int .i64 x.k, .int .i64 x.s] 27 (0, 0))) : Lies w 3 (some ⟨vb, 0, none⟩) 1 (svs [x]) := by
  refine ⟨by rw [svs_len]; rfl, fun ad hA j u hu => ?_⟩
  injection hA with hA; subst hA
  rw [Go.WideShapes.add_plain, cell_of_row _ _ _ _ _ _ hv, Nat.zero_add]
  rw [← hu]
  simp [svs]
/-- An own row of n elements, with room for one more, is one of n + 1. -/
theorem own_more {w : World} {base n c b : Nat} {t : TypeId} {xs : List Value} (h : w.ownsRow base t 3 (.slice (some ⟨b, 0, none⟩) n c) n xs) (hc : n + 1 ≤ c) :
    ∃ j, j.length = 3 ∧ w.ownsRow base t 3 (.slice (some ⟨b, 0, none⟩) (n + 1) c) (n + 1) (xs ++ j) := by
  rcases h.2 with ⟨e, _⟩ | ⟨g, cap, cur, e, hb, hg, h1, h2, h3, h4⟩
  · cases e
  · injection e with e1 e2 e3
    injection e1 with e1
    injection e1 with e1
    subst e1 e3
    have hlen : (cur.toList).length = c * 3 := by rw [Array.length_toList, h3]
    refine ⟨(cur.toList.drop (n * 3)).take 3, by rw [List.length_take, List.length_drop, hlen]; omega, ?_, .inr ⟨b, c, cur, rfl, hb, hg, hc, h2, h3, ?_⟩⟩
    · rw [List.length_append, h.1, List.length_take, List.length_drop, hlen]; omega
    · rw [show (n + 1) * 3 = n * 3 + 3 by omega, List.take_add, h4]
set_option maxRecDepth 100000 in
set_option maxHeartbeats 4000000 in
theorem insert_end {w : World} {base n d vb : Nat} {D : Option Addr} {l : List ShZ} (x : ShZ) (ho : w.ownsRow base 27 3 (.slice D n d) n (svs l)) (hbase : base ≤ w.heap.size) (hn : n ≤ 8)
    (hv : w.heap[vb]? = some (.cells #[.int .i64 x.t, .int .i64 x.k, .int .i64 x.s] 27 (0, 0))) :
    Calls Try.prog 29 #[.slice D n d, .int .i64 n, .slice (some ⟨vb, 0, none⟩) 1 1] w (InsQ base (n + 1) (l ++ [x]) w) := by
  have HO := Lib.hid ho
  have HV := Lib.hid (one_lies x hv)
  have hi : (n : Int) ≤ (d : Int) := by
    obtain ⟨_, _, e, h1, _⟩ := own_shapeQ ho
    injection e with e1 e2 e3
    omega
  clear ho hv
  go_enter Try.func29, Try.ntmps29
  go_upto_region 7 with fail
  go_wp2_with (at_builtin; go_loud (refine wpList_app _ rfl (.tmp 23) (.tmp 24) 25 rfl base 27 3 24 Try.underlying25 share_info (by omega) _ n (svs l) rfl HO.out _ 1 1 (svs [x]) rfl HV.out (fun h => by cases h) (svs_one _) (by unfold maxLen; omega) (by omega) hbase ?_; intro v1 w1 ho1 hg1; have B1 := Lib.hid ((Below.refl base w).grown hg1 hbase (fun q hq => (HO.out.lt q hq).1)); have HO1 := Lib.hid ho1; clear ho1 hg1))
  all_goals
    go_ret
    have ho := HO1.out
    rw [← svs_app] at ho
    obtain ⟨D', d', rfl, _, _⟩ := own_shapeQ ho
    exact ⟨D', d', rfl, ho, B1.out⟩
/-- The lists that the two ways leave. -/
theorem shift_list {l : List ShZ} {n i : Nat} {junk : List Value} (x : ShZ) (hl : l.length = n) (hi : i < n) (hj : junk.length = 3) :
    putL (putL (svs l ++ junk) ((i + 1) * 3) (svs (l.drop i))) (i * 3) (svs [x]) = svs (l.take i ++ x :: l.drop i) := by
  have e0 : (svs l ++ junk).length = (n + 1) * 3 := by rw [List.length_append, svs_len, hl, hj]; omega
  have e1 : (svs (l.drop i)).length = (n - i) * 3 := by rw [svs_len, List.length_drop, hl]
  have e2 : (svs [x]).length = 3 := rfl
  have d1 : (svs l ++ junk).drop ((i + 1) * 3 + (svs (l.drop i)).length) = [] := List.drop_eq_nil_of_le (by rw [e0, e1]; omega)
  have p1 := putL_eq (svs (l.drop i)) (svs l ++ junk) ((i + 1) * 3) (by rw [e0, e1]; omega)
  rw [d1, List.append_nil] at p1
  have e3 : ((svs l ++ junk).take ((i + 1) * 3)).length = (i + 1) * 3 := by rw [List.length_take, e0]; omega
  rw [p1, putL_eq _ _ _ (by rw [List.length_append, e1, e2, e3]; omega)]
  have t1 : ((svs l ++ junk).take ((i + 1) * 3) ++ svs (l.drop i)).take (i * 3) = svs (l.take i) := by
    rw [List.take_append_of_le_length (by rw [e3]; omega), List.take_take, Nat.min_eq_left (by omega), List.take_append_of_le_length (by rw [svs_len, hl]; omega), svs_take]
  have t2 : ((svs l ++ junk).take ((i + 1) * 3) ++ svs (l.drop i)).drop (i * 3 + (svs [x]).length) = svs (l.drop i) := List.drop_left' (by rw [e3, e2]; omega)
  rw [t1, t2, List.append_assoc, svs_app]
  rfl
theorem grow_list {l : List ShZ} {n i : Nat} {zs : List Value} (x : ShZ) (hl : l.length = n) (hi : i < n) (hz : zs.length = (n + 1 - i) * 3) :
    putL (putL (svs (l.take i) ++ zs) (i * 3) (svs [x])) ((i + 1) * 3) (svs (l.drop i)) = svs (l.take i ++ x :: l.drop i) := by
  have e4 : (svs (l.take i)).length = i * 3 := by rw [svs_len, List.length_take, hl]; omega
  have e0 : (svs (l.take i) ++ zs).length = (n + 1) * 3 := by rw [List.length_append, e4, hz]; omega
  have e1 : (svs (l.drop i)).length = (n - i) * 3 := by rw [svs_len, List.length_drop, hl]
  have e2 : (svs [x]).length = 3 := rfl
  have p1 := putL_eq (svs [x]) (svs (l.take i) ++ zs) (i * 3) (by rw [e0, e2]; omega)
  rw [List.take_left' e4] at p1
  have e5 : (svs (l.take i) ++ svs [x] ++ (svs (l.take i) ++ zs).drop (i * 3 + (svs [x]).length)).length = (n + 1) * 3 := by
    rw [List.length_append, List.length_append, List.length_drop, e0, e4, e2]; omega
  rw [p1, putL_eq _ _ _ (by rw [e5, e1]; omega)]
  have d1 : (svs (l.take i) ++ svs [x] ++ (svs (l.take i) ++ zs).drop (i * 3 + (svs [x]).length)).drop ((i + 1) * 3 + (svs (l.drop i)).length) = [] := List.drop_eq_nil_of_le (by rw [e5, e1]; omega)
  have t1 : (svs (l.take i) ++ svs [x] ++ (svs (l.take i) ++ zs).drop (i * 3 + (svs [x]).length)).take ((i + 1) * 3) = svs (l.take i) ++ svs [x] := List.take_left' (by rw [List.length_append, e4, e2]; omega)
  rw [d1, t1, List.append_nil, List.append_assoc, svs_app]
  rfl
end Go.Proofs.Ytpodpbhbagkblaa
