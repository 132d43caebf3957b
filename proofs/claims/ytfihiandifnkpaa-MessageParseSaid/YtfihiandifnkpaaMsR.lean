/- Entries, configurations, messages held against each other: the document's. Printed by gen_msr.py. -/
import Derived.Test.YtfihiandifnkpaaMsQ
import Derived.Test.YtfihiandifnkpaaB1
import Derived.Laws.StructEq
namespace Go.Proofs.Ytfihiandifnkpaa
open Go.ChangeShapes Go.WideShapes Go.ChangeAt Go.RowKit
set_option linter.unusedVariables false
set_option maxRecDepth 100000
set_option linter.unusedSimpArgs false
open Plain Sha Ms
theorem eqFields_list {P : Program} (d : Nat) (xs ys : Array Value) (w : World) (q : Field → Bool) : ∀ fs : List Field, (∀ f ∈ fs, f.name ≠ "_" ∧ ∃ a b, (part f.type xs f.offset).run P w = .ok a w ∧ (part f.type ys f.offset).run P w = .ok b w ∧ (Op.equalIn d f.type a b).run P w = .ok (q f) w) →
    (Op.eqFields d xs ys fs).run P w = .ok (fs.all q) w
  | [], h => by simp [Op.eqFields]
  | f :: fs, h => by
    obtain ⟨hn, a, b, h1, h2, h3⟩ := h f (by simp)
    have ih := eqFields_list d xs ys w q fs (fun f hf => h f (by simp [hf]))
    simp only [Op.eqFields, if_pos hn, Sem.run_bind, h1, h2, h3, Result.andThen_ok, List.all_cons]
    cases q f
    · simp
    · simpa using ih
theorem mb_fields : (Try.prog.fieldsOf 91).toList.map (fun f => (f.type, f.offset)) = [(3, 0), (3, 1), (4, 2)] := by kernel_rfl
theorem mb_under : Try.prog.underlying 91 = some (.struct (Try.prog.fieldsOf 91)) := by kernel_rfl
theorem mb_stood : Try.prog.stoodInHeld 91 = false := by kernel_rfl
theorem mb_names : (Try.prog.fieldsOf 91).toList.all (fun f => !(f.name == "_")) = true := by kernel_rfl
theorem part_intM {w : World} {cs : Array Value} {o : Nat} {v : Value} (h : cs[o]? = some v) : (part 3 cs o).run Try.prog w = .ok v w := by
  simp [part, isAgg, run_underlying Try.underlying3, h, go_sem]
theorem part_boolM {w : World} {cs : Array Value} {o : Nat} {v : Value} (h : cs[o]? = some v) : (part 4 cs o).run Try.prog w = .ok v w := by
  simp [part, isAgg, run_underlying Try.underlying4, h, go_sem]
def mbFld (x y : MemZ) (o : Nat) : Bool := if o = 0 then x.node == y.node else if o = 1 then x.since == y.since else x.whole == y.whole
theorem run_mbIn (x y : MemZ) (w : World) : (Op.equalIn 10000 91 (.agg #[.int .i64 x.node, .int .i64 x.since, .bool x.whole]) (.agg #[.int .i64 y.node, .int .i64 y.since, .bool y.whole])).run Try.prog w = .ok (memE x y) w := by
  rw [run_equalIn_struct w 9999 91 _ _ mb_under mb_stood]
  have hF := eqFields_list 9999 #[.int .i64 x.node, .int .i64 x.since, .bool x.whole] #[.int .i64 y.node, .int .i64 y.since, .bool y.whole] w (fun f => mbFld x y f.offset) (Try.prog.fieldsOf 91).toList (fun f hf => by
    refine ⟨?_, ?_⟩
    · have := mb_names
      rw [List.all_eq_true] at this
      have := this f hf
      simpa using this
    · have hm : (f.type, f.offset) ∈ (Try.prog.fieldsOf 91).toList.map (fun f => (f.type, f.offset)) := List.mem_map.2 ⟨f, hf, rfl⟩
      rw [mb_fields] at hm
      simp only [List.mem_cons, Prod.mk.injEq, List.not_mem_nil, or_false] at hm
      rcases hm with ⟨e1, e2⟩ | ⟨e1, e2⟩ | ⟨e1, e2⟩ <;> rw [e1, e2]
      · exact ⟨.int .i64 x.node, .int .i64 y.node, part_intM rfl, part_intM rfl, (run_equalIn_int w 9998 3 .i64 .i64 _ _ Try.underlying3).trans rfl⟩
      · exact ⟨.int .i64 x.since, .int .i64 y.since, part_intM rfl, part_intM rfl, (run_equalIn_int w 9998 3 .i64 .i64 _ _ Try.underlying3).trans rfl⟩
      · exact ⟨.bool x.whole, .bool y.whole, part_boolM rfl, part_boolM rfl, (run_equalIn_bool w 9998 4 _ _ Try.underlying4).trans rfl⟩)
  rw [hF]
  have hm : (Try.prog.fieldsOf 91).toList.all (fun f => mbFld x y f.offset) = ((Try.prog.fieldsOf 91).toList.map (fun f => (f.type, f.offset))).all (fun p => mbFld x y p.2) := by rw [List.all_map]; rfl
  rw [hm, mb_fields]
  congr 1
  by_cases h1 : x.node = y.node <;> by_cases h2 : x.since = y.since <;> by_cases h3 : x.whole = y.whole <;> simp [mbFld, memE, h1, h2, h3]
theorem run_mbNe (x y : MemZ) (w : World) : (binOp .neq 91 (.agg #[.int .i64 x.node, .int .i64 x.since, .bool x.whole]) (.agg #[.int .i64 y.node, .int .i64 y.since, .bool y.whole])).run Try.prog w = .ok (.bool (!memE x y)) w := by
  rw [run_neq_struct, run_mbIn]; rfl
theorem eok_max {w : World} {B : Nat} {x : EX} (h : EOk w B x) : x.n ≤ maxLen := Nat.le_trans h.cap h.max
set_option maxHeartbeats 8000000 in
theorem sament_any {w : World} {B1 B2 : Nat} {x y : EX} (q : Bool) (h1 : EOk w B1 x) (h2 : EOk w B2 y) (hB1 : B1 ≤ w.heap.size) (hB2 : B2 ≤ w.heap.size) (hq : entE x.z y.z = q) : Calls Try.prog 37 #[.agg (ec x).toArray, .agg (ec y).toArray] w (fun e w' => e = .returned (.bool q) ∧ Below w.heap.size w w') := by
  obtain ⟨W1, hW1⟩ : ∃ W, W = (w.alloc (.cells (ec x).toArray 42)).alloc (.cells (ec y).toArray 42) := ⟨_, rfl⟩
  have b1 := Lib.hid (show Below w.heap.size w W1 by rw [hW1]; exact ((Below.refl _ _).alloc (Nat.le_refl _) _).alloc (by simp) _)
  obtain ⟨g, hg⟩ : ∃ g, w.heap.size = g := ⟨_, rfl⟩
  have Hg := Lib.hid hg
  have V1 : Hid (VBox W1 g 5 (ec x)) := Lib.hid (by rw [hW1, ← hg]; exact (vbox_new w (ec x) _ _ 5 rfl rfl (by omega)).grow (below_one _ _))
  have V2 : Hid (VBox W1 (g + 1) 5 (ec y)) := Lib.hid (by rw [hW1, ← hg]; exact vbox_new _ (ec y) _ _ 5 (by simp) rfl (by omega))
  obtain ⟨q0, q1, q2, q3, q4⟩ := V1.out.e
  obtain ⟨p0, p1, p2, p3, p4⟩ := V2.out.e
  have HW1 := Lib.hid hW1
  clear hW1 hg
  obtain ⟨cv, hcv⟩ : ∃ c, eqB x.body y.body = c := ⟨_, rfl⟩
  have HQ : Hid ((decide (x.pos = y.pos) && decide (x.stamp = y.stamp) && decide (x.client = y.client) && decide (x.id = y.id) && cv) = q) := Lib.hid (by rw [← hq, ← hcv]; rfl)
  have HC := Lib.hid (refsame_any (w := W1) x.c y.c (h1.body.belowM b1.out hB1) (h2.body.belowM b1.out hB2) (eok_max h1) (eok_max h2))
  rw [hcv] at HC
  have BW := Lib.hid (below_drewN b1.out)
  clear hcv hq h1 h2 hB1 hB2
  by_cases h0 : x.pos = y.pos
  · by_cases h1 : x.stamp = y.stamp
    · by_cases h2 : x.client = y.client
      · by_cases h3 : x.id = y.id
        · have e : cv = q := by rw [← HQ.out]; simp [h0, h1, h2, h3]
          clear HQ
          go_enter Try.func37, Try.ntmps37
          go_upto_region 1 with fail
          rw [← HW1.out, Hg.out]
          go_wp2_with (go_at_call 14; refine HC.out.mono ?_; rintro e5 w5 ⟨rfl, m5, rfl⟩)
          go_ret
          exact ⟨(by rw [← e] <;> rfl), BW.out _⟩
        · have e : false = q := by rw [← HQ.out]; simp [h0, h1, h2, h3]
          subst e
          clear HQ
          go_enter Try.func37, Try.ntmps37
          go_upto_region 1 with fail
          rw [← HW1.out, Hg.out]
          go_wp2_with (go_at_call 14; refine HC.out.mono ?_; rintro e5 w5 ⟨rfl, m5, rfl⟩)
          go_ret
          exact ⟨rfl, BW.out 0⟩
      · have e : false = q := by rw [← HQ.out]; simp [h0, h1, h2]
        subst e
        clear HQ
        go_enter Try.func37, Try.ntmps37
        go_upto_region 1 with fail
        rw [← HW1.out, Hg.out]
        go_wp2_with (go_at_call 14; refine HC.out.mono ?_; rintro e5 w5 ⟨rfl, m5, rfl⟩)
        go_ret
        exact ⟨rfl, BW.out 0⟩
    · have e : false = q := by rw [← HQ.out]; simp [h0, h1]
      subst e
      clear HQ
      go_enter Try.func37, Try.ntmps37
      go_upto_region 1 with fail
      rw [← HW1.out, Hg.out]
      go_wp2_with (go_at_call 14; refine HC.out.mono ?_; rintro e5 w5 ⟨rfl, m5, rfl⟩)
      go_ret
      exact ⟨rfl, BW.out 0⟩
  · have e : false = q := by rw [← HQ.out]; simp [h0]
    subst e
    clear HQ
    go_enter Try.func37, Try.ntmps37
    go_upto_region 1 with fail
    rw [← HW1.out, Hg.out]
    go_wp2_with (go_at_call 14; refine HC.out.mono ?_; rintro e5 w5 ⟨rfl, m5, rfl⟩)
    go_ret
    exact ⟨rfl, BW.out 0⟩
theorem getD_lt {α : Type} {l : List α} {k : Nat} {x d : α} (h : l[k]? = some x) : l.getD k d = x := by rw [List.getD_eq_getElem?_getD, h]; rfl
set_option maxHeartbeats 8000000 in
theorem samconf_any {w : World} {B1 B2 n1 n2 : Nat} {A1 A2 : Option Addr} {l1 l2 : List MemZ} (c1 c2 : Nat) (ep1 ep2 : Int) (q : Bool) (h1 : Mems w B1 A1 n1 l1) (h2 : Mems w B2 A2 n2 l2) (hB1 : B1 ≤ w.heap.size) (hB2 : B2 ≤ w.heap.size) (hn1 : n1 ≤ 9223372036854775807) (hq : (decide (ep1 = ep2) && msE l1 l2) = q) : Calls Try.prog 38 #[.agg (gc ep1 A1 n1 c1).toArray, .agg (gc ep2 A2 n2 c2).toArray] w (fun e w' => e = .returned (.bool q) ∧ Below w.heap.size w w') := by
  obtain ⟨W1, hW1⟩ : ∃ W, W = (w.alloc (.cells (gc ep1 A1 n1 c1).toArray 26)).alloc (.cells (gc ep2 A2 n2 c2).toArray 26) := ⟨_, rfl⟩
  have b1 := Lib.hid (show Below w.heap.size w W1 by rw [hW1]; exact ((Below.refl _ _).alloc (Nat.le_refl _) _).alloc (by simp) _)
  obtain ⟨g, hg⟩ : ∃ g, w.heap.size = g := ⟨_, rfl⟩
  have Hg := Lib.hid hg
  have V1 : Hid (VBox W1 g 2 (gc ep1 A1 n1 c1)) := Lib.hid (by rw [hW1, ← hg]; exact (vbox_new w (gc ep1 A1 n1 c1) _ _ 2 rfl rfl (by omega)).grow (below_one _ _))
  have V2 : Hid (VBox W1 (g + 1) 2 (gc ep2 A2 n2 c2)) := Lib.hid (by rw [hW1, ← hg]; exact vbox_new _ (gc ep2 A2 n2 c2) _ _ 2 (by simp) rfl (by omega))
  obtain ⟨q0, q1⟩ := V1.out.g
  obtain ⟨p0, p1⟩ := V2.out.g
  have HW1 := Lib.hid hW1
  clear hW1 hg
  have HQ : Hid ((decide (ep1 = ep2) && (decide (n1 = n2) && allT (fun k => memE (l1.getD k mm0) (l2.getD k mm0)) n1)) = q) := Lib.hid (by rw [← hq]; unfold msE; rw [h1.row.len, h2.row.len])
  have M1 := Lib.hid (h1.below b1.out hB1)
  have M2 := Lib.hid (h2.below b1.out hB2)
  have BW := Lib.hid (fun m => below_drewN b1.out m)
  clear hq h1 h2
  by_cases e0 : ep1 = ep2
  · by_cases e1 : n1 = n2
    · have i1 : (n1 : Int) = (n2 : Int) := by omega
      have HQ2 : Hid (allT (fun k => memE (l1.getD k mm0) (l2.getD k mm0)) n1 = q) := Lib.hid (by rw [← HQ.out]; simp [e0, e1])
      subst e1
      clear HQ i1
      have E0 := Lib.hid e0
      clear e0
      go_enter Try.func38, Try.ntmps38
      go_upto_region 1 with fail
      rw [← HW1.out, Hg.out]
      have e0 := E0.out
      go_wp2
      go_loopw [5] (fun i wr => ∃ (k m : Nat), k ≤ n1 ∧ i = .int .i64 k ∧ wr = W1.drewN m ∧ Hid (allT (fun k => memE (l1.getD k mm0) (l2.getD k mm0)) k = true)) (fun i _ => n1 - (intOf i).toNat)
      case atStart => exact ⟨0, 0, by omega, rfl, rfl, Lib.hid rfl⟩
      case round =>
        obtain ⟨k, m, hk, rfl, rfl, PR⟩ := hrel
        by_cases hlt : k < n1
        · have hki : (k : Int) < (n1 : Int) := by omega
          obtain ⟨bb1, off1, x, hA1, _, hx, _, hr1⟩ := M1.out.row.at_ bc_len hlt
          obtain ⟨bb2, off2, y, hA2, _, hy, _, hr2⟩ := M2.out.row.at_ bc_len hlt
          obtain ⟨c0, c1', c2'⟩ := rng_b hr1
          obtain ⟨d0, d1, d2⟩ := rng_b hr2
          subst hA1 hA2
          obtain ⟨v, hv⟩ : ∃ v, memE x y = v := ⟨_, rfl⟩
          have HV : Hid (memE (l1.getD k mm0) (l2.getD k mm0) = v) := Lib.hid (by rw [getD_lt hx.out, getD_lt hy.out, hv])
          have ne := run_mbNe x y
          rw [hv] at ne
          clear hr1 hr2 hx hy hv
          go_upto_region 6 with fail
          cases v with
          | false =>
            have e : false = q := by rw [← HQ2.out]; exact (allT_no hlt HV.out).symm
            subst e
            go_quiet (fail)
            go_wp2
            go_ret
            first | exact ⟨rfl, BW.out _⟩ | exact ⟨rfl, below_drewN (BW.out _) _⟩
          | true =>
            have PR2 : Hid (allT (fun k => memE (l1.getD k mm0) (l2.getD k mm0)) (k + 1) = true) := Lib.hid (by show (allT _ k && _) = true; rw [PR.out]; exact HV.out)
            go_quiet (fail)
            go_wp2
            go_roundw
            case rel => exact ⟨k + 1, _, by omega, by go_num, rfl, PR2⟩
            case measure => simp [intOf]; omega
        · have hki : ¬ (k : Int) < (n1 : Int) := by omega
          have hkn : k = n1 := by omega
          have e : true = q := by rw [← HQ2.out, ← hkn, PR.out]
          subst e
          go_wp2
          go_ret
          exact ⟨rfl, BW.out _⟩
    · have i1 : ¬ (n1 : Int) = (n2 : Int) := by omega
      have e : false = q := by rw [← HQ.out]; simp [e1]
      subst e
      have E0 := Lib.hid e0
      clear e0
      go_enter Try.func38, Try.ntmps38
      go_upto_region 1 with fail
      rw [← HW1.out, Hg.out]
      have e0 := E0.out
      go_wp2
      go_ret
      exact ⟨rfl, b1.out⟩
  · have e : false = q := by rw [← HQ.out]; simp [e0]
    subst e
    go_enter Try.func38, Try.ntmps38
    go_upto_region 1 with fail
    rw [← HW1.out, Hg.out]
    go_wp2
    go_ret
    exact ⟨rfl, b1.out⟩
set_option maxHeartbeats 8000000 in
theorem sament2_any {w : World} {B1 B2 n1 n2 : Nat} {A1 A2 : Option Addr} {l1 l2 : List EX} (c1 c2 : Nat) (q : Bool) (h1 : Ents w B1 A1 n1 l1) (h2 : Ents w B2 A2 n2 l2) (hB1 : B1 ≤ w.heap.size) (hB2 : B2 ≤ w.heap.size) (hn1 : n1 ≤ 9223372036854775807) (hq : esE (l1.map EX.z) (l2.map EX.z) = q) : Calls Try.prog 57 #[.slice A1 n1 c1, .slice A2 n2 c2] w (fun e w' => e = .returned (.bool q) ∧ Below w.heap.size w w') := by
  have HQ : Hid ((decide (n1 = n2) && allT (fun k => entE ((l1.map EX.z).getD k ez0) ((l2.map EX.z).getD k ez0)) n1) = q) := Lib.hid (by rw [← hq]; unfold esE; rw [List.length_map, List.length_map, h1.row.len, h2.row.len])
  have M1 := Lib.hid h1
  have M2 := Lib.hid h2
  have b0 := Lib.hid (Below.refl w.heap.size w)
  clear hq h1 h2
  by_cases e1 : n1 = n2
  · have i1 : (n1 : Int) = (n2 : Int) := by omega
    have HQ2 : Hid (allT (fun k => entE ((l1.map EX.z).getD k ez0) ((l2.map EX.z).getD k ez0)) n1 = q) := Lib.hid (by rw [← HQ.out]; simp [e1])
    subst e1
    clear HQ i1
    go_enter Try.func57, Try.ntmps57
    go_wp2
    go_loopw [5] (fun i wr => ∃ (k : Nat), k ≤ n1 ∧ i = .int .i64 k ∧ Hid (Below w.heap.size w wr) ∧ Hid (allT (fun k => entE ((l1.map EX.z).getD k ez0) ((l2.map EX.z).getD k ez0)) k = true)) (fun i _ => n1 - (intOf i).toNat)
    case atStart => exact ⟨0, by omega, rfl, b0, Lib.hid rfl⟩
    case round =>
      obtain ⟨k, hk, rfl, BR, PR⟩ := hrel
      by_cases hlt : k < n1
      · have hki : (k : Int) < (n1 : Int) := by omega
        obtain ⟨bb1, off1, x, hA1, hb1, hx, hm1, hr1⟩ := M1.out.row.at_ ec_len hlt
        obtain ⟨bb2, off2, y, hA2, hb2, hy, hm2, hr2⟩ := M2.out.row.at_ ec_len hlt
        have OX := M1.out.ok x hm1
        have OY := M2.out.ok y hm2
        obtain ⟨v, hv⟩ : ∃ v, entE x.z y.z = v := ⟨_, rfl⟩
        have HV : Hid (entE ((l1.map EX.z).getD k ez0) ((l2.map EX.z).getD k ez0) = v) := Lib.hid (by rw [getD_map0 _ _ _ hx.out, getD_map0 _ _ _ hy.out, hv])
        have CE := Lib.hid (fun (W : World) (hW : Below w.heap.size w W) => sament_any v (OX.below hW hB1) (OY.below hW hB2) (Nat.le_trans hB1 hW.size) (Nat.le_trans hB2 hW.size) hv)
        have HC := Lib.hid (fun (W : World) (hW : Below w.heap.size w W) => (⟨rng_e (fun j u hu => (hW.cell (p := ⟨bb1, off1 + k * 5 + j, none⟩) (by show bb1 < _; omega)).trans (hr1 j u hu)), rng_e (fun j u hu => (hW.cell (p := ⟨bb2, off2 + k * 5 + j, none⟩) (by show bb2 < _; omega)).trans (hr2 j u hu))⟩ : _ ∧ _))
        have HD := Lib.hid (show Below w.heap.size w wr.drew from below_drewN BR.out 1)
        subst hA1 hA2
        clear hr1 hr2 hx hy hv OX OY hm1 hm2
        go_upto_region 6 with fail
        refine Late.region (fun w' => Below w.heap.size w w') [] (by kernel_rfl) HD.out (fun hHeld => ?_)
        refine Late.take (i := 0) (oi := ⟨some 17, Op.move (Operand.tmp 0), _, _, _, _⟩) (v := ?_) rfl (by kernel_rfl) (by kernel_rfl) (by kernel_rfl) (by kernel_rfl) (fun _ _ _ h => h) (Or.inl ⟨by rfl, fun w hSw => ?_⟩) (by assumption) ?_
        rotate_left
        · (have s1 := hSw; go_simp; try with_reducible rfl)
        try simp only [Act.put, List.setIfInBounds_toArray, List.set_cons_zero, List.set_cons_succ]
        refine Late.take (i := 1) (oi := ⟨some 18, Op.move (Operand.tmp 5), _, _, _, _⟩) (v := ?_) rfl (by kernel_rfl) (by kernel_rfl) (by kernel_rfl) (by kernel_rfl) (fun _ _ _ h => h) (Or.inl ⟨by rfl, fun w hSw => ?_⟩) (by assumption) ?_
        rotate_left
        · (have s1 := hSw; go_simp; try with_reducible rfl)
        try simp only [Act.put, List.setIfInBounds_toArray, List.set_cons_zero, List.set_cons_succ]
        refine Late.take (i := 2) (oi := ⟨some 19, Op.indexAddr 23 (Operand.tmp 17) (Operand.tmp 18), _, _, _, _⟩) (v := ?_) rfl (by kernel_rfl) (by kernel_rfl) (by kernel_rfl) (by kernel_rfl) (fun _ _ _ h => h) (Or.inl ⟨by rfl, fun w hSw => ?_⟩) (by assumption) ?_
        rotate_left
        · (have s1 := hSw; go_simp; try with_reducible rfl)
        try simp only [Act.put, List.setIfInBounds_toArray, List.set_cons_zero, List.set_cons_succ]
        refine Late.take (i := 3) (oi := ⟨some 20, Op.load 42 (Operand.tmp 19), _, _, _, _⟩) (v := ?_) rfl (by kernel_rfl) (by kernel_rfl) (by kernel_rfl) (by kernel_rfl) (fun _ _ _ h => h) (Or.inl ⟨by rfl, fun w hSw => ?_⟩) (by assumption) ?_
        rotate_left
        · (have s1 := hSw; obtain ⟨⟨c0, c1, c2, c3, c4⟩, _⟩ := HC.out _ hSw; go_simp; try with_reducible rfl)
        try simp only [Act.put, List.setIfInBounds_toArray, List.set_cons_zero, List.set_cons_succ]
        refine Late.take (i := 4) (oi := ⟨some 21, Op.move (Operand.tmp 1), _, _, _, _⟩) (v := ?_) rfl (by kernel_rfl) (by kernel_rfl) (by kernel_rfl) (by kernel_rfl) (fun _ _ _ h => h) (Or.inl ⟨by rfl, fun w hSw => ?_⟩) (by assumption) ?_
        rotate_left
        · (have s1 := hSw; go_simp; try with_reducible rfl)
        try simp only [Act.put, List.setIfInBounds_toArray, List.set_cons_zero, List.set_cons_succ]
        refine Late.take (i := 5) (oi := ⟨some 22, Op.move (Operand.tmp 5), _, _, _, _⟩) (v := ?_) rfl (by kernel_rfl) (by kernel_rfl) (by kernel_rfl) (by kernel_rfl) (fun _ _ _ h => h) (Or.inl ⟨by rfl, fun w hSw => ?_⟩) (by assumption) ?_
        rotate_left
        · (have s1 := hSw; go_simp; try with_reducible rfl)
        try simp only [Act.put, List.setIfInBounds_toArray, List.set_cons_zero, List.set_cons_succ]
        refine Late.take (i := 6) (oi := ⟨some 23, Op.indexAddr 23 (Operand.tmp 21) (Operand.tmp 22), _, _, _, _⟩) (v := ?_) rfl (by kernel_rfl) (by kernel_rfl) (by kernel_rfl) (by kernel_rfl) (fun _ _ _ h => h) (Or.inl ⟨by rfl, fun w hSw => ?_⟩) (by assumption) ?_
        rotate_left
        · (have s1 := hSw; go_simp; try with_reducible rfl)
        try simp only [Act.put, List.setIfInBounds_toArray, List.set_cons_zero, List.set_cons_succ]
        refine Late.take (i := 7) (oi := ⟨some 24, Op.load 42 (Operand.tmp 23), _, _, _, _⟩) (v := ?_) rfl (by kernel_rfl) (by kernel_rfl) (by kernel_rfl) (by kernel_rfl) (fun _ _ _ h => h) (Or.inl ⟨by rfl, fun w hSw => ?_⟩) (by assumption) ?_
        rotate_left
        · (have s1 := hSw; obtain ⟨_, ⟨c0, c1, c2, c3, c4⟩⟩ := HC.out _ hSw; go_simp; try with_reducible rfl)
        try simp only [Act.put, List.setIfInBounds_toArray, List.set_cons_zero, List.set_cons_succ]
        refine Late.one (i := 8) (o := ⟨some 25, Op.call { callee := Callee.value (Operand.func 37), args := #[Operand.tmp 20, Operand.tmp 24], argTypes := #[42, 42] }, _, _, _, _⟩) (by kernel_rfl) rfl (fun K hK => ?_)
        go_simp
        refine (CE.out _ hHeld).mono ?_
        rintro e w5 ⟨rfl, hb5⟩
        have hb6 := hHeld.trans (hb5.mono hHeld.size)
        refine hK.out _ _ (hb6) (fun hHeld2 => ?_)
        clear hK K hHeld
        have hHeld := hHeld2
        clear hHeld2
        try simp only [Act.put, List.setIfInBounds_toArray, List.set_cons_zero, List.set_cons_succ]
        refine Late.take (i := 9) (oi := ⟨some 26, Op.unOp UnOp.not 4 (Operand.tmp 25), _, _, _, _⟩) (v := ?_) rfl (by kernel_rfl) (by kernel_rfl) (by kernel_rfl) (by kernel_rfl) (fun _ _ _ h => h) (Or.inl ⟨by rfl, fun w hSw => ?_⟩) (by assumption) ?_
        rotate_left
        · (have s1 := hSw; go_simp; try with_reducible rfl)
        try simp only [Act.put, List.setIfInBounds_toArray, List.set_cons_zero, List.set_cons_succ]
        refine Late.done (by kernel_rfl) ?_ _
        refine NoPanic.normal ?_
        have BE := Lib.hid hHeld
        clear hHeld
        cases v with
        | false =>
          have e : false = q := by rw [← HQ2.out]; exact (allT_no hlt HV.out).symm
          subst e
          go_wp2
          go_ret
          exact ⟨rfl, BE.out⟩
        | true =>
          have PR2 : Hid (allT (fun k => entE ((l1.map EX.z).getD k ez0) ((l2.map EX.z).getD k ez0)) (k + 1) = true) := Lib.hid (by show (allT _ k && _) = true; rw [PR.out]; exact HV.out)
          go_wp2
          go_roundw
          case rel => exact ⟨k + 1, by omega, by go_num, BE, PR2⟩
          case measure => simp [intOf]; omega
      · have hki : ¬ (k : Int) < (n1 : Int) := by omega
        have hkn : k = n1 := by omega
        have e : true = q := by rw [← HQ2.out, ← hkn, PR.out]
        subst e
        go_wp2
        go_ret
        exact ⟨rfl, BR.out⟩
  · have i1 : ¬ (n1 : Int) = (n2 : Int) := by omega
    have e : false = q := by rw [← HQ.out]; simp [e1]
    subst e
    go_enter Try.func57, Try.ntmps57
    go_wp2
    go_ret
    exact ⟨rfl, b0.out⟩
set_option maxHeartbeats 16000000 in
theorem same_anyM {w : World} {B1 B2 : Nat} {x y : MX} (q : Bool) (h1 : MXOk w B1 x) (h2 : MXOk w B2 y) (hB1 : B1 ≤ w.heap.size) (hB2 : B2 ≤ w.heap.size) (hq : msgE x.z y.z = q) : Calls Try.prog 19 #[.agg (mc x).toArray, .agg (mc y).toArray] w (fun e w' => e = .returned (.bool q) ∧ Below w.heap.size w w') := by
  obtain ⟨W1, hW1⟩ : ∃ W, W = (w.alloc (.cells (mc x).toArray 28)).alloc (.cells (mc y).toArray 28) := ⟨_, rfl⟩
  have b1 := Lib.hid (show Below w.heap.size w W1 by rw [hW1]; exact ((Below.refl _ _).alloc (Nat.le_refl _) _).alloc (by simp) _)
  obtain ⟨g, hg⟩ : ∃ g, w.heap.size = g := ⟨_, rfl⟩
  have Hg := Lib.hid hg
  have V1 : Hid (VBox W1 g 12 (mc x)) := Lib.hid (by rw [hW1, ← hg]; exact (vbox_new w (mc x) _ _ 12 rfl rfl (by omega)).grow (below_one _ _))
  have V2 : Hid (VBox W1 (g + 1) 12 (mc y)) := Lib.hid (by rw [hW1, ← hg]; exact vbox_new _ (mc y) _ _ 12 (by simp) rfl (by omega))
  obtain ⟨q0, q1, q2, q3, q4, q5, q6, q7, q8, q9, q10, q11⟩ := V1.out.m
  obtain ⟨p0, p1, p2, p3, p4, p5, p6, p7, p8, p9, p10, p11⟩ := V2.out.m
  have HW1 := Lib.hid hW1
  clear hW1 hg
  obtain ⟨cb, hcb⟩ : ∃ c, eqB x.body y.body = c := ⟨_, rfl⟩
  obtain ⟨ce, hce⟩ : ∃ c, esE (x.es.map EX.z) (y.es.map EX.z) = c := ⟨_, rfl⟩
  obtain ⟨cf, hcf⟩ : ∃ c, (decide (x.ep = y.ep) && msE x.ms y.ms) = c := ⟨_, rfl⟩
  have HQ : Hid ((decide (x.kind = y.kind) && decide (x.client = y.client) && decide (x.id = y.id) && cb && decide (x.upto = y.upto) && decide (x.frm = y.frm) && ce && decide (x.hav = y.hav) && decide (x.don = y.don) && cf && decide (x.since = y.since)) = q) := Lib.hid (by rw [← hq, ← hcb, ← hce, ← hcf]; rfl)
  have HC := Lib.hid (refsame_any (w := W1) x.c y.c (h1.body.belowM b1.out hB1) (h2.body.belowM b1.out hB2) (Nat.le_trans h1.cap h1.max) (Nat.le_trans h2.cap h2.max))
  rw [hcb] at HC
  have M1 := Lib.hid (h1.below b1.out hB1)
  have M2 := Lib.hid (h2.below b1.out hB2)
  have S1 := Nat.le_trans hB1 b1.out.size
  have S2 := Nat.le_trans hB2 b1.out.size
  have en := en_le h1
  have mn : x.mn ≤ 9223372036854775807 := by have a := h1.mcap; have b := h1.mmax; unfold maxLen at b; omega
  have HEN := Lib.hid (fun (W : World) (hW : Below W1.heap.size W1 W) => sament2_any x.ecp y.ecp ce (M1.out.es.below hW S1) (M2.out.es.below hW S2) (Nat.le_trans S1 hW.size) (Nat.le_trans S2 hW.size) en hce)
  have HCF := Lib.hid (fun (W : World) (hW : Below W1.heap.size W1 W) => samconf_any x.mcp y.mcp x.ep y.ep cf (M1.out.ms.below hW S1) (M2.out.ms.below hW S2) (Nat.le_trans S1 hW.size) (Nat.le_trans S2 hW.size) mn hcf)
  clear hcb hce hcf hq h1 h2 hB1 hB2 S1 S2 en mn
  by_cases h0 : x.kind = y.kind
  · by_cases h1 : x.client = y.client
    · by_cases h2 : x.id = y.id
      · by_cases h3 : cb = true
        · subst h3
          by_cases h4 : x.upto = y.upto
          · by_cases h5 : x.frm = y.frm
            · by_cases h6 : ce = true
              · subst h6
                by_cases h7 : x.hav = y.hav
                · by_cases h8 : x.don = y.don
                  · by_cases h9 : cf = true
                    · subst h9
                      have e : decide (x.since = y.since) = q := by rw [← HQ.out]; simp [h0, h1, h2, h4, h5, h7, h8]
                      clear HQ
                      go_enter Try.func19, Try.ntmps19
                      go_upto_region 1 with fail
                      rw [← HW1.out, Hg.out]
                      go_wp2_with (first
                            | (go_at_call 14; refine HC.out.mono ?_; rintro e5 w5 ⟨rfl, hq5⟩; have B5 := Lib.hid (show Below W1.heap.size W1 w5 by obtain ⟨m5, rfl⟩ := hq5; exact below_drewN (Below.refl _ _) m5); obtain ⟨q0, q1, q2, q3, q4, q5, q6, q7, q8, q9, q10, q11⟩ := (V1.out.grow B5.out).m; obtain ⟨p0, p1, p2, p3, p4, p5, p6, p7, p8, p9, p10, p11⟩ := (V2.out.grow B5.out).m; clear hq5)
                            | (go_at_call 57; refine (HEN.out _ B5.out).mono ?_; rintro e6 w6 ⟨rfl, hb⟩; have B6 := Lib.hid (B5.out.trans (hb.mono B5.out.size)); obtain ⟨q0, q1, q2, q3, q4, q5, q6, q7, q8, q9, q10, q11⟩ := (V1.out.grow B6.out).m; obtain ⟨p0, p1, p2, p3, p4, p5, p6, p7, p8, p9, p10, p11⟩ := (V2.out.grow B6.out).m; clear hb)
                            | (go_at_call 38; refine (HCF.out _ B6.out).mono ?_; rintro e7 w7 ⟨rfl, hb⟩; have B7 := Lib.hid (B6.out.trans (hb.mono B6.out.size)); obtain ⟨q0, q1, q2, q3, q4, q5, q6, q7, q8, q9, q10, q11⟩ := (V1.out.grow B7.out).m; obtain ⟨p0, p1, p2, p3, p4, p5, p6, p7, p8, p9, p10, p11⟩ := (V2.out.grow B7.out).m; clear hb))
                      go_ret
                      exact ⟨(by rw [← e] <;> rfl), b1.out.trans ((B7.out).mono b1.out.size)⟩
                    · have h9 : cf = false := by simpa using h9
                      subst h9
                      have e : false = q := by rw [← HQ.out]; simp [h0, h1, h2, h4, h5, h7, h8]
                      subst e
                      clear HQ
                      go_enter Try.func19, Try.ntmps19
                      go_upto_region 1 with fail
                      rw [← HW1.out, Hg.out]
                      go_wp2_with (first
                            | (go_at_call 14; refine HC.out.mono ?_; rintro e5 w5 ⟨rfl, hq5⟩; have B5 := Lib.hid (show Below W1.heap.size W1 w5 by obtain ⟨m5, rfl⟩ := hq5; exact below_drewN (Below.refl _ _) m5); obtain ⟨q0, q1, q2, q3, q4, q5, q6, q7, q8, q9, q10, q11⟩ := (V1.out.grow B5.out).m; obtain ⟨p0, p1, p2, p3, p4, p5, p6, p7, p8, p9, p10, p11⟩ := (V2.out.grow B5.out).m; clear hq5)
                            | (go_at_call 57; refine (HEN.out _ B5.out).mono ?_; rintro e6 w6 ⟨rfl, hb⟩; have B6 := Lib.hid (B5.out.trans (hb.mono B5.out.size)); obtain ⟨q0, q1, q2, q3, q4, q5, q6, q7, q8, q9, q10, q11⟩ := (V1.out.grow B6.out).m; obtain ⟨p0, p1, p2, p3, p4, p5, p6, p7, p8, p9, p10, p11⟩ := (V2.out.grow B6.out).m; clear hb)
                            | (go_at_call 38; refine (HCF.out _ B6.out).mono ?_; rintro e7 w7 ⟨rfl, hb⟩; have B7 := Lib.hid (B6.out.trans (hb.mono B6.out.size)); obtain ⟨q0, q1, q2, q3, q4, q5, q6, q7, q8, q9, q10, q11⟩ := (V1.out.grow B7.out).m; obtain ⟨p0, p1, p2, p3, p4, p5, p6, p7, p8, p9, p10, p11⟩ := (V2.out.grow B7.out).m; clear hb))
                      go_ret
                      exact ⟨rfl, b1.out.trans ((B7.out).mono b1.out.size)⟩
                  · have e : false = q := by rw [← HQ.out]; simp [h0, h1, h2, h4, h5, h7, h8]
                    subst e
                    clear HQ
                    go_enter Try.func19, Try.ntmps19
                    go_upto_region 1 with fail
                    rw [← HW1.out, Hg.out]
                    go_wp2_with (first
                          | (go_at_call 14; refine HC.out.mono ?_; rintro e5 w5 ⟨rfl, hq5⟩; have B5 := Lib.hid (show Below W1.heap.size W1 w5 by obtain ⟨m5, rfl⟩ := hq5; exact below_drewN (Below.refl _ _) m5); obtain ⟨q0, q1, q2, q3, q4, q5, q6, q7, q8, q9, q10, q11⟩ := (V1.out.grow B5.out).m; obtain ⟨p0, p1, p2, p3, p4, p5, p6, p7, p8, p9, p10, p11⟩ := (V2.out.grow B5.out).m; clear hq5)
                          | (go_at_call 57; refine (HEN.out _ B5.out).mono ?_; rintro e6 w6 ⟨rfl, hb⟩; have B6 := Lib.hid (B5.out.trans (hb.mono B5.out.size)); obtain ⟨q0, q1, q2, q3, q4, q5, q6, q7, q8, q9, q10, q11⟩ := (V1.out.grow B6.out).m; obtain ⟨p0, p1, p2, p3, p4, p5, p6, p7, p8, p9, p10, p11⟩ := (V2.out.grow B6.out).m; clear hb)
                          | (go_at_call 38; refine (HCF.out _ B6.out).mono ?_; rintro e7 w7 ⟨rfl, hb⟩; have B7 := Lib.hid (B6.out.trans (hb.mono B6.out.size)); obtain ⟨q0, q1, q2, q3, q4, q5, q6, q7, q8, q9, q10, q11⟩ := (V1.out.grow B7.out).m; obtain ⟨p0, p1, p2, p3, p4, p5, p6, p7, p8, p9, p10, p11⟩ := (V2.out.grow B7.out).m; clear hb))
                    go_ret
                    exact ⟨rfl, b1.out.trans ((B6.out).mono b1.out.size)⟩
                · have e : false = q := by rw [← HQ.out]; simp [h0, h1, h2, h4, h5, h7]
                  subst e
                  clear HQ
                  go_enter Try.func19, Try.ntmps19
                  go_upto_region 1 with fail
                  rw [← HW1.out, Hg.out]
                  go_wp2_with (first
                        | (go_at_call 14; refine HC.out.mono ?_; rintro e5 w5 ⟨rfl, hq5⟩; have B5 := Lib.hid (show Below W1.heap.size W1 w5 by obtain ⟨m5, rfl⟩ := hq5; exact below_drewN (Below.refl _ _) m5); obtain ⟨q0, q1, q2, q3, q4, q5, q6, q7, q8, q9, q10, q11⟩ := (V1.out.grow B5.out).m; obtain ⟨p0, p1, p2, p3, p4, p5, p6, p7, p8, p9, p10, p11⟩ := (V2.out.grow B5.out).m; clear hq5)
                        | (go_at_call 57; refine (HEN.out _ B5.out).mono ?_; rintro e6 w6 ⟨rfl, hb⟩; have B6 := Lib.hid (B5.out.trans (hb.mono B5.out.size)); obtain ⟨q0, q1, q2, q3, q4, q5, q6, q7, q8, q9, q10, q11⟩ := (V1.out.grow B6.out).m; obtain ⟨p0, p1, p2, p3, p4, p5, p6, p7, p8, p9, p10, p11⟩ := (V2.out.grow B6.out).m; clear hb)
                        | (go_at_call 38; refine (HCF.out _ B6.out).mono ?_; rintro e7 w7 ⟨rfl, hb⟩; have B7 := Lib.hid (B6.out.trans (hb.mono B6.out.size)); obtain ⟨q0, q1, q2, q3, q4, q5, q6, q7, q8, q9, q10, q11⟩ := (V1.out.grow B7.out).m; obtain ⟨p0, p1, p2, p3, p4, p5, p6, p7, p8, p9, p10, p11⟩ := (V2.out.grow B7.out).m; clear hb))
                  go_ret
                  exact ⟨rfl, b1.out.trans ((B6.out).mono b1.out.size)⟩
              · have h6 : ce = false := by simpa using h6
                subst h6
                have e : false = q := by rw [← HQ.out]; simp [h0, h1, h2, h4, h5]
                subst e
                clear HQ
                go_enter Try.func19, Try.ntmps19
                go_upto_region 1 with fail
                rw [← HW1.out, Hg.out]
                go_wp2_with (first
                      | (go_at_call 14; refine HC.out.mono ?_; rintro e5 w5 ⟨rfl, hq5⟩; have B5 := Lib.hid (show Below W1.heap.size W1 w5 by obtain ⟨m5, rfl⟩ := hq5; exact below_drewN (Below.refl _ _) m5); obtain ⟨q0, q1, q2, q3, q4, q5, q6, q7, q8, q9, q10, q11⟩ := (V1.out.grow B5.out).m; obtain ⟨p0, p1, p2, p3, p4, p5, p6, p7, p8, p9, p10, p11⟩ := (V2.out.grow B5.out).m; clear hq5)
                      | (go_at_call 57; refine (HEN.out _ B5.out).mono ?_; rintro e6 w6 ⟨rfl, hb⟩; have B6 := Lib.hid (B5.out.trans (hb.mono B5.out.size)); obtain ⟨q0, q1, q2, q3, q4, q5, q6, q7, q8, q9, q10, q11⟩ := (V1.out.grow B6.out).m; obtain ⟨p0, p1, p2, p3, p4, p5, p6, p7, p8, p9, p10, p11⟩ := (V2.out.grow B6.out).m; clear hb)
                      | (go_at_call 38; refine (HCF.out _ B6.out).mono ?_; rintro e7 w7 ⟨rfl, hb⟩; have B7 := Lib.hid (B6.out.trans (hb.mono B6.out.size)); obtain ⟨q0, q1, q2, q3, q4, q5, q6, q7, q8, q9, q10, q11⟩ := (V1.out.grow B7.out).m; obtain ⟨p0, p1, p2, p3, p4, p5, p6, p7, p8, p9, p10, p11⟩ := (V2.out.grow B7.out).m; clear hb))
                go_ret
                exact ⟨rfl, b1.out.trans ((B6.out).mono b1.out.size)⟩
            · have e : false = q := by rw [← HQ.out]; simp [h0, h1, h2, h4, h5]
              subst e
              clear HQ
              go_enter Try.func19, Try.ntmps19
              go_upto_region 1 with fail
              rw [← HW1.out, Hg.out]
              go_wp2_with (first
                    | (go_at_call 14; refine HC.out.mono ?_; rintro e5 w5 ⟨rfl, hq5⟩; have B5 := Lib.hid (show Below W1.heap.size W1 w5 by obtain ⟨m5, rfl⟩ := hq5; exact below_drewN (Below.refl _ _) m5); obtain ⟨q0, q1, q2, q3, q4, q5, q6, q7, q8, q9, q10, q11⟩ := (V1.out.grow B5.out).m; obtain ⟨p0, p1, p2, p3, p4, p5, p6, p7, p8, p9, p10, p11⟩ := (V2.out.grow B5.out).m; clear hq5)
                    | (go_at_call 57; refine (HEN.out _ B5.out).mono ?_; rintro e6 w6 ⟨rfl, hb⟩; have B6 := Lib.hid (B5.out.trans (hb.mono B5.out.size)); obtain ⟨q0, q1, q2, q3, q4, q5, q6, q7, q8, q9, q10, q11⟩ := (V1.out.grow B6.out).m; obtain ⟨p0, p1, p2, p3, p4, p5, p6, p7, p8, p9, p10, p11⟩ := (V2.out.grow B6.out).m; clear hb)
                    | (go_at_call 38; refine (HCF.out _ B6.out).mono ?_; rintro e7 w7 ⟨rfl, hb⟩; have B7 := Lib.hid (B6.out.trans (hb.mono B6.out.size)); obtain ⟨q0, q1, q2, q3, q4, q5, q6, q7, q8, q9, q10, q11⟩ := (V1.out.grow B7.out).m; obtain ⟨p0, p1, p2, p3, p4, p5, p6, p7, p8, p9, p10, p11⟩ := (V2.out.grow B7.out).m; clear hb))
              go_ret
              exact ⟨rfl, b1.out.trans ((B5.out).mono b1.out.size)⟩
          · have e : false = q := by rw [← HQ.out]; simp [h0, h1, h2, h4]
            subst e
            clear HQ
            go_enter Try.func19, Try.ntmps19
            go_upto_region 1 with fail
            rw [← HW1.out, Hg.out]
            go_wp2_with (first
                  | (go_at_call 14; refine HC.out.mono ?_; rintro e5 w5 ⟨rfl, hq5⟩; have B5 := Lib.hid (show Below W1.heap.size W1 w5 by obtain ⟨m5, rfl⟩ := hq5; exact below_drewN (Below.refl _ _) m5); obtain ⟨q0, q1, q2, q3, q4, q5, q6, q7, q8, q9, q10, q11⟩ := (V1.out.grow B5.out).m; obtain ⟨p0, p1, p2, p3, p4, p5, p6, p7, p8, p9, p10, p11⟩ := (V2.out.grow B5.out).m; clear hq5)
                  | (go_at_call 57; refine (HEN.out _ B5.out).mono ?_; rintro e6 w6 ⟨rfl, hb⟩; have B6 := Lib.hid (B5.out.trans (hb.mono B5.out.size)); obtain ⟨q0, q1, q2, q3, q4, q5, q6, q7, q8, q9, q10, q11⟩ := (V1.out.grow B6.out).m; obtain ⟨p0, p1, p2, p3, p4, p5, p6, p7, p8, p9, p10, p11⟩ := (V2.out.grow B6.out).m; clear hb)
                  | (go_at_call 38; refine (HCF.out _ B6.out).mono ?_; rintro e7 w7 ⟨rfl, hb⟩; have B7 := Lib.hid (B6.out.trans (hb.mono B6.out.size)); obtain ⟨q0, q1, q2, q3, q4, q5, q6, q7, q8, q9, q10, q11⟩ := (V1.out.grow B7.out).m; obtain ⟨p0, p1, p2, p3, p4, p5, p6, p7, p8, p9, p10, p11⟩ := (V2.out.grow B7.out).m; clear hb))
            go_ret
            exact ⟨rfl, b1.out.trans ((B5.out).mono b1.out.size)⟩
        · have h3 : cb = false := by simpa using h3
          subst h3
          have e : false = q := by rw [← HQ.out]; simp [h0, h1, h2]
          subst e
          clear HQ
          go_enter Try.func19, Try.ntmps19
          go_upto_region 1 with fail
          rw [← HW1.out, Hg.out]
          go_wp2_with (first
                | (go_at_call 14; refine HC.out.mono ?_; rintro e5 w5 ⟨rfl, hq5⟩; have B5 := Lib.hid (show Below W1.heap.size W1 w5 by obtain ⟨m5, rfl⟩ := hq5; exact below_drewN (Below.refl _ _) m5); obtain ⟨q0, q1, q2, q3, q4, q5, q6, q7, q8, q9, q10, q11⟩ := (V1.out.grow B5.out).m; obtain ⟨p0, p1, p2, p3, p4, p5, p6, p7, p8, p9, p10, p11⟩ := (V2.out.grow B5.out).m; clear hq5)
                | (go_at_call 57; refine (HEN.out _ B5.out).mono ?_; rintro e6 w6 ⟨rfl, hb⟩; have B6 := Lib.hid (B5.out.trans (hb.mono B5.out.size)); obtain ⟨q0, q1, q2, q3, q4, q5, q6, q7, q8, q9, q10, q11⟩ := (V1.out.grow B6.out).m; obtain ⟨p0, p1, p2, p3, p4, p5, p6, p7, p8, p9, p10, p11⟩ := (V2.out.grow B6.out).m; clear hb)
                | (go_at_call 38; refine (HCF.out _ B6.out).mono ?_; rintro e7 w7 ⟨rfl, hb⟩; have B7 := Lib.hid (B6.out.trans (hb.mono B6.out.size)); obtain ⟨q0, q1, q2, q3, q4, q5, q6, q7, q8, q9, q10, q11⟩ := (V1.out.grow B7.out).m; obtain ⟨p0, p1, p2, p3, p4, p5, p6, p7, p8, p9, p10, p11⟩ := (V2.out.grow B7.out).m; clear hb))
          go_ret
          exact ⟨rfl, b1.out.trans ((B5.out).mono b1.out.size)⟩
      · have e : false = q := by rw [← HQ.out]; simp [h0, h1, h2]
        subst e
        clear HQ
        go_enter Try.func19, Try.ntmps19
        go_upto_region 1 with fail
        rw [← HW1.out, Hg.out]
        go_wp2_with (first
              | (go_at_call 14; refine HC.out.mono ?_; rintro e5 w5 ⟨rfl, hq5⟩; have B5 := Lib.hid (show Below W1.heap.size W1 w5 by obtain ⟨m5, rfl⟩ := hq5; exact below_drewN (Below.refl _ _) m5); obtain ⟨q0, q1, q2, q3, q4, q5, q6, q7, q8, q9, q10, q11⟩ := (V1.out.grow B5.out).m; obtain ⟨p0, p1, p2, p3, p4, p5, p6, p7, p8, p9, p10, p11⟩ := (V2.out.grow B5.out).m; clear hq5)
              | (go_at_call 57; refine (HEN.out _ B5.out).mono ?_; rintro e6 w6 ⟨rfl, hb⟩; have B6 := Lib.hid (B5.out.trans (hb.mono B5.out.size)); obtain ⟨q0, q1, q2, q3, q4, q5, q6, q7, q8, q9, q10, q11⟩ := (V1.out.grow B6.out).m; obtain ⟨p0, p1, p2, p3, p4, p5, p6, p7, p8, p9, p10, p11⟩ := (V2.out.grow B6.out).m; clear hb)
              | (go_at_call 38; refine (HCF.out _ B6.out).mono ?_; rintro e7 w7 ⟨rfl, hb⟩; have B7 := Lib.hid (B6.out.trans (hb.mono B6.out.size)); obtain ⟨q0, q1, q2, q3, q4, q5, q6, q7, q8, q9, q10, q11⟩ := (V1.out.grow B7.out).m; obtain ⟨p0, p1, p2, p3, p4, p5, p6, p7, p8, p9, p10, p11⟩ := (V2.out.grow B7.out).m; clear hb))
        go_ret
        exact ⟨rfl, b1.out.trans ((Below.refl _ _).mono b1.out.size)⟩
    · have e : false = q := by rw [← HQ.out]; simp [h0, h1]
      subst e
      clear HQ
      go_enter Try.func19, Try.ntmps19
      go_upto_region 1 with fail
      rw [← HW1.out, Hg.out]
      go_wp2_with (first
            | (go_at_call 14; refine HC.out.mono ?_; rintro e5 w5 ⟨rfl, hq5⟩; have B5 := Lib.hid (show Below W1.heap.size W1 w5 by obtain ⟨m5, rfl⟩ := hq5; exact below_drewN (Below.refl _ _) m5); obtain ⟨q0, q1, q2, q3, q4, q5, q6, q7, q8, q9, q10, q11⟩ := (V1.out.grow B5.out).m; obtain ⟨p0, p1, p2, p3, p4, p5, p6, p7, p8, p9, p10, p11⟩ := (V2.out.grow B5.out).m; clear hq5)
            | (go_at_call 57; refine (HEN.out _ B5.out).mono ?_; rintro e6 w6 ⟨rfl, hb⟩; have B6 := Lib.hid (B5.out.trans (hb.mono B5.out.size)); obtain ⟨q0, q1, q2, q3, q4, q5, q6, q7, q8, q9, q10, q11⟩ := (V1.out.grow B6.out).m; obtain ⟨p0, p1, p2, p3, p4, p5, p6, p7, p8, p9, p10, p11⟩ := (V2.out.grow B6.out).m; clear hb)
            | (go_at_call 38; refine (HCF.out _ B6.out).mono ?_; rintro e7 w7 ⟨rfl, hb⟩; have B7 := Lib.hid (B6.out.trans (hb.mono B6.out.size)); obtain ⟨q0, q1, q2, q3, q4, q5, q6, q7, q8, q9, q10, q11⟩ := (V1.out.grow B7.out).m; obtain ⟨p0, p1, p2, p3, p4, p5, p6, p7, p8, p9, p10, p11⟩ := (V2.out.grow B7.out).m; clear hb))
      go_ret
      exact ⟨rfl, b1.out.trans ((Below.refl _ _).mono b1.out.size)⟩
  · have e : false = q := by rw [← HQ.out]; simp [h0]
    subst e
    clear HQ
    go_enter Try.func19, Try.ntmps19
    go_upto_region 1 with fail
    rw [← HW1.out, Hg.out]
    go_wp2_with (first
          | (go_at_call 14; refine HC.out.mono ?_; rintro e5 w5 ⟨rfl, hq5⟩; have B5 := Lib.hid (show Below W1.heap.size W1 w5 by obtain ⟨m5, rfl⟩ := hq5; exact below_drewN (Below.refl _ _) m5); obtain ⟨q0, q1, q2, q3, q4, q5, q6, q7, q8, q9, q10, q11⟩ := (V1.out.grow B5.out).m; obtain ⟨p0, p1, p2, p3, p4, p5, p6, p7, p8, p9, p10, p11⟩ := (V2.out.grow B5.out).m; clear hq5)
          | (go_at_call 57; refine (HEN.out _ B5.out).mono ?_; rintro e6 w6 ⟨rfl, hb⟩; have B6 := Lib.hid (B5.out.trans (hb.mono B5.out.size)); obtain ⟨q0, q1, q2, q3, q4, q5, q6, q7, q8, q9, q10, q11⟩ := (V1.out.grow B6.out).m; obtain ⟨p0, p1, p2, p3, p4, p5, p6, p7, p8, p9, p10, p11⟩ := (V2.out.grow B6.out).m; clear hb)
          | (go_at_call 38; refine (HCF.out _ B6.out).mono ?_; rintro e7 w7 ⟨rfl, hb⟩; have B7 := Lib.hid (B6.out.trans (hb.mono B6.out.size)); obtain ⟨q0, q1, q2, q3, q4, q5, q6, q7, q8, q9, q10, q11⟩ := (V1.out.grow B7.out).m; obtain ⟨p0, p1, p2, p3, p4, p5, p6, p7, p8, p9, p10, p11⟩ := (V2.out.grow B7.out).m; clear hb))
    go_ret
    exact ⟨rfl, b1.out.trans ((Below.refl _ _).mono b1.out.size)⟩
end Go.Proofs.Ytfihiandifnkpaa
