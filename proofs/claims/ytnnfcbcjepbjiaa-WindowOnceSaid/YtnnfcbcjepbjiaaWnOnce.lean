/- The statement WindowOnce: the walk. -/
import Derived.Test.YtnnfcbcjepbjiaaWnL
import Derived.Test.YtnnfcbcjepbjiaaWnN
namespace Go.Proofs.Ytnnfcbcjepbjiaa
open Go.ChangeShapes Go.WideShapes Go.ChangeAt Go.RowKit
set_option linter.unusedVariables false
set_option linter.unusedSimpArgs false
open Plain Sha Wn
theorem gwo_trans {a b c : World} {r : Option Nat} (h : a.grownBy b r) (k : b.grownBy c r) : a.grownBy c r :=
  ⟨k.os.trans h.os, k.tape.trans h.tape, k.output.trans h.output, Nat.le_trans h.size k.size, fun i hi hne => (k.block i (Nat.lt_of_lt_of_le hi h.size) hne).trans (h.block i hi hne)⟩
theorem own_keepO {w w' : World} {base n size : Nat} {t : TypeId} {v : Value} {xs : List Value} (h : w.ownsRow base t size v n xs) (hk : ∀ g, base ≤ g → g < w.heap.size → w'.heap[g]? = w.heap[g]?) : w'.ownsRow base t size v n xs := by
  have hlt := h.lt
  obtain ⟨h1, h2 | ⟨g, cap, cur, rfl, hg, hh, h3⟩⟩ := h
  · exact ⟨h1, .inl h2⟩
  · have := hlt g rfl
    exact ⟨h1, .inr ⟨g, cap, cur, rfl, hg, (hk g this.1 this.2).trans hh, h3⟩⟩
theorem num_fields : (Try.prog.fieldsOf 33).toList.map (fun f => (f.type, f.offset)) = [(3, 0), (3, 1)] := by kernel_rfl
theorem num_under : Try.prog.underlying 33 = some (.struct (Try.prog.fieldsOf 33)) := by kernel_rfl
theorem num_stood : Try.prog.stoodInHeld 33 = false := by kernel_rfl
theorem num_names : (Try.prog.fieldsOf 33).toList.all (fun f => !(f.name == "_")) = true := by kernel_rfl
theorem run_numEq (a b c d : Int) (w : World) : (binOp .eql 33 (.agg #[.int .i64 a, .int .i64 b]) (.agg #[.int .i64 c, .int .i64 d])).run Try.prog w = .ok (.bool (a == c && b == d)) w := by
  rw [run_eql_struct, run_equalIn_struct w 9999 33 _ _ num_under num_stood]
  have hF := eqFields_list 9999 #[.int .i64 a, .int .i64 b] #[.int .i64 c, .int .i64 d] w (fun f => if f.offset = 0 then a == c else b == d) (Try.prog.fieldsOf 33).toList (fun f hf => by
    refine ⟨?_, ?_⟩
    · have := num_names
      rw [List.all_eq_true] at this
      have := this f hf
      simpa using this
    · have hm : (f.type, f.offset) ∈ (Try.prog.fieldsOf 33).toList.map (fun f => (f.type, f.offset)) := List.mem_map.2 ⟨f, hf, rfl⟩
      rw [num_fields] at hm
      simp only [List.mem_cons, Prod.mk.injEq, List.not_mem_nil, or_false] at hm
      rcases hm with ⟨e1, e2⟩ | ⟨e1, e2⟩ <;> rw [e1, e2]
      · exact ⟨.int .i64 a, .int .i64 c, part_int rfl, part_int rfl, run_equalIn_int w 9998 3 .i64 .i64 a c Try.underlying3⟩
      · exact ⟨.int .i64 b, .int .i64 d, part_int rfl, part_int rfl, run_equalIn_int w 9998 3 .i64 .i64 b d Try.underlying3⟩)
  rw [hF]
  have : (Try.prog.fieldsOf 33).toList.all (fun f => if f.offset = 0 then a == c else b == d) = ((Try.prog.fieldsOf 33).toList.map (fun f => (f.type, f.offset))).all (fun f => if f.2 = 0 then a == c else b == d) := by rw [List.all_map]; rfl
  rw [this, num_fields]
  simp
theorem own_shape2 {w : World} {base n size : Nat} {t : TypeId} {v : Value} {xs : List Value} (h : w.ownsRow base t size v n xs) : ∃ A c, v = .slice A n c ∧ n ≤ c ∧ c ≤ maxLen := by
  rcases h.2 with ⟨rfl, rfl⟩ | ⟨g, cap, cur, rfl, _, _, h1, h2, _⟩
  · exact ⟨none, 0, rfl, Nat.le_refl _, by simp [maxLen]⟩
  · exact ⟨_, _, rfl, h1, h2⟩
/-- What was taken is of this boot or of an elder one. -/
def Told (b : Int) (S : List Int) (T : List NuZ) : Prop := ∀ t, t ∈ T → t.b ≤ b ∧ (t.b = b → t.n ∈ S)
theorem told_none (b : Int) (S : List Int) : Told b S [] := fun t ht => by simp at ht
theorem told_not {b : Int} {S : List Int} {k n er b' : Int} {S' : List Int} (e : takeZ b S k n = (er, b', S')) (h : er ≠ 0) : b' = b ∧ S' = S := by
  unfold takeZ at e
  split at e
  · simp only [Prod.mk.injEq] at e; exact ⟨e.2.1.symm, e.2.2.symm⟩
  split at e
  · simp only [Prod.mk.injEq] at e; exact ⟨e.2.1.symm, e.2.2.symm⟩
  split at e
  · simp only [Prod.mk.injEq] at e; exact absurd e.1.symm h
  split at e
  · simp only [Prod.mk.injEq] at e; exact ⟨e.2.1.symm, e.2.2.symm⟩
  · simp only [Prod.mk.injEq] at e; exact absurd e.1.symm h
theorem told_ok {b : Int} {S : List Int} {T : List NuZ} {g : NuZ} {b' : Int} {S' : List Int} (h : Told b S T) (e : takeZ b S g.b g.n = (0, b', S')) :
    Told b' S' (T ++ [g]) ∧ ∀ t, t ∈ T → (t.b == g.b && t.n == g.n) = false ∧ ¬ g.b < t.b := by
  unfold takeZ at e
  split at e
  · simp at e
  split at e
  · simp at e
  split at e
  · next h1 h2 h3 =>
    simp only [Prod.mk.injEq, true_and] at e
    obtain ⟨rfl, rfl⟩ := e
    refine ⟨fun t ht => ?_, fun t ht => ?_⟩
    · rcases List.mem_append.1 ht with ht | ht
      · have := (h t ht).1
        exact ⟨by omega, fun h' => by omega⟩
      · rw [List.mem_singleton] at ht; subst ht
        exact ⟨Int.le_refl _, fun _ => by simp⟩
    · have := (h t ht).1
      refine ⟨?_, by omega⟩
      rw [Bool.and_eq_false_iff]
      left
      rw [beq_eq_false_iff_ne]
      omega
  · next h1 h2 h3 =>
    split at e
    · simp at e
    · next h4 =>
      simp only [Prod.mk.injEq, true_and] at e
      obtain ⟨rfl, rfl⟩ := e
      have eb : g.b = b := by omega
      refine ⟨fun t ht => ?_, fun t ht => ?_⟩
      · rcases List.mem_append.1 ht with ht | ht
        · have := h t ht
          exact ⟨this.1, fun h' => List.mem_append_left _ (this.2 h')⟩
        · rw [List.mem_singleton] at ht; subst ht
          exact ⟨by omega, fun _ => by simp⟩
      · have := h t ht
        refine ⟨?_, by omega⟩
        rw [Bool.and_eq_false_iff]
        by_cases h5 : t.b = g.b
        · right
          rw [beq_eq_false_iff_ne]
          intro h6
          exact h4 (Or.inr (h6 ▸ this.2 (by omega)))
        · left
          rw [beq_eq_false_iff_ne]; exact h5
set_option maxRecDepth 100000 in
set_option maxHeartbeats 8000000 in
theorem wnonce_any (A : Option Addr) (n c : Nat) (l : List NuZ) (w : World) (h : Nums w w.heap.size A n l) (hn16 : n * 16 ≤ 140737488355328) :
    Calls Try.prog 5 #[.slice A n c] w (fun e w' => e = .returned (.bool true) ∧ Below w.heap.size w w') := by
  have HR := Lib.hid h
  clear h
  by_cases hbig : 300 < n
  · have hI : 300 < (n : Int) := by omega
    go_enter Try.func5, Try.ntmps5
    go_wp2_with (go_at_call 17; refine (awake_any _).mono ?_; rintro e v0 ⟨rfl, hb⟩; have B0 := Lib.hid hb; clear hb)
    go_ret
    exact ⟨rfl, B0.out⟩
  have hI : ¬ 300 < (n : Int) := by omega
  have HN : Hid True := Lib.hid trivial
  go_enter Try.func5, Try.ntmps5
  go_wp2_with (first
      | (go_at_call 17; refine (awake_any _).mono ?_; rintro e v0 ⟨rfl, hb⟩; have B0 := Lib.hid hb; clear hb)
      | (go_at_call 9; refine (new_any _).mono ?_; rintro e v1 ⟨rfl, h1, hb, hs⟩; have H1 := Lib.hid (Win.mk h1 wIn_none); have B1 := Lib.hid (B0.out.trans (hb.mono B0.out.size)); have HS1 : v0.heap.size < v1.heap.size := (by omega); clear h1 hb hs))
  have hwp : w.heap.size ≤ v0.heap.size := B0.out.size
  go_loopw [4, 5] (fun tk i wr => ∃ k : Nat, k ≤ n ∧ i = .int .i64 k ∧ Hid (Below w.heap.size w wr) ∧ ∃ D m d, tk = .slice D m d ∧ m ≤ k ∧ m ≤ d ∧ d ≤ 9223372036854775807 ∧ ∃ b S T, Hid (Win wr v0.heap.size b S) ∧ Hid (Told b S T) ∧ Hid (T.length = m) ∧ Hid (∀ g, g ∈ T → NOk g) ∧ Hid (wr.ownsRow (v0.heap.size + 1) 33 2 (.slice D m d) m (nvs T))) (fun _ i _ => n - (intOf i).toNat)
  case atStart => exact ⟨0, by omega, rfl, B1, none, 0, 0, rfl, Nat.le_refl _, Nat.le_refl _, by omega, -1, [], [], H1, Lib.hid (told_none _ _), Lib.hid rfl, Lib.hid (fun g hg => by simp at hg), Lib.hid (World.ownsRow_nil _ _ _ _)⟩
  case round =>
    obtain ⟨k, hk, rfl, HB, D, m, d, rfl, hmk, hmd, hd9, b, S, T, HW, HT, HL, HOK, HO⟩ := hrel
    by_cases hlt : k < n
    · have hltI : (k : Int) < (n : Int) := by omega
      obtain ⟨bb, off, g, rfl, hbb, HAT, hg, cb, cn⟩ := HR.out.at_ hlt
      obtain ⟨gb, gn⟩ := g
      have HGB := Lib.hid hg.b
      have HGN := Lib.hid hg.n
      have HST : Hid (∀ V, wr.grownBy V (some v0.heap.size) → V.cell? ⟨bb, off + k * 2, none⟩ = some (.int .i64 gb) ∧ V.cell? ⟨bb, off + k * 2 + 1, none⟩ = some (.int .i64 gn)) := Lib.hid (fun V hV => by
        have b2 : Below w.heap.size w V := HB.out.trans (gw_below hV hwp HB.out.size)
        exact ⟨(b2.cell (p := ⟨bb, off + k * 2, none⟩) hbb).trans cb, (b2.cell (p := ⟨bb, off + k * 2 + 1, none⟩) hbb).trans cn⟩)
      obtain ⟨T3, hT⟩ : ∃ T3, takeZ b S gb gn = T3 := ⟨_, rfl⟩
      obtain ⟨er, b3, S3⟩ := T3
      have HTZ := Lib.hid hT
      clear hT hg cb cn
      go_upto_region 10 with fail
      refine Late.region (fun w' => w'.cell? ⟨bb, off + k * 2, none⟩ = some (.int .i64 gb) ∧ w'.cell? ⟨bb, off + k * 2 + 1, none⟩ = some (.int .i64 gn)) [] (by kernel_rfl) (HST.out _ (gw_drew (gw_refl _ _))) (fun hHeld => ?_)
      refine Late.take (i := 0) (oi := ⟨some 19, Op.move (Operand.tmp 3), _, _, _, _⟩) (v := ?_) rfl (by kernel_rfl) (by kernel_rfl) (by kernel_rfl) (by kernel_rfl) (fun _ _ _ h => h) (Or.inl ⟨by rfl, fun w hSw => ?_⟩) (by assumption) ?_
      rotate_left
      · (have s1 := hSw; go_simp; try with_reducible rfl)
      try simp only [Act.put, List.setIfInBounds_toArray, List.set_cons_zero, List.set_cons_succ]
      refine Late.take (i := 1) (oi := ⟨some 20, Op.move (Operand.tmp 0), _, _, _, _⟩) (v := ?_) rfl (by kernel_rfl) (by kernel_rfl) (by kernel_rfl) (by kernel_rfl) (fun _ _ _ h => h) (Or.inl ⟨by rfl, fun w hSw => ?_⟩) (by assumption) ?_
      rotate_left
      · (have s1 := hSw; go_simp; try with_reducible rfl)
      try simp only [Act.put, List.setIfInBounds_toArray, List.set_cons_zero, List.set_cons_succ]
      refine Late.take (i := 2) (oi := ⟨some 21, Op.move (Operand.tmp 5), _, _, _, _⟩) (v := ?_) rfl (by kernel_rfl) (by kernel_rfl) (by kernel_rfl) (by kernel_rfl) (fun _ _ _ h => h) (Or.inl ⟨by rfl, fun w hSw => ?_⟩) (by assumption) ?_
      rotate_left
      · (have s1 := hSw; go_simp; try with_reducible rfl)
      try simp only [Act.put, List.setIfInBounds_toArray, List.set_cons_zero, List.set_cons_succ]
      refine Late.take (i := 3) (oi := ⟨some 22, Op.indexAddr 22 (Operand.tmp 20) (Operand.tmp 21), _, _, _, _⟩) (v := ?_) rfl (by kernel_rfl) (by kernel_rfl) (by kernel_rfl) (by kernel_rfl) (fun _ _ _ h => h) (Or.inl ⟨by rfl, fun w hSw => ?_⟩) (by assumption) ?_
      rotate_left
      · (have s1 := hSw; go_simp; try with_reducible rfl)
      try simp only [Act.put, List.setIfInBounds_toArray, List.set_cons_zero, List.set_cons_succ]
      refine Late.take (i := 4) (oi := ⟨some 23, Op.fieldAddr 33 (Operand.tmp 22) 0, _, _, _, _⟩) (v := ?_) rfl (by kernel_rfl) (by kernel_rfl) (by kernel_rfl) (by kernel_rfl) (fun _ _ _ h => h) (Or.inl ⟨by rfl, fun w hSw => ?_⟩) (by assumption) ?_
      rotate_left
      · (have s1 := hSw; go_simp; try with_reducible rfl)
      try simp only [Act.put, List.setIfInBounds_toArray, List.set_cons_zero, List.set_cons_succ]
      refine Late.take (i := 5) (oi := ⟨some 24, Op.load 3 (Operand.tmp 23), _, _, _, _⟩) (v := ?_) rfl (by kernel_rfl) (by kernel_rfl) (by kernel_rfl) (by kernel_rfl) (fun _ _ _ h => h) (Or.inl ⟨by rfl, fun w hSw => ?_⟩) (by assumption) ?_
      rotate_left
      · (have s1 := hSw; obtain ⟨s1, s2⟩ := hSw; go_simp; try with_reducible rfl)
      try simp only [Act.put, List.setIfInBounds_toArray, List.set_cons_zero, List.set_cons_succ]
      refine Late.take (i := 6) (oi := ⟨some 25, Op.move (Operand.tmp 0), _, _, _, _⟩) (v := ?_) rfl (by kernel_rfl) (by kernel_rfl) (by kernel_rfl) (by kernel_rfl) (fun _ _ _ h => h) (Or.inl ⟨by rfl, fun w hSw => ?_⟩) (by assumption) ?_
      rotate_left
      · (have s1 := hSw; go_simp; try with_reducible rfl)
      try simp only [Act.put, List.setIfInBounds_toArray, List.set_cons_zero, List.set_cons_succ]
      refine Late.take (i := 7) (oi := ⟨some 26, Op.move (Operand.tmp 5), _, _, _, _⟩) (v := ?_) rfl (by kernel_rfl) (by kernel_rfl) (by kernel_rfl) (by kernel_rfl) (fun _ _ _ h => h) (Or.inl ⟨by rfl, fun w hSw => ?_⟩) (by assumption) ?_
      rotate_left
      · (have s1 := hSw; go_simp; try with_reducible rfl)
      try simp only [Act.put, List.setIfInBounds_toArray, List.set_cons_zero, List.set_cons_succ]
      refine Late.take (i := 8) (oi := ⟨some 27, Op.indexAddr 22 (Operand.tmp 25) (Operand.tmp 26), _, _, _, _⟩) (v := ?_) rfl (by kernel_rfl) (by kernel_rfl) (by kernel_rfl) (by kernel_rfl) (fun _ _ _ h => h) (Or.inl ⟨by rfl, fun w hSw => ?_⟩) (by assumption) ?_
      rotate_left
      · (have s1 := hSw; go_simp; try with_reducible rfl)
      try simp only [Act.put, List.setIfInBounds_toArray, List.set_cons_zero, List.set_cons_succ]
      refine Late.take (i := 9) (oi := ⟨some 28, Op.fieldAddr 33 (Operand.tmp 27) 1, _, _, _, _⟩) (v := ?_) rfl (by kernel_rfl) (by kernel_rfl) (by kernel_rfl) (by kernel_rfl) (fun _ _ _ h => h) (Or.inl ⟨by rfl, fun w hSw => ?_⟩) (by assumption) ?_
      rotate_left
      · (have s1 := hSw; go_simp; try with_reducible rfl)
      try simp only [Act.put, List.setIfInBounds_toArray, List.set_cons_zero, List.set_cons_succ]
      refine Late.take (i := 10) (oi := ⟨some 29, Op.load 3 (Operand.tmp 28), _, _, _, _⟩) (v := ?_) rfl (by kernel_rfl) (by kernel_rfl) (by kernel_rfl) (by kernel_rfl) (fun _ _ _ h => h) (Or.inl ⟨by rfl, fun w hSw => ?_⟩) (by assumption) ?_
      rotate_left
      · (have s1 := hSw; obtain ⟨s1, s2⟩ := hSw; go_simp; try with_reducible rfl)
      try simp only [Act.put, List.setIfInBounds_toArray, List.set_cons_zero, List.set_cons_succ]
      refine Late.one (i := 11) (o := ⟨some 30, Op.call { callee := Callee.value (Operand.func 15), args := #[Operand.tmp 19, Operand.tmp 24, Operand.tmp 29], argTypes := #[23, 3, 3] }, _, _, _, _⟩) (by kernel_rfl) rfl (fun K hK => ?_)
      go_simp
      refine (take_val HW.out.drew HGB.out HGN.out HTZ.out).mono ?_
      rintro e w6 ⟨rfl, h6, hg⟩
      have H6 := Lib.hid h6
      have G6 := Lib.hid (gwo_trans (gw_drew (gw_refl wr _)) hg)
      clear h6 hg
      refine hK.out _ _ (HST.out _ G6.out) (fun hHeld2 => ?_)
      clear hK K hHeld
      have hHeld := hHeld2
      clear hHeld2
      try simp only [Act.put, List.setIfInBounds_toArray, List.set_cons_zero, List.set_cons_succ]
      refine Late.take (i := 12) (oi := ⟨some 31, Op.binOp BinOp.neq 34 (Operand.tmp 30) (Operand.const (Value.int IntKind.i64 0)) 34, _, _, _, _⟩) (v := ?_) rfl (by kernel_rfl) (by kernel_rfl) (by kernel_rfl) (by kernel_rfl) (fun _ _ _ h => h) (Or.inl ⟨by rfl, fun w hSw => ?_⟩) (by assumption) ?_
      rotate_left
      · (have s1 := hSw; go_simp; try with_reducible rfl)
      try simp only [Act.put, List.setIfInBounds_toArray, List.set_cons_zero, List.set_cons_succ]
      refine Late.done (by kernel_rfl) ?_ _
      refine NoPanic.normal ?_
      have HB6 := Lib.hid (HB.out.trans (gw_below G6.out hwp HB.out.size))
      have HO6 := Lib.hid (own_keepO HO.out (fun g h3 h4 => G6.out.block g h4 (fun e => by injection e with e; omega)))
      have hp6 : v0.heap.size < w6.heap.size := H6.out.x.lt
      by_cases her : er = 0
      · subst her
        have HTO := Lib.hid (told_ok (g := ⟨gb, gn⟩) HT.out HTZ.out)
        go_wp2_with (fail)
        go_loopw [6] (fun i wq => ∃ j : Nat, j ≤ m ∧ i = .int .i64 j ∧ Hid (Below w6.heap.size w6 wq)) (fun i _ => m - (intOf i).toNat)
        case atStart => exact ⟨0, by omega, rfl, Lib.hid (Below.refl _ _)⟩
        case round =>
          obtain ⟨j, hj, rfl, HQ⟩ := hrel
          have HB7 := Lib.hid (HB6.out.trans (HQ.out.mono HB6.out.size))
          by_cases hjl : j < m
          · have hjlI : (j : Int) < (m : Int) := by omega
            obtain ⟨tg, toff, t, hD, htg, HTA, ht, tc1, tc2⟩ := ((nums_of_own HO6.out HOK.out).grow HQ.out).at_ hjl
            obtain ⟨rfl, rfl⟩ : toff = 0 ∧ D = some ⟨tg, 0, none⟩ := by
              obtain ⟨g0, cap, hv, _, _⟩ := HO6.out.form (by omega)
              rw [hD] at hv
              injection hv with hv
              injection hv with hv
              injection hv with hv1 hv2
              exact ⟨hv2, by rw [hD, hv2]⟩
            obtain ⟨tb, tn⟩ := t
            have hne := HTO.out.2 ⟨tb, tn⟩ (List.mem_of_getElem? HTA.out)
            have HNE : Hid ((tb == gb && tn == gn) = false) := Lib.hid hne.1
            have HGT : Hid (¬ gb < tb) := Lib.hid (by have h9 := hne.2; first | exact h9 | exact Int.not_lt.2 h9)
            obtain ⟨cb6, cn6⟩ := HST.out _ G6.out
            have HS4 : Hid (∀ V, Below wr.heap.size wr V → V.cell? ⟨tg, j * 2, none⟩ = some (.int .i64 tb) ∧ V.cell? ⟨tg, j * 2 + 1, none⟩ = some (.int .i64 tn) ∧ V.cell? ⟨bb, off + k * 2, none⟩ = some (.int .i64 gb) ∧ V.cell? ⟨bb, off + k * 2 + 1, none⟩ = some (.int .i64 gn)) := Lib.hid (fun V hV => by
              have b2 : Below w6.heap.size w6 V := HQ.out.trans (hV.mono HQ.out.size)
              have hb6 : bb < w6.heap.size := Nat.lt_of_lt_of_le hbb HB6.out.size
              simp only [Nat.zero_add] at tc1 tc2
              exact ⟨(hV.cell (p := ⟨tg, j * 2, none⟩) htg).trans tc1, (hV.cell (p := ⟨tg, j * 2 + 1, none⟩) htg).trans tc2, (b2.cell (p := ⟨bb, off + k * 2, none⟩) hb6).trans cb6, (b2.cell (p := ⟨bb, off + k * 2 + 1, none⟩) hb6).trans cn6⟩)
            have hn2 : ¬ gb < tb := HGT.out
            clear hne tc1 tc2 cb6 cn6 ht hD
            go_upto_region 14 with fail
            refine Late.region (fun w' => w'.cell? ⟨tg, j * 2, none⟩ = some (.int .i64 tb) ∧ w'.cell? ⟨tg, j * 2 + 1, none⟩ = some (.int .i64 tn) ∧ w'.cell? ⟨bb, off + k * 2, none⟩ = some (.int .i64 gb) ∧ w'.cell? ⟨bb, off + k * 2 + 1, none⟩ = some (.int .i64 gn)) [] (by kernel_rfl) (HS4.out _ (Below.refl _ _).drew) (fun hHeld => ?_)
            refine Late.take (i := 0) (oi := ⟨some 38, Op.move (Operand.tmp 4), _, _, _, _⟩) (v := ?_) rfl (by kernel_rfl) (by kernel_rfl) (by kernel_rfl) (by kernel_rfl) (fun _ _ _ h => h) (Or.inl ⟨by rfl, fun w hSw => ?_⟩) (by assumption) ?_
            rotate_left
            · (have s1 := hSw; go_simp; try with_reducible rfl)
            try simp only [Act.put, List.setIfInBounds_toArray, List.set_cons_zero, List.set_cons_succ]
            refine Late.take (i := 1) (oi := ⟨some 39, Op.move (Operand.tmp 6), _, _, _, _⟩) (v := ?_) rfl (by kernel_rfl) (by kernel_rfl) (by kernel_rfl) (by kernel_rfl) (fun _ _ _ h => h) (Or.inl ⟨by rfl, fun w hSw => ?_⟩) (by assumption) ?_
            rotate_left
            · (have s1 := hSw; go_simp; try with_reducible rfl)
            try simp only [Act.put, List.setIfInBounds_toArray, List.set_cons_zero, List.set_cons_succ]
            refine Late.take (i := 2) (oi := ⟨some 40, Op.indexAddr 22 (Operand.tmp 38) (Operand.tmp 39), _, _, _, _⟩) (v := ?_) rfl (by kernel_rfl) (by kernel_rfl) (by kernel_rfl) (by kernel_rfl) (fun _ _ _ h => h) (Or.inl ⟨by rfl, fun w hSw => ?_⟩) (by assumption) ?_
            rotate_left
            · (have s1 := hSw; go_simp; try with_reducible rfl)
            try simp only [Act.put, List.setIfInBounds_toArray, List.set_cons_zero, List.set_cons_succ]
            refine Late.take (i := 3) (oi := ⟨some 41, Op.load 33 (Operand.tmp 40), _, _, _, _⟩) (v := ?_) rfl (by kernel_rfl) (by kernel_rfl) (by kernel_rfl) (by kernel_rfl) (fun _ _ _ h => h) (Or.inl ⟨by rfl, fun w hSw => ?_⟩) (by assumption) ?_
            rotate_left
            · (have s1 := hSw; obtain ⟨s1, s2, s3, s4⟩ := hSw; go_simp; try with_reducible rfl)
            try simp only [Act.put, List.setIfInBounds_toArray, List.set_cons_zero, List.set_cons_succ]
            refine Late.take (i := 4) (oi := ⟨some 42, Op.move (Operand.tmp 0), _, _, _, _⟩) (v := ?_) rfl (by kernel_rfl) (by kernel_rfl) (by kernel_rfl) (by kernel_rfl) (fun _ _ _ h => h) (Or.inl ⟨by rfl, fun w hSw => ?_⟩) (by assumption) ?_
            rotate_left
            · (have s1 := hSw; go_simp; try with_reducible rfl)
            try simp only [Act.put, List.setIfInBounds_toArray, List.set_cons_zero, List.set_cons_succ]
            refine Late.take (i := 5) (oi := ⟨some 43, Op.move (Operand.tmp 5), _, _, _, _⟩) (v := ?_) rfl (by kernel_rfl) (by kernel_rfl) (by kernel_rfl) (by kernel_rfl) (fun _ _ _ h => h) (Or.inl ⟨by rfl, fun w hSw => ?_⟩) (by assumption) ?_
            rotate_left
            · (have s1 := hSw; go_simp; try with_reducible rfl)
            try simp only [Act.put, List.setIfInBounds_toArray, List.set_cons_zero, List.set_cons_succ]
            refine Late.take (i := 6) (oi := ⟨some 44, Op.indexAddr 22 (Operand.tmp 42) (Operand.tmp 43), _, _, _, _⟩) (v := ?_) rfl (by kernel_rfl) (by kernel_rfl) (by kernel_rfl) (by kernel_rfl) (fun _ _ _ h => h) (Or.inl ⟨by rfl, fun w hSw => ?_⟩) (by assumption) ?_
            rotate_left
            · (have s1 := hSw; go_simp; try with_reducible rfl)
            try simp only [Act.put, List.setIfInBounds_toArray, List.set_cons_zero, List.set_cons_succ]
            refine Late.take (i := 7) (oi := ⟨some 45, Op.load 33 (Operand.tmp 44), _, _, _, _⟩) (v := ?_) rfl (by kernel_rfl) (by kernel_rfl) (by kernel_rfl) (by kernel_rfl) (fun _ _ _ h => h) (Or.inl ⟨by rfl, fun w hSw => ?_⟩) (by assumption) ?_
            rotate_left
            · (have s1 := hSw; obtain ⟨s1, s2, s3, s4⟩ := hSw; go_simp; try with_reducible rfl)
            try simp only [Act.put, List.setIfInBounds_toArray, List.set_cons_zero, List.set_cons_succ]
            refine Late.take (i := 8) (oi := ⟨some 46, Op.binOp BinOp.eql 33 (Operand.tmp 41) (Operand.tmp 45) 33, _, _, _, _⟩) (v := .bool false) rfl (by kernel_rfl) (by kernel_rfl) (by kernel_rfl) (by kernel_rfl) (fun _ _ _ h => h) (Or.inl ⟨by rfl, fun w hSw => ?_⟩) (by assumption) ?_
            · (have hn := run_numEq tb tn gb gn w; rw [HNE.out] at hn; simp [execOp, Act.eval, hn, run_eqGuard_agg (hm := Try.eqGuardType33)])
            try simp only [Act.put, List.setIfInBounds_toArray, List.set_cons_zero, List.set_cons_succ]
            refine Late.take (i := 9) (oi := ⟨some 47, Op.move (Operand.tmp 46), _, _, _, _⟩) (v := ?_) rfl (by kernel_rfl) (by kernel_rfl) (by kernel_rfl) (by kernel_rfl) (fun _ _ _ h => h) (Or.inl ⟨by rfl, fun w hSw => ?_⟩) (by assumption) ?_
            rotate_left
            · (have s1 := hSw; go_simp; try with_reducible rfl)
            try simp only [Act.put, List.setIfInBounds_toArray, List.set_cons_zero, List.set_cons_succ]
            refine Late.take (i := 10) (oi := ⟨some 48, Op.move (Operand.tmp 4), _, _, _, _⟩) (v := ?_) rfl (by kernel_rfl) (by kernel_rfl) (by kernel_rfl) (by kernel_rfl) (fun _ _ _ h => h) (Or.inl ⟨by rfl, fun w hSw => ?_⟩) (by assumption) ?_
            rotate_left
            · (have s1 := hSw; go_simp; try with_reducible rfl)
            try simp only [Act.put, List.setIfInBounds_toArray, List.set_cons_zero, List.set_cons_succ]
            refine Late.take (i := 11) (oi := ⟨some 49, Op.move (Operand.tmp 6), _, _, _, _⟩) (v := ?_) rfl (by kernel_rfl) (by kernel_rfl) (by kernel_rfl) (by kernel_rfl) (fun _ _ _ h => h) (Or.inl ⟨by rfl, fun w hSw => ?_⟩) (by assumption) ?_
            rotate_left
            · (have s1 := hSw; go_simp; try with_reducible rfl)
            try simp only [Act.put, List.setIfInBounds_toArray, List.set_cons_zero, List.set_cons_succ]
            refine Late.take (i := 12) (oi := ⟨some 50, Op.indexAddr 22 (Operand.tmp 48) (Operand.tmp 49), _, _, _, _⟩) (v := ?_) rfl (by kernel_rfl) (by kernel_rfl) (by kernel_rfl) (by kernel_rfl) (fun _ _ _ h => h) (Or.inl ⟨by rfl, fun w hSw => ?_⟩) (by assumption) ?_
            rotate_left
            · (have s1 := hSw; go_simp; try with_reducible rfl)
            try simp only [Act.put, List.setIfInBounds_toArray, List.set_cons_zero, List.set_cons_succ]
            refine Late.take (i := 13) (oi := ⟨some 51, Op.fieldAddr 33 (Operand.tmp 50) 0, _, _, _, _⟩) (v := ?_) rfl (by kernel_rfl) (by kernel_rfl) (by kernel_rfl) (by kernel_rfl) (fun _ _ _ h => h) (Or.inl ⟨by rfl, fun w hSw => ?_⟩) (by assumption) ?_
            rotate_left
            · (have s1 := hSw; go_simp; try with_reducible rfl)
            try simp only [Act.put, List.setIfInBounds_toArray, List.set_cons_zero, List.set_cons_succ]
            refine Late.take (i := 14) (oi := ⟨some 52, Op.load 3 (Operand.tmp 51), _, _, _, _⟩) (v := ?_) rfl (by kernel_rfl) (by kernel_rfl) (by kernel_rfl) (by kernel_rfl) (fun _ _ _ h => h) (Or.inl ⟨by rfl, fun w hSw => ?_⟩) (by assumption) ?_
            rotate_left
            · (have s1 := hSw; obtain ⟨s1, s2, s3, s4⟩ := hSw; go_simp; try with_reducible rfl)
            try simp only [Act.put, List.setIfInBounds_toArray, List.set_cons_zero, List.set_cons_succ]
            refine Late.take (i := 15) (oi := ⟨some 53, Op.move (Operand.tmp 0), _, _, _, _⟩) (v := ?_) rfl (by kernel_rfl) (by kernel_rfl) (by kernel_rfl) (by kernel_rfl) (fun _ _ _ h => h) (Or.inl ⟨by rfl, fun w hSw => ?_⟩) (by assumption) ?_
            rotate_left
            · (have s1 := hSw; go_simp; try with_reducible rfl)
            try simp only [Act.put, List.setIfInBounds_toArray, List.set_cons_zero, List.set_cons_succ]
            refine Late.take (i := 16) (oi := ⟨some 54, Op.move (Operand.tmp 5), _, _, _, _⟩) (v := ?_) rfl (by kernel_rfl) (by kernel_rfl) (by kernel_rfl) (by kernel_rfl) (fun _ _ _ h => h) (Or.inl ⟨by rfl, fun w hSw => ?_⟩) (by assumption) ?_
            rotate_left
            · (have s1 := hSw; go_simp; try with_reducible rfl)
            try simp only [Act.put, List.setIfInBounds_toArray, List.set_cons_zero, List.set_cons_succ]
            refine Late.take (i := 17) (oi := ⟨some 55, Op.indexAddr 22 (Operand.tmp 53) (Operand.tmp 54), _, _, _, _⟩) (v := ?_) rfl (by kernel_rfl) (by kernel_rfl) (by kernel_rfl) (by kernel_rfl) (fun _ _ _ h => h) (Or.inl ⟨by rfl, fun w hSw => ?_⟩) (by assumption) ?_
            rotate_left
            · (have s1 := hSw; go_simp; try with_reducible rfl)
            try simp only [Act.put, List.setIfInBounds_toArray, List.set_cons_zero, List.set_cons_succ]
            refine Late.take (i := 18) (oi := ⟨some 56, Op.fieldAddr 33 (Operand.tmp 55) 0, _, _, _, _⟩) (v := ?_) rfl (by kernel_rfl) (by kernel_rfl) (by kernel_rfl) (by kernel_rfl) (fun _ _ _ h => h) (Or.inl ⟨by rfl, fun w hSw => ?_⟩) (by assumption) ?_
            rotate_left
            · (have s1 := hSw; go_simp; try with_reducible rfl)
            try simp only [Act.put, List.setIfInBounds_toArray, List.set_cons_zero, List.set_cons_succ]
            refine Late.take (i := 19) (oi := ⟨some 57, Op.load 3 (Operand.tmp 56), _, _, _, _⟩) (v := ?_) rfl (by kernel_rfl) (by kernel_rfl) (by kernel_rfl) (by kernel_rfl) (fun _ _ _ h => h) (Or.inl ⟨by rfl, fun w hSw => ?_⟩) (by assumption) ?_
            rotate_left
            · (have s1 := hSw; obtain ⟨s1, s2, s3, s4⟩ := hSw; go_simp; try with_reducible rfl)
            try simp only [Act.put, List.setIfInBounds_toArray, List.set_cons_zero, List.set_cons_succ]
            refine Late.take (i := 20) (oi := ⟨some 58, Op.binOp BinOp.gtr 3 (Operand.tmp 52) (Operand.tmp 57) 3, _, _, _, _⟩) (v := ?_) rfl (by kernel_rfl) (by kernel_rfl) (by kernel_rfl) (by kernel_rfl) (fun _ _ _ h => h) (Or.inl ⟨by rfl, fun w hSw => ?_⟩) (by assumption) ?_
            rotate_left
            · (have s1 := hSw; go_simp; try with_reducible rfl)
            try simp only [Act.put, List.setIfInBounds_toArray, List.set_cons_zero, List.set_cons_succ]
            refine Late.take (i := 21) (oi := ⟨some 59, Op.pick (Operand.tmp 47) (Operand.const (Value.bool true)) (Operand.tmp 58), _, _, _, _⟩) (v := ?_) rfl (by kernel_rfl) (by kernel_rfl) (by kernel_rfl) (by kernel_rfl) (fun _ _ _ h => h) (Or.inl ⟨by rfl, fun w hSw => ?_⟩) (by assumption) ?_
            rotate_left
            · (have s1 := hSw; go_simp; try with_reducible rfl)
            try simp only [Act.put, List.setIfInBounds_toArray, List.set_cons_zero, List.set_cons_succ]
            refine Late.done (by kernel_rfl) ?_ _
            refine NoPanic.normal ?_
            go_wp2_with (fail)
            exact ⟨⟨j + 1, by omega, by congr 1, Lib.hid (HQ.out.trans ((Below.refl wr.heap.size wr).drew.mono HQ.out.size))⟩, by simp only [intOf]; omega⟩
          · have hjgI : ¬ (j : Int) < (m : Int) := by omega
            obtain ⟨cb6, cn6⟩ := HST.out _ G6.out
            have hb6 : bb < w6.heap.size := Nat.lt_of_lt_of_le hbb HB6.out.size
            have cb7 : wr.cell? ⟨bb, off + k * 2, none⟩ = some (.int .i64 gb) := (HQ.out.cell (p := ⟨bb, off + k * 2, none⟩) hb6).trans cb6
            have cn7 : wr.cell? ⟨bb, off + k * 2 + 1, none⟩ = some (.int .i64 gn) := (HQ.out.cell (p := ⟨bb, off + k * 2 + 1, none⟩) hb6).trans cn6
            have HO7 := Lib.hid (own_below HO6.out HQ.out (Nat.le_refl _))
            have HW7 := Lib.hid (H6.out.below HQ.out hp6)
            have hp7 : v0.heap.size < wr.heap.size := HW7.out.x.lt
            have HAB : Hid (∀ r, (Value.slice D m d).ownBlock = some r → v0.heap.size + 1 ≤ r) := Lib.hid (fun r hr => (HO7.out.lt r hr).1)
            have hm300 : m ≤ 300 := by omega
            clear cb6 cn6 hmd hd9
            go_wp2_with (at_builtin; refine wpList_appA _ rfl (.tmp 60) (.tmp 65) 22 rfl (v0.heap.size + 1) 33 2 16 Try.underlying22 num_info (by omega) (.slice D m d) m (nvs T) rfl ((HO7.out).alloc _) (some ⟨wr.heap.size, 0, none⟩) 1 1 (nvs [⟨gb, gn⟩]) rfl ((nums_new wr [⟨gb, gn⟩] 1 rfl 33 _ rfl (fun g hg => by rw [List.mem_singleton] at hg; subst hg; exact ⟨HGB.out, HGN.out⟩)).lies.1) (fun h => by cases h) (nvs_one _) (by unfold maxLen; omega) (by omega) (by simp; omega) ?_; intro x1 w8 ho8 hg8 hb8; rw [← nvs_app] at ho8; obtain ⟨D2, d2, rfl, hd21, hd22⟩ := own_shape2 ho8; have B8 := Lib.hid (((Below.refl (v0.heap.size + 1) wr).alloc (by omega) _).grown hg8 (by simp; omega) HAB.out); have O8 := Lib.hid ho8; clear ho8 hg8 hb8)
            have hd9 : d2 ≤ 9223372036854775807 := by unfold maxLen at hd22; exact hd22
            exact ⟨⟨k + 1, by omega, by congr 1, Lib.hid (HB7.out.trans (B8.out.mono (by omega))), D2, m + 1, d2, rfl, by omega, hd21, hd9, b3, S3, T ++ [⟨gb, gn⟩], Lib.hid (HW7.out.below B8.out (by omega)), Lib.hid HTO.out.1, Lib.hid (by rw [List.length_append, HL.out]; rfl), Lib.hid (fun g hg => by
              rcases List.mem_append.1 hg with hg | hg
              · exact HOK.out g hg
              · rw [List.mem_singleton] at hg; subst hg; exact ⟨HGB.out, HGN.out⟩), O8⟩, by simp only [intOf]; omega⟩
      · have hne : (er != 0) = true := by simpa using her
        obtain ⟨rfl, rfl⟩ := told_not HTZ.out her
        clear her
        go_wp2_with (fail)
        exact ⟨⟨k + 1, by omega, by congr 1, HB6, D, m, d, rfl, by omega, hmd, hd9, b3, S3, T, H6, HT, HL, HOK, HO6⟩, by simp only [intOf]; omega⟩
    · have hgeI : ¬ (k : Int) < (n : Int) := by omega
      go_wp2
      go_ret
      exact ⟨rfl, HB.out⟩
end Go.Proofs.Ytnnfcbcjepbjiaa
