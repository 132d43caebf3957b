/- What the laws do themselves: great, from. -/
import Derived.Test.YtlapdocikhjkcaaRpN
import Derived.Test.YtlapdocikhjkcaaRpX
namespace Go.Proofs.Ytlapdocikhjkcaa
open Go.ChangeShapes Go.WideShapes Go.ChangeAt Go.RowKit
set_option linter.unusedVariables false
set_option linter.unusedSimpArgs false
open Plain Sha Au Rp
set_option maxRecDepth 100000 in
set_option maxHeartbeats 2000000 in
theorem great_any {w : World} {B n : Nat} {A : Option Addr} {l : List LX} (c : Nat) (h : Las w B A n l) (hn : n ≤ 140737488355328) (hk : ∀ x, x ∈ l → x.r.kn ≤ 140737488355328) :
    Calls Try.prog 8 #[.slice A n c] w (fun e w' => (∃ q, e = .returned (.bool q) ∧ (q = false → n ≤ 20 ∧ ∀ x, x ∈ l → x.r.kn ≤ 400)) ∧ w' = w) := by
  have HG := Lib.hid h
  have HK := Lib.hid hk
  have HL := Lib.hid h.len
  clear h hk
  by_cases h20 : 20 < n
  · have hI : 20 < (n : Int) := by omega
    go_enter Try.func8, Try.ntmps8
    go_wp2
    go_ret
    exact ⟨⟨true, rfl, fun h => by cases h⟩, rfl⟩
  have hI : ¬ 20 < (n : Int) := by omega
  go_enter Try.func8, Try.ntmps8
  go_wp2
  go_loopw [3, 4] (fun s i wr => ∃ k : Nat, k ≤ n ∧ i = .int .i64 k ∧ wr = w ∧ ∃ z : Nat, s = .int .i64 z ∧ z ≤ 400 ∧ Hid (∀ j x, l[j]? = some x → j < k → x.r.kn ≤ z)) (fun _ i _ => n - (intOf i).toNat)
  case atStart => exact ⟨0, by omega, rfl, rfl, n, rfl, by omega, Lib.hid (fun j x _ h => by omega)⟩
  case round =>
    obtain ⟨k, hkn, rfl, rfl, z, rfl, hz, HZ⟩ := hrel
    by_cases hlt : k < n
    · obtain ⟨b, off, x, rfl, hb, HX, hx, hr⟩ := HG.out.at_ hlt
      obtain ⟨_, _, hr2⟩ := rng_x hr
      obtain ⟨_, _, c2, _, _⟩ := rng_r hr2
      have c2' : wr.cell? ⟨b, off + k * 77 + 2 + 2, none⟩ = some (.slice x.r.A x.r.kn x.r.kc) := c2
      have hkI : (k : Int) < (n : Int) := by omega
      have hxk := HK.out x (List.mem_of_getElem? HX.out)
      clear hr hr2 hx
      by_cases h4 : 400 < z + x.r.kn
      · have h4I : 400 < (z : Int) + (x.r.kn : Int) := by omega
        go_wp2
        go_ret
        exact ⟨⟨true, rfl, fun h => by cases h⟩, rfl⟩
      · have h4I : ¬ 400 < (z : Int) + (x.r.kn : Int) := by omega
        have HZ2 : Hid (∀ j y, l[j]? = some y → j < k + 1 → y.r.kn ≤ z + x.r.kn) := Lib.hid (fun j y hy hj => by
          rcases Nat.lt_or_ge j k with h | h
          · have := HZ.out j y hy h; omega
          · obtain rfl : j = k := by omega
            rw [HX.out] at hy
            injection hy with hy
            subst hy
            omega)
        clear HX
        go_wp2
        go_roundw
        case rel => exact ⟨k + 1, by omega, by go_num, by trivial, z + x.r.kn, by go_num, by omega, HZ2⟩
        case measure => simp [intOf]; omega
    · have HE : Hid (∀ x, x ∈ l → x.r.kn ≤ 400) := Lib.hid (fun x hx => by
        obtain ⟨j, hj, rfl⟩ := List.mem_iff_getElem.1 hx
        have := HZ.out j _ (List.getElem?_eq_getElem hj) (by rw [HL.out] at hj; omega)
        omega)
      go_wp2
      go_ret
      exact ⟨⟨false, rfl, fun _ => ⟨by omega, HE.out⟩⟩, rfl⟩
theorem take_snoc {l : List LX} {k : Nat} {x : LX} (h : l[k]? = some x) : l.take (k + 1) = l.take k ++ [x] := by
  rw [List.take_add_one, h]; rfl
set_option maxRecDepth 100000 in
set_option maxHeartbeats 4000000 in
theorem from_any {w : World} {B n : Nat} {A : Option Addr} {l : List LX} (c : Nat) (h : Las w B A n l) (hB : B ≤ w.heap.size) (hn : n ≤ 100000) :
    Calls Try.prog 18 #[.slice A n c] w (fun e w' => ∃ D d, e = .returned (.slice D n d) ∧ w'.ownsRow w.heap.size 40 77 (.slice D n d) n (xvs l) ∧ Below w.heap.size w w') := by
  have HG := Lib.hid h
  have HL := Lib.hid h.len
  have HB := Lib.hid hB
  clear h hB
  go_enter Try.func18, Try.ntmps18
  go_wp2
  go_loopw [3, 4] (fun v i wr => ∃ k : Nat, k ≤ n ∧ i = .int .i64 k ∧ Hid (wr.ownsRow w.heap.size 40 77 v k (xvs (l.take k))) ∧ Hid (Below w.heap.size w wr)) (fun _ i _ => n - (intOf i).toNat)
  case atStart => exact ⟨0, by omega, rfl, Lib.hid (World.ownsRow_nil _ _ _ _), Lib.hid (Below.refl _ _)⟩
  case round =>
    obtain ⟨k, hkn, rfl, HO, HW⟩ := hrel
    by_cases hlt : k < n
    · obtain ⟨b, off, x, rfl, hb, HX, hx, hr⟩ := HG.out.at_ hlt
      have hkI : (k : Int) < (n : Int) := by omega
      have hsz := HW.out.size
      have HC : Hid (∀ W, Below w.heap.size w W → W.rangeAt b (off + k * 77) (xc x)) := Lib.hid (fun W hW => rangeAt_same hr (hW.block _ (by have := HB.out; omega)))
      have HT : Hid (l.take (k + 1) = l.take k ++ [x]) := Lib.hid (take_snoc HX.out)
      have HV : Hid (∃ v, v = u3) := Lib.hid ⟨_, rfl⟩
      clear hr hx HX
      go_upto_region 5 with fail
      refine Late.region (fun w' => Below w.heap.size w w') [] (by kernel_rfl) HW.out.drew (fun hHeld => ?_)
      refine Late.take (i := 0) (oi := ⟨some 11, Op.move (Operand.tmp 3), _, _, _, _⟩) (v := ?_) rfl (by kernel_rfl) (by kernel_rfl) (by kernel_rfl) (by kernel_rfl) (fun _ _ _ h => h) (Or.inl ⟨by rfl, fun w hSw => ?_⟩) (by assumption) ?_
      rotate_left
      · (have s1 := hSw; go_simp; try with_reducible rfl)
      try simp only [Act.put, List.setIfInBounds_toArray, List.set_cons_zero, List.set_cons_succ]
      refine Late.take (i := 1) (oi := ⟨some 12, Op.move (Operand.tmp 0), _, _, _, _⟩) (v := ?_) rfl (by kernel_rfl) (by kernel_rfl) (by kernel_rfl) (by kernel_rfl) (fun _ _ _ h => h) (Or.inl ⟨by rfl, fun w hSw => ?_⟩) (by assumption) ?_
      rotate_left
      · (have s1 := hSw; go_simp; try with_reducible rfl)
      try simp only [Act.put, List.setIfInBounds_toArray, List.set_cons_zero, List.set_cons_succ]
      refine Late.take (i := 2) (oi := ⟨some 13, Op.move (Operand.tmp 4), _, _, _, _⟩) (v := ?_) rfl (by kernel_rfl) (by kernel_rfl) (by kernel_rfl) (by kernel_rfl) (fun _ _ _ h => h) (Or.inl ⟨by rfl, fun w hSw => ?_⟩) (by assumption) ?_
      rotate_left
      · (have s1 := hSw; go_simp; try with_reducible rfl)
      try simp only [Act.put, List.setIfInBounds_toArray, List.set_cons_zero, List.set_cons_succ]
      refine Late.take (i := 3) (oi := ⟨some 14, Op.indexAddr 24 (Operand.tmp 12) (Operand.tmp 13), _, _, _, _⟩) (v := ?_) rfl (by kernel_rfl) (by kernel_rfl) (by kernel_rfl) (by kernel_rfl) (fun _ _ _ h => h) (Or.inl ⟨by rfl, fun w hSw => ?_⟩) (by assumption) ?_
      rotate_left
      · (have s1 := hSw; go_simp; try with_reducible rfl)
      try simp only [Act.put, List.setIfInBounds_toArray, List.set_cons_zero, List.set_cons_succ]
      refine Late.take (i := 4) (oi := ⟨some 15, Op.fieldAddr 53 (Operand.tmp 14) 0, _, _, _, _⟩) (v := ?_) rfl (by kernel_rfl) (by kernel_rfl) (by kernel_rfl) (by kernel_rfl) (fun _ _ _ h => h) (Or.inl ⟨by rfl, fun w hSw => ?_⟩) (by assumption) ?_
      rotate_left
      · (have s1 := hSw; go_simp; try with_reducible rfl)
      try simp only [Act.put, List.setIfInBounds_toArray, List.set_cons_zero, List.set_cons_succ]
      refine Late.take (i := 5) (oi := ⟨some 16, Op.load 3 (Operand.tmp 15), _, _, _, _⟩) (v := ?_) rfl (by kernel_rfl) (by kernel_rfl) (by kernel_rfl) (by kernel_rfl) (fun _ _ _ h => h) (Or.inl ⟨by rfl, fun w hSw => ?_⟩) (by assumption) ?_
      rotate_left
      · (have s1 := hSw; have d := HC.out _ hSw; obtain ⟨p0, p1, _⟩ := rng_x d; go_simp; try with_reducible rfl)
      try simp only [Act.put, List.setIfInBounds_toArray, List.set_cons_zero, List.set_cons_succ]
      refine Late.take (i := 6) (oi := ⟨some 17, Op.move (Operand.tmp 0), _, _, _, _⟩) (v := ?_) rfl (by kernel_rfl) (by kernel_rfl) (by kernel_rfl) (by kernel_rfl) (fun _ _ _ h => h) (Or.inl ⟨by rfl, fun w hSw => ?_⟩) (by assumption) ?_
      rotate_left
      · (have s1 := hSw; go_simp; try with_reducible rfl)
      try simp only [Act.put, List.setIfInBounds_toArray, List.set_cons_zero, List.set_cons_succ]
      refine Late.take (i := 7) (oi := ⟨some 18, Op.move (Operand.tmp 4), _, _, _, _⟩) (v := ?_) rfl (by kernel_rfl) (by kernel_rfl) (by kernel_rfl) (by kernel_rfl) (fun _ _ _ h => h) (Or.inl ⟨by rfl, fun w hSw => ?_⟩) (by assumption) ?_
      rotate_left
      · (have s1 := hSw; go_simp; try with_reducible rfl)
      try simp only [Act.put, List.setIfInBounds_toArray, List.set_cons_zero, List.set_cons_succ]
      refine Late.take (i := 8) (oi := ⟨some 19, Op.indexAddr 24 (Operand.tmp 17) (Operand.tmp 18), _, _, _, _⟩) (v := ?_) rfl (by kernel_rfl) (by kernel_rfl) (by kernel_rfl) (by kernel_rfl) (fun _ _ _ h => h) (Or.inl ⟨by rfl, fun w hSw => ?_⟩) (by assumption) ?_
      rotate_left
      · (have s1 := hSw; go_simp; try with_reducible rfl)
      try simp only [Act.put, List.setIfInBounds_toArray, List.set_cons_zero, List.set_cons_succ]
      refine Late.take (i := 9) (oi := ⟨some 20, Op.fieldAddr 53 (Operand.tmp 19) 1, _, _, _, _⟩) (v := ?_) rfl (by kernel_rfl) (by kernel_rfl) (by kernel_rfl) (by kernel_rfl) (fun _ _ _ h => h) (Or.inl ⟨by rfl, fun w hSw => ?_⟩) (by assumption) ?_
      rotate_left
      · (have s1 := hSw; go_simp; try with_reducible rfl)
      try simp only [Act.put, List.setIfInBounds_toArray, List.set_cons_zero, List.set_cons_succ]
      refine Late.take (i := 10) (oi := ⟨some 21, Op.load 3 (Operand.tmp 20), _, _, _, _⟩) (v := ?_) rfl (by kernel_rfl) (by kernel_rfl) (by kernel_rfl) (by kernel_rfl) (fun _ _ _ h => h) (Or.inl ⟨by rfl, fun w hSw => ?_⟩) (by assumption) ?_
      rotate_left
      · (have s1 := hSw; have d := HC.out _ hSw; obtain ⟨p0, p1, _⟩ := rng_x d; go_simp; try with_reducible rfl)
      try simp only [Act.put, List.setIfInBounds_toArray, List.set_cons_zero, List.set_cons_succ]
      refine Late.take (i := 11) (oi := ⟨some 22, Op.move (Operand.tmp 0), _, _, _, _⟩) (v := ?_) rfl (by kernel_rfl) (by kernel_rfl) (by kernel_rfl) (by kernel_rfl) (fun _ _ _ h => h) (Or.inl ⟨by rfl, fun w hSw => ?_⟩) (by assumption) ?_
      rotate_left
      · (have s1 := hSw; go_simp; try with_reducible rfl)
      try simp only [Act.put, List.setIfInBounds_toArray, List.set_cons_zero, List.set_cons_succ]
      refine Late.take (i := 12) (oi := ⟨some 23, Op.move (Operand.tmp 4), _, _, _, _⟩) (v := ?_) rfl (by kernel_rfl) (by kernel_rfl) (by kernel_rfl) (by kernel_rfl) (fun _ _ _ h => h) (Or.inl ⟨by rfl, fun w hSw => ?_⟩) (by assumption) ?_
      rotate_left
      · (have s1 := hSw; go_simp; try with_reducible rfl)
      try simp only [Act.put, List.setIfInBounds_toArray, List.set_cons_zero, List.set_cons_succ]
      refine Late.take (i := 13) (oi := ⟨some 24, Op.indexAddr 24 (Operand.tmp 22) (Operand.tmp 23), _, _, _, _⟩) (v := ?_) rfl (by kernel_rfl) (by kernel_rfl) (by kernel_rfl) (by kernel_rfl) (fun _ _ _ h => h) (Or.inl ⟨by rfl, fun w hSw => ?_⟩) (by assumption) ?_
      rotate_left
      · (have s1 := hSw; go_simp; try with_reducible rfl)
      try simp only [Act.put, List.setIfInBounds_toArray, List.set_cons_zero, List.set_cons_succ]
      refine Late.take (i := 14) (oi := ⟨some 25, Op.fieldAddr 53 (Operand.tmp 24) 2, _, _, _, _⟩) (v := ?_) rfl (by kernel_rfl) (by kernel_rfl) (by kernel_rfl) (by kernel_rfl) (fun _ _ _ h => h) (Or.inl ⟨by rfl, fun w hSw => ?_⟩) (by assumption) ?_
      rotate_left
      · (have s1 := hSw; go_simp; try with_reducible rfl)
      try simp only [Act.put, List.setIfInBounds_toArray, List.set_cons_zero, List.set_cons_succ]
      refine Late.take (i := 15) (oi := ⟨some 26, Op.load 33 (Operand.tmp 25), _, _, _, _⟩) (v := _) rfl (by kernel_rfl) (by kernel_rfl) (by kernel_rfl) (by kernel_rfl) (fun _ _ _ h => h) (yieldsIf_load_mid (by rfl) _ _ rfl _ _ rfl (rc x.r) _ (fun W hW => (rng_x (HC.out W hW)).2.2) Try.underlying33 rfl (r_size x.r)) (by assumption) ?_
      try simp only [Act.put, List.setIfInBounds_toArray, List.set_cons_zero, List.set_cons_succ]
      refine Late.take (i := 16) (oi := ⟨some 27, Op.build 40 #[(0, Operand.tmp 16), (1, Operand.tmp 21), (2, Operand.tmp 26)], _, _, _, _⟩) (v := .agg (xc ⟨x.c, x.id, x.r⟩).toArray) rfl (by kernel_rfl) (by kernel_rfl) (by kernel_rfl) (by kernel_rfl) (fun _ _ _ h => h) (Or.inl ⟨by rfl, fun w hSw => ?_⟩) (by assumption) ?_
      · (exact exec_D rfl rfl rfl rfl rfl)
      try simp only [Act.put, List.setIfInBounds_toArray, List.set_cons_zero, List.set_cons_succ]
      refine Late.one (i := 17) (o := ⟨some 28, Op.buildSlice 22 1 #[(0, Operand.tmp 27)], _, _, _, _⟩) (by kernel_rfl) rfl (fun K hK => ?_)
      refine wp_slice_D (.tmp 27) rfl x rfl ?_
      obtain ⟨W7, hW7⟩ : ∃ W, W = wr.drew.alloc (.cells (xc x).toArray 40) := ⟨_, rfl⟩
      rw [← hW7]
      have L7 := Lib.hid (show Lies W7 77 (some ⟨wr.heap.size, 0, none⟩) 1 (xvs [x]) ∧ Sourced (some ⟨wr.heap.size, 0, none⟩) 1 by rw [hW7]; exact one_lies wr.drew x _ _ rfl)
      have b7 := Lib.hid (show Below wr.heap.size wr W7 by rw [hW7]; exact (Below.refl _ _).drew.alloc (Nat.le_refl _) _)
      have O7 := Lib.hid (own_below HO.out b7.out (Nat.le_refl _))
      have s7 := b7.out.size
      have c7 := Lib.hid (HW.out.trans (b7.out.mono HW.out.size))
      clear hW7
      refine hK.out _ _ (c7.out) (fun hHeld2 => ?_)
      clear hK K hHeld
      have hHeld := hHeld2
      clear hHeld2
      try simp only [Act.put, List.setIfInBounds_toArray, List.set_cons_zero, List.set_cons_succ]
      refine Late.one (i := 18) (o := ⟨some 29, Op.call { callee := Callee.builtin Builtin.append, args := #[Operand.tmp 11, Operand.tmp 28], argTypes := #[22, 22] }, _, _, _, _⟩) (by kernel_rfl) rfl (fun K hK => ?_)
      refine step_app W7 rfl (.tmp 11) (.tmp 28) 22 rfl w.heap.size 40 77 192 Try.underlying22 d_info (by omega) u3 k (xvs (l.take k)) rfl O7.out (some ⟨wr.heap.size, 0, none⟩) 1 1 (xvs [x]) rfl L7.out.1 L7.out.2 (xvs_one _) (by unfold maxLen; omega) (by omega) (by omega) ?_
      intro v9 w9 o9 g9 _
      have O9 := Lib.hid o9
      have B9 := Lib.hid (show Below w.heap.size w w9 from (HW.out.trans (b7.out.mono HW.out.size)).grown g9 (by omega) (fun q hq => (O7.out.lt q hq).1))
      clear o9 g9
      refine hK.out _ _ (B9.out) (fun hHeld2 => ?_)
      clear hK K hHeld
      have hHeld := hHeld2
      clear hHeld2
      try simp only [Act.put, List.setIfInBounds_toArray, List.set_cons_zero, List.set_cons_succ]
      refine Late.take (i := 19) (oi := ⟨some 3, Op.assign (Operand.tmp 29), _, _, _, _⟩) (v := ?_) rfl (by kernel_rfl) (by kernel_rfl) (by kernel_rfl) (by kernel_rfl) (fun _ _ _ h => h) (Or.inl ⟨by rfl, fun w hSw => ?_⟩) (by assumption) ?_
      rotate_left
      · (have s1 := hSw; go_simp; try with_reducible rfl)
      try simp only [Act.put, List.setIfInBounds_toArray, List.set_cons_zero, List.set_cons_succ]
      refine Late.done (by kernel_rfl) ?_ _
      refine NoPanic.normal ?_
      go_wp2
      go_roundw
      case rel => exact ⟨k + 1, by omega, by go_num, Lib.hid (by rw [HT.out, xvs_app]; exact O9.out), B9⟩
      case measure => simp [intOf]; omega
    · have e : l.take k = l := List.take_of_length_le (by rw [HL.out]; omega)
      have hke : k = n := by omega
      have HO2 : Hid (wr.ownsRow w.heap.size 40 77 u3 n (xvs l)) := Lib.hid (by rw [← hke]; have := HO.out; rw [e] at this; exact this)
      have hkI : ¬ (k : Int) < (n : Int) := by omega
      clear HO e hke
      obtain ⟨D, d, hv, _, _⟩ := own_shapeA HO2.out
      subst hv
      go_wp2
      go_ret
      exact ⟨D, d, rfl, HO2.out, HW.out⟩
end Go.Proofs.Ytlapdocikhjkcaa
