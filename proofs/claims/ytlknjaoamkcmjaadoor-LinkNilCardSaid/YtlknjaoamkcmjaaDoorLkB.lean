/- A packet may be; bytes are cloned. -/
import Derived.Test.YtlknjaoamkcmjaaDoorLkM
import Derived.Test.YtlknjaoamkcmjaaDoorB1
import Derived.Lib.SliceRun
namespace Go.Proofs.YtlknjaoamkcmjaaDoor
open Go.ChangeShapes Go.WideShapes Go.ChangeAt Go.RowKit
set_option linter.unusedVariables false
set_option linter.unusedSimpArgs false
set_option maxRecDepth 100000
open Plain Sha Wn Lk
theorem isone_any (n : Int) (q : Bool) (hq : whoB n = q) (w : World) : Calls Tryd.prog 33 #[.int .i64 n] w (Says (.bool q) w) := by
  subst hq
  unfold whoB
  by_cases h1 : 0 ≤ n
  · by_cases h2 : n < 5
    · go_enter Tryd.func33, Tryd.ntmps33
      go_wp2
      go_ret
      exact ⟨by simp [h1, h2], rfl⟩
    · by_cases h3 : n = 8
      · subst h3
        go_enter Tryd.func33, Tryd.ntmps33
        go_wp2
        go_ret
        exact ⟨by simp, rfl⟩
      · by_cases h4 : n = 9
        · subst h4
          go_enter Tryd.func33, Tryd.ntmps33
          go_wp2
          go_ret
          exact ⟨by simp, rfl⟩
        · go_enter Tryd.func33, Tryd.ntmps33
          go_wp2
          go_ret
          exact ⟨by simp [h1, show ¬ n < 5 from by omega, show (n == 8) = false from by simpa using h3, show (n == 9) = false from by simpa using h4], rfl⟩
  · have h3 : ¬ n = 8 := by omega
    have h4 : ¬ n = 9 := by omega
    go_enter Tryd.func33, Tryd.ntmps33
    go_wp2
    go_ret
    exact ⟨by simp [show ¬ 0 ≤ n from by omega, show (n == 8) = false from by simpa using h3, show (n == 9) = false from by simpa using h4], rfl⟩
/-- The cells that May reads. -/
theorem pbox_cells {w : World} {g : Nat} {x : PX} (h : VBox w g 38 (pc x)) : w.cell? ⟨g, 0, none⟩ = some (.int .i64 x.z.fr) ∧ w.cell? ⟨g, 1, none⟩ = some (.int .i64 x.z.tw) ∧ w.cell? ⟨g, 2, none⟩ = some (.int .i64 x.z.ep) ∧ w.cell? ⟨g, 3, none⟩ = some (.int .i64 x.z.bo) ∧ w.cell? ⟨g, 4, none⟩ = some (.int .i64 x.z.sq) ∧ w.cell? ⟨g, 5, none⟩ = some (.slice x.A x.n x.c) := by
  have := rng_p h.range
  simpa only [Nat.zero_add] using this
theorem pbox_tag {w : World} {g : Nat} {x : PX} (h : VBox w g 38 (pc x)) : w.rangeAt g 6 (vals x.z.tag) := by
  have := rng_tag h.range
  rwa [Nat.zero_add] at this
theorem pbox_new (w : World) (x : PX) (ht : x.z.tag.length = 32) (y : TypeId) (g : Nat) (hg : w.heap.size = g) : VBox (w.alloc (.cells (pc x).toArray y)) g 38 (pc x) := vbox_new _ _ _ _ _ hg (pc_len ht) (by omega)
set_option maxHeartbeats 4000000 in
theorem may_1 {x : PX} {w W1 : World} {g : Nat} {a0 a1 a2 a3 a4 : Int} {q : Bool} (hW1 : Hid (W1 = w.alloc (.cells (pc x).toArray 26))) (hgH : Hid (w.heap.size = g)) (b1 : Hid (Below w.heap.size w W1)) (c0 : W1.cell? ⟨g, 0, none⟩ = some (.int .i64 a0)) (c1 : W1.cell? ⟨g, 1, none⟩ = some (.int .i64 a1)) (c2 : W1.cell? ⟨g, 2, none⟩ = some (.int .i64 a2)) (c3 : W1.cell? ⟨g, 3, none⟩ = some (.int .i64 a3)) (c4 : W1.cell? ⟨g, 4, none⟩ = some (.int .i64 a4))
    (q1 : whoB a0 = false) (q2 : whoB a1 = q)  :
    Calls Tryd.prog 13 #[.agg (pc x).toArray] w (fun e w' => e = .returned (.bool false) ∧ Below w.heap.size w w') := by
  go_enter Tryd.func13, Tryd.ntmps13
  go_upto_region 1 with fail
  rw [← hW1.out, hgH.out]
  go_wp2_with (go_at_call 33; refine (isone_any _ _ rfl _).mono ?_; rintro e w2 ⟨rfl, rfl⟩)
  go_ret
  exact ⟨rfl, b1.out⟩
set_option maxHeartbeats 4000000 in
theorem may_2 {x : PX} {w W1 : World} {g : Nat} {a0 a1 a2 a3 a4 : Int} (hW1 : Hid (W1 = w.alloc (.cells (pc x).toArray 26))) (hgH : Hid (w.heap.size = g)) (b1 : Hid (Below w.heap.size w W1)) (c0 : W1.cell? ⟨g, 0, none⟩ = some (.int .i64 a0)) (c1 : W1.cell? ⟨g, 1, none⟩ = some (.int .i64 a1)) (c2 : W1.cell? ⟨g, 2, none⟩ = some (.int .i64 a2)) (c3 : W1.cell? ⟨g, 3, none⟩ = some (.int .i64 a3)) (c4 : W1.cell? ⟨g, 4, none⟩ = some (.int .i64 a4))
    (q1 : whoB a0 = true) (q2 : whoB a1 = false)  :
    Calls Tryd.prog 13 #[.agg (pc x).toArray] w (fun e w' => e = .returned (.bool false) ∧ Below w.heap.size w w') := by
  go_enter Tryd.func13, Tryd.ntmps13
  go_upto_region 1 with fail
  rw [← hW1.out, hgH.out]
  go_wp2_with (go_at_call 33; refine (isone_any _ _ rfl _).mono ?_; rintro e w2 ⟨rfl, rfl⟩)
  go_ret
  exact ⟨rfl, b1.out⟩
set_option maxHeartbeats 4000000 in
theorem may_3 {x : PX} {w W1 : World} {g : Nat} {a0 a1 a2 a3 a4 : Int} (hW1 : Hid (W1 = w.alloc (.cells (pc x).toArray 26))) (hgH : Hid (w.heap.size = g)) (b1 : Hid (Below w.heap.size w W1)) (c0 : W1.cell? ⟨g, 0, none⟩ = some (.int .i64 a0)) (c1 : W1.cell? ⟨g, 1, none⟩ = some (.int .i64 a1)) (c2 : W1.cell? ⟨g, 2, none⟩ = some (.int .i64 a2)) (c3 : W1.cell? ⟨g, 3, none⟩ = some (.int .i64 a3)) (c4 : W1.cell? ⟨g, 4, none⟩ = some (.int .i64 a4))
    (q1 : whoB a0 = true) (q2 : whoB a1 = true) (k1 : (a0 != a1) = false) :
    Calls Tryd.prog 13 #[.agg (pc x).toArray] w (fun e w' => e = .returned (.bool false) ∧ Below w.heap.size w w') := by
  go_enter Tryd.func13, Tryd.ntmps13
  go_upto_region 1 with fail
  rw [← hW1.out, hgH.out]
  go_wp2_with (go_at_call 33; refine (isone_any _ _ rfl _).mono ?_; rintro e w2 ⟨rfl, rfl⟩)
  go_ret
  exact ⟨by simp [k1], b1.out⟩
set_option maxHeartbeats 4000000 in
theorem may_4 {x : PX} {w W1 : World} {g : Nat} {a0 a1 a2 a3 a4 : Int} (hW1 : Hid (W1 = w.alloc (.cells (pc x).toArray 26))) (hgH : Hid (w.heap.size = g)) (b1 : Hid (Below w.heap.size w W1)) (c0 : W1.cell? ⟨g, 0, none⟩ = some (.int .i64 a0)) (c1 : W1.cell? ⟨g, 1, none⟩ = some (.int .i64 a1)) (c2 : W1.cell? ⟨g, 2, none⟩ = some (.int .i64 a2)) (c3 : W1.cell? ⟨g, 3, none⟩ = some (.int .i64 a3)) (c4 : W1.cell? ⟨g, 4, none⟩ = some (.int .i64 a4))
    (q1 : whoB a0 = true) (q2 : whoB a1 = true) (k1 : (a0 != a1) = true) (k2 : ¬ 1 ≤ a2) :
    Calls Tryd.prog 13 #[.agg (pc x).toArray] w (fun e w' => e = .returned (.bool false) ∧ Below w.heap.size w w') := by
  go_enter Tryd.func13, Tryd.ntmps13
  go_upto_region 1 with fail
  rw [← hW1.out, hgH.out]
  go_wp2_with (go_at_call 33; refine (isone_any _ _ rfl _).mono ?_; rintro e w2 ⟨rfl, rfl⟩)
  go_ret
  exact ⟨by simp [k1, k2], b1.out⟩
set_option maxHeartbeats 4000000 in
theorem may_5 {x : PX} {w W1 : World} {g : Nat} {a0 a1 a2 a3 a4 : Int} (hW1 : Hid (W1 = w.alloc (.cells (pc x).toArray 26))) (hgH : Hid (w.heap.size = g)) (b1 : Hid (Below w.heap.size w W1)) (c0 : W1.cell? ⟨g, 0, none⟩ = some (.int .i64 a0)) (c1 : W1.cell? ⟨g, 1, none⟩ = some (.int .i64 a1)) (c2 : W1.cell? ⟨g, 2, none⟩ = some (.int .i64 a2)) (c3 : W1.cell? ⟨g, 3, none⟩ = some (.int .i64 a3)) (c4 : W1.cell? ⟨g, 4, none⟩ = some (.int .i64 a4))
    (q1 : whoB a0 = true) (q2 : whoB a1 = true) (k1 : (a0 != a1) = true) (k2 : 1 ≤ a2) (k3 : ¬ 0 ≤ a3) :
    Calls Tryd.prog 13 #[.agg (pc x).toArray] w (fun e w' => e = .returned (.bool false) ∧ Below w.heap.size w w') := by
  go_enter Tryd.func13, Tryd.ntmps13
  go_upto_region 1 with fail
  rw [← hW1.out, hgH.out]
  go_wp2_with (go_at_call 33; refine (isone_any _ _ rfl _).mono ?_; rintro e w2 ⟨rfl, rfl⟩)
  go_ret
  exact ⟨by simp [k1, k2, k3], b1.out⟩
set_option maxHeartbeats 4000000 in
theorem may_6 {x : PX} {w W1 : World} {g : Nat} {a0 a1 a2 a3 a4 : Int} (hW1 : Hid (W1 = w.alloc (.cells (pc x).toArray 26))) (hgH : Hid (w.heap.size = g)) (b1 : Hid (Below w.heap.size w W1)) (c0 : W1.cell? ⟨g, 0, none⟩ = some (.int .i64 a0)) (c1 : W1.cell? ⟨g, 1, none⟩ = some (.int .i64 a1)) (c2 : W1.cell? ⟨g, 2, none⟩ = some (.int .i64 a2)) (c3 : W1.cell? ⟨g, 3, none⟩ = some (.int .i64 a3)) (c4 : W1.cell? ⟨g, 4, none⟩ = some (.int .i64 a4))
    (q1 : whoB a0 = true) (q2 : whoB a1 = true) (k1 : (a0 != a1) = true) (k2 : 1 ≤ a2) (k3 : 0 ≤ a3) :
    Calls Tryd.prog 13 #[.agg (pc x).toArray] w (fun e w' => e = .returned (.bool (decide (1 ≤ a4))) ∧ Below w.heap.size w w') := by
  go_enter Tryd.func13, Tryd.ntmps13
  go_upto_region 1 with fail
  rw [← hW1.out, hgH.out]
  go_wp2_with (go_at_call 33; refine (isone_any _ _ rfl _).mono ?_; rintro e w2 ⟨rfl, rfl⟩)
  go_ret
  exact ⟨by simp [k1, k2, k3], b1.out⟩
theorem pmay_any {x : PX} (ht : x.z.tag.length = 32) (q : Bool) (hq : mayP x.z = q) (w : World) : Calls Tryd.prog 13 #[.agg (pc x).toArray] w (fun e w' => e = .returned (.bool q) ∧ Below w.heap.size w w') := by
  obtain ⟨W1, hW1⟩ : ∃ W, W = w.alloc (.cells (pc x).toArray 26) := ⟨_, rfl⟩
  have b1 := Lib.hid (show Below w.heap.size w W1 by rw [hW1]; exact below_one _ _)
  obtain ⟨g, hg⟩ : ∃ g, w.heap.size = g := ⟨_, rfl⟩
  have V1 : VBox W1 g 38 (pc x) := by rw [hW1]; exact pbox_new w x ht _ g hg
  obtain ⟨c0, c1, c2, c3, c4, _⟩ := pbox_cells V1
  subst hq
  obtain ⟨q1, h1⟩ : ∃ q, whoB x.z.fr = q := ⟨_, rfl⟩
  obtain ⟨q2, h2⟩ : ∃ q, whoB x.z.tw = q := ⟨_, rfl⟩
  have H1 := Lib.hid hW1
  have H2 := Lib.hid hg
  cases q1 with
  | false =>
    rw [show mayP x.z = false by unfold mayP; rw [h1]; simp]
    exact may_1 H1 H2 b1 c0 c1 c2 c3 c4 h1 h2
  | true =>
  cases q2 with
  | false =>
    rw [show mayP x.z = false by unfold mayP; rw [h1, h2]; simp]
    exact may_2 H1 H2 b1 c0 c1 c2 c3 c4 h1 h2
  | true =>
  by_cases k1 : x.z.fr = x.z.tw
  · rw [show mayP x.z = false by unfold mayP; rw [h1, h2]; simp [k1]]
    exact may_3 H1 H2 b1 c0 c1 c2 c3 c4 h1 h2 (by simpa using k1)
  have k1' : (x.z.fr != x.z.tw) = true := by simpa using k1
  by_cases k2 : 1 ≤ x.z.ep
  · by_cases k3 : 0 ≤ x.z.bo
    · rw [show mayP x.z = decide (1 ≤ x.z.sq) by unfold mayP; rw [h1, h2]; simp [k1, k2, k3]]
      exact may_6 H1 H2 b1 c0 c1 c2 c3 c4 h1 h2 k1' k2 k3
    · rw [show mayP x.z = false by unfold mayP; rw [h1, h2]; simp [k3]]
      exact may_5 H1 H2 b1 c0 c1 c2 c3 c4 h1 h2 k1' k2 k3
  · rw [show mayP x.z = false by unfold mayP; rw [h1, h2]; simp [k2]]
    exact may_4 H1 H2 b1 c0 c1 c2 c3 c4 h1 h2 k1' k2
/-- Bytes are cloned. -/
theorem bclone_any {w : World} {B n : Nat} (c : Nat) {A : Option Addr} {zs : List Int} (h : Bs w B A n zs) (hB : B ≤ w.heap.size) (hn : n ≤ 1000000) :
    Calls Tryd.prog 28 #[.slice A n c] w (fun e w' => ∃ x, e = .returned x ∧ IsList x w' w.heap.size zs ∧ Below w.heap.size w w') := by
  have qT : ∀ (w : World) (a : Option Addr) (n c n' c' : Nat), (binOp .eql 22 (.slice a n c) (.slice none n' c')).run Tryd.prog w = .ok (.bool a.isNone) w := fun w a n c n' c' => Lib.run_eql_slice_nil w _ _ a n c n' c' Tryd.underlying22
  cases A with
  | none =>
    have h0 : n = 0 := h.lies.2 rfl
    subst h0
    have hl : zs = [] := List.eq_nil_of_length_eq_zero h.len
    subst hl
    clear h
    go_enter Tryd.func28, Tryd.ntmps28
    go_wp2
    go_ret
    exact ⟨_, rfl, ⟨none, 0, rfl, World.ownsRow_nil _ _ _ _, Nat.le_refl _, by simp [maxLen]⟩, Below.refl _ _⟩
  | some ad =>
    have HL := Lib.hid (h.alloc hB (.cells #[] 5)).lies
    have HO := Lib.hid (show (w.alloc (.cells #[] 5)).ownsRow w.heap.size 5 1 (.slice (some ⟨w.heap.size, 0, none⟩) 0 0) 0 [] from ⟨rfl, .inr ⟨w.heap.size, 0, #[], rfl, Nat.le_refl _, heap_alloc_new _ _, Nat.le_refl _, by simp [maxLen], rfl, rfl⟩⟩)
    have ZL := Lib.hid h.len
    clear h
    go_enter Tryd.func28, Tryd.ntmps28
    go_wp2_with (at_builtin; refine wpList_app _ rfl (.tmp 5) (.tmp 6) 22 rfl w.heap.size 5 1 1 Tryd.underlying22 u8_info (by omega) _ 0 [] rfl HO.out _ n c (vals zs) rfl HL.out.1 HL.out.2 (vals_one _) (by unfold maxLen; omega) (by omega) (by simp) ?_; intro v1 w1 ho1 hg1; have B1 := Lib.hid ((below_one w (.cells #[] 5)).grown hg1 (by simp) (fun q hq => (HO.out.lt q hq).1)); have HO1 := Lib.hid ho1; clear ho1 hg1)
    go_ret
    have ho := HO1.out
    rw [Nat.zero_add, List.nil_append] at ho
    obtain ⟨D, d, rfl, h1, h2⟩ := own_shape ho
    have z := ZL.out
    subst z
    exact ⟨_, rfl, ⟨D, d, rfl, ho, h1, h2⟩, B1.out⟩
end Go.Proofs.YtlknjaoamkcmjaaDoor
