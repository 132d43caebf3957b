/- Texts of the proof, one behind the other: TkC TkI TkN TkT TkG TkP. -/
import Derived.Test.YtmeafjehcckibaaDoorB5
import Derived.Test.YtmeafjehcckibaaDoorB6
import Derived.Test.YtmeafjehcckibaaDoorB1
import Derived.Lib.AppendZerosOnto
import Derived.Test.YtmeafjehcckibaaDoorB4
/- slices.Grow of no slice, slices.Concat: of rows of numbers, of rows of grants. -/
namespace Go.Proofs.YtmeafjehcckibaaDoor
open Go.ChangeShapes Go.WideShapes Go.ChangeAt Go.RowKit
set_option linter.unusedVariables false
theorem i64_info : ∃ i z, Tryd.prog.info? 3 = some i ∧ i.zero = some z ∧ i.size = 1 ∧ i.bytes = 8 ∧ z.cells.size = 1 := by
  obtain ⟨i, hi, hz, hs, hb⟩ := info_parts i64_row
  exact ⟨i, _, hi, hz, hs, hb, rfl⟩
/-- Rows, one behind the other: how many elements the first k have, and their cells. -/
def nTo (N : Nat → Nat) : Nat → Nat
  | 0 => 0
  | k + 1 => nTo N k + N k
def vTo (V : Nat → List Value) : Nat → List Value
  | 0 => []
  | k + 1 => vTo V k ++ V k
theorem nTo_le (N : Nat → Nat) : ∀ k m, k ≤ m → nTo N k ≤ nTo N m := by
  intro k m h
  induction m with
  | zero => obtain rfl : k = 0 := by omega
            exact Nat.le_refl _
  | succ m ih =>
    by_cases e : k = m + 1
    · rw [e]; exact Nat.le_refl _
    · exact Nat.le_trans (ih (by omega)) (Nat.le_add_right _ _)
theorem sizeI (w : World) : (Go.sizeOf 3).run Tryd.prog w = .ok 1 w := by
  obtain ⟨i, z, hi, hz, hs, hb, _⟩ := i64_info
  simp [Go.sizeOf, typeInfo, hi, hs]
theorem cutI_h (A : Option Addr) (n c hi : Nat) (h : Int) (hh : h = hi) (h2 : hi ≤ c) :
    ∀ W, (Instr.slice 46 (.slice A n c) none (some (.int .i64 h)) none).run Tryd.prog W = .ok (.slice A hi c) W := by
  subst hh
  intro W
  have he : Tryd.prog.elem 46 = 3 := by simp [Program.elem, Tryd.underlying46]
  rw [run_slice_h W 46 A n c (by rw [he]; exact Tryd.underlying46) .i64 _ (by omega) (by omega), he, sizeI]
  cases A <;> simp [Result.andThen, sliced, Addr.add]
theorem growI_none (w : World) : Calls Tryd.prog 47 #[.slice none 0 0, .int .i64 0] w (fun e w' => ∃ v, e = .returned v ∧ w'.ownsRow w.heap.size 3 1 v 0 [] ∧ Below w.heap.size w w') := by
  go_enter Tryd.func47, Tryd.ntmps47
  go_wp2
  go_ret
  exact ⟨_, rfl, World.ownsRow_nil _ _ _ _, Below.refl _ _⟩
set_option maxRecDepth 100000 in
theorem growI_some (n : Nat) (w : World) (h0 : 0 < n) (hn : n ≤ 4096) : Calls Tryd.prog 47 #[.slice none 0 0, .int .i64 n] w (fun e w' => ∃ v, e = .returned v ∧ w'.ownsRow w.heap.size 3 1 v 0 [] ∧ Below w.heap.size w w') := by
  obtain ⟨i, z, hi, hz, hs, hb, hzs⟩ := i64_info
  have hold : (Builtin.firstCells i.size 0 (.slice none 0 0)).run Tryd.prog w.drew = .ok ([] : List Value).toArray w.drew := run_firstCells_none w.drew i.size 0 0 0
  have hrz : ∀ ty, (Builtin.append_ #[46, 3] ty #[.slice none 0 0, .int .i64 (n : Int)]).run Tryd.prog w = _ := fun ty =>
    Lib.run_append_grow_zeros w 46 3 ty 3 i z .i64 .i64 Tryd.underlying46 Tryd.underlying3 hi hz none 0 0 [] hold n h0 (by omega) (by omega) (by omega) (by rw [hb]; omega) (by rw [hb]; exact Nat.le_trans (growslice_fits (by omega) (by omega)) (by omega))
  simp only [Nat.zero_add] at hrz
  have hge := grownCap_ge w n 0 3
  have hle := grownCap_le_maxLen w n 0 3 (by unfold maxLen; omega)
  obtain ⟨G, hG⟩ : ∃ G, grownCap w n 0 3 = G := ⟨_, rfl⟩
  rw [hG] at hrz hge hle
  have hle2 : G ≤ 9223372036854775807 := by unfold maxLen at hle; exact hle
  obtain ⟨cs, hcs⟩ : ∃ cs, [].toArray ++ Builtin.zeroCells z.cells n ++ Builtin.zeroCells z.cells (G - n) = cs := ⟨_, rfl⟩
  have hsz : cs.size = G * 1 := by rw [← hcs]; simp [size_zeroCells, hzs]; omega
  rw [hcs] at hrz
  have C1 := cutI_h (some ⟨w.heap.size, 0, none⟩) n G 0 0 rfl (by omega)
  have HR := Lib.hid hrz
  have hn0 : ¬ ((n : Int) < 0) := by omega
  have hn1 : (n : Int) > 0 := by omega
  clear hrz hG hcs hold
  have HS := Lib.hid hsz
  have HL := Lib.hid hle
  clear hsz hle
  go_enter Tryd.func47, Tryd.ntmps47
  go_wp2_with (at_builtin; refine Lib.wpList_append_run _ rfl _ _ _ _ rfl _ _ rfl rfl _ _ (HR.out _) ?_)
  go_ret
  refine ⟨_, rfl, ⟨rfl, .inr ⟨w.heap.size, G, cs, rfl, Nat.le_refl _, ?_, by omega, HL.out, by rw [HS.out], rfl⟩⟩, ?_⟩
  · exact heap_alloc_new w.drew _
  · exact ((Below.refl w.heap.size w).drew).alloc (Nat.le_refl _) _
theorem growI_any (n : Nat) (w : World) (hn : n ≤ 4096) : Calls Tryd.prog 47 #[.slice none 0 0, .int .i64 n] w (fun e w' => ∃ v, e = .returned v ∧ w'.ownsRow w.heap.size 3 1 v 0 [] ∧ Below w.heap.size w w') := by
  rcases Nat.eq_zero_or_pos n with rfl | h
  · exact growI_none w
  · exact growI_some n w h hn
set_option maxRecDepth 100000 in
set_option maxHeartbeats 1000000 in
/-- slices.Concat: m rows that stand at block b, each of elements that stand. -/
theorem concatI_any {As : Nat → Option Addr} {N C : Nat → Nat} {V : Nat → List Value} {m b : Nat} (c : Nat) {w : World}
    (hrow : ∀ W, Below w.heap.size w W → ∀ j, j < m → W.cell? ⟨b, j, none⟩ = some (.slice (As j) (N j) (C j)))
    (hel : ∀ W, Below w.heap.size w W → ∀ j, j < m → Lies W 1 (As j) (N j) (V j) ∧ Sourced (As j) (N j)) (h1 : ∀ j, j < m → ∀ u ∈ V j, u.oneCell' = true) (hm : m ≤ 4096) (hs : nTo N m ≤ 4096) :
    Calls Tryd.prog 42 #[.slice (some ⟨b, 0, none⟩) m c] w (fun e w' => ∃ v, e = .returned v ∧ w'.ownsRow w.heap.size 3 1 v (nTo N m) (vTo V m) ∧ Below w.heap.size w w') := by
  have HLE : Hid (∀ k, k ≤ m → nTo N k ≤ 4096) := Lib.hid (fun k hk => Nat.le_trans (nTo_le N k m hk) hs)
  have HR := Lib.hid hrow
  have HE := Lib.hid hel
  have H1 := Lib.hid h1
  have HS := Lib.hid hs
  clear hrow hel h1 hs
  go_enter Tryd.func42, Tryd.ntmps42
  go_wp2
  go_loop [3, 11] (fun s i => ∃ k : Nat, k ≤ m ∧ i = .int .i64 k ∧ s = .int .i64 (nTo N k : Nat)) (fun _ i => m - (intOf i).toNat)
  case atStart => exact ⟨0, by omega, rfl, rfl⟩
  case round =>
    obtain ⟨k, hk, rfl, rfl⟩ := hrel
    by_cases hlt : k < m
    · have hc := HR.out _ (Below.refl _ _) k hlt
      have h1 := HLE.out (k + 1) hlt
      have H2 : Hid (nTo N (k + 1) = nTo N k + N k) := Lib.hid rfl
      rw [H2.out] at h1
      generalize nTo N k = sk at *
      generalize N k = n at *
      generalize As k = pA at *
      generalize C k = pc at *
      have h2 : ¬ ((sk : Int) + (n : Int) < 0) := by omega
      go_wp2
      go_round
      case rel => exact ⟨k + 1, by omega, by go_num, by rw [H2.out]; go_num⟩
      case measure => simp [intOf]; omega
    · have hkm : k = m := by omega
      subst hkm
      have hS := HS.out
      obtain ⟨Z, hSd⟩ : ∃ Z, nTo N k = Z := ⟨_, rfl⟩
      rw [hSd] at hS ⊢
      have HSD := Lib.hid hSd
      have GR := Lib.hid (growI_any Z w hS)
      clear hSd
      go_wp2_with (go_at_call 47; refine GR.out.mono ?_; rintro e w1 ⟨v1, rfl, ho1, hb1⟩)
      go_loopw [6, 27] (fun v i wr => ∃ j : Nat, j ≤ k ∧ i = .int .i64 j ∧ wr.ownsRow w.heap.size 3 1 v (nTo N j) (vTo V j) ∧ Below w.heap.size w wr) (fun _ i _ => k - (intOf i).toNat)
      case atStart => exact ⟨0, by omega, rfl, ho1, hb1⟩
      case round =>
        obtain ⟨j, hj, rfl, hown, hbel⟩ := hrel
        by_cases hltj : j < k
        · have hc := HR.out _ hbel j hltj
          have hst := HE.out _ hbel j hltj
          have hone := H1.out j hltj
          have h1 := HLE.out (j + 1) hltj
          have H2 : Hid (nTo N (j + 1) = nTo N j + N j) := Lib.hid rfl
          have H4 : Hid (vTo V (j + 1) = vTo V j ++ V j) := Lib.hid rfl
          rw [H2.out] at h1
          have HST := Lib.hid hst
          have HON := Lib.hid hone
          clear hst hone
          generalize hsj : nTo N j = sj at *
          clear hsj
          generalize vTo V j = vj at *
          generalize V j = Vj at *
          generalize N j = n at *
          generalize As j = pA at *
          generalize C j = pc at *
          go_wp2_with (at_builtin; refine wpList_app _ rfl (.tmp 31) (.tmp 32) 46 rfl w.heap.size 3 1 8 Tryd.underlying46 i64_info (by omega) u6 sj vj rfl hown pA n pc Vj rfl HST.out.1 HST.out.2 HON.out (by unfold maxLen; omega) (by omega) hbel.size ?_; intro v2 w2 ho2 hg2)
          go_roundw
          case rel => exact ⟨j + 1, by omega, by go_num, by rw [H2.out, H4.out]; exact ho2, hbel.grown hg2 hbel.size (fun q hq => (hown.lt q hq).1)⟩
          case measure => simp [intOf]; omega
        · have hjm : j = k := by omega
          have HM' : Hid (wr.ownsRow w.heap.size 3 1 u6 Z (vTo V k)) := Lib.hid (by rw [← HSD.out, ← hjm]; exact hown)
          clear hjm hown
          go_wp2
          go_ret
          exact ⟨u6, rfl, HSD.out.symm ▸ HM'.out, hbel⟩
theorem sizeG (w : World) : (Go.sizeOf 44).run Tryd.prog w = .ok 3 w := by
  obtain ⟨i, z, hi, hz, hs, hb, _⟩ := grant_info
  simp [Go.sizeOf, typeInfo, hi, hs]
theorem cutG_h (A : Option Addr) (n c hi : Nat) (h : Int) (hh : h = hi) (h2 : hi ≤ c) :
    ∀ W, (Instr.slice 22 (.slice A n c) none (some (.int .i64 h)) none).run Tryd.prog W = .ok (.slice A hi c) W := by
  subst hh
  intro W
  have he : Tryd.prog.elem 22 = 44 := by simp [Program.elem, Tryd.underlying22]
  rw [run_slice_h W 22 A n c (by rw [he]; exact Tryd.underlying22) .i64 _ (by omega) (by omega), he, sizeG]
  cases A <;> simp [Result.andThen, sliced, Addr.add]
theorem growG_none (w : World) : Calls Tryd.prog 43 #[.slice none 0 0, .int .i64 0] w (fun e w' => ∃ v, e = .returned v ∧ w'.ownsRow w.heap.size 44 3 v 0 [] ∧ Below w.heap.size w w') := by
  go_enter Tryd.func43, Tryd.ntmps43
  go_wp2
  go_ret
  exact ⟨_, rfl, World.ownsRow_nil _ _ _ _, Below.refl _ _⟩
set_option maxRecDepth 100000 in
theorem growG_some (n : Nat) (w : World) (h0 : 0 < n) (hn : n ≤ 4096) : Calls Tryd.prog 43 #[.slice none 0 0, .int .i64 n] w (fun e w' => ∃ v, e = .returned v ∧ w'.ownsRow w.heap.size 44 3 v 0 [] ∧ Below w.heap.size w w') := by
  obtain ⟨i, z, hi, hz, hs, hb, hzs⟩ := grant_info
  have hold : (Builtin.firstCells i.size 0 (.slice none 0 0)).run Tryd.prog w.drew = .ok ([] : List Value).toArray w.drew := run_firstCells_none w.drew i.size 0 0 0
  have hrz : ∀ ty, (Builtin.append_ #[22, 3] ty #[.slice none 0 0, .int .i64 (n : Int)]).run Tryd.prog w = _ := fun ty =>
    Lib.run_append_grow_zeros w 22 3 ty 44 i z .i64 .i64 Tryd.underlying22 Tryd.underlying3 hi hz none 0 0 [] hold n h0 (by omega) (by omega) (by omega) (by rw [hb]; omega) (by rw [hb]; exact Nat.le_trans (growslice_fits (by omega) (by omega)) (by omega))
  simp only [Nat.zero_add] at hrz
  have hge := grownCap_ge w n 0 44
  have hle := grownCap_le_maxLen w n 0 44 (by unfold maxLen; omega)
  obtain ⟨G, hG⟩ : ∃ G, grownCap w n 0 44 = G := ⟨_, rfl⟩
  rw [hG] at hrz hge hle
  have hle2 : G ≤ 9223372036854775807 := by unfold maxLen at hle; exact hle
  obtain ⟨cs, hcs⟩ : ∃ cs, [].toArray ++ Builtin.zeroCells z.cells n ++ Builtin.zeroCells z.cells (G - n) = cs := ⟨_, rfl⟩
  have hsz : cs.size = G * 3 := by rw [← hcs]; simp [size_zeroCells, hzs]; omega
  rw [hcs] at hrz
  have C1 := cutG_h (some ⟨w.heap.size, 0, none⟩) n G 0 0 rfl (by omega)
  have HR := Lib.hid hrz
  have hn0 : ¬ ((n : Int) < 0) := by omega
  have hn1 : (n : Int) > 0 := by omega
  clear hrz hG hcs hold
  have HS := Lib.hid hsz
  have HL := Lib.hid hle
  clear hsz hle
  go_enter Tryd.func43, Tryd.ntmps43
  go_wp2_with (at_builtin; refine Lib.wpList_append_run _ rfl _ _ _ _ rfl _ _ rfl rfl _ _ (HR.out _) ?_)
  go_ret
  refine ⟨_, rfl, ⟨rfl, .inr ⟨w.heap.size, G, cs, rfl, Nat.le_refl _, ?_, by omega, HL.out, by rw [HS.out], rfl⟩⟩, ?_⟩
  · exact heap_alloc_new w.drew _
  · exact ((Below.refl w.heap.size w).drew).alloc (Nat.le_refl _) _
theorem growG_any (n : Nat) (w : World) (hn : n ≤ 4096) : Calls Tryd.prog 43 #[.slice none 0 0, .int .i64 n] w (fun e w' => ∃ v, e = .returned v ∧ w'.ownsRow w.heap.size 44 3 v 0 [] ∧ Below w.heap.size w w') := by
  rcases Nat.eq_zero_or_pos n with rfl | h
  · exact growG_none w
  · exact growG_some n w h hn
set_option maxRecDepth 100000 in
set_option maxHeartbeats 1000000 in
/-- slices.Concat: m rows that stand at block b, each of elements that stand. -/
theorem concatG_any {As : Nat → Option Addr} {N C : Nat → Nat} {V : Nat → List Value} {m b : Nat} (c : Nat) {w : World}
    (hrow : ∀ W, Below w.heap.size w W → ∀ j, j < m → W.cell? ⟨b, j, none⟩ = some (.slice (As j) (N j) (C j)))
    (hel : ∀ W, Below w.heap.size w W → ∀ j, j < m → Lies W 3 (As j) (N j) (V j) ∧ Sourced (As j) (N j)) (h1 : ∀ j, j < m → ∀ u ∈ V j, u.oneCell' = true) (hm : m ≤ 4096) (hs : nTo N m ≤ 4096) :
    Calls Tryd.prog 33 #[.slice (some ⟨b, 0, none⟩) m c] w (fun e w' => ∃ v, e = .returned v ∧ w'.ownsRow w.heap.size 44 3 v (nTo N m) (vTo V m) ∧ Below w.heap.size w w') := by
  have HLE : Hid (∀ k, k ≤ m → nTo N k ≤ 4096) := Lib.hid (fun k hk => Nat.le_trans (nTo_le N k m hk) hs)
  have HR := Lib.hid hrow
  have HE := Lib.hid hel
  have H1 := Lib.hid h1
  have HS := Lib.hid hs
  clear hrow hel h1 hs
  go_enter Tryd.func33, Tryd.ntmps33
  go_wp2
  go_loop [3, 11] (fun s i => ∃ k : Nat, k ≤ m ∧ i = .int .i64 k ∧ s = .int .i64 (nTo N k : Nat)) (fun _ i => m - (intOf i).toNat)
  case atStart => exact ⟨0, by omega, rfl, rfl⟩
  case round =>
    obtain ⟨k, hk, rfl, rfl⟩ := hrel
    by_cases hlt : k < m
    · have hc := HR.out _ (Below.refl _ _) k hlt
      have h1 := HLE.out (k + 1) hlt
      have H2 : Hid (nTo N (k + 1) = nTo N k + N k) := Lib.hid rfl
      rw [H2.out] at h1
      generalize nTo N k = sk at *
      generalize N k = n at *
      generalize As k = pA at *
      generalize C k = pc at *
      have h2 : ¬ ((sk : Int) + (n : Int) < 0) := by omega
      go_wp2
      go_round
      case rel => exact ⟨k + 1, by omega, by go_num, by rw [H2.out]; go_num⟩
      case measure => simp [intOf]; omega
    · have hkm : k = m := by omega
      subst hkm
      have hS := HS.out
      obtain ⟨Z, hSd⟩ : ∃ Z, nTo N k = Z := ⟨_, rfl⟩
      rw [hSd] at hS ⊢
      have HSD := Lib.hid hSd
      have GR := Lib.hid (growG_any Z w hS)
      clear hSd
      go_wp2_with (go_at_call 43; refine GR.out.mono ?_; rintro e w1 ⟨v1, rfl, ho1, hb1⟩)
      go_loopw [6, 27] (fun v i wr => ∃ j : Nat, j ≤ k ∧ i = .int .i64 j ∧ wr.ownsRow w.heap.size 44 3 v (nTo N j) (vTo V j) ∧ Below w.heap.size w wr) (fun _ i _ => k - (intOf i).toNat)
      case atStart => exact ⟨0, by omega, rfl, ho1, hb1⟩
      case round =>
        obtain ⟨j, hj, rfl, hown, hbel⟩ := hrel
        by_cases hltj : j < k
        · have hc := HR.out _ hbel j hltj
          have hst := HE.out _ hbel j hltj
          have hone := H1.out j hltj
          have h1 := HLE.out (j + 1) hltj
          have H2 : Hid (nTo N (j + 1) = nTo N j + N j) := Lib.hid rfl
          have H4 : Hid (vTo V (j + 1) = vTo V j ++ V j) := Lib.hid rfl
          rw [H2.out] at h1
          have HST := Lib.hid hst
          have HON := Lib.hid hone
          clear hst hone
          generalize hsj : nTo N j = sj at *
          clear hsj
          generalize vTo V j = vj at *
          generalize V j = Vj at *
          generalize N j = n at *
          generalize As j = pA at *
          generalize C j = pc at *
          go_wp2_with (at_builtin; refine wpList_app _ rfl (.tmp 31) (.tmp 32) 22 rfl w.heap.size 44 3 24 Tryd.underlying22 grant_info (by omega) u6 sj vj rfl hown pA n pc Vj rfl HST.out.1 HST.out.2 HON.out (by unfold maxLen; omega) (by omega) hbel.size ?_; intro v2 w2 ho2 hg2)
          go_roundw
          case rel => exact ⟨j + 1, by omega, by go_num, by rw [H2.out, H4.out]; exact ho2, hbel.grown hg2 hbel.size (fun q hq => (hown.lt q hq).1)⟩
          case measure => simp [intOf]; omega
        · have hjm : j = k := by omega
          have HM' : Hid (wr.ownsRow w.heap.size 44 3 u6 Z (vTo V k)) := Lib.hid (by rw [← HSD.out, ← hjm]; exact hown)
          clear hjm hown
          go_wp2
          go_ret
          exact ⟨u6, rfl, HSD.out.symm ▸ HM'.out, hbel⟩
end Go.Proofs.YtmeafjehcckibaaDoor
/- A token's numbers: their bytes, the HMAC of them; the tag of a grant behind another's. -/
namespace Go.Proofs.YtmeafjehcckibaaDoor
open Go.ChangeShapes Go.WideShapes Go.ChangeAt Go.RowKit
set_option linter.unusedVariables false
open Plain Sha
/-- A grant's numbers. -/
def gN (g : GrantZ) : List Int := [g.r, g.x, g.s]
def InR (x : Int) : Prop := -9223372036854775808 ≤ x ∧ x ≤ 9223372036854775807
theorem gN_in {g : GrantZ} (h : GOk g) : ∀ x ∈ gN g, InR x := by
  intro x hx
  simp only [gN, List.mem_cons, List.not_mem_nil, or_false] at hx
  obtain ⟨h1, h2, h3⟩ := h
  unfold InR
  rcases hx with rfl | rfl | rfl <;> omega
theorem in_getD {xs : List Int} (h : ∀ x ∈ xs, InR x) (j : Nat) (hj : j < xs.length) : InR (xs.getD j 0) := by
  rw [List.getD_eq_getElem?_getD, List.getElem?_eq_getElem hj]
  exact h _ (List.getElem_mem ..)
/-- A row of numbers that has just been made. -/
theorem ns_made (w : World) (xs : List Int) (n : Nat) (hn : xs.length = n) (h : ∀ x ∈ xs, InR x) (t : TypeId) (g : Nat) (hg : w.heap.size = g) : Ns (w.alloc (.cells (ivs xs).toArray t)) (g + 1) (some ⟨g, 0, none⟩) n xs := by
  subst hg hn
  refine ⟨rfl, fun j hj => in_getD h j hj, fun hn => ⟨w.heap.size, 0, rfl, by omega, fun j hj => ?_⟩⟩
  rw [cell_of_row _ _ _ _ _ _ (heap_alloc_new w _), Nat.zero_add, List.getElem?_toArray, ivs_at _ _ hj]
theorem Ns.more {w : World} {B B' n : Nat} {A : Option Addr} {xs : List Int} (h : Ns w B A n xs) (hB : B ≤ B') : Ns w B' A n xs :=
  ⟨h.len, h.rng, fun hn => by
    obtain ⟨b, off, rfl, hb, hc⟩ := h.row hn
    exact ⟨b, off, rfl, by omega, hc⟩⟩
theorem Ns.drew {w : World} {B n : Nat} {A : Option Addr} {xs : List Int} (h : Ns w B A n xs) : Ns w.drew B A n xs := ⟨h.len, h.rng, h.row⟩
theorem Ns.lies {w : World} {B n : Nat} {A : Option Addr} {xs : List Int} (h : Ns w B A n xs) : Lies w 1 A n (ivs xs) ∧ Sourced A n := by
  refine ⟨⟨by rw [ivs_len, h.len]; omega, fun ad hA j u hu => ?_⟩, fun hA => ?_⟩
  · have hj : j < n := by
      have := (List.getElem?_eq_some_iff.1 hu).1
      rw [ivs_len, h.len] at this; exact this
    obtain ⟨b, off, e, _, hc⟩ := h.row (by omega)
    rw [hA] at e; injection e with e; subst e
    rw [ivs_at _ _ (by rw [h.len]; exact hj)] at hu
    injection hu with hu
    rw [Go.WideShapes.add_plain, hc j hj, hu]
  · rcases Nat.eq_zero_or_pos n with h0 | h0
    · exact h0
    · obtain ⟨b, off, e, _⟩ := h.row h0
      rw [hA] at e; cases e
theorem ivs_one (xs : List Int) : ∀ u ∈ ivs xs, u.oneCell' = true := by
  intro u hu
  simp only [ivs, List.mem_map] at hu
  obtain ⟨z, _, rfl⟩ := hu
  rfl
theorem ivs_app (a b : List Int) : ivs (a ++ b) = ivs a ++ ivs b := by simp [ivs]
/-- Every row of its own reads as numbers. -/
theorem ns_of_own {w : World} {base c n : Nat} {t : TypeId} {A : Option Addr} {xs : List Int} (h : w.ownsRow base t 1 (.slice A n c) n (ivs xs)) (hi : ∀ x ∈ xs, InR x) : Ns w w.heap.size A n xs := by
  have hl : xs.length = n := by have := h.1; rw [ivs_len] at this; omega
  refine ⟨hl, fun j hj => in_getD hi j (by omega), fun hn => ?_⟩
  obtain ⟨g, cap, hv, _, hlt⟩ := h.form hn
  have hA : A = some ⟨g, 0, none⟩ := by injection hv
  subst hA
  refine ⟨g, 0, rfl, hlt, fun j hj => ?_⟩
  have := h.cells (g := g) rfl j _ (ivs_at xs j (by omega))
  rwa [← Go.WideShapes.add_plain]
/-- What a call hands back that makes a row of numbers. -/
def Nums (w : World) (xs : List Int) (n : Nat) (e : Ending) (w' : World) : Prop := ∃ D c, e = .returned (.slice D n c) ∧ Ns w' w'.heap.size D n xs ∧ Below w.heap.size w w'
set_option maxRecDepth 100000 in
theorem fields_any (g : GrantZ) (hg : GOk g) (w : World) : Calls Tryd.prog 18 #[.agg #[.int .u8 g.r, .int .i64 g.x, .int .i64 g.s]] w (Nums w (gN g) 3) := by
  have h0 := hg.r
  have HI := Lib.hid (gN_in hg)
  clear hg
  go_enter Tryd.func18, Tryd.ntmps18
  go_wp2
  go_ret
  exact ⟨_, _, rfl, (ns_made (w.alloc (.cells #[.int .u8 g.r, .int .i64 g.x, .int .i64 g.s] 44)) (gN g) 3 rfl HI.out 3 (w.heap.size + 1) (by simp)).more (by simp), ((Below.refl _ _).alloc (Nat.le_refl _) _).alloc (by simp) _⟩
set_option maxRecDepth 100000 in
set_option maxHeartbeats 1000000 in
theorem numbers_any {w : World} {B : Nat} {A : Option Addr} {n : Nat} (c : Nat) {xs : List Int} (h : Ns w B A n xs) (hB : B ≤ w.heap.size) (hn : n ≤ 1000) :
    Calls Tryd.prog 17 #[.slice A n c] w (Made w (numsB xs)) := by
  have HN := Lib.hid h
  have L := Lib.hid h.len
  have own0 := World.ownsRow_nil w w.heap.size 5 1
  clear h
  go_enter Tryd.func17, Tryd.ntmps17
  go_wp2
  go_loopw [3, 8] (fun v i wr => ∃ k : Nat, k ≤ n ∧ i = .int .i64 k ∧ wr.ownsRow w.heap.size 5 1 v (8 * k) (vals (numsB (xs.take k))) ∧ Below w.heap.size w wr) (fun _ i _ => n - (intOf i).toNat)
  case atStart => exact ⟨0, by omega, rfl, by simpa [numsB, vals] using own0, Below.refl _ _⟩
  case round =>
    obtain ⟨k, hk, rfl, hown, hbel⟩ := hrel
    by_cases hlt : k < n
    · obtain ⟨b1, o1, u1, rfl, hb1, HU1, hu1, hu1', hc1⟩ := (HN.out.below hbel hB).at_ (k := k) hlt
      have hlI : (k : Int) < n := by omega
      have HT : Hid (vals (numsB (xs.take (k + 1))) = vals (numsB (xs.take k)) ++ vals (numB u1)) := Lib.hid (by rw [take_snoc_getD _ _ (by rw [L.out]; exact hlt), numsB_snoc, vals_app, HU1.out])
      have OW := Lib.hid hown
      clear hown
      go_wp2_with fail
      refine (put64_any (u1 % 18446744073709551616) (by omega) (by omega) _).mono ?_
      intro e w3 hm3
      obtain ⟨D3, c3, rfl, ho3, hb3, _, _⟩ := hm3.n (n := 8) (putZ_len ..)
      have z3 := Lib.hid (Made.bs ho3 (putZ_bytes _ _))
      have own3 := Lib.hid (own_below OW.out hb3 (Nat.le_refl _))
      have q3 : Below w.heap.size w w3 := hbel.trans (hb3.mono hbel.size)
      have s3 := q3.size
      clear hm3 ho3 hb3 OW
      go_wp2_with (at_builtin; refine wpList_app _ rfl (.tmp 12) (.tmp 15) 27 rfl w.heap.size 5 1 1 Tryd.underlying27 u8_info (by omega) u3 (8 * k) (vals (numsB (xs.take k))) rfl own3.out D3 8 c3 (vals (numB u1)) rfl z3.out.lies.1 z3.out.lies.2 (vals_one _) (by unfold maxLen; omega) (by omega) s3 ?_; intro v4 w4 ho4 hg4)
      have q4 : Below w.heap.size w w4 := q3.grown hg4 s3 (fun j hj => (own3.out.lt j hj).1)
      have own4 : w4.ownsRow w.heap.size 5 1 v4 (8 * (k + 1)) (vals (numsB (xs.take (k + 1)))) := by rw [HT.out]; exact ho4
      clear ho4 hg4
      go_roundw
      case rel => exact ⟨k + 1, by omega, by go_num, own4, q4⟩
      case measure => simp [intOf]; omega
    · have hkn : k = n := by omega
      have HM : Made w (numsB xs) (.returned u3) wr := made_of (n := 8 * k) (by rw [numsB_len, L.out, hkn]) (by rw [hkn, List.take_of_length_le (by rw [L.out]; omega)] at hown; rw [hkn]; exact hown) hbel
      have HM' := Lib.hid HM
      clear HM hkn hown
      go_wp2
      go_ret
      exact HM'.out
/-- The call hands back this tag, and leaves all that was. -/
def TagOut (w : World) (T : List Int) (e : Ending) (w' : World) : Prop := e = .returned (.agg (vals T).toArray) ∧ Below w.heap.size w w'
set_option maxRecDepth 100000 in
set_option maxHeartbeats 1000000 in
theorem sumI_any {w : World} {B1 B2 : Nat} {A1 A2 : Option Addr} {n1 n2 : Nat} (c1 c2 : Nat) {ks xs : List Int} (hk : Bs w B1 A1 n1 ks) (hx : Ns w B2 A2 n2 xs) (hB1 : B1 ≤ w.heap.size) (hB2 : B2 ≤ w.heap.size) (hn1 : n1 ≤ 1000000) (hn2 : n2 ≤ 1000) (hF : LaidF w) (hK : LaidK w) :
    Calls Tryd.prog 41 #[.slice A1 n1 c1, .slice A2 n2 c2] w (TagOut w (hmacZ ks (numsB xs))) := by
  obtain ⟨T, hT⟩ : ∃ T, hmacZ ks (numsB xs) = T := ⟨_, rfl⟩
  have lT : Hid (T.length = 32) := Lib.hid (by rw [← hT]; exact hmacZ_len _ _)
  have HT := Lib.hid hT
  have W1 : Below w.heap.size w (w.alloc (.cells (vals (List.replicate 32 0)).toArray 24)) := (Below.refl _ _).alloc (Nat.le_refl _) _
  have C1 := Lib.hid (numbers_any (w := w.alloc (.cells (vals (List.replicate 32 0)).toArray 24)) c2 (hx.below W1 hB2) (by simp; omega) hn2)
  have G1 : Hid ((w.alloc (.cells (vals (List.replicate 32 0)).toArray 24)).there w.heap.size 0 32) := Lib.hid (by simpa using (Row8.new w (List.replicate 32 0) 24).there)
  have HW1 := Lib.hid W1
  have LN : Hid ((numsB xs).length = 8 * n2) := Lib.hid (by rw [numsB_len, hx.len])
  have HKEY := Lib.hid hk
  have HF := Lib.hid hF
  have HK := Lib.hid hK
  clear hT hk hx hF hK W1
  rw [HT.out]
  go_enter Tryd.func41, Tryd.ntmps41
  go_wp2_with fail
  refine C1.out.mono ?_
  intro e w2 hm2
  obtain ⟨D2, d2, rfl, ho2, hb2, _, _⟩ := hm2.n LN.out
  have q2 : Hid (Below w.heap.size w w2) := Lib.hid (HW1.out.trans (hb2.mono (by simp)))
  have z2 := Lib.hid (Made.bs ho2 (numsB_bytes _))
  have g2 := Lib.hid (there_same G1.out (hb2.block _ (by simp)))
  have s2 : w.heap.size < w2.heap.size := Nat.lt_of_lt_of_le (by simp) hb2.size
  clear hm2 ho2 hb2 C1
  go_wp2_with fail
  refine (hsum_any c1 d2 (HKEY.out.belowM q2.out hB1) z2.out (Nat.le_trans hB1 q2.out.size) (Nat.le_refl _) hn1 (by omega) (HF.out.below q2.out HF.out.lt) (HK.out.below q2.out HK.out.lt)).mono ?_
  rw [HT.out]
  rintro e w3 ⟨rfl, b3⟩
  have q3 := Lib.hid (q2.out.trans (b3.mono q2.out.size))
  have g3 := Lib.hid (there_same g2.out (b3.block _ s2))
  have hl32 : (vals T).length = 32 := by rw [vals_len, lT.out]
  have e32 : (vals T).toArray.size = 32 := by rw [List.size_toArray, hl32]
  have g4 : Hid (w3.there w.heap.size 0 (vals T).toArray.size) := Lib.hid (by rw [e32]; exact g3.out)
  have g5 : Hid (w3.there w.heap.size 0 (vals T).length) := Lib.hid (by rw [hl32]; exact g3.out)
  have G := lT
  clear b3 z2 q2 g2 hl32 e32
  go_wp2_with (have g := G; clear g; refine wpList_store_as (op := ⟨none, .store 24 (.tmp 4) (.tmp 8), _, _, _, _⟩) rfl 24 (.tmp 4) (.tmp 8) rfl w.heap.size 0 (vals T).toArray rfl rfl g4.out (tag_size T lT.out) (all_oneCell_toArray (vals_one T)) ?_; intro w4 hw4; clear G)
  have R4 : w4.rangeAt w.heap.size 0 (vals T) := by rw [hw4.out]; exact World.rangeAt_setCells_same _ _ _ _ g5.out
  have q4 : Below w.heap.size w w4 := by rw [hw4.out]; exact below_setCells (Nat.le_refl _) _ _ _ q3.out
  exact bodyPost_ret (v := .agg (vals T).toArray) (results_mid (p := 4) (ty := 24) rfl _ _ w.heap.size 0 (vals T) _ rfl R4 Tryd.underlying24 rfl (tag_size T lT.out)) rfl ⟨rfl, q4⟩
/-- The tag of a grant behind the tag ahead. -/
def nextZ (T : List Int) (g : GrantZ) : List Int := hmacZ T (numsB (gN g))
end Go.Proofs.YtmeafjehcckibaaDoor
/- The tag of a grant behind the tag ahead. -/
namespace Go.Proofs.YtmeafjehcckibaaDoor
open Go.ChangeShapes Go.WideShapes Go.ChangeAt Go.RowKit
set_option linter.unusedVariables false
open Plain Sha
theorem nextZ_len (T : List Int) (g : GrantZ) : (nextZ T g).length = 32 := hmacZ_len _ _
theorem nextZ_bytes (T : List Int) (g : GrantZ) : IsBytes (nextZ T g) := hmacZ_bytes _ _
/-- A new tag's cells. -/
theorem z32 : (#[.int .u8 0, .int .u8 0, .int .u8 0, .int .u8 0, .int .u8 0, .int .u8 0, .int .u8 0, .int .u8 0, .int .u8 0, .int .u8 0, .int .u8 0, .int .u8 0, .int .u8 0, .int .u8 0, .int .u8 0, .int .u8 0, .int .u8 0, .int .u8 0, .int .u8 0, .int .u8 0, .int .u8 0, .int .u8 0, .int .u8 0, .int .u8 0, .int .u8 0, .int .u8 0, .int .u8 0, .int .u8 0, .int .u8 0, .int .u8 0, .int .u8 0, .int .u8 0] : Array Value) = (vals (List.replicate 32 0)).toArray := rfl
set_option maxRecDepth 100000 in
set_option maxHeartbeats 4000000 in
theorem next_any {w : World} {T : List Int} {g : GrantZ} (hT : T.length = 32) (bT : IsBytes T) (hg : GOk g) (hF : LaidF w) (hK : LaidK w) :
    Calls Tryd.prog 34 #[.agg (vals T).toArray, .agg #[.int .u8 g.r, .int .i64 g.x, .int .i64 g.s]] w (TagOut w (nextZ T g)) := by
  obtain ⟨N, hN⟩ : ∃ N, nextZ T g = N := ⟨_, rfl⟩
  have lN : Hid (N.length = 32) := Lib.hid (by rw [← hN]; exact nextZ_len _ _)
  have HN := Lib.hid hN
  obtain ⟨W3, hW3⟩ : ∃ W, W = ((w.alloc (.cells (vals T).toArray 24)).alloc (.cells #[.int .u8 g.r, .int .i64 g.x, .int .i64 g.s] 44)).alloc (.cells (vals (List.replicate 32 0)).toArray 24) := ⟨_, rfl⟩
  have s3 : W3.heap.size = w.heap.size + 3 := by rw [hW3]; simp
  have b3 : Below w.heap.size w W3 := by rw [hW3]; exact (((Below.refl _ _).alloc (Nat.le_refl _) _).alloc (by simp) _).alloc (by simp; omega) _
  have z3 : Bs W3 W3.heap.size (some ⟨w.heap.size, 0, none⟩) 32 T := by
    rw [hW3]
    exact (((bs_new w T 32 hT bT 24 _ rfl).alloc (by simp) _).alloc (by simp) _).more (by simp)
  have cg : ∀ i u, (gCells g)[i]? = some u → W3.cell? ⟨w.heap.size + 1, i, none⟩ = some u := fun i u hu => by
    rw [hW3, World.cell?_alloc_lt _ _ _ (by simp)]
    have := heap_alloc_new (w.alloc (.cells (vals T).toArray 24)) (.cells #[.int .u8 g.r, .int .i64 g.x, .int .i64 g.s] 44)
    rw [show (w.alloc (.cells (vals T).toArray 24)).heap.size = w.heap.size + 1 by simp] at this
    rw [cell_of_row _ _ _ _ _ _ this]
    simpa [gCells] using hu
  have t3 : W3.there (w.heap.size + 2) 0 32 := by
    have := (Row8.new ((w.alloc (.cells (vals T).toArray 24)).alloc (.cells #[.int .u8 g.r, .int .i64 g.x, .int .i64 g.s] 44)) (List.replicate 32 0) 24).there
    rw [show ((w.alloc (.cells (vals T).toArray 24)).alloc (.cells #[.int .u8 g.r, .int .i64 g.x, .int .i64 g.s] 44)).heap.size = w.heap.size + 2 by simp] at this
    rw [hW3]; simpa using this
  have HC : Hid (∀ W, Below W3.heap.size W3 W → W.cell? ⟨w.heap.size + 1, 0, none⟩ = some (.int .u8 g.r) ∧ W.cell? ⟨w.heap.size + 1, 1, none⟩ = some (.int .i64 g.x) ∧ W.cell? ⟨w.heap.size + 1, 2, none⟩ = some (.int .i64 g.s) ∧ W.there (w.heap.size + 2) 0 32) := Lib.hid (fun W hW =>
    ⟨(hW.cell (p := ⟨w.heap.size + 1, 0, none⟩) (by show w.heap.size + 1 < _; omega)).trans (cg 0 _ rfl), (hW.cell (p := ⟨w.heap.size + 1, 1, none⟩) (by show w.heap.size + 1 < _; omega)).trans (cg 1 _ rfl), (hW.cell (p := ⟨w.heap.size + 1, 2, none⟩) (by show w.heap.size + 1 < _; omega)).trans (cg 2 _ rfl), there_same t3 (hW.block _ (by omega))⟩)
  have B3 := Lib.hid b3
  have Z3 := Lib.hid z3
  have HG := Lib.hid hg
  have HF3 := Lib.hid (hF.below b3 hF.lt)
  have HK3 := Lib.hid (hK.below b3 hK.lt)
  have HW3 := Lib.hid hW3
  have s4 : w.heap.size + 2 < W3.heap.size := by omega
  clear hN hT bT hg hF hK hW3 b3 z3 cg t3 s3
  rw [HN.out]
  go_enter Tryd.func34, Tryd.ntmps34
  go_wp2
  simp only [z32]
  rw [← HW3.out]
  have hu := Tryd.underlying24
  have hi := tag_size N lN.out
  have hl32 : (vals N).length = 32 := by rw [vals_len, lN.out]
  have h1c := vals_one N
  go_region_held3 (fun W => W.cell? ⟨w.heap.size + 1, 0, none⟩ = some (.int .u8 g.r) ∧ W.cell? ⟨w.heap.size + 1, 1, none⟩ = some (.int .i64 g.x) ∧ W.cell? ⟨w.heap.size + 1, 2, none⟩ = some (.int .i64 g.s) ∧ W.there (w.heap.size + 2) 0 32)
    (first
      | (exact HC.out _ (Below.refl _ _).drew)
      | (exact ⟨(World.cell?_setCells_out _ _ _ _ _ (fun h => absurd h (by simp))).trans (HC.out _ B5.out).1, (World.cell?_setCells_out _ _ _ _ _ (fun h => absurd h (by simp))).trans (HC.out _ B5.out).2.1, (World.cell?_setCells_out _ _ _ _ _ (fun h => absurd h (by simp))).trans (HC.out _ B5.out).2.2.1, World.there_setCells (HC.out _ B5.out).2.2.2 _ _ _⟩)
      | (exact HC.out _ B5.out)
      | (exact HC.out _ B4.out))
    ((first
      | (go_at_call 18; refine (fields_any g HG.out _).mono ?_; rintro e w4 ⟨D4, c4, rfl, n4, b4⟩; have B4 : Hid (Below W3.heap.size W3 w4) := Lib.hid ((Below.refl _ _).drew.trans b4); have N4 := Lib.hid n4; clear n4 b4)
      | (go_at_call 41; refine (sumI_any 32 c4 (Z3.out.below B4.out) N4.out B4.out.size (Nat.le_refl _) (by omega) (by omega) (HF3.out.below B4.out HF3.out.lt) (HK3.out.below B4.out HK3.out.lt)).mono ?_; rw [show hmacZ T (numsB (gN g)) = N from HN.out]; rintro e w5 ⟨rfl, b5⟩; have B5 : Hid (Below W3.heap.size W3 w5) := Lib.hid (B4.out.trans (b5.mono B4.out.size)); clear b5)))
  have g6 := (HC.out _ B5.out).2.2.2
  have R6 := Lib.hid (World.rangeAt_setCells_same w5 (w.heap.size + 2) 0 (vals N) (by rw [hl32]; exact g6))
  have q6 := Lib.hid (below_setCells (B := w.heap.size) (b := w.heap.size + 2) (by omega) (vals N) 0 w5 (B3.out.trans (B5.out.mono (by omega))))
  have hi' := Lib.hid hi
  clear hi hu hl32 h1c g6
  go_wp2
  exact bodyPost_ret (v := .agg (vals N).toArray) (results_mid (p := 4) (ty := 24) rfl _ _ (w.heap.size + 2) 0 (vals N) _ rfl R6.out Tryd.underlying24 rfl hi'.out) rfl ⟨rfl, q6.out⟩
end Go.Proofs.YtmeafjehcckibaaDoor
/- Tokens as values: what they read, the variables that hold them; which may be. -/
namespace Go.Proofs.YtmeafjehcckibaaDoor
open Go.ChangeShapes Go.WideShapes Go.ChangeAt Go.RowKit
set_option linter.unusedVariables false
open Plain Sha
structure TokZ where
  tn : Int
  A : Option Addr
  m : Nat
  c : Nat
  T : List Int
def tv (t : TokZ) : List Value := .int .i64 t.tn :: .slice t.A t.m t.c :: vals t.T
/-- In world w the token has the line l, which lies below block B. -/
structure Tok (w : World) (B : Nat) (t : TokZ) (l : List GrantZ) : Prop where
  len : t.T.length = 32
  bytes : IsBytes t.T
  tn : InR t.tn
  line : Grants w B t.A t.m l
  mc : t.m ≤ t.c
  cm : t.c ≤ maxLen
section
variable {w w' : World} {B B' b : Nat} {t : TokZ} {l : List GrantZ}
theorem Tok.below (h : Tok w B t l) (hb : Below B w w') : Tok w' B t l := ⟨h.len, h.bytes, h.tn, h.line.below hb, h.mc, h.cm⟩
theorem Tok.belowM (h : Tok w B t l) (hb : Below B' w w') (hB : B ≤ B') : Tok w' B t l := h.below (hb.mono hB)
theorem Tok.more (h : Tok w B t l) (hB : B ≤ B') : Tok w B' t l := ⟨h.len, h.bytes, h.tn, h.line.more hB, h.mc, h.cm⟩
theorem tv_len (h : t.T.length = 32) : (tv t).length = 34 := by simp [tv, vals_len, h]
theorem tv_one (t : TokZ) : ∀ u ∈ tv t, u.oneCell' = true := by
  intro u hu
  simp only [tv, List.mem_cons] at hu
  rcases hu with rfl | rfl | hu
  · rfl
  · rfl
  · exact vals_one _ u hu
theorem tok_size (h : t.T.length = 32) : (Tryd.prog.info? 26).map (·.size) = some (tv t).length := by rw [tv_len h]; kernel_rfl
theorem tok_sizeA (h : t.T.length = 32) : (Tryd.prog.info? 26).map (·.size) = some (tv t).toArray.size := by rw [List.size_toArray]; exact tok_size h
/-- Block b holds the token t from its head on, and may be written. -/
structure Box (w : World) (b : Nat) (t : TokZ) : Prop where
  range : w.rangeAt b 0 (tv t)
  there : w.there b 0 34
  len : t.T.length = 32
theorem Box.same (h : Box w b t) (e : w'.heap[b]? = w.heap[b]?) : Box w' b t := ⟨rangeAt_same h.range e, there_same h.there e, h.len⟩
theorem Box.c0 (h : Box w b t) : w.cell? ⟨b, 0, none⟩ = some (.int .i64 t.tn) := by have := h.range 0 _ rfl; rwa [Nat.zero_add] at this
theorem Box.c1 (h : Box w b t) : w.cell? ⟨b, 1, none⟩ = some (.slice t.A t.m t.c) := by have := h.range 1 _ rfl; rwa [Nat.zero_add] at this
theorem Box.lt (h : Box w b t) : b < w.heap.size := World.block_lt_of_cell? _ _ h.c0
theorem Box.below (h : Box w b t) (hb : Below B w w') (hB : b < B) : Box w' b t := h.same (hb.block b hB)
theorem Box.grow (h : Box w b t) (hb : Below w.heap.size w w') : Box w' b t := h.below hb h.lt
theorem Box.tag (h : Box w b t) : w.rangeAt b 2 (vals t.T) := fun j v hv => by
  have := h.range (2 + j) v (by rw [Nat.add_comm 2 j]; exact hv)
  rwa [Nat.zero_add] at this
theorem Box.tagThere (h : Box w b t) : w.there b 2 32 := there_sub h.there (by omega) (by omega)
theorem Box.bs (h : Box w b t) (hb : IsBytes t.T) (hB : b < B) : Bs w B (some ⟨b, 2, none⟩) 32 t.T :=
  ⟨h.len, fun j hj => hb j (by rw [h.len]; exact hj), fun _ => ⟨b, 2, rfl, hB, fun j hj => h.tag j _ (vals_at _ j (by rw [h.len]; exact hj))⟩⟩
theorem Box.thereA (h : Box w b t) {u : TokZ} (hu : u.T.length = 32) : w.there b 0 (tv u).toArray.size := by rw [List.size_toArray, tv_len hu]; exact h.there
/-- The variable of an argument, a new one. -/
theorem box_new (w : World) (t : TokZ) (ht : t.T.length = 32) (y : TypeId) (g : Nat) (hg : w.heap.size = g) : Box (w.alloc (.cells (tv t).toArray y)) g t := by
  subst hg
  have e := heap_alloc_new w (.cells (tv t).toArray y)
  refine ⟨fun j v hv => ?_, fun j hj => ⟨?_, frozen_of_row _ _ _ _ _ e⟩, ht⟩
  · rw [cell_of_row _ _ _ _ _ _ e, Nat.zero_add, List.getElem?_toArray, hv]
  · rw [cell_of_row _ _ _ _ _ _ e, Nat.zero_add, List.getElem?_toArray, List.getElem?_eq_getElem (by rw [tv_len ht]; exact hj)]; rfl
/-- Another token is stored into the variable. -/
theorem Box.store (h : Box w b t) {u : TokZ} (hu : u.T.length = 32) : Box (w.setCells b 0 (tv u)) b u :=
  ⟨World.rangeAt_setCells_same _ _ _ _ (by rw [tv_len hu]; exact h.there), World.there_setCells h.there _ _ _, hu⟩
theorem Box.far (h : Box w b t) {b' : Nat} (hb : b' ≠ b) (o : Nat) (vs : List Value) : Box (w.setCells b' o vs) b t := h.same (heap_setCells b' b (fun e => hb e.symm) vs o w)
theorem Box.farC (h : Box w b t) {p : Addr} (hb : p.block ≠ b) (v : Value) : Box (w.setCell p v) b t := h.same (Below.heap_setCell w p v b (fun e => hb e.symm))
/-- Another tag is stored into it. -/
theorem Box.setTag (h : Box w b t) {T : List Int} (hT : T.length = 32) : Box (w.setCells b 2 (vals T)) b { t with T := T } := by
  have hl : (vals T).length = 32 := by rw [vals_len, hT]
  refine ⟨fun j v hv => ?_, World.there_setCells h.there _ _ _, hT⟩
  match j, hv with
  | 0, hv =>
    rw [World.cell?_setCells_out b (vals T) 2 w ⟨b, 0 + 0, none⟩ (fun _ _ => .inl (by show 0 + 0 < 2; omega))]
    exact h.range 0 v hv
  | 1, hv =>
    rw [World.cell?_setCells_out b (vals T) 2 w ⟨b, 0 + 1, none⟩ (fun _ _ => .inl (by show 0 + 1 < 2; omega))]
    exact h.range 1 v hv
  | j + 2, hv =>
    have := World.rangeAt_setCells_same w b 2 (vals T) (by rw [hl]; exact h.tagThere) j v hv
    rwa [show 0 + (j + 2) = 2 + j from by omega]
/-- Another line, another tenant. -/
theorem Box.setLine (h : Box w b t) (A : Option Addr) (m c : Nat) : Box (w.setCell ⟨b, 1, none⟩ (.slice A m c)) b { t with A := A, m := m, c := c } := by
  refine ⟨fun j v hv => ?_, fun j hj => ?_, h.len⟩
  · by_cases e : j = 1
    · subst e
      injection hv with hv
      rw [Nat.zero_add, World.cell?_setCell_same w ⟨b, 1, none⟩ _ h.c1, ← hv]
    · rw [World.cell?_setCell_other w _ _ _ (fun q => e (by injection q with _ q; omega))]
      refine h.range j v ?_
      match j, hv, e with
      | 0, hv, _ => exact hv
      | 1, _, e => exact absurd rfl e
      | j + 2, hv, _ => exact hv
  · rw [World.frozen?_setCell]
    refine ⟨?_, (h.there j hj).2⟩
    by_cases e : j = 1
    · subst e; rw [Nat.zero_add, World.cell?_setCell_same w ⟨b, 1, none⟩ _ h.c1]; rfl
    · rw [World.cell?_setCell_other w _ _ _ (fun q => e (by injection q with _ q; omega))]; exact (h.there j hj).1
theorem Box.setTn (h : Box w b t) (n : Int) : Box (w.setCell ⟨b, 0, none⟩ (.int .i64 n)) b { t with tn := n } := by
  refine ⟨fun j v hv => ?_, fun j hj => ?_, h.len⟩
  · by_cases e : j = 0
    · subst e
      injection hv with hv
      rw [Nat.zero_add, World.cell?_setCell_same w ⟨b, 0, none⟩ _ h.c0, ← hv]
    · rw [World.cell?_setCell_other w _ _ _ (fun q => e (by injection q with _ q; omega))]
      refine h.range j v ?_
      match j, hv, e with
      | 0, _, e => exact absurd rfl e
      | j + 1, hv, _ => exact hv
  · rw [World.frozen?_setCell]
    refine ⟨?_, (h.there j hj).2⟩
    by_cases e : j = 0
    · subst e; rw [Nat.zero_add, World.cell?_setCell_same w ⟨b, 0, none⟩ _ h.c0]; rfl
    · rw [World.cell?_setCell_other w _ _ _ (fun q => e (by injection q with _ q; omega))]; exact (h.there j hj).1
end
def tok0 : TokZ := ⟨0, none, 0, 0, List.replicate 32 0⟩
/-- A new variable's cells. -/
theorem zTok : (#[.int .i64 0, .slice none 0 0, .int .u8 0, .int .u8 0, .int .u8 0, .int .u8 0, .int .u8 0, .int .u8 0, .int .u8 0, .int .u8 0, .int .u8 0, .int .u8 0, .int .u8 0, .int .u8 0, .int .u8 0, .int .u8 0, .int .u8 0, .int .u8 0, .int .u8 0, .int .u8 0, .int .u8 0, .int .u8 0, .int .u8 0, .int .u8 0, .int .u8 0, .int .u8 0, .int .u8 0, .int .u8 0, .int .u8 0, .int .u8 0, .int .u8 0, .int .u8 0, .int .u8 0, .int .u8 0] : Array Value) = (tv tok0).toArray := rfl
/-- Whether a token may be. -/
def mayT (tn : Int) (l : List GrantZ) : Bool := decide (0 ≤ tn) && decide (tn ≤ 8) && lineB l
set_option maxRecDepth 100000 in
set_option maxHeartbeats 1000000 in
theorem tmay_any {w : World} {B : Nat} {t : TokZ} {l : List GrantZ} (h : Tok w B t l) (hB : B ≤ w.heap.size) : Calls Tryd.prog 16 #[.agg (tv t).toArray] w (fun e w' => e = .returned (.bool (mayT t.tn l)) ∧ Below w.heap.size w w') := by
  obtain ⟨W1, hW1⟩ : ∃ W, W = w.alloc (.cells (tv t).toArray 26) := ⟨_, rfl⟩
  have b1 : Below w.heap.size w W1 := by rw [hW1]; exact (Below.refl _ _).alloc (Nat.le_refl _) _
  have x1 : Box W1 w.heap.size t := by rw [hW1]; exact box_new w t h.len _ _ rfl
  have c0 := x1.c0
  have c1 := x1.c1
  obtain ⟨q, hq⟩ : ∃ q, lineB l = q := ⟨_, rfl⟩
  have HQ := Lib.hid hq
  have hcm : t.m ≤ maxLen := Nat.le_trans h.mc h.cm
  have HG := Lib.hid (h.line.belowM b1 hB)
  have HM := Lib.hid hcm
  have HB := Lib.hid hB
  have B1 := Lib.hid b1
  have HW1 := Lib.hid hW1
  have ht : Hid (mayT t.tn l = (decide (0 ≤ t.tn) && decide (t.tn ≤ 8) && q)) := Lib.hid (by unfold mayT; rw [hq])
  clear hq h hB b1 hW1 x1 hcm
  rw [ht.out]
  generalize tv t = V at *
  generalize t.tn = tn at *
  generalize t.A = A at *
  generalize t.m = m at *
  generalize t.c = c at *
  clear ht
  by_cases h1 : 0 ≤ tn
  · by_cases h2 : tn ≤ 8
    · have HD : Hid ((decide (0 ≤ tn) && decide (tn ≤ 8) && q) = q) := Lib.hid (by rw [decide_eq_true h1, decide_eq_true h2]; rfl)
      rw [HD.out]
      go_enter Tryd.func16, Tryd.ntmps16
      go_upto_region 1 with fail
      rw [← HW1.out]
      go_wp2_with (go_at_call 28; refine (line_val c _ HG.out (Nat.le_trans HB.out B1.out.size) HM.out HQ.out).mono ?_; rintro e w2 ⟨rfl, hb2⟩)
      go_ret
      cases q <;> exact ⟨rfl, B1.out.trans (hb2.mono B1.out.size)⟩
    · have HD : Hid ((decide (0 ≤ tn) && decide (tn ≤ 8) && q) = false) := Lib.hid (by rw [decide_eq_false h2]; simp)
      rw [HD.out]
      go_enter Tryd.func16, Tryd.ntmps16
      go_upto_region 1 with fail
      rw [← HW1.out]
      go_wp2
      go_ret
      exact ⟨rfl, B1.out⟩
  · have HD : Hid ((decide (0 ≤ tn) && decide (tn ≤ 8) && q) = false) := Lib.hid (by rw [decide_eq_false h1]; simp)
    rw [HD.out]
    go_enter Tryd.func16, Tryd.ntmps16
    go_upto_region 1 with fail
    rw [← HW1.out]
    go_wp2
    go_ret
    exact ⟨rfl, B1.out⟩
theorem tmay_val {w : World} {B : Nat} {t : TokZ} {l : List GrantZ} (q : Bool) (h : Tok w B t l) (hB : B ≤ w.heap.size) (hq : mayT t.tn l = q) : Calls Tryd.prog 16 #[.agg (tv t).toArray] w (fun e w' => e = .returned (.bool q) ∧ Below w.heap.size w w') := by
  subst hq
  exact tmay_any h hB
end Go.Proofs.YtmeafjehcckibaaDoor
/- The tag under a key of a token that may be. -/
namespace Go.Proofs.YtmeafjehcckibaaDoor
open Go.ChangeShapes Go.WideShapes Go.ChangeAt Go.RowKit
set_option linter.unusedVariables false
open Plain Sha
/-- A token's tag under a key. -/
def tokTag (ks : List Int) (tn : Int) : List GrantZ → List Int
  | [] => List.replicate 32 0
  | g :: l => l.foldl nextZ (hmacZ ks (numsB (tn :: gN g)))
theorem fold_len (l : List GrantZ) : ∀ T : List Int, T.length = 32 → (l.foldl nextZ T).length = 32 := by
  induction l with
  | nil => intro T h; exact h
  | cons g l ih => intro T _; exact ih _ (nextZ_len _ _)
theorem fold_bytes (l : List GrantZ) : ∀ T : List Int, IsBytes T → IsBytes (l.foldl nextZ T) := by
  induction l with
  | nil => intro T h; exact h
  | cons g l ih => intro T _; exact ih _ (nextZ_bytes _ _)
theorem tokTag_len (ks : List Int) (tn : Int) (l : List GrantZ) : (tokTag ks tn l).length = 32 := by
  cases l with
  | nil => exact List.length_replicate ..
  | cons g l => exact fold_len l _ (hmacZ_len _ _)
theorem tokTag_bytes (ks : List Int) (tn : Int) (l : List GrantZ) : IsBytes (tokTag ks tn l) := by
  cases l with
  | nil => exact rep_bytes 32 0 (by omega) (by omega)
  | cons g l => exact fold_bytes l _ (hmacZ_bytes _ _)
/-- Facts that stand whatever grows. -/
def sfNs (n : Nat) (xs : List Int) : SF := ⟨fun v w => ∃ D c, v = .slice D n c ∧ Ns w w.heap.size D n xs, fun v w w' ⟨D, c, e, h⟩ hb => by
  have := h.below hb (Nat.le_refl _)
  exact ⟨D, c, e, this.more hb.size⟩⟩
def sfTag (T : List Int) : SF := ⟨fun v _ => v = .agg (vals T).toArray, fun _ _ _ h _ => h⟩
/-- A variable for a tag, a new one behind block B. -/
def sfVarT (B : Nat) : SF := ⟨fun v w => ∃ b, v = .pointer (some ⟨b, 0, none⟩) ∧ B ≤ b ∧ b < w.heap.size ∧ w.there b 0 32, fun v w w' ⟨b, e, h1, h2, h3⟩ hb => ⟨b, e, h1, Nat.lt_of_lt_of_le h2 hb.size, there_same h3 (hb.block b h2)⟩⟩
/-- Two rows of numbers, as a list of lists. -/
def sfTwoI (n1 n2 : Nat) (xs1 xs2 : List Int) : SF := ⟨fun v w => ∃ b c D1 c1 D2 c2, v = .slice (some ⟨b, 0, none⟩) 2 c ∧ b < w.heap.size ∧ w.cell? ⟨b, 0, none⟩ = some (.slice D1 n1 c1) ∧ w.cell? ⟨b, 1, none⟩ = some (.slice D2 n2 c2) ∧ Ns w w.heap.size D1 n1 xs1 ∧ Ns w w.heap.size D2 n2 xs2,
  fun v w w' ⟨b, c, D1, c1, D2, c2, e, h1, h2, h3, h4, h5⟩ hb => ⟨b, c, D1, c1, D2, c2, e, Nat.lt_of_lt_of_le h1 hb.size, (hb.cell (p := ⟨b, 0, none⟩) h1).trans h2, (hb.cell (p := ⟨b, 1, none⟩) h1).trans h3, (h4.below hb (Nat.le_refl _)).more hb.size, (h5.below hb (Nat.le_refl _)).more hb.size⟩⟩
theorem sfNs_of {n : Nat} {xs : List Int} {D : Option Addr} {c : Nat} {w : World} (h : Ns w w.heap.size D n xs) : (sfNs n xs).F (.slice D n c) w := ⟨D, c, rfl, h⟩
theorem sfTag_of (T : List Int) (w : World) : (sfTag T).F (.agg (vals T).toArray) w := rfl
theorem sfVarT_new {B : Nat} (w : World) (hB : B ≤ w.heap.size) (t : TypeId) : (sfVarT B).F (.pointer (some ⟨w.heap.size, 0, none⟩)) (w.alloc (.cells (vals (List.replicate 32 0)).toArray t)) :=
  ⟨_, rfl, hB, by simp, by simpa using (Row8.new w (List.replicate 32 0) t).there⟩
theorem sfTwoI_new {n1 n2 : Nat} {xs1 xs2 : List Int} {D1 D2 : Option Addr} {c1 c2 c : Nat} (w : World) (h1 : Ns w w.heap.size D1 n1 xs1) (h2 : Ns w w.heap.size D2 n2 xs2) (t : TypeId) :
    (sfTwoI n1 n2 xs1 xs2).F (.slice (some ⟨w.heap.size, 0, none⟩) 2 c) (w.alloc (.cells #[.slice D1 n1 c1, .slice D2 n2 c2] t)) := by
  have hb : Below w.heap.size w (w.alloc (.cells #[.slice D1 n1 c1, .slice D2 n2 c2] t)) := (Below.refl _ _).alloc (Nat.le_refl _) _
  have e := heap_alloc_new w (.cells #[.slice D1 n1 c1, .slice D2 n2 c2] t)
  exact ⟨_, _, D1, c1, D2, c2, rfl, by simp, by rw [cell_of_row _ _ _ _ _ _ e]; rfl, by rw [cell_of_row _ _ _ _ _ _ e]; rfl, (h1.below hb (Nat.le_refl _)).more (by simp), (h2.below hb (Nat.le_refl _)).more (by simp)⟩
theorem concat2I {n1 n2 b : Nat} {D1 D2 : Option Addr} {c1 c2 : Nat} {xs1 xs2 : List Int} (c : Nat) {w : World} (hb : b < w.heap.size) (h1 : w.cell? ⟨b, 0, none⟩ = some (.slice D1 n1 c1)) (h2 : w.cell? ⟨b, 1, none⟩ = some (.slice D2 n2 c2)) (g1 : Ns w w.heap.size D1 n1 xs1) (g2 : Ns w w.heap.size D2 n2 xs2) (hn : n1 + n2 ≤ 4096) :
    Calls Tryd.prog 42 #[.slice (some ⟨b, 0, none⟩) 2 c] w (Nums w (xs1 ++ xs2) (n1 + n2)) := by
  have := concatI_any (w := w) (b := b) (m := 2) (As := fun j => if j = 0 then D1 else D2) (N := fun j => if j = 0 then n1 else n2) (C := fun j => if j = 0 then c1 else c2) (V := fun j => if j = 0 then ivs xs1 else ivs xs2) c
    (fun W hW j hj => by
      match j, hj with
      | 0, _ => exact (hW.cell (p := ⟨b, 0, none⟩) hb).trans h1
      | 1, _ => exact (hW.cell (p := ⟨b, 1, none⟩) hb).trans h2)
    (fun W hW j hj => by
      match j, hj with
      | 0, _ => exact (g1.below hW (Nat.le_refl _)).lies
      | 1, _ => exact (g2.below hW (Nat.le_refl _)).lies)
    (fun j hj => by
      match j, hj with
      | 0, _ => exact ivs_one xs1
      | 1, _ => exact ivs_one xs2)
    (by omega) (by simp [nTo]; omega)
  refine this.mono ?_
  rintro e w' ⟨v, rfl, ho, hb'⟩
  have e1 : vTo (fun j => if j = 0 then ivs xs1 else ivs xs2) 2 = ivs (xs1 ++ xs2) := by rw [ivs_app]; simp [vTo]
  have e2 : nTo (fun j => if j = 0 then n1 else n2) 2 = n1 + n2 := by simp [nTo]
  rw [e1, e2] at ho
  obtain ⟨D, d, rfl, _, _⟩ := own_shape ho
  refine ⟨D, d, rfl, ns_of_own ho (fun x hx => ?_), hb'⟩
  have key : ∀ {A : Option Addr} {n : Nat} {xs : List Int}, Ns w w.heap.size A n xs → ∀ x ∈ xs, InR x := fun h x hx => by
    obtain ⟨j, hj, rfl⟩ := List.mem_iff_getElem.1 hx
    have := h.rng j (by rw [← h.len]; exact hj)
    rw [List.getD_eq_getElem?_getD, List.getElem?_eq_getElem hj] at this
    exact this
  rcases List.mem_append.1 hx with hx | hx
  · exact key g1 x hx
  · exact key g2 x hx
theorem cutG_l (A : Option Addr) (n c lo : Nat) (l : Int) (hl : l = lo) (h1 : lo ≤ n) (h2 : n ≤ c) :
    ∀ W, (Instr.slice 22 (.slice A n c) (some (.int .i64 l)) none none).run Tryd.prog W = .ok (.slice (if c = lo then A else A.map (·.add (lo * 3))) (n - lo) (c - lo)) W := by
  subst hl
  intro W
  have he : Tryd.prog.elem 22 = 44 := by simp [Program.elem, Tryd.underlying22]
  rw [run_slice_l W 22 A n c (by rw [he]; exact Tryd.underlying22) .i64 _ (by omega) (by omega), he, sizeG]
  simp [Result.andThen, sliced]
/-- A line without its first grant. -/
theorem Grants.tail {w : World} {B n : Nat} {A : Option Addr} {g : GrantZ} {l : List GrantZ} (h : Grants w B A (n + 1) (g :: l)) (c : Nat) (hc : n + 1 ≤ c) : Grants w B (if c = 1 then A else A.map (·.add (1 * 3))) n l := by
  refine ⟨by have := h.len; simpa using this, fun hn => ?_, fun x hx => h.ok x (List.mem_cons_of_mem _ hx)⟩
  obtain ⟨b, off, rfl, hb, hcells⟩ := h.row (by omega)
  refine ⟨b, off + 3, ?_, hb, fun i u hu => ?_⟩
  · rw [if_neg (by omega)]; simp [Go.WideShapes.add_plain]
  · have := hcells (3 + i) u (by rw [show 3 + i = i + 1 + 1 + 1 by omega]; exact hu)
    rwa [← Nat.add_assoc] at this
set_option maxRecDepth 100000 in
set_option maxHeartbeats 4000000 in
theorem tagged_any {w : World} {B1 B2 n1 : Nat} {A1 : Option Addr} (c1 : Nat) {ks : List Int} {t : TokZ} {l : List GrantZ} (hk : Bs w B1 A1 n1 ks) (h : Tok w B2 t l) (hB1 : B1 ≤ w.heap.size) (hB2 : B2 ≤ w.heap.size) (h0 : 0 < t.m) (hm : t.m ≤ 4096) (hn1 : n1 ≤ 1000000) (hF : LaidF w) (hK : LaidK w) :
    Calls Tryd.prog 31 #[.slice A1 n1 c1, .agg (tv t).toArray] w (TagOut w (tokTag ks t.tn l)) := by
  obtain ⟨tn, A, m, c, T⟩ := t
  simp only at h0 hm ⊢
  obtain ⟨g, r, rfl⟩ : ∃ g r, l = g :: r := by
    cases l with
    | nil => exact absurd h.line.len (by simp only [List.length_nil]; omega)
    | cons g r => exact ⟨g, r, rfl⟩
  obtain ⟨n, rfl⟩ : ∃ n, m = n + 1 := ⟨m - 1, by omega⟩
  obtain ⟨T0, hT0⟩ : ∃ T0, hmacZ ks (numsB (tn :: gN g)) = T0 := ⟨_, rfl⟩
  obtain ⟨TE, hTE⟩ : ∃ TE, tokTag ks tn (g :: r) = TE := ⟨_, rfl⟩
  have HTE : Hid (r.foldl nextZ T0 = TE) := Lib.hid (by rw [← hTE, ← hT0]; rfl)
  have HT0 := Lib.hid hT0
  have LT0 : Hid (T0.length = 32) := Lib.hid (by rw [← hT0]; exact hmacZ_len _ _)
  have BT0 : Hid (IsBytes T0) := Lib.hid (by rw [← hT0]; exact hmacZ_bytes _ _)
  obtain ⟨W0, hW0⟩ : ∃ W, W = (w.alloc (.cells (tv ⟨tn, A, n + 1, c, T⟩).toArray 26)).alloc (.cells (vals (List.replicate 32 0)).toArray 24) := ⟨_, rfl⟩
  have b0 : Below w.heap.size w W0 := by rw [hW0]; exact ((Below.refl _ _).alloc (Nat.le_refl _) _).alloc (by simp) _
  have s0 : W0.heap.size = w.heap.size + 2 := by rw [hW0]; simp
  have x0 : Box W0 w.heap.size ⟨tn, A, n + 1, c, T⟩ := by rw [hW0]; exact (box_new w _ h.len _ _ rfl).grow ((Below.refl _ _).alloc (Nat.le_refl _) _)
  have v0 : W0.there (w.heap.size + 1) 0 32 := by
    have := (Row8.new (w.alloc (.cells (tv ⟨tn, A, n + 1, c, T⟩).toArray 26)) (List.replicate 32 0) 24).there
    rw [show (w.alloc (.cells (tv ⟨tn, A, n + 1, c, T⟩).toArray 26)).heap.size = w.heap.size + 1 by simp] at this
    rw [hW0]; simpa using this
  have gs := h.line.belowM b0 hB2
  obtain ⟨gb, go, g', rfl, hgb, HK0, hgo, d0, d1, d2⟩ := gs.at_ (k := 0) (by omega)
  obtain rfl : g = g' := by have := HK0.out; simpa using this
  rw [Nat.zero_mul, Nat.add_zero] at d0 d1 d2
  have hcc : n + 1 ≤ c := h.mc
  have hcm : c ≤ maxLen := h.cm
  have C0 : Hid (∀ W, Below W0.heap.size W0 W → W.cell? ⟨w.heap.size, 0, none⟩ = some (.int .i64 tn)) := Lib.hid (fun W hW => (hW.cell (p := ⟨w.heap.size, 0, none⟩) (by show w.heap.size < _; omega)).trans x0.c0)
  have C1 : Hid (∀ W, Below W0.heap.size W0 W → W.cell? ⟨w.heap.size, 1, none⟩ = some (.slice (some ⟨gb, go, none⟩) (n + 1) c)) := Lib.hid (fun W hW => (hW.cell (p := ⟨w.heap.size, 1, none⟩) (by show w.heap.size < _; omega)).trans x0.c1)
  have CG : Hid (∀ W, Below W0.heap.size W0 W → W.cell? ⟨gb, go, none⟩ = some (.int .u8 g.r) ∧ W.cell? ⟨gb, go + 1, none⟩ = some (.int .i64 g.x) ∧ W.cell? ⟨gb, go + 2, none⟩ = some (.int .i64 g.s)) := Lib.hid (fun W hW =>
    ⟨(hW.cell (p := ⟨gb, go, none⟩) (by show gb < _; omega)).trans d0, (hW.cell (p := ⟨gb, go + 1, none⟩) (by show gb < _; omega)).trans d1, (hW.cell (p := ⟨gb, go + 2, none⟩) (by show gb < _; omega)).trans d2⟩)
  have HG := Lib.hid gs
  have HV0 := Lib.hid v0
  have HTN : Hid (InR tn) := Lib.hid h.tn
  have HKEY := Lib.hid hk
  have HB0 := Lib.hid b0
  have HFw := Lib.hid hF
  have HKw := Lib.hid hK
  have HF0 := Lib.hid (hF.below b0 hF.lt)
  have HK0' := Lib.hid (hK.below b0 hK.lt)
  have HGO := Lib.hid hgo
  have HW0 := Lib.hid hW0
  have HS0 := Lib.hid s0
  have hgb' : gb < w.heap.size := by omega
  clear hT0 hTE h hk hF hK hW0 b0 x0 v0 gs HK0 hgo d0 d1 d2 s0
  have hI : ((n + 1 : Nat) : Int) = (n : Int) + 1 := by omega
  rw [show tokTag ks tn (g :: r) = TE from HTE.out ▸ HT0.out ▸ rfl]
  have HL32 : Hid ((vals T0).toArray.size = 32) := Lib.hid (by rw [List.size_toArray, vals_len, LT0.out])
  go_enter Tryd.func31, Tryd.ntmps31
  go_upto_region 1 with fail
  simp only [z32]
  rw [← HW0.out]
  refine Late.region (fun w' => Below W0.heap.size W0 w') [13] (by kernel_rfl) (Below.refl _ _).drew (fun hHeld => ?_)
  refine Late.take (i := 0) (oi := ⟨some 8, Op.move (Operand.tmp 0), _, _, _, _⟩) (v := ?_) rfl (by kernel_rfl) (by kernel_rfl) (by kernel_rfl) (by kernel_rfl) (fun _ _ _ h => h) (Or.inl ⟨by rfl, fun w hSw => ?_⟩) (by assumption) ?_
  rotate_left
  · (have s1 := hSw; go_simp; try with_reducible rfl)
  try simp only [Act.put, List.setIfInBounds_toArray, List.set_cons_zero, List.set_cons_succ]
  refine Late.take (i := 1) (oi := ⟨some 9, Op.fieldAddr 26 (Operand.tmp 3) 0, _, _, _, _⟩) (v := ?_) rfl (by kernel_rfl) (by kernel_rfl) (by kernel_rfl) (by kernel_rfl) (fun _ _ _ h => h) (Or.inl ⟨by rfl, fun w hSw => ?_⟩) (by assumption) ?_
  rotate_left
  · (have s1 := hSw; go_simp; try with_reducible rfl)
  try simp only [Act.put, List.setIfInBounds_toArray, List.set_cons_zero, List.set_cons_succ]
  refine Late.take (i := 2) (oi := ⟨some 10, Op.load 3 (Operand.tmp 9), _, _, _, _⟩) (v := ?_) rfl (by kernel_rfl) (by kernel_rfl) (by kernel_rfl) (by kernel_rfl) (fun _ _ _ h => h) (Or.inl ⟨by rfl, fun w hSw => ?_⟩) (by assumption) ?_
  rotate_left
  · (have s1 := hSw; have c := C0.out _ hSw; go_simp; try with_reducible rfl)
  try simp only [Act.put, List.setIfInBounds_toArray, List.set_cons_zero, List.set_cons_succ]
  refine Late.take (i := 4) (oi := ⟨some 12, Op.fieldAddr 26 (Operand.tmp 3) 1, _, _, _, _⟩) (v := ?_) rfl (by kernel_rfl) (by kernel_rfl) (by kernel_rfl) (by kernel_rfl) (fun _ _ _ h => h) (Or.inl ⟨by rfl, fun w hSw => ?_⟩) (by assumption) ?_
  rotate_left
  · (have s1 := hSw; go_simp; try with_reducible rfl)
  try simp only [Act.put, List.setIfInBounds_toArray, List.set_cons_zero, List.set_cons_succ]
  refine Late.take (i := 5) (oi := ⟨some 13, Op.load 22 (Operand.tmp 12), _, _, _, _⟩) (v := ?_) rfl (by kernel_rfl) (by kernel_rfl) (by kernel_rfl) (by kernel_rfl) (fun _ _ _ h => h) (Or.inl ⟨by rfl, fun w hSw => ?_⟩) (by assumption) ?_
  rotate_left
  · (have s1 := hSw; have c := C1.out _ hSw; go_simp; try with_reducible rfl)
  try simp only [Act.put, List.setIfInBounds_toArray, List.set_cons_zero, List.set_cons_succ]
  refine Late.take (i := 6) (oi := ⟨some 14, Op.indexAddr 22 (Operand.tmp 13) (Operand.const (Value.int IntKind.i64 0)), _, _, _, _⟩) (v := ?_) rfl (by kernel_rfl) (by kernel_rfl) (by kernel_rfl) (by kernel_rfl) (fun _ _ _ h => h) (Or.inl ⟨by rfl, fun w hSw => ?_⟩) (by assumption) ?_
  rotate_left
  · (have s1 := hSw; go_simp; try with_reducible rfl)
  try simp only [Act.put, List.setIfInBounds_toArray, List.set_cons_zero, List.set_cons_succ]
  refine Late.take (i := 7) (oi := ⟨some 15, Op.load 44 (Operand.tmp 14), _, _, _, _⟩) (v := ?_) rfl (by kernel_rfl) (by kernel_rfl) (by kernel_rfl) (by kernel_rfl) (fun _ _ _ h => h) (Or.inl ⟨by rfl, fun w hSw => ?_⟩) (by assumption) ?_
  rotate_left
  · (have s1 := hSw; obtain ⟨q0, q1, q2⟩ := CG.out _ hSw; go_simp; try with_reducible rfl)
  try simp only [Act.put, List.setIfInBounds_toArray, List.set_cons_zero, List.set_cons_succ]
  refine Late.orders (fun i => match i with | 3 => sfNs 1 [tn] | 8 => sfNs 3 (gN g) | 9 => sfTwoI 1 3 [tn] (gN g) | 10 => sfNs 4 (tn :: gN g) | 11 => sfTag T0 | 12 => sfVarT W0.heap.size | _ => sfTrue) [3, 8, 9, 10, 11, 12] [11, 16, 17, 18, 19, 5] (f0 := 1) (by kernel_rfl) rfl (by kernel_rfl) (by kernel_rfl) (by kernel_rfl) hHeld (fun w w' h hb => h.trans (hb.mono h.size)) ?_ ?_
  · refine ⟨?_, ?_, ?_, ?_, ?_, ?_, trivial⟩
    · refine Step.of (o := ⟨some 11, Op.buildSlice 46 1 #[(0, Operand.tmp 10)], _, _, _, _⟩) rfl (fun a w K hS hA hD hK => ?_)
      have e10 : a.tmps[10]?.getD undef = .int .i64 tn := hA.get 10 rfl
      rw [if_pos (by rfl)]
      go_simp
      exact hK.out _ _ ((Below.refl _ _).alloc (Nat.le_refl _) _) (sfNs_of ((ns_made w [tn] 1 rfl (fun x hx => by rw [List.mem_singleton] at hx; subst hx; exact HTN.out) 3 _ rfl).more (by simp)))
    · refine Step.of (o := ⟨some 16, Op.call { callee := Callee.value (Operand.func 18), args := #[Operand.tmp 15], argTypes := #[44] }, _, _, _, _⟩) rfl (fun a w K hS hA hD hK => ?_)
      have e15 : a.tmps[15]?.getD undef = .agg #[.int .u8 g.r, .int .i64 g.x, .int .i64 g.s] := hA.get 15 rfl
      rw [if_pos (by rfl)]
      go_simp
      refine (fields_any g HGO.out w).mono ?_
      rintro e w4 ⟨D4, c4, rfl, n4, b4⟩
      exact hK.out _ _ b4 (sfNs_of n4)
    · refine Step.of (o := ⟨some 17, Op.buildSlice 75 2 #[(0, Operand.tmp 11), (1, Operand.tmp 16)], _, _, _, _⟩) rfl (fun a w K hS hA hD hK => ?_)
      obtain ⟨D1, d1, e11, n1⟩ : (sfNs 1 [tn]).F (a.tmps[11]?.getD undef) w := hD 3 11 rfl (by kernel_rfl) (by kernel_rfl)
      obtain ⟨D2, d2, e16, n2⟩ : (sfNs 3 (gN g)).F (a.tmps[16]?.getD undef) w := hD 8 16 rfl (by kernel_rfl) (by kernel_rfl)
      rw [if_pos (by rfl)]
      go_simp
      exact hK.out _ _ ((Below.refl _ _).alloc (Nat.le_refl _) _) (sfTwoI_new w n1 n2 _)
    · refine Step.of (o := ⟨some 18, Op.call { callee := Callee.value (Operand.func 42), args := #[Operand.tmp 17], argTypes := #[75] }, _, _, _, _⟩) rfl (fun a w K hS hA hD hK => ?_)
      obtain ⟨b, d, D1, d1, D2, d2, e17, h1, h2, h3, h4, h5⟩ : (sfTwoI 1 3 [tn] (gN g)).F (a.tmps[17]?.getD undef) w := hD 9 17 rfl (by kernel_rfl) (by kernel_rfl)
      rw [if_pos (by rfl)]
      go_simp
      refine (concat2I d h1 h2 h3 h4 h5 (by omega)).mono ?_
      rintro e w4 ⟨D4, c4, rfl, n4, b4⟩
      exact hK.out _ _ b4 (sfNs_of n4)
    · refine Step.of (o := ⟨some 19, Op.call { callee := Callee.value (Operand.func 41), args := #[Operand.tmp 8, Operand.tmp 18], argTypes := #[27, 46] }, _, _, _, _⟩) rfl (fun a w K hS hA hD hK => ?_)
      have e8 : a.tmps[8]?.getD undef = .slice A1 n1 c1 := hA.get 8 rfl
      obtain ⟨D1, d1, e18, n2⟩ : (sfNs 4 (tn :: gN g)).F (a.tmps[18]?.getD undef) w := hD 10 18 rfl (by kernel_rfl) (by kernel_rfl)
      rw [if_pos (by rfl)]
      go_simp
      have hb := HB0.out.trans (hS.mono HB0.out.size)
      refine (sumI_any c1 d1 (HKEY.out.belowM hb hB1) n2 (Nat.le_trans hB1 hb.size) (Nat.le_refl _) hn1 (by omega) (HF0.out.below hS HF0.out.lt) (HK0'.out.below hS HK0'.out.lt)).mono ?_
      rw [HT0.out]
      rintro e w5 ⟨rfl, b5⟩
      exact hK.out _ _ b5 (sfTag_of T0 w5)
    · refine Step.of (o := ⟨some 5, Op.alloc 24, _, _, _, _⟩) rfl (fun a w K hS hA hD hK => ?_)
      rw [if_pos (by rfl)]
      go_simp
      simp only [z32]
      exact hK.out _ _ ((Below.refl _ _).alloc (Nat.le_refl _) _) (sfVarT_new w hS.size _)
  intro a wq hS hA hV
  obtain e19 : (sfTag T0).F (a.tmps[19]?.getD undef) wq := hV 11 19 rfl (by kernel_rfl)
  obtain ⟨vb, e5, hvb1, hvb2, hvb3⟩ : (sfVarT W0.heap.size).F (a.tmps[5]?.getD undef) wq := hV 12 5 rfl (by kernel_rfl)
  have eA := hA.eq
  simp only [List.foldl_cons, List.foldl_nil] at eA
  rw [e19, e5] at eA
  generalize a.tmps[11]?.getD undef = v11 at eA
  generalize a.tmps[16]?.getD undef = v16 at eA
  generalize a.tmps[17]?.getD undef = v17 at eA
  generalize a.tmps[18]?.getD undef = v18 at eA
  clear hHeld hA hV e19 e5
  subst eA
  try simp only [Act.put, List.setIfInBounds_toArray, List.set_cons_zero, List.set_cons_succ]
  refine Late.end_ (i := 13) (o := ⟨none, Op.store 24 (Operand.tmp 5) (Operand.tmp 19), _, _, _, _⟩) (by kernel_rfl) rfl rfl (fun K hK => ?_)
  rw [if_pos (by rfl)]
  refine wp_store_mid 24 (.tmp 5) (.tmp 19) rfl vb 0 (vals T0).toArray rfl rfl (by rw [HL32.out]; exact hvb3) (by rw [HL32.out]; kernel_rfl) (all_oneCell_toArray (vals_one T0)) ?_
  refine hK.out _ _ ?_
  clear hK K
  try simp only [Act.put]
  refine Late.done (by kernel_rfl) ?_ _
  refine NoPanic.normal ?_
  have HQ := Lib.hid hS
  have q1 : Below w.heap.size w (wq.setCells vb 0 (vals T0)) := below_setCells (by have := HS0.out; omega) _ _ _ (HB0.out.trans (hS.mono HB0.out.size))
  have r1 : Row8 (wq.setCells vb 0 (vals T0)) vb 0 T0 := ⟨World.rangeAt_setCells_same wq vb 0 (vals T0) (by rw [vals_len, LT0.out]; exact hvb3), by rw [LT0.out]; exact World.there_setCells hvb3 _ _ _⟩
  have v1 : (wq.setCells vb 0 (vals T0)).there (w.heap.size + 1) 0 32 := there_same HV0.out ((heap_setCells vb (w.heap.size + 1) (by have := HS0.out; omega) _ _ _).trans (hS.block _ (by have := HS0.out; omega)))
  have k1 : (wq.setCells vb 0 (vals T0)).cell? ⟨w.heap.size, 1, none⟩ = some (.slice (some ⟨gb, go, none⟩) (n + 1) c) := (World.cell?_of_block (a := ⟨w.heap.size, 1, none⟩) (heap_setCells vb w.heap.size (by have := HS0.out; omega) _ _ _)).trans (C1.out _ hS)
  obtain ⟨W1, hW1⟩ : ∃ W, wq.setCells vb 0 (vals T0) = W := ⟨_, rfl⟩
  rw [hW1] at q1 r1 v1 k1
  rw [hW1]
  have hne : w.heap.size + 1 < vb := by have := HS0.out; omega
  obtain ⟨A2, hcut, hg2⟩ : ∃ A2, (∀ W, (Instr.slice 22 (.slice (some ⟨gb, go, none⟩) (n + 1) c) (some (.int .i64 1)) none none).run Tryd.prog W = .ok (.slice A2 (n + 1 - 1) (c - 1)) W) ∧ Grants w B2 A2 n r :=
    ⟨_, cutG_l _ (n + 1) c 1 1 rfl (by omega) hcc, ⟨(HG.out.tail c hcc).len, fun hn => by
      obtain ⟨b, off, e, hb, hc⟩ := (HG.out.tail c hcc).row hn
      exact ⟨b, off, e, hb, fun i u hu => (HB0.out.cell (p := ⟨b, off + i, none⟩) (by show b < _; omega)).symm.trans (hc i u hu)⟩, (HG.out.tail c hcc).ok⟩⟩
  rw [Nat.add_sub_cancel] at hcut
  have HR1 := Lib.hid r1
  have HV1 := Lib.hid v1
  have HQ1 := Lib.hid q1
  have HG2 := Lib.hid hg2
  clear hW1 hS hvb1 hvb2 hvb3 q1 r1 v1 hg2 HQ
  go_upto_region 3 with fail
  clear hcut k1
  have hnI : ¬ ((n : Int) < 0) := by omega
  go_loopw [24] (fun i wr => ∃ k : Nat, k ≤ n ∧ i = .int .i64 k ∧ ∃ Tk, Hid ((r.take k).foldl nextZ T0 = Tk) ∧ Hid (Row8 wr vb 0 Tk) ∧ Hid (wr.there (w.heap.size + 1) 0 32) ∧ Hid (Below w.heap.size w wr)) (fun i _ => n - (intOf i).toNat)
  case atStart => exact ⟨0, by omega, rfl, T0, Lib.hid rfl, HR1, HV1, HQ1⟩
  case round =>
    obtain ⟨k, hk, rfl, Tk, HTk, HRk, HVk, HQk⟩ := hrel
    have lTk : Hid (Tk.length = 32) := Lib.hid (by rw [← HTk.out]; exact fold_len _ _ LT0.out)
    by_cases hlt : k < n
    · have hltI : (k : Int) < (n : Int) := by omega
      obtain ⟨b1, o1, x, rfl, hb1, HX, hxo, e0, e1, e2⟩ := (HG2.out.belowM HQk.out hB2).at_ hlt
      have bTk : Hid (IsBytes Tk) := Lib.hid (by rw [← HTk.out]; exact fold_bytes _ _ BT0.out)
      have HN2 : Hid ((r.take (k + 1)).foldl nextZ T0 = nextZ Tk x) := Lib.hid (by rw [take_snocG r k x HX.out, List.foldl_append, HTk.out]; rfl)
      have hvb : vb < wr.heap.size := World.block_lt_of_cell? _ _ (HRk.out.range 0 _ (vals_at Tk 0 (by rw [lTk.out]; omega)))
      have ba : Below wr.heap.size wr (wr.alloc (.cells #[.int .u8 x.r, .int .i64 x.x, .int .i64 x.s] 44)) := (Below.refl _ _).alloc (Nat.le_refl _) _
      have RA := Lib.hid (HRk.out.same (ba.block vb hvb))
      have BA := Lib.hid (HQk.out.trans (ba.mono HQk.out.size))
      have sa : vb < (wr.alloc (.cells #[.int .u8 x.r, .int .i64 x.x, .int .i64 x.s] 44)).heap.size := by simp; omega
      have VA := Lib.hid (there_same HVk.out (ba.block (w.heap.size + 1) (by omega)))
      have NX := Lib.hid (next_any lTk.out bTk.out hxo (HFw.out.below BA.out HFw.out.lt) (HKw.out.below BA.out HKw.out.lt))
      have LN : Hid ((vals (nextZ Tk x)).toArray.size = 32) := Lib.hid (by rw [List.size_toArray, vals_len, nextZ_len])
      have G := RA
      clear hxo ba
      go_wp2_with (first
        | (have g := G; clear g; refine wpList_load_mid (op := ⟨some 28, .load 24 (.tmp 5), _, _, _, _⟩) rfl 24 (.tmp 5) rfl vb 0 rfl (vals Tk) _ RA.out.range Tryd.underlying24 rfl (tag_size Tk lTk.out) ?_; clear G)
        | (go_at_call 34; refine NX.out.mono ?_; rintro e w2 ⟨rfl, b2⟩; have B2' := Lib.hid (BA.out.trans (b2.mono BA.out.size)); have R2 := Lib.hid (RA.out.same (b2.block vb sa)); have V2 := Lib.hid (there_same VA.out (b2.block (w.heap.size + 1) (by omega))); have G2 := R2; clear b2)
        | (have g := G2; clear g; refine wpList_store_as (op := ⟨none, .store 24 (.tmp 5) (.tmp 30), _, _, _, _⟩) rfl 24 (.tmp 5) (.tmp 30) rfl vb 0 (vals (nextZ Tk x)).toArray rfl rfl (by have := R2.out.there; rw [lTk.out] at this; rw [LN.out]; exact this) (tag_size _ (nextZ_len _ _)) (all_oneCell_toArray (vals_one _)) ?_; intro w3 hw3; clear G2))
      have R3 : Hid (Row8 w3 vb 0 (nextZ Tk x)) := Lib.hid (by
        have ht := R2.out.there
        rw [lTk.out] at ht
        rw [hw3.out]
        exact ⟨World.rangeAt_setCells_same _ _ _ _ (by rw [vals_len, nextZ_len]; exact ht), by rw [nextZ_len]; exact World.there_setCells ht _ _ _⟩)
      have V3 : Hid (w3.there (w.heap.size + 1) 0 32) := Lib.hid (by rw [hw3.out]; exact there_same V2.out (heap_setCells vb (w.heap.size + 1) (by omega) _ _ _))
      have B3 : Hid (Below w.heap.size w w3) := Lib.hid (by rw [hw3.out]; exact below_setCells (by omega) _ _ _ B2'.out)
      clear hw3
      go_roundw
      case rel => exact ⟨k + 1, by omega, by go_num, nextZ Tk x, HN2, R3, V3, B3⟩
      case measure => simp [intOf]; omega
    · have hkn : k = n := by omega
      have HTE2 : Tk = TE := by
        have hl := HG2.out.len
        rw [← HTk.out, ← HTE.out, List.take_of_length_le (by omega)]
      have hge : ¬ (k : Int) < (n : Int) := by omega
      subst HTE2
      clear hkn
      have L32 : Hid ((vals Tk).toArray.size = 32) := Lib.hid (by rw [List.size_toArray, vals_len, lTk.out])
      have G := HRk
      have G2 := HVk
      go_wp2_with (first
        | (have g := G; clear g; refine wpList_load_mid (op := ⟨some 32, .load 24 (.tmp 5), _, _, _, _⟩) rfl 24 (.tmp 5) rfl vb 0 rfl (vals Tk) _ HRk.out.range Tryd.underlying24 rfl (tag_size Tk lTk.out) ?_; clear G)
        | (have g := G2; clear g; refine wpList_store_as (op := ⟨none, .store 24 (.tmp 4) (.tmp 32), _, _, _, _⟩) rfl 24 (.tmp 4) (.tmp 32) rfl (w.heap.size + 1) 0 (vals Tk).toArray rfl rfl (by rw [L32.out]; exact HVk.out) (tag_size _ lTk.out) (all_oneCell_toArray (vals_one _)) ?_; intro w3 hw3; clear G2))
      have R3 : w3.rangeAt (w.heap.size + 1) 0 (vals Tk) := by rw [hw3.out]; exact World.rangeAt_setCells_same _ _ _ _ (by rw [vals_len, lTk.out]; exact HVk.out)
      have q3 : Below w.heap.size w w3 := by rw [hw3.out]; exact below_setCells (by omega) _ _ _ HQk.out
      exact bodyPost_ret (v := .agg (vals Tk).toArray) (results_mid (p := 4) (ty := 24) rfl _ _ (w.heap.size + 1) 0 (vals Tk) _ rfl R3 Tryd.underlying24 rfl (tag_size Tk lTk.out)) rfl ⟨rfl, q3⟩
end Go.Proofs.YtmeafjehcckibaaDoor
/- Plain tokens; what a call hands back that makes one. -/
namespace Go.Proofs.YtmeafjehcckibaaDoor
open Go.ChangeShapes Go.WideShapes Go.ChangeAt Go.RowKit
set_option linter.unusedVariables false
open Plain Sha
structure PTok where
  tn : Int
  l : List GrantZ
  T : List Int
def pt (t : TokZ) (l : List GrantZ) : PTok := ⟨t.tn, l, t.T⟩
def pt0 : PTok := ⟨0, [], List.replicate 32 0⟩
/-- What is minted, and attenuated; the error. -/
def mintP (ks : List Int) (tn : Int) (g : GrantZ) : PTok × Int := if mayT tn [g] then (⟨tn, [g], tokTag ks tn [g]⟩, 0) else (pt0, 2)
def attP (p : PTok) (g : GrantZ) : PTok × Int := if mayT p.tn p.l && mayB g then (if p.l.length = 4 then (pt0, 4) else (⟨p.tn, p.l ++ [g], nextZ p.T g⟩, 0)) else (pt0, 2)
/-- A token and an error are handed back; what was stands. -/
def Gives (w : World) (r : PTok × Int) (e : Ending) (w' : World) : Prop :=
  ∃ t l, e = .returned (.tuple #[.agg (tv t).toArray, .int .i64 r.2]) ∧ Tok w' w'.heap.size t l ∧ pt t l = r.1 ∧ Below w.heap.size w w' ∧ (∀ b off, t.A = some ⟨b, off, none⟩ → w.heap.size ≤ b)
theorem tok_none (w : World) (B : Nat) : Tok w B tok0 [] :=
  ⟨rfl, rep_bytes 32 0 (by omega) (by omega), ⟨by decide, by decide⟩, Grants.nil, Nat.le_refl _, by simp [tok0, maxLen]⟩
theorem rep32 : (List.replicate 32 (0 : Int)).length = 32 := rfl
theorem gives_none {w w' : World} {k : Int} (hb : Below w.heap.size w w') : Gives w (pt0, k) (.returned (.tuple #[.agg (tv tok0).toArray, .int .i64 k])) w' :=
  ⟨tok0, [], rfl, tok_none _ _, rfl, hb, fun b off hq => by cases hq⟩
/-- A new variable for a token: behind a store into it. -/
theorem box_stored {w w' : World} {t : TokZ} {g : Nat} {y : TypeId} (ht : t.T.length = 32) (hg : w.heap.size = g) (h : Hid (w' = (w.alloc (.cells (tv tok0).toArray y)).setCells g 0 (tv t).toArray.toList)) :
    Box w' g t ∧ Below w.heap.size w w' ∧ g < w'.heap.size := by
  subst hg
  have b := box_new w tok0 rep32 y _ rfl
  have hb : Below w.heap.size w w' := by rw [h.out]; exact below_setCells (Nat.le_refl _) _ _ _ ((Below.refl _ _).alloc (Nat.le_refl _) _)
  have hx : Box w' w.heap.size t := by rw [h.out]; exact b.store ht
  exact ⟨hx, hb, hx.lt⟩
theorem box_thereN (w : World) {t : TokZ} (ht : t.T.length = 32) (y : TypeId) (g : Nat) (hg : w.heap.size = g) : (w.alloc (.cells (tv tok0).toArray y)).there g 0 (tv t).toArray.size := (box_new w tok0 rep32 y g hg).thereA ht
theorem Box.storeH {w w' : World} {b : Nat} {t u : TokZ} (h : Box w b t) (hu : u.T.length = 32) (e : Hid (w' = w.setCells b 0 (tv u).toArray.toList)) : Box w' b u := by rw [e.out]; exact h.store hu
theorem Box.farH {w w' : World} {b b' o : Nat} {t : TokZ} {vs : List Value} (h : Box w b t) (hb : b' ≠ b) (e : Hid (w' = w.setCells b' o vs)) : Box w' b t := by rw [e.out]; exact h.far hb o vs
theorem below_storeH {B : Nat} {a w w' : World} {b o : Nat} {vs : List Value} (h : Below B a w) (hb : B ≤ b) (e : Hid (w' = w.setCells b o vs)) : Below B a w' := by rw [e.out]; exact below_setCells hb _ _ _ h
theorem size_storeH {w w' : World} {b o : Nat} {vs : List Value} (e : Hid (w' = w.setCells b o vs)) : w.heap.size ≤ w'.heap.size := (below_storeH (Below.refl 0 w) (Nat.zero_le _) e).size
theorem Grants.farH {w w' : World} {B m b o : Nat} {A : Option Addr} {l : List GrantZ} {vs : List Value} (h : Grants w B A m l) (hB : B ≤ b) (e : Hid (w' = w.setCells b o vs)) : Grants w' B A m l := h.below (below_storeH (Below.refl B w) hB e)
theorem Grants.otherH {w w' : World} {B m b o : Nat} {A : Option Addr} {l : List GrantZ} {vs : List Value} (h : Grants w B A m l) (hA : ∀ b' off, A = some ⟨b', off, none⟩ → b' ≠ b) (e : Hid (w' = w.setCells b o vs)) : Grants w' B A m l :=
  ⟨h.len, fun hn => by
    obtain ⟨b', off, hq, hb, hc⟩ := h.row hn
    exact ⟨b', off, hq, hb, fun i u hu => by
      rw [e.out]
      exact (World.cell?_of_block (a := ⟨b', off + i, none⟩) (heap_setCells b b' (hA _ _ hq) vs o w)).trans (hc i u hu)⟩, h.ok⟩
theorem tok_one (t : TokZ) : (tv t).toArray.all (·.oneCell') = true := all_oneCell_toArray (tv_one t)
end Go.Proofs.YtmeafjehcckibaaDoor
