/- The block of a key: what makes it. -/
import Derived.Test.YtmglhfhcljdfcaaDoorShaSumB
import Derived.Test.YtmglhfhcljdfcaaDoorHmacZ
import Derived.Test.YtmglhfhcljdfcaaDoorTagEq
import Derived.Test.YtmglhfhcljdfcaaDoorRepeat
import Derived.Deep.Cut
namespace Go.Proofs.YtmglhfhcljdfcaaDoor
open Go.ChangeShapes Go.WideShapes Go.ChangeAt Go.RowKit
set_option linter.unusedVariables false
open Plain Sha
/-- Block g is the variable that holds a key's block. -/
structure KeyVar (w : World) (g : Nat) (ks : List Int) : Prop where
  lt : g < w.heap.size
  row : ∃ D c, w.cell? ⟨g, 0, none⟩ = some (.slice D 64 c) ∧ Bs w g D 64 ks
theorem KeyVar.below {w w' : World} {g B : Nat} {ks : List Int} (h : KeyVar w g ks) (hb : Below B w w') (hB : g < B) : KeyVar w' g ks := by
  obtain ⟨D, c, h1, h2⟩ := h.row
  exact ⟨Nat.lt_of_lt_of_le h.lt hb.size, D, c, (hb.cell (p := ⟨g, 0, none⟩) hB).trans h1, h2.belowM hb (by omega)⟩
theorem keyVar_new {w : World} {D : Option Addr} {c : Nat} {ks : List Int} (h : Bs w w.heap.size D 64 ks) : KeyVar (w.alloc (.cells #[.slice D 64 c] 22)) w.heap.size ks :=
  ⟨by simp, D, c, by rw [cell_of_row _ _ _ _ _ _ (heap_alloc_new w _)]; rfl, h.alloc (Nat.le_refl _) _⟩
def ClosedOver (w : World) (ks : List Int) (e : Ending) (w' : World) : Prop :=
  ∃ g, e = .returned (.func (.func 52) #[] #[.pointer (some ⟨g, 0, none⟩)]) ∧ KeyVar w' g ks ∧ w.heap.size ≤ g ∧ Below w.heap.size w w'
set_option maxHeartbeats 1000000 in
theorem hblocks_short {B n : Nat} {A : Option Addr} (c : Nat) {zs : List Int} {w : World} (h : Bs w B A n zs) (hB : B ≤ w.heap.size) (hn : n ≤ 64) :
    Calls Tryd.prog 41 #[.slice A n c] w (ClosedOver w (keyZ zs)) := by
  obtain ⟨m, hm⟩ : ∃ m : Nat, 64 - n = m := ⟨_, rfl⟩
  have e : (64 : Int) - (n : Int) = (m : Int) := by omega
  have hmk := make_u8 m (by omega)
  rw [madeCells_vals] at hmk
  have g1 : ¬ 64 < (n : Int) := by omega
  have HK : Hid (zs ++ List.replicate m 0 = keyZ zs) := Lib.hid (by unfold keyZ; rw [shortZ_of (by rw [h.len]; exact hn), h.len, hm])
  have HL : Hid ((zs ++ List.replicate m 0).length = 64) := Lib.hid (by rw [HK.out, keyZ_len])
  have C2 := Lib.hid (cat2_any (w := w.alloc (.cells (vals (List.replicate m 0)).toArray 5)) c m 22 (h.alloc hB _) (bs_new w _ m (List.length_replicate ..) (rep_bytes _ _ (by omega) (by omega)) 5 _ rfl) (by simp; omega) (by simp) (by omega) 2 (w.heap.size + 1) (by simp))
  have HZ := Lib.hid (h.isBytes.app (rep_bytes m 0 (by omega) (by omega)))
  have HB0 : Hid (Below w.heap.size w ((w.alloc (.cells (vals (List.replicate m 0)).toArray 5)).alloc (.cells #[.slice A n c, .slice (some ⟨w.heap.size, 0, none⟩) m m] 22))) := Lib.hid (((Below.refl _ _).alloc (Nat.le_refl _) _).alloc (by simp) _)
  clear hm h
  go_enter Tryd.func41, Tryd.ntmps41
  have G := HL
  go_wp2_with (have g := G; clear g; with_reducible refine C2.out.mono ?_; intro e w5 hm5; obtain ⟨D, c5, rfl, ho5, hb5, _, _⟩ := hm5.n HL.out; clear G hm5)
  have q5 : Below w.heap.size w w5 := HB0.out.trans (hb5.mono (by simp; omega))
  have z5 := Made.bs ho5 HZ.out
  rw [HK.out] at z5
  have k5 := keyVar_new (c := c5) z5
  go_ret
  exact ⟨_, rfl, k5, q5.size, q5.alloc q5.size _⟩
theorem bs_range {w : World} {g n : Nat} {zs : List Int} (h : w.rangeAt g 0 (vals zs)) (hl : zs.length = n) (hb : IsBytes zs) : Bs w (g + 1) (some ⟨g, 0, none⟩) n zs := by
  subst hl
  exact ⟨rfl, hb, fun _ => ⟨g, 0, rfl, by omega, fun j hj => h j _ (vals_at zs j hj)⟩⟩
set_option maxHeartbeats 1000000 in
theorem hblocks_long {B n : Nat} {A : Option Addr} (c : Nat) {zs : List Int} {w : World} (h : Bs w B A n zs) (hB : B ≤ w.heap.size) (hn : 64 < n) (hn2 : n ≤ 1000000) (hF : LaidF w) (hK : LaidK w) :
    Calls Tryd.prog 41 #[.slice A n c] w (ClosedOver w (keyZ zs)) := by
  obtain ⟨T, hT⟩ : ∃ T, shaZ zs = T := ⟨_, rfl⟩
  have hTl : T.length = 32 := by rw [← hT]; exact shaZ_len32 _
  have hTb : IsBytes T := by rw [← hT]; exact shaZ_bytes _
  have hmk : ∀ w : World, (Instr.makeSlice 22 (.int .i64 32) (.int .i64 32)).run Tryd.prog w = .ok (.slice (some ⟨w.heap.size, 0, none⟩) 32 32) (w.alloc (.cells (madeCells #[.int .u8 0] 32) 5)) := make_u8 32 (by omega)
  rw [madeCells_vals] at hmk
  have g1 : 64 < (n : Int) := by omega
  have HK : Hid (T ++ List.replicate 32 0 = keyZ zs) := Lib.hid (by unfold keyZ; rw [shortZ_long (by rw [h.len]; exact hn), hT, hTl])
  have HL : Hid ((T ++ List.replicate 32 0).length = 64) := Lib.hid (by rw [HK.out, keyZ_len])
  have C1 := Lib.hid (sumB_any c h hB (by omega) hF hK)
  have HT := Lib.hid hT
  have LT := Lib.hid hTl
  have HTB := Lib.hid hTb
  have HZ := Lib.hid (hTb.app (rep_bytes 32 0 (by omega) (by omega)))
  clear hT hTl hTb h
  generalize hR : List.replicate 32 (0 : Int) = R at hmk
  have HR := Lib.hid hR
  clear hR
  go_enter Tryd.func41, Tryd.ntmps41
  go_wp2_with fail
  refine C1.out.mono ?_
  rw [HT.out]
  rintro e w1 ⟨rfl, b1⟩
  have G := LT
  go_upto_region 4 with (have g := G; clear g; refine wpList_store_as (op := ⟨none, .store 25 (.tmp 3) (.tmp 9), _, _, _, _⟩) rfl 25 (.tmp 3) (.tmp 9) rfl w1.heap.size 0 (vals T).toArray rfl rfl (tag_there w1 T LT.out) (tag_size T LT.out) (all_oneCell_toArray (vals_one T)) ?_; intro w2 hw2; clear G)
  obtain ⟨r2, b2, s2⟩ := stored_tag LT.out hw2
  have q2 := Lib.hid (b1.trans (b2.mono b1.size))
  have z2 := bs_range r2 LT.out HTB.out
  have C2 := Lib.hid (cat2_any (w := w2.alloc (.cells (vals R).toArray 5)) 32 32 22 (z2.alloc (by omega) _) (bs_new w2 R 32 (by rw [← HR.out]; exact List.length_replicate ..) (by rw [← HR.out]; exact rep_bytes _ _ (by omega) (by omega)) 5 _ rfl) (by simp; omega) (by simp) (by omega) 2 (w2.heap.size + 1) (by simp))
  have q3 : Hid (Below w.heap.size w ((w2.alloc (.cells (vals R).toArray 5)).alloc (.cells #[.slice (some ⟨w1.heap.size, 0, none⟩) 32 32, .slice (some ⟨w2.heap.size, 0, none⟩) 32 32] 22))) := Lib.hid ((q2.out.alloc q2.out.size _).alloc (by have := q2.out.size; simp; omega) _)
  have s3 := q2.out.size
  clear hw2 r2 z2 b2 b1
  have HLR : Hid ((T ++ R).length = 64) := Lib.hid (by rw [← HR.out]; exact HL.out)
  have G := HL
  go_wp2_with (have g := G; clear g; with_reducible refine C2.out.mono ?_; intro e w5 hm5; obtain ⟨D, c5, rfl, ho5, hb5, _, _⟩ := hm5.n HLR.out; clear G hm5)
  have q5 : Below w.heap.size w w5 := q3.out.trans (hb5.mono (by simp; omega))
  have z5 := Made.bs ho5 (by rw [← HR.out]; exact HZ.out)
  rw [← HR.out, HK.out] at z5
  have k5 := keyVar_new (c := c5) z5
  go_ret
  exact ⟨_, rfl, k5, q5.size, q5.alloc q5.size _⟩
theorem hblocks_any {B n : Nat} {A : Option Addr} (c : Nat) {zs : List Int} {w : World} (h : Bs w B A n zs) (hB : B ≤ w.heap.size) (hn2 : n ≤ 1000000) (hF : LaidF w) (hK : LaidK w) :
    Calls Tryd.prog 41 #[.slice A n c] w (ClosedOver w (keyZ zs)) := by
  by_cases hn : 64 < n
  · exact hblocks_long c h hB hn hn2 hF hK
  · exact hblocks_short c h hB (by omega)
/-- A key's block, each byte exclusive-or one. -/
def Block64 (w : World) (zs : List Int) (e : Ending) (w' : World) : Prop :=
  ∃ D c, e = .returned (.slice D 64 c) ∧ Bs w' w'.heap.size D 64 zs ∧ Below w.heap.size w w'
set_option maxHeartbeats 1000000 in
theorem hblk_any (x : Int) (hx0 : 0 ≤ x) (hx1 : x < 256) {g : Nat} {ks : List Int} {w : World} (h : KeyVar w g ks) :
    Calls Tryd.prog 52 #[.int .u8 x, .pointer (some ⟨g, 0, none⟩)] w (Block64 w (xorZ ks (List.replicate 64 x))) := by
  obtain ⟨D, c, hc, hz⟩ := h.row
  have hlt := h.lt
  have L1 : Hid ((xorZ ks (List.replicate 64 x)).length = 64) := Lib.hid (by rw [xorZ_len, hz.len, List.length_replicate]; rfl)
  have HB1 := Lib.hid (xorZ_bytes hz.isBytes (rep_bytes 64 x hx0 hx1))
  have HZ := Lib.hid hz
  have z1 : Hid (Bs (w.drew.alloc (.cells #[.int .u8 x] 5)) (w.heap.size + 1) (some ⟨w.heap.size, 0, none⟩) 1 [x]) := Lib.hid (by
    have := bs_new w.drew [x] 1 rfl (by unfold IsBytes; intro j hj; have : j = 0 := by simpa using hj
                                        subst this; exact ⟨hx0, hx1⟩) 5 w.heap.size rfl
    exact this)
  have HC := Lib.hid hc
  clear hz h
  go_enter Tryd.func52, Tryd.ntmps52
  go_wp2
  go_region_held3 (fun w' => w'.cell? ⟨g, 0, none⟩ = some (.slice D 64 c))
    (first
      | (exact HC.out)
      | (exact c2)
      | (exact c1)
      | (exact (World.cell?_alloc_lt _ _ _ hlt).trans HC.out))
    ((first
      | (go_at_call 54; refine (repeat_any _ x z1.out (by show w.heap.size + 1 ≤ (w.drew.alloc _).heap.size; simp)).mono ?_; rintro e w1 ⟨rg, rfl, zr, hr1, hr2, hb1⟩; have q1 : Below w.heap.size w w1 := ((Below.refl w.heap.size w).drew.alloc (Nat.le_refl _) _).trans (hb1.mono (by show w.heap.size ≤ (w.drew.alloc _).heap.size; simp)); have c1 : w1.cell? ⟨g, 0, none⟩ = some (.slice D 64 c) := (q1.cell (p := ⟨g, 0, none⟩) hlt).trans HC.out; have zk : Bs w1 g D 64 ks := HZ.out.belowM q1 (by omega))
      | (go_at_call 53; refine (xor_any c 64 zk zr (by have := q1.size; omega) (by omega) (by omega) (by omega)).mono ?_; intro e w2 hm2; obtain ⟨D2, c2', rfl, ho2, hb2, _, _⟩ := hm2.n L1.out; have q2 : Below w.heap.size w w2 := q1.trans (hb2.mono q1.size); have c2 : w2.cell? ⟨g, 0, none⟩ = some (.slice D 64 c) := (q2.cell (p := ⟨g, 0, none⟩) hlt).trans HC.out)))
  have z2 := Lib.hid (Made.bs ho2 HB1.out)
  clear ho2 hb2 hm2 zk zr
  go_wp2
  go_ret
  exact ⟨D2, c2', rfl, z2.out, q2⟩
end Go.Proofs.YtmglhfhcljdfcaaDoor
