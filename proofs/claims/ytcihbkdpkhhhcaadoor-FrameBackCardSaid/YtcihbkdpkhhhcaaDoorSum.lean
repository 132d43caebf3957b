/- A hash is asked for its tag, and for its length; the tag of bytes. -/
import Derived.Test.YtcihbkdpkhhhcaaDoorWrite
namespace Go.Proofs.YtcihbkdpkhhhcaaDoor
open Go.ChangeShapes Go.WideShapes Go.ChangeAt Go.RowKit
set_option linter.unusedVariables false
open Plain Sha
attribute [local go_sem ↓] Go.wp_at_zero Go.wp_at_succ
set_option maxRecDepth 100000 in
set_option maxHeartbeats 4000000 in
theorem sum_any {w : World} {b : Nat} {bs : List Int} (h : HashOf w b bs) (hbs : IsBytes bs) (hlen : bs.length ≤ 1099511627776) (hK : LaidK w) :
    Calls Tryd.prog 42 #[.pointer (some ⟨b, 0, none⟩)] w fun e w' => e = .returned (.tuple #[.agg (vals (shaZ bs)).toArray, .int .i64 0]) ∧ Below w.heap.size w w' := by
  obtain ⟨m, hm⟩ : ∃ m, bs.length % 64 = m := ⟨_, rfl⟩
  obtain ⟨N, hN⟩ : ∃ N, bs.length = N := ⟨_, rfl⟩
  obtain ⟨P, hP⟩ : ∃ P, (padZ N).length = P := ⟨_, rfl⟩
  obtain ⟨L, hL⟩ : ∃ L, m + P = L := ⟨_, rfl⟩
  have hP2 := padZ_len N
  rw [hP] at hP2
  have c0 := h.made
  have hblt := h.lt
  rw [hN] at hlen hm
  have t1 : ((N : Int)).tmod 64 = ((m : Nat) : Int) := by rw [← hm]; exact tmod_nat N 64
  have hm64 : m < 64 := by omega
  have hmI : (m : Int) ≤ 64 := by omega
  have hP3 : P < 200 := by omega
  have hrl : (restZ bs ++ padZ N).length = L := by rw [List.length_append, restZ_len, hP, hN, hm, hL]
  obtain ⟨W0, hW0⟩ : ∃ W0, W0 = w.alloc (.cells (vals (List.replicate 32 0)).toArray 50) := ⟨_, rfl⟩
  have e0 : W0.heap[b]? = w.heap[b]? := by rw [hW0]; exact Below.heap_alloc _ _ _ hblt
  have b0 : Below w.heap.size w W0 := by rw [hW0]; exact (Below.refl _ _).alloc (Nat.le_refl _) _
  have s0 : W0.heap.size = w.heap.size + 1 := by rw [hW0]; simp
  have g0 : W0.there w.heap.size 0 32 := by rw [hW0]; simpa using (Row8.new w (List.replicate 32 0) 50).there
  obtain ⟨V, hV⟩ : ∃ V, Sha.behind h0 bs = V := ⟨_, rfl⟩
  have hVok : V.ok := by rw [← hV]; exact behind_ok h0_ok _
  obtain ⟨V2, hV2⟩ : ∃ V2, Sha.behind V (restZ bs ++ padZ N) = V2 := ⟨_, rfl⟩
  have hV2ok : V2.ok := by rw [← hV2]; exact behind_ok hVok _
  obtain ⟨T, hT⟩ : ∃ T, shaZ bs = T := ⟨_, rfl⟩
  have hTV : tagZ V2 = T := by rw [← hV2, ← hV, ← hN, ← hT]; exact shaZ_of bs
  have hTl : T.length = 32 := by rw [← hTV]; exact tagZ_len _
  have hcells : ∀ w' : World, w'.heap[b]? = w.heap[b]? → w'.cell? ⟨b, 1, none⟩ = some (.int .u32 (V.a : Nat)) ∧ w'.cell? ⟨b, 2, none⟩ = some (.int .u32 (V.b : Nat)) ∧ w'.cell? ⟨b, 3, none⟩ = some (.int .u32 (V.c : Nat)) ∧ w'.cell? ⟨b, 4, none⟩ = some (.int .u32 (V.d : Nat)) ∧ w'.cell? ⟨b, 5, none⟩ = some (.int .u32 (V.e : Nat)) ∧ w'.cell? ⟨b, 6, none⟩ = some (.int .u32 (V.f : Nat)) ∧ w'.cell? ⟨b, 7, none⟩ = some (.int .u32 (V.g : Nat)) ∧ w'.cell? ⟨b, 8, none⟩ = some (.int .u32 (V.h : Nat)) ∧ w'.cell? ⟨b, 73, none⟩ = some (.int .i64 (N : Int)) := fun w' e => by
    have h' := h.same e
    unfold HashOf at h'
    rw [hV] at h'
    refine ⟨h'.now 0 _ rfl, h'.now 1 _ rfl, h'.now 2 _ rfl, h'.now 3 _ rfl, h'.now 4 _ rfl, h'.now 5 _ rfl, h'.now 6 _ rfl, h'.now 7 _ rfl, ?_⟩
    rw [← hN]; exact h'.n
  have hbr : ∀ w' : World, w'.heap[b]? = w.heap[b]? → Bs w' (b + 1) (some ⟨b, 9, none⟩) m (restZ bs) := fun w' e => HashIs.bs (h.same e) hbs m (by rw [hN, hm])
  have CB := Lib.hid hcells
  have VOK := Lib.hid hVok
  have V2OK := Lib.hid hV2ok
  have HV2 := Lib.hid hV2
  have HTV := Lib.hid hTV
  have HT := Lib.hid hT
  have BR := Lib.hid hbr
  have HM := Lib.hid hm
  have HN := Lib.hid hN
  have HP := Lib.hid hP
  have HL := Lib.hid hL
  have HRL := Lib.hid hrl
  have HW0 := Lib.hid hW0
  have G0 := Lib.hid g0
  have E0 := Lib.hid e0
  have S0 := Lib.hid s0
  have HKl := Lib.hid hK.lt
  have HKK := Lib.hid hK
  have hLb : L < 300 := by omega
  clear hVok hV2ok hV2 hTV hT hV hcells hbr hm hN hP hL hrl g0 e0 hP2 h hK hW0
  go_enter Tryd.func42, Tryd.ntmps42
  go_wp2
  refine (show Code.wp Tryd.prog _ _ _ (w.alloc (.cells (vals (List.replicate 32 0)).toArray 50)) from ?_)
  rw [← HW0.out]
  have hu := Tryd.underlying50
  have hi : (Tryd.prog.info? 50).map (·.size) = some (vals T).length := by rw [vals_len, hTl]; kernel_rfl
  have hl32 : (vals T).length = 32 := by rw [vals_len, hTl]
  have h1c := vals_one T
  go_region_held3 (fun w' => (w'.cell? ⟨b, 1, none⟩ = some (.int .u32 (V.a : Nat)) ∧ w'.cell? ⟨b, 2, none⟩ = some (.int .u32 (V.b : Nat)) ∧ w'.cell? ⟨b, 3, none⟩ = some (.int .u32 (V.c : Nat)) ∧ w'.cell? ⟨b, 4, none⟩ = some (.int .u32 (V.d : Nat)) ∧ w'.cell? ⟨b, 5, none⟩ = some (.int .u32 (V.e : Nat)) ∧ w'.cell? ⟨b, 6, none⟩ = some (.int .u32 (V.f : Nat)) ∧ w'.cell? ⟨b, 7, none⟩ = some (.int .u32 (V.g : Nat)) ∧ w'.cell? ⟨b, 8, none⟩ = some (.int .u32 (V.h : Nat)) ∧ w'.cell? ⟨b, 73, none⟩ = some (.int .i64 (N : Int))) ∧ w'.there w.heap.size 0 32)
    (first
      | (exact ⟨CB.out _ E0.out, G0.out⟩)
      | (exact ⟨CB.out _ ((heap_setCells _ _ (by omega) _ _ _).trans eb4), World.there_setCells g4 _ _ _⟩)
      | (exact ⟨CB.out _ eb4, g4⟩)
      | (exact ⟨CB.out _ eb3, g3⟩)
      | (exact ⟨CB.out _ eb2, g2⟩)
      | (exact ⟨CB.out _ ((Below.heap_alloc _ _ _ (by omega)).trans eb1), there_same g1 (Below.heap_alloc _ _ _ (by omega))⟩)
      | (exact ⟨CB.out _ eb1, g1⟩))
    ((first
      | (go_at_call 46; refine (end_any N (by omega) _).mono ?_; intro e w1 hm; obtain ⟨D1, c1, rfl, ho1, hb1, _, _⟩ := hm.n HP.out; have eb1 : w1.heap[b]? = w.heap[b]? := (hb1.block b (by show b < W0.heap.size; omega)).trans E0.out; have g1 : w1.there w.heap.size 0 32 := there_same G0.out (hb1.block _ (by show w.heap.size < W0.heap.size; omega)); have s1 : w.heap.size < w1.heap.size := Nat.lt_of_lt_of_le (by show w.heap.size < W0.heap.size; omega) hb1.size; have S1 : Bs w1 w1.heap.size D1 P (padZ N) := Made.bs ho1 (padZ_bytes N); have B1 := BR.out w1 eb1; have q1 : Below w.heap.size w w1 := b0.drew.trans (hb1.mono (by show w.heap.size ≤ W0.heap.size; omega)))
      | (go_at_call 22; refine (cat2_any (w := w1) 64 c1 22 B1 S1 (by omega) (Nat.le_refl _) (by omega) 2 _ rfl).mono ?_; intro e w2 hm2; obtain ⟨D2, c2, rfl, ho2, hb2, _, _⟩ := hm2.n HRL.out; have eb2 : w2.heap[b]? = w.heap[b]? := (hb2.block b (by simp <;> omega)).trans ((Below.heap_alloc _ _ _ (by omega)).trans eb1); have g2 : w2.there w.heap.size 0 32 := there_same g1 ((hb2.block _ (by simp <;> omega)).trans (Below.heap_alloc _ _ _ (by omega))); have s2 : w.heap.size < w2.heap.size := Nat.lt_of_lt_of_le s1 (Nat.le_trans (by simp) hb2.size); have S2 : Bs w2 w2.heap.size D2 L (restZ bs ++ padZ N) := Made.bs ho2 ((restZ_bytes hbs).app (padZ_bytes N)); have q2 : Below w.heap.size w w2 := (q1.alloc (by omega) _).trans (hb2.mono (by simp <;> omega)))
      | (go_at_call 44; refine (behind_any V VOK.out c2 S2 (Nat.le_refl _) (by omega) (HKK.out.below q2 HKl.out)).mono ?_; rw [HV2.out]; rintro e w3 ⟨rfl, hb3⟩; have eb3 : w3.heap[b]? = w.heap[b]? := (hb3.block b (by omega)).trans eb2; have g3 : w3.there w.heap.size 0 32 := there_same g2 (hb3.block _ (by omega)); have s3 : w.heap.size < w3.heap.size := Nat.lt_of_lt_of_le s2 hb3.size; have q3 : Below w.heap.size w w3 := q2.trans (hb3.mono (by omega)))
      | (go_at_call 45; refine (tag_any V2 V2OK.out _).mono ?_; rw [HTV.out]; rintro e w4 ⟨rfl, hb4⟩; have eb4 : w4.heap[b]? = w.heap[b]? := (hb4.block b (by omega)).trans eb3; have g4 : w4.there w.heap.size 0 32 := there_same g3 (hb4.block _ (by omega)); have s4 : w.heap.size < w4.heap.size := Nat.lt_of_lt_of_le s3 hb4.size; have q4 : Below w.heap.size w w4 := q3.trans (hb4.mono (by omega)))))
  have R5 := World.rangeAt_setCells_same w4 w.heap.size 0 (vals T) (by rw [hl32]; exact g4)
  have q5 : Below w.heap.size w (w4.setCells w.heap.size 0 (vals T)) := below_setCells (Nat.le_refl _) _ _ _ q4
  have HQ5 := Lib.hid q5
  have HR5 := Lib.hid R5
  have HI := Lib.hid hi
  have HU := Lib.hid hu
  clear q5 R5 hi hu hl32 h1c q1 q2 q3 q4 eb1 eb2 eb3 eb4 g1 g2 g3 g4 S1 S2 B1 hm hm2 ho1 ho2 hb1 hb2 hb3 hb4
  go_wp2
  exact bodyPost_ret (v := .tuple #[.agg (vals T).toArray, .int .i64 0]) (results_mid_tmp (p := 2) (u := 3) (ty := 50) rfl _ _ w.heap.size 0 (vals T) _ rfl HR5.out HU.out rfl HI.out) rfl ⟨by rw [HT.out], HQ5.out⟩
end Go.Proofs.YtcihbkdpkhhhcaaDoor
