/- A hash is written to. -/
import Derived.Test.YtcihbkdpkhhhcaaDoorHash
namespace Go.Proofs.YtcihbkdpkhhhcaaDoor
open Go.ChangeShapes Go.WideShapes Go.ChangeAt Go.RowKit
set_option linter.unusedVariables false
open Plain Sha
attribute [local go_sem ↓] Go.wp_at_zero Go.wp_at_succ
theorem restZ_lt (bs : List Int) : (restZ bs).length < 64 := by rw [restZ_len]; omega
/-- The bytes that wait, as a slice of the hash's own. -/
theorem HashIs.bs {w : World} {b : Nat} {v : H8} {bs : List Int} {n : Nat} (h : HashIs w b v (pad64 (restZ bs)) n) (hb : IsBytes bs) (m : Nat) (hm : m = bs.length % 64) : Bs w (b + 1) (some ⟨b, 9, none⟩) m (restZ bs) := by
  have hl := restZ_len bs
  refine ⟨by rw [hl, hm], fun j hj => restZ_bytes hb j (by omega), fun _ => ⟨b, 9, rfl, by omega, fun j hj => ?_⟩⟩
  have hp := pad64_len (restZ bs) (by have := restZ_lt bs; omega)
  rw [h.buf j _ (vals_at _ j (by rw [hp]; omega))]
  unfold pad64
  rw [List.getD_eq_getElem?_getD, List.getElem?_append_left (by omega), ← List.getD_eq_getElem?_getD]
theorem tmod_nat (n k : Nat) : ((n : Int)).tmod (k : Int) = ((n % k : Nat) : Int) := by
  rw [Int.tmod_eq_emod_of_nonneg (by omega)]; omega
theorem splice_zero (r : List Int) (h : r.length ≤ 64) : splice (List.replicate 64 (0 : Int)) 0 r = pad64 r := by
  unfold splice pad64
  rw [List.take_zero, List.nil_append, List.drop_replicate, Nat.zero_add]
theorem drew_setCells (b : Nat) : ∀ (vs : List Value) (o : Nat) (w : World), w.drew.setCells b o vs = (w.setCells b o vs).drew
  | [], _, _ => rfl
  | v :: r, o, w => by rw [World.setCells, World.setCells, ← drew_setCells b r (o + 1)]; rfl
theorem write_end {w2 w3 w4 w5 : World} {b : Nat} {bs zs : List Int} (H : HashOf w2 b bs) (hw3 : w3 = w2.setCells b 1 (u32s (Sha.behind h0 (bs ++ zs)).list)) (hw4 : w4 = w3.setCells b 9 (vals (List.replicate 64 0)))
    (hw5 : w5 = w4.setCells b 9 (vals (restZ (bs ++ zs)))) (x : Int) (hx : x = ((bs ++ zs).length : Nat)) :
    HashOf (w5.setCell ⟨b, 73, none⟩ (.int .i64 x)) b (bs ++ zs) := by
  have hl : (vals (restZ (bs ++ zs))).length < 64 := by rw [vals_len]; exact restZ_lt _
  have hu : (u32s (Sha.behind h0 (bs ++ zs)).list).length = 8 := by rw [u32s_len, H8.len]
  have hz : (vals (List.replicate 64 0)).length = 64 := by rw [vals_len, List.length_replicate]
  have T2 : w2.there b 0 74 := H.there
  have T3 : w3.there b 0 74 := by rw [hw3]; exact World.there_setCells T2 _ _ _
  have T4 : w4.there b 0 74 := by rw [hw4]; exact World.there_setCells T3 _ _ _
  have T5 : w5.there b 0 74 := by rw [hw5]; exact World.there_setCells T4 _ _ _
  have R4 : Row8 w4 b 9 (List.replicate 64 0) := by
    rw [hw4]
    exact ⟨World.rangeAt_setCells_same _ _ _ _ (there_sub T3 (by omega) (by omega)), World.there_setCells (there_sub T3 (by omega) (by rw [List.length_replicate]; omega)) _ _ _⟩
  have R5 : Row8 w5 b 9 (pad64 (restZ (bs ++ zs))) := by
    rw [hw5, ← splice_zero _ (by rw [vals_len] at hl; omega)]
    exact R4.splice 0 _ (by rw [vals_len] at hl; rw [List.length_replicate]; omega)
  have N5 : w5.rangeAt b 1 (u32s (Sha.behind h0 (bs ++ zs)).list) := by
    rw [hw5, hw4]
    refine World.rangeAt_setCells_apart (World.rangeAt_setCells_apart ?_ _ _ _ (.inr (.inl (by omega)))) _ _ _ (.inr (.inl (by omega)))
    rw [hw3]
    exact World.rangeAt_setCells_same _ _ _ _ (there_sub T2 (by omega) (by omega))
  have M5 : w5.cell? ⟨b, 0, none⟩ = some (.bool true) := by
    rw [hw5, World.cell?_setCells_out b _ _ _ _ (fun _ _ => .inl (by show (0 : Nat) < _; omega)), hw4, World.cell?_setCells_out b _ _ _ _ (fun _ _ => .inl (by show (0 : Nat) < _; omega)), hw3, World.cell?_setCells_out b _ _ _ _ (fun _ _ => .inl (by show (0 : Nat) < _; omega))]
    exact H.made
  have e73 : w5.setCell ⟨b, 73, none⟩ (.int .i64 x) = w5.setCells b 73 [.int .i64 x] := rfl
  have hp := pad64_len (restZ (bs ++ zs)) (by have := restZ_lt (bs ++ zs); omega)
  refine ⟨?_, ?_, ?_, ?_, ?_, hp⟩
  · rw [World.cell?_setCell_other _ _ _ _ (fun e => by injection e with _ e2; cases e2)]; exact M5
  · rw [e73]; exact World.rangeAt_setCells_apart N5 _ _ _ (.inr (.inl (by omega)))
  · rw [e73]; exact World.rangeAt_setCells_apart R5.range _ _ _ (.inr (.inl (by rw [vals_len, hp]; omega)))
  · obtain ⟨u, hu⟩ := Option.isSome_iff_exists.1 (T5 73 (by omega)).1
    rw [World.cell?_setCell_same _ _ _ (by simpa using hu), hx]
  · rw [e73]; exact World.there_setCells T5 _ _ _
set_option maxRecDepth 100000 in
set_option maxHeartbeats 2000000 in
theorem write_any {w : World} {b : Nat} {bs : List Int} (h : HashOf w b bs) (hbs : IsBytes bs) {B : Nat} {A : Option Addr} {n : Nat} (c : Nat) {zs : List Int} (hz : Bs w B A n zs) (hB : B ≤ w.heap.size)
    (hlen : bs.length + n ≤ 1099511627776) (hK : LaidK w) (hkb : 1 ≠ b) :
    Calls Tryd.prog 41 #[.pointer (some ⟨b, 0, none⟩), .slice A n c] w fun e w' => e = .returned (.int .i64 0) ∧ HashOf w' b (bs ++ zs) ∧ w.grownBy w' (some b) := by
  obtain ⟨m, hm⟩ : ∃ m, bs.length % 64 = m := ⟨_, rfl⟩
  obtain ⟨N, hN⟩ : ∃ N, bs.length = N := ⟨_, rfl⟩
  have c0 := h.made
  have c73 := h.n
  rw [hN] at c73 hlen hm
  have t1 : ((N : Int)).tmod 64 = ((m : Nat) : Int) := by rw [← hm]; exact tmod_nat N 64
  have hm64 : m < 64 := by omega
  have hmI : (m : Int) ≤ 64 := by omega
  have hblt := h.lt
  have BR := Lib.hid (HashIs.bs h hbs m (by rw [hN, hm]))
  have HH := Lib.hid h
  have HM := Lib.hid hm
  have HN := Lib.hid hN
  have HZL := Lib.hid hz.len
  obtain ⟨L, hL⟩ : ∃ L, m + n = L := ⟨_, rfl⟩
  have HRL : Hid ((restZ bs ++ zs).length = L) := Lib.hid (by rw [List.length_append, restZ_len, hz.len, hN, hm, hL])
  have hLb : L ≤ 1099511627840 := by omega
  have HLL := Lib.hid hL
  clear hm hN hL
  go_enter Tryd.func41, Tryd.ntmps41
  go_wp2
  have HI8 := Lib.hid (fun v : H8 => show (Tryd.prog.info? 73).map (·.size) = some (u32s v.list).length by rw [u32s_len, H8.len]; kernel_rfl)
  have HI64 := Lib.hid (show (Tryd.prog.info? 74).map (·.size) = some (vals (List.replicate 64 0)).toArray.size by rw [List.size_toArray, vals_len, List.length_replicate]; kernel_rfl)
  have HU8 := Lib.hid (show (Tryd.prog.info? 5).map (·.size) = some 1 by kernel_rfl)
  go_region_held3 (fun w' => w'.cell? ⟨b, 73, none⟩ = some (.int .i64 (N : Int))) (go_keep) ((go_at_call 22; refine (cat2_any (w := w.drew) 64 c 22 BR.out.drew hz.drew (by simp; omega) hB (by omega) 2 _ rfl).mono ?_; intro e w1 hm; obtain ⟨D, cd, rfl, ho, hb1, hd1, hd2⟩ := hm.n HRL.out; have q73 : w1.cell? ⟨b, 73, none⟩ = some (.int .i64 (N : Int)) := (World.cell?_of_block (a := ⟨b, 73, none⟩) ((hb1.block b (by simp <;> omega)).trans (Below.heap_alloc w.drew _ b hblt))).trans c73))
  have hs1 := hb1.size
  simp at hs1
  have bH1 : w1.heap[b]? = w.heap[b]? := (hb1.block b (by simp; omega)).trans (Below.heap_alloc w.drew _ b hblt)
  have hw1 : Below w.heap.size w w1 := (((Below.refl _ _).drew).alloc (Nat.le_refl _) _).trans (hb1.mono (by simp))
  have S1 : Bs w1 w1.heap.size D L (restZ bs ++ zs) := Made.bs ho ((restZ_bytes hbs).app hz.isBytes)
  have H1 := HH.out.same bH1
  have HH1 := Lib.hid H1
  have K1 := Lib.hid (hK.below hw1 hK.lt)
  have R0 := Lib.hid H1.now
  have hg0 : 0 < L → ∃ g, D = some ⟨g, 0, none⟩ ∧ g ≠ b ∧ g < w1.heap.size ∧ ∀ j, j < L → w1.cell? ⟨g, j, none⟩ = some (.int .u8 ((restZ bs ++ zs).getD j 0)) := fun h0 => by
    obtain ⟨g, cap, hv, hg, hlt⟩ := ho.form h0
    have hD : D = some ⟨g, 0, none⟩ := by injection hv
    subst hD
    obtain ⟨b', o', e', _, hc⟩ := S1.row h0
    injection e' with e'
    injection e' with e1 e2
    subst e1; subst e2
    refine ⟨g, rfl, by simp at hg; omega, hlt, fun j hj => by simpa using hc j hj⟩
  have hD0 : (D = none ∧ L = 0 ∧ cd = 0) ∨ ∃ g, D = some ⟨g, 0, none⟩ := by
    rcases ho.2 with ⟨e, e2⟩ | ⟨g, cap, cur, e, _⟩
    · injection e with e1 e2 e3; exact .inl ⟨e1, e2, e3⟩
    · injection e with e1 e2 e3; exact .inr ⟨g, e1⟩
  have HD := Lib.hid hD0
  clear hD0
  have HG := Lib.hid hg0
  have hbw1 : b < w1.heap.size := by omega
  clear H1 c0 c73 q73 hm ho hb1 h hK t1 hs1 hg0
  go_wp2_with (refine wpList_load_mid (op := ⟨some 31, _, _, _, _, _⟩) rfl 73 (.tmp 30) rfl b 1 rfl (u32s (Sha.behind h0 bs).list) _ R0.out Tryd.underlying73 rfl (HI8.out _) ?_)
  refine (behind_any (Sha.behind h0 bs) (behind_ok h0_ok _) cd S1 (Nat.le_refl _) (by omega) K1.out).mono ?_
  rintro e w2 ⟨rfl, hb2⟩
  rw [behind_more]
  have H2 := HH1.out.below hb2 (by omega)
  have T1 := Lib.hid (there_sub (o' := 1) (n' := (u32s (Sha.behind h0 (bs ++ zs)).list).toArray.size) H2.there (by omega) (by rw [List.size_toArray, u32s_len, H8.len]; omega))
  have HH2 := Lib.hid H2
  clear H2 S1 R0 HH1 K1
  have t2 : ∀ w3, Hid (w3 = w2.setCells b 1 (u32s (Sha.behind h0 (bs ++ zs)).list).toArray.toList) → w3.there b 9 (vals (List.replicate 64 0)).toArray.size := fun w3 hw3 => by
    rw [hw3.out]
    exact World.there_setCells (there_sub (o' := 9) (n' := (vals (List.replicate 64 0)).toArray.size) HH2.out.there (by omega) (by rw [List.size_toArray, vals_len, List.length_replicate]; omega)) b 1 (u32s (Sha.behind h0 (bs ++ zs)).list)
  have T2 := Lib.hid t2
  have A64 := Lib.hid (all_oneCell_toArray (vals_one (List.replicate 64 0)))
  clear t2
  go_wp2_with (first
    | (refine wpList_store_as (op := ⟨none, .store 73 (.tmp 35) (.tmp 33), _, _, _, _⟩) rfl 73 (.tmp 35) (.tmp 33) rfl b 1 (u32s (Sha.behind h0 (bs ++ zs)).list).toArray rfl rfl T1.out (HI8.out _) (u32s_all _) ?_; intro w3 hw3)
    | (refine wpList_store_as (op := ⟨none, .store 74 (.tmp 39) (.tmp 37), _, _, _, _⟩) rfl 74 (.tmp 39) (.tmp 37) rfl b 9 (vals (List.replicate 64 0)).toArray rfl rfl (T2.out _ hw3) HI64.out A64.out ?_; intro w4 hw4))
  obtain ⟨p, hq⟩ : ∃ p, 64 * (L / 64) = p := ⟨_, rfl⟩
  obtain ⟨r, hr⟩ : ∃ r, L % 64 = r := ⟨_, rfl⟩
  have hZ : restZ (bs ++ zs) = (restZ bs ++ zs).drop (p) := by rw [restZ_more, HRL.out, hq]
  have hZl : (restZ (bs ++ zs)).length = r := by rw [hZ, List.length_drop, HRL.out]; omega
  have hsrc : 0 < r → ∃ g, D = some ⟨g, 0, none⟩ ∧ ∀ j v, (vals (restZ (bs ++ zs)))[j]? = some v → w4.cell? ⟨g, p + j, none⟩ = some v := fun h0 => by
    obtain ⟨g, e, hgb, hg1, hc⟩ := HG.out (by omega)
    refine ⟨g, e, fun j v hv => ?_⟩
    have hj : j < r := by have := (List.getElem?_eq_some_iff.1 hv).1; rwa [vals_len, hZl] at this
    rw [vals_at _ j (by rw [hZl]; exact hj)] at hv
    injection hv with hv
    subst hv
    have h4 : w4.heap[g]? = w1.heap[g]? := by rw [hw4.out, heap_setCells _ _ hgb, hw3.out, heap_setCells _ _ hgb]; exact hb2.block g hg1
    rw [World.cell?_of_block (a := ⟨g, p + j, none⟩) h4, hc _ (by omega), hZ]
    simp [List.getD_eq_getElem?_getD]
  have t4 : w4.there b 9 (vals (restZ (bs ++ zs))).length := by
    rw [hw4.out, hw3.out, vals_len, hZl]
    exact World.there_setCells (World.there_setCells (there_sub (o' := 9) (n' := r) HH2.out.there (by omega) (by omega)) _ _ _) _ _ _
  have T4 := Lib.hid t4
  have HS := Lib.hid hsrc
  have HZ := Lib.hid hZl
  have c73 : w4.cell? ⟨b, 73, none⟩ = some (.int .i64 (N : Int)) := by
    rw [hw4.out, World.cell?_setCells_out b _ _ _ _ (fun _ _ => by rw [vals_len, List.length_replicate]; show (73 : Nat) < 9 ∨ 9 + 64 ≤ 73; omega), hw3.out, World.cell?_setCells_out b _ _ _ _ (fun _ _ => by rw [u32s_len, H8.len]; show (73 : Nat) < 1 ∨ 1 + 8 ≤ 73; omega)]
    have := HH2.out.n
    rwa [HN.out] at this
  have hq64 : p + r = L := by omega
  have hr64 : r < 64 := by omega
  have tL : ((L : Int)).tmod 64 = (r : Int) := by rw [← hr]; exact tmod_nat L 64
  have tw : IntKind.i64.wrap ((L : Int) - (r : Int)) = ((p : Nat) : Int) := by rw [IntKind.wrap_i64]; omega
  have u0 : (0 : Int) ≤ ((p : Nat) : Int) := by omega
  have u1 : ((p : Nat) : Int) ≤ (L : Int) := by omega
  have u2 : ((p : Nat) : Int) ≤ (cd : Int) := by omega
  have HQ := Lib.hid hq64
  have hgw : w.grownBy w4 (some b) := by
    rw [hw4.out, hw3.out]
    have h1 : w.grownBy w2 (some b) := by
      have := hw1.trans (hb2.mono hw1.size)
      exact ⟨this.os, this.tape, this.output, this.size, fun i hi _ => this.block i hi⟩
    exact grown_setCells _ _ _ (grown_setCells _ _ _ h1)
  have HGW := Lib.hid hgw
  have hfin : ∀ w5, Hid (w5 = w4.drew.setCells b 9 (vals (restZ (bs ++ zs)))) → Hid (w5.cell? ⟨b, 73, none⟩ = some (.int .i64 (N : Int)) ∧ w5.frozen? ⟨b, 73, none⟩ = false ∧ HashOf (w5.setCell ⟨b, 73, none⟩ (.int .i64 ((N : Int) + n))) b (bs ++ zs) ∧ w.grownBy (w5.setCell ⟨b, 73, none⟩ (.int .i64 ((N : Int) + n))) (some b)) := fun w5 hw5 => Lib.hid (by
    have g5 : w.grownBy w5 (some b) := by
      rw [hw5.out]
      exact grown_setCells _ _ _ ⟨hgw.os, hgw.tape, hgw.output, hgw.size, hgw.block⟩
    refine ⟨?_, ?_, (write_end HH2.out hw3.out hw4.out rfl _ (by rw [List.length_append, HN.out, HZL.out])).same (by rw [hw5.out, drew_setCells]; rfl), ?_⟩
    · rw [hw5.out, drew_setCells]
      show (w4.setCells b 9 _).cell? _ = _
      rw [World.cell?_setCells_out b _ _ _ _ (fun _ _ => .inr (by rw [vals_len, hZl]; show 9 + r ≤ 73; omega))]; exact c73
    · rw [hw5.out, World.frozen?_setCells]
      show w4.frozen? _ = _
      rw [hw4.out, World.frozen?_setCells, hw3.out, World.frozen?_setCells]
      have := (HH2.out.there 73 (by omega)).2
      simpa using this
    · exact grown_setCells [.int .i64 ((N : Int) + n)] 73 _ g5)
  have HFin := Lib.hid hfin
  clear hfin hgw
  clear hsrc t4 hZl hZ hq hr
  by_cases hr0 : r = 0
  · have hcs0 : Hid (vals (restZ (bs ++ zs)) = []) := Lib.hid (List.eq_nil_of_length_eq_zero (by rw [vals_len, HZ.out, hr0]))
    subst hr0
    have tL0 : ((L : Int)).tmod 64 = 0 := tL
    have pL : L = p := by omega
    subst pL
    have tw0 : IntKind.i64.wrap (L : Int) = (L : Int) := by rw [IntKind.wrap_i64]; omega
    have u3 : (L : Int) ≤ (L : Int) := by omega
    clear tL tw u1
    rcases HD.out with ⟨rfl, h1, h2⟩ | ⟨g, rfl⟩
    · subst h1; subst h2
      have tz : IntKind.i64.wrap 0 = 0 := by decide
      have tz2 : (0 : Int).tmod 64 = 0 := by decide
      clear tw0 tL0 u3 u0 u2
      go_region_held3 (fun _ => True) (exact trivial) ((refine step_copy_as (by rfl) (.tmp 43) (.tmp 51) 22 22 (by rfl) 5 Tryd.underlying22 HU8.out (some ⟨b, 9, none⟩) _ 64 64 _ _ (by rfl) (by rfl) b 9 (vals (restZ (bs ++ zs))) (by rw [hcs0.out]; simp) T4.out (fun h => by rw [hcs0.out] at h; simp at h) (vals_one _) ?_; intro w5 hw5))
      obtain ⟨k1, k2, k3, k4⟩ := (HFin.out w5 hw5).out
      have K3 := Lib.hid k3
      have K4 := Lib.hid k4
      clear k3 k4 c73 hw5
      go_wp2
      go_ret
      exact ⟨rfl, K3.out, K4.out⟩
    · by_cases hcd : L = cd
      · subst hcd
        go_region_held3 (fun _ => True) (exact trivial) ((refine step_copy_as (by rfl) (.tmp 43) (.tmp 51) 22 22 (by rfl) 5 Tryd.underlying22 HU8.out (some ⟨b, 9, none⟩) _ 64 64 _ _ (by rfl) (by rfl) b 9 (vals (restZ (bs ++ zs))) (by rw [hcs0.out]; simp) T4.out (fun h => by rw [hcs0.out] at h; simp at h) (vals_one _) ?_; intro w5 hw5))
        obtain ⟨k1, k2, k3, k4⟩ := (HFin.out w5 hw5).out
        have K3 := Lib.hid k3
        have K4 := Lib.hid k4
        clear k3 k4 c73 hw5
        go_wp2
        go_ret
        exact ⟨rfl, K3.out, K4.out⟩
      · have hnI : ¬ cd = L := by omega
        go_region_held3 (fun _ => True) (exact trivial) ((refine step_copy_as (by rfl) (.tmp 43) (.tmp 51) 22 22 (by rfl) 5 Tryd.underlying22 HU8.out (some ⟨b, 9, none⟩) _ 64 64 _ _ (by rfl) (by rfl) b 9 (vals (restZ (bs ++ zs))) (by rw [hcs0.out]; simp) T4.out (fun h => by rw [hcs0.out] at h; simp at h) (vals_one _) ?_; intro w5 hw5))
        obtain ⟨k1, k2, k3, k4⟩ := (HFin.out w5 hw5).out
        have K3 := Lib.hid k3
        have K4 := Lib.hid k4
        clear k3 k4 c73 hw5
        go_wp2
        go_ret
        exact ⟨rfl, K3.out, K4.out⟩
  · have hne : ¬ cd = p := by omega
    obtain ⟨g, rfl, HSR⟩ := HS.out (by omega)
    have HSR := Lib.hid HSR
    go_region_held3 (fun _ => True) (exact trivial) ((refine step_copy_as (by rfl) (.tmp 43) (.tmp 51) 22 22 (by rfl) 5 Tryd.underlying22 HU8.out (some ⟨b, 9, none⟩) (some ⟨g, p, none⟩) 64 64 (L - p) (cd - p) (by rfl) (by rfl) b 9 (vals (restZ (bs ++ zs))) (by rw [vals_len, HZ.out]; show r = min (L - p) 64; omega) T4.out (fun _ => ⟨rfl, _, rfl, fun j v hv => by rw [Go.WideShapes.add_plain]; exact HSR.out j v hv⟩) (vals_one _) ?_; intro w5 hw5))
    obtain ⟨k1, k2, k3, k4⟩ := (HFin.out w5 hw5).out
    have K3 := Lib.hid k3
    have K4 := Lib.hid k4
    clear k3 k4 c73 hw5
    go_wp2
    go_ret
    exact ⟨rfl, K3.out, K4.out⟩
end Go.Proofs.YtcihbkdpkhhhcaaDoor
