/- The document's own tag of a link. -/
import Derived.Test.YtkaojhcmdichfaaDoorAuL
import Derived.Test.YtkaojhcmdichfaaDoorB6
namespace Go.Proofs.YtkaojhcmdichfaaDoor
open Go.ChangeShapes Go.WideShapes Go.ChangeAt Go.RowKit
set_option linter.unusedVariables false
set_option linter.unusedSimpArgs false
open Plain Sha Au
set_option maxRecDepth 100000 in
set_option maxHeartbeats 4000000 in
theorem refhash_any {w : World} {g : LinkZ} (hg : LOk g) :
    Calls Tryd.prog 10 #[.agg (lc g).toArray] w (TagA w (hashZ g)) := by
  obtain ⟨T, hT⟩ : ∃ T, hashZ g = T := ⟨_, rfl⟩
  have lT : Hid (T.length = 32) := Lib.hid (by rw [← hT]; exact hashZ_len _)
  have HT : Hid (shaZ (numsB (nums g) ++ g.H) = T) := Lib.hid hT
  have HL : Hid ((numsB (nums g) ++ g.H).length = 88) := Lib.hid (bytesZ_len g)
  have HY : Hid (IsBytes (numsB (nums g) ++ g.H)) := Lib.hid (bytesZ_bytes hg)
  have HHY : Hid (IsBytes g.H) := Lib.hid hg.H
  have HNI := Lib.hid (nums_in hg)
  obtain ⟨W2, hW2⟩ : ∃ W, W = (w.alloc (.cells (lc g).toArray 26)).alloc (.cells (vals (List.replicate 32 0)).toArray 24) := ⟨_, rfl⟩
  have s2 : W2.heap.size = w.heap.size + 2 := by rw [hW2]; simp
  have b2 : Below w.heap.size w W2 := by rw [hW2]; exact ((Below.refl _ _).alloc (Nat.le_refl _) _).alloc (by simp) _
  have x2 : LBox W2 w.heap.size g := by rw [hW2]; exact (lbox_new w g _ _ rfl).grow ((Below.refl _ _).alloc (Nat.le_refl _) _)
  have t2 : W2.there (w.heap.size + 1) 0 32 := by
    have := (Row8.new (w.alloc (.cells (lc g).toArray 26)) (List.replicate 32 0) 24).there
    rw [show (w.alloc (.cells (lc g).toArray 26)).heap.size = w.heap.size + 1 by simp] at this
    rw [hW2]; simpa using this
  obtain ⟨W3, hW3⟩ : ∃ W, W = W2.alloc (.cells (iva (nums g)).toArray 3) := ⟨_, rfl⟩
  have n3 : Ns W3 (W2.heap.size + 1) (some ⟨W2.heap.size, 0, none⟩) 7 (nums g) := by rw [hW3]; exact ns_newA W2 (nums g) 7 rfl HNI.out 3 _ rfl
  have b3 : Below W2.heap.size W2 W3 := by rw [hW3]; exact (Below.refl _ _).alloc (Nat.le_refl _) _
  have s3 : W3.heap.size = W2.heap.size + 1 := by rw [hW3]; simp
  obtain ⟨d0, d1, d2, d3, d4, d5, d6⟩ := range_nums x2.range
  have HN3 : Hid (∀ W, Below W3.heap.size W3 W → Ns W W.heap.size (some ⟨W2.heap.size, 0, none⟩) 7 (nums g)) := Lib.hid (fun W hW => by
    have := n3.below hW (by omega)
    exact ⟨this.len, this.rng, fun h0 => by
      obtain ⟨b, off, e, hb, hc⟩ := this.row h0
      have := hW.size
      exact ⟨b, off, e, by omega, hc⟩⟩)
  have HZ3 : Hid (∀ W, Below W3.heap.size W3 W → Bs W W.heap.size (some ⟨w.heap.size, 7, none⟩) 32 g.H) := Lib.hid (fun W hW => bs_H ((x2.grow b3).grow hW).range hg (by have := hW.size; omega))
  have HB3 : Hid (Below w.heap.size w W3) := Lib.hid (b2.trans (b3.mono b2.size))
  have HT3 : Hid (∀ W, Below W3.heap.size W3 W → W.there (w.heap.size + 1) 0 32) := Lib.hid (fun W hW => there_same t2 ((hW.block _ (by omega)).trans (b3.block _ (by omega))))
  have HW2 := Lib.hid hW2
  have HW3 := Lib.hid hW3
  have hop0 := hg.op.1
  have hop1 := hg.op.2
  have gW : IntKind.i64.wrap g.op = g.op := by rw [IntKind.wrap_i64]; omega
  have S3 : Hid (w.heap.size + 3 = W3.heap.size) := Lib.hid (by omega)
  have own0 := World.ownsRow_nil W3 W3.heap.size 5 1
  have e57 : Hid (#[Value.int .i64 g.n, .int .i64 g.st, .int .i64 g.op, .int .i64 g.tn, .int .i64 g.a, .int .i64 g.b, .int .i64 g.c] = (iva (nums g)).toArray) := Lib.hid rfl
  have LN : Hid ((nums g).length = 7) := Lib.hid rfl
  have lH := Lib.hid g.hH
  clear hT hg hW2 hW3 n3 b3 b2 s2 s3 x2 t2
  rw [show hashZ g = T from HT.out]
  generalize nums g = ns at *
  generalize g.n = n0 at *
  generalize g.st = n1 at *
  generalize g.op = n2 at *
  generalize g.tn = n3 at *
  generalize g.a = n4 at *
  generalize g.b = n5 at *
  generalize g.c = n6 at *
  generalize g.H = H at *
  go_enter Tryd.func10, Tryd.ntmps10
  go_upto_region 1 with fail
  simp only [z32A]
  rw [← HW2.out]
  go_upto_region 3 with fail
  rw [e57.out, ← HW3.out]
  clear d0 d1 d2 d3 d4 d5 d6
  go_wp2
  go_loopw [3, 5] (fun v i wr => ∃ k : Nat, k ≤ 7 ∧ i = .int .i64 k ∧ wr.ownsRow W3.heap.size 5 1 v (8 * k) (vals (numsB (ns.take k))) ∧ Below W3.heap.size W3 wr) (fun _ i _ => 7 - (intOf i).toNat)
  case atStart => exact ⟨0, by omega, rfl, by simpa [numsB, vals] using own0, Below.refl _ _⟩
  case round =>
    obtain ⟨k, hk, rfl, hown, hbel⟩ := hrel
    by_cases hlt : k < 7
    · obtain ⟨b1, o1, u1, hA, hb1, HU1, hu1, hu1', hc1⟩ := (HN3.out _ hbel).at_ (k := k) hlt
      injection hA with hA
      injection hA with hA1 hA2 hA3
      subst hA1 hA2
      have hlI : (k : Int) < 7 := by omega
      have HTK : Hid (vals (numsB (ns.take (k + 1))) = vals (numsB (ns.take k)) ++ vals (numB u1)) := Lib.hid (by rw [take_snoc_getD _ _ (by rw [LN.out]; exact hlt), numsB_snoc, vals_app, HU1.out])
      have OW := Lib.hid hown
      clear hown
      rw [Nat.zero_add] at hc1
      go_wp2_with fail
      refine (refnumber_any u1 _).mono ?_
      intro e w3 hm3
      obtain ⟨D3, c3, rfl, ho3, hb3, _, _⟩ := hm3.n (n := 8) (numB_len _)
      have z3 := Lib.hid (Made.bs ho3 (numB_bytes _))
      have own3 := Lib.hid (own_below OW.out hb3 (Nat.le_refl _))
      have q3 : Below W3.heap.size W3 w3 := hbel.trans (hb3.mono hbel.size)
      have s3 := q3.size
      clear hm3 ho3 hb3 OW
      go_wp2_with (at_builtin; refine wpList_app _ rfl (.tmp 29) (.tmp 34) 45 rfl W3.heap.size 5 1 1 Tryd.underlying45 u8_info (by omega) u3 (8 * k) (vals (numsB (ns.take k))) rfl own3.out D3 8 c3 (vals (numB u1)) rfl z3.out.lies.1 z3.out.lies.2 (vals_one _) (by unfold maxLen; omega) (by omega) s3 ?_; intro v4 w4 ho4 hg4)
      have q4 : Below W3.heap.size W3 w4 := q3.grown hg4 s3 (fun j hj => (own3.out.lt j hj).1)
      have own4 : w4.ownsRow W3.heap.size 5 1 v4 (8 * (k + 1)) (vals (numsB (ns.take (k + 1)))) := by rw [HTK.out]; exact ho4
      clear ho4 hg4
      go_roundw
      case rel => exact ⟨k + 1, by omega, by go_num, own4, q4⟩
      case measure => simp [intOf]; omega
    · obtain rfl : k = 7 := by omega
      have hown2 : wr.ownsRow W3.heap.size 5 1 u3 (56 + 0) (vals (numsB ns ++ H.take 0)) := by
        rw [List.take_of_length_le (by rw [LN.out]; omega)] at hown
        simpa using hown
      have QB := Lib.hid hbel
      obtain ⟨V, hV⟩ : ∃ V, wr = V := ⟨_, rfl⟩
      rw [hV] at hown2 QB
      rw [hV]
      clear hown hbel hV own0
      go_wp2
      go_loopw [3, 6] (fun v i wr => ∃ k : Nat, k ≤ 32 ∧ i = .int .i64 k ∧ wr.ownsRow W3.heap.size 5 1 v (56 + k) (vals (numsB ns ++ H.take k)) ∧ Below W3.heap.size W3 wr) (fun _ i _ => 32 - (intOf i).toNat)
      case atStart => exact ⟨0, by omega, rfl, hown2, QB.out⟩
      case round =>
        obtain ⟨k, hk, rfl, hown, hbel⟩ := hrel
        by_cases hlt : k < 32
        · obtain ⟨b1, o1, u1, hA, hb1, HU1, hu1, hu1', hc1⟩ := (HZ3.out _ hbel).at_ (k := k) hlt
          injection hA with hA
          injection hA with hA1 hA2 hA3
          subst hA1 hA2
          have hlI : (k : Int) < 32 := by omega
          have HTK : Hid (vals (numsB ns ++ H.take (k + 1)) = vals (numsB ns ++ H.take k) ++ vals [u1]) := Lib.hid (by rw [take_snoc_getD _ _ (by rw [lH.out]; exact hlt), HU1.out, ← List.append_assoc, vals_app (numsB ns ++ H.take k)])
          obtain ⟨V2, hV2⟩ : ∃ V, V = wr.alloc (.cells #[.int .u8 u1] 5) := ⟨_, rfl⟩
          have o2 : V2.ownsRow W3.heap.size 5 1 u3 (56 + k) (vals (numsB ns ++ H.take k)) := by rw [hV2]; exact hown.alloc _
          have z2 : Bs V2 (wr.heap.size + 1) (some ⟨wr.heap.size, 0, none⟩) 1 [u1] := by
            rw [hV2]
            exact bs_new wr [u1] 1 rfl (fun j hj => by
              have : j = 0 := by simp at hj; omega
              subst this
              exact ⟨hu1, hu1'⟩) 5 _ rfl
          have q2 : Below W3.heap.size W3 V2 := by rw [hV2]; exact hbel.alloc hbel.size _
          have O2 := Lib.hid o2
          have Z2 := Lib.hid z2
          have HV2 := Lib.hid hV2
          have s2 := q2.size
          clear hown o2 z2 hV2
          go_wp2_with (at_builtin; (try rw [← HV2.out]); refine wpList_app _ rfl (.tmp 40) (.tmp 45) 45 rfl W3.heap.size 5 1 1 Tryd.underlying45 u8_info (by omega) u3 (56 + k) (vals (numsB ns ++ H.take k)) rfl O2.out (some ⟨wr.heap.size, 0, none⟩) 1 1 (vals [u1]) rfl Z2.out.lies.1 Z2.out.lies.2 (vals_one _) (by unfold maxLen; omega) (by omega) s2 ?_; intro v4 w4 ho4 hg4)
          have q4 : Below W3.heap.size W3 w4 := q2.grown hg4 s2 (fun j hj => (O2.out.lt j hj).1)
          have own4 : w4.ownsRow W3.heap.size 5 1 v4 (56 + (k + 1)) (vals (numsB ns ++ H.take (k + 1))) := by rw [HTK.out]; exact ho4
          clear ho4 hg4
          go_roundw
          case rel => exact ⟨k + 1, by omega, by go_num, own4, q4⟩
          case measure => simp [intOf]; omega
        · obtain rfl : k = 32 := by omega
          have hown3 : wr.ownsRow W3.heap.size 5 1 u3 88 (vals (numsB ns ++ H)) := by
            rw [List.take_of_length_le (by rw [lH.out]; omega)] at hown
            exact hown
          obtain ⟨D, c, rfl, _, _⟩ := own_shape hown3
          have Z := Lib.hid (bs_of_own hown3 HY.out)
          have TT := Lib.hid (HT3.out _ hbel)
          have QW := Lib.hid (HB3.out.trans (hbel.mono HB3.out.size))
          have G2 := lT
          have HLT : Hid (w.heap.size + 1 < wr.heap.size) := Lib.hid (by have := S3.out; have := hbel.size; omega)
          clear hown hown3 hbel
          go_wp2_with (first
            | (go_at_call 22; refine (refsum_any c Z.out (Nat.le_refl _) (by omega)).mono ?_; rw [HT.out]; rintro e w8 ⟨rfl, b8⟩; have B8 := Lib.hid (QW.out.trans (b8.mono QW.out.size)); have T8 := Lib.hid (there_same TT.out (b8.block _ HLT.out)); clear b8)
            | (have g := G2; clear g; refine wpList_store_as (op := ⟨none, .store 24 (.tmp 2) (.tmp 48), _, _, _, _⟩) rfl 24 (.tmp 2) (.tmp 48) rfl (w.heap.size + 1) 0 (vals T).toArray rfl rfl (tag_at T8.out lT.out) (tag_size T lT.out) (all_oneCell_toArray (vals_one T)) ?_; intro w9 hw9; clear G2))
          have R9 : w9.rangeAt (w.heap.size + 1) 0 (vals T) := by rw [hw9.out]; exact World.rangeAt_setCells_same _ _ _ _ (tag_at T8.out lT.out)
          have b9 : Below w.heap.size w w9 := by rw [hw9.out]; exact below_setCells (by omega) _ _ _ B8.out
          exact bodyPost_ret (v := .agg (vals T).toArray) (results_mid (p := 2) (ty := 24) rfl _ _ (w.heap.size + 1) 0 (vals T) _ rfl R9 Tryd.underlying24 rfl (tag_size T lT.out)) rfl ⟨rfl, b9⟩
end Go.Proofs.YtkaojhcmdichfaaDoor
