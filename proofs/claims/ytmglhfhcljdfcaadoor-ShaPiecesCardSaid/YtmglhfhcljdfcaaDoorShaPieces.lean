/- A hash that is written any pieces, and asked behind each, tells what the chapter says; the pieces are the caller's own. -/
import Derived.Test.YtmglhfhcljdfcaaDoorR3
import Derived.Test.YtmglhfhcljdfcaaDoorShaSumB
import Derived.Test.YtmglhfhcljdfcaaDoorCat
import Derived.Test.YtmglhfhcljdfcaaDoorOwn
import Derived.Deep.Cut
namespace Go.Proofs.YtmglhfhcljdfcaaDoor
open Go.ChangeShapes Go.WideShapes Go.ChangeAt Go.RowKit
set_option linter.unusedVariables false
open Plain Sha
/-- What Long returns: where it says no, the lengths, each counted as one more, are at most 2000. -/
def LongIs (Ns : Nat → Nat) (m : Nat) (w : World) (e : Ending) (w' : World) : Prop := ∃ b : Bool, e = .returned (.bool b) ∧ w = w' ∧ (b = false → sumTo Ns m + m ≤ 2000)
set_option maxHeartbeats 2000000 in
theorem long_any {B : Nat} {A : Option Addr} {m : Nat} (c : Nat) {As : Nat → Option Addr} {Ns Cs : Nat → Nat} {Zs : Nat → List Int} {w : World} (h : Lists w B A m As Ns Cs Zs) (hm : m ≤ maxLen) (hN : ∀ j, j < m → Ns j ≤ 140737488355328) :
    Calls Tryd.prog 17 #[.slice A m c, .int .i64 2000] w (LongIs Ns m w) := by
  unfold maxLen at hm
  have HL := Lib.hid h
  have HN := Lib.hid hN
  clear h hN
  go_enter Tryd.func17, Tryd.ntmps17
  go_wp2
  go_loop [5, 6] (fun v i => ∃ k S : Nat, k ≤ m ∧ i = .int .i64 k ∧ v = .int .i64 S ∧ Hid (sumTo Ns k + k = S) ∧ S ≤ 2000) (fun _ i => m - (intOf i).toNat)
  case atStart => exact ⟨0, 0, by omega, rfl, rfl, Lib.hid rfl, by omega⟩
  case round =>
    obtain ⟨k, S, hk, rfl, rfl, HS, hS⟩ := hrel
    by_cases hlt : k < m
    · obtain ⟨b1, o1, rfl, hb1, hc1⟩ := HL.out.at_ hlt
      obtain ⟨N, hNe⟩ : ∃ N, Ns k = N := ⟨_, rfl⟩
      have hNb : N ≤ 140737488355328 := by rw [← hNe]; exact HN.out k hlt
      rw [hNe] at hc1
      have HNe := Lib.hid hNe
      clear hNe
      by_cases hbig : 2000 < S + N + 1
      · have hbI : 2000 < (S : Int) + (N : Int) + 1 := by omega
        go_wp2
        go_ret
        exact ⟨true, rfl, rfl, fun h => by cases h⟩
      · have hbI : ¬ 2000 < (S : Int) + (N : Int) + 1 := by omega
        go_wp2
        go_round
        case rel => exact ⟨k + 1, S + N + 1, by omega, by go_num, by go_num, Lib.hid (by show sumTo Ns k + Ns k + (k + 1) = _; rw [HNe.out, ← HS.out]; omega), by omega⟩
        case measure => simp [intOf]; omega
    · have hkm : k = m := by omega
      have HE : Hid (sumTo Ns m + m ≤ 2000) := Lib.hid (by rw [← hkm, HS.out]; exact hS)
      clear hkm
      go_wp2
      go_ret
      exact ⟨false, rfl, rfl, fun _ => HE.out⟩
theorem own_keepB {w w' : World} {base n size : Nat} {t : TypeId} {v : Value} {xs : List Value} (h : w.ownsRow base t size v n xs) (hk : ∀ g, base ≤ g → g < w.heap.size → w'.heap[g]? = w.heap[g]?) : w'.ownsRow base t size v n xs := by
  have hlt := h.lt
  obtain ⟨h1, h2 | ⟨g, cap, cur, rfl, hg, hh, h3⟩⟩ := h
  · exact ⟨h1, .inl h2⟩
  · have := hlt g rfl
    exact ⟨h1, .inr ⟨g, cap, cur, rfl, hg, (hk g this.1 this.2).trans hh, h3⟩⟩
theorem catTo_bytes' {w : World} {B m : Nat} {A : Option Addr} {As : Nat → Option Addr} {Ns Cs : Nat → Nat} {Zs : Nat → List Int} (h : Lists w B A m As Ns Cs Zs) (k : Nat) (hk : k ≤ m) : IsBytes (catTo Zs k) ∧ (catTo Zs k).length = sumTo Ns k :=
  ⟨catTo_bytes Zs k (fun j hj => (h.bs j (by omega)).isBytes), catTo_len Zs Ns k (fun j hj => (h.bs j (by omega)).len)⟩
set_option maxRecDepth 100000 in
set_option maxHeartbeats 8000000 in
theorem shaPieces_in {A : Option Addr} {m : Nat} (c : Nat) {As : Nat → Option Addr} {Ns Cs : Nat → Nat} {Zs : Nat → List Int} (w : World) (h : Lists w w.heap.size A m As Ns Cs Zs) (hm : m ≤ maxLen) (hN : ∀ j, j < m → Ns j ≤ 140737488355328) (hF : LaidF w) (hK : LaidK w) :
    Calls Tryd.prog 4 #[.slice A m c] w fun e w' => e = .returned (.bool true) ∧ Below w.heap.size w w' := by
  have LG := Lib.hid (long_any c h hm hN)
  have HL := Lib.hid h
  have HF := Lib.hid hF
  have HK := Lib.hid hK
  have HFl := Lib.hid hF.lt
  have HKl := Lib.hid hK.lt
  clear h hF hK hN hm
  go_enter Tryd.func4, Tryd.ntmps4
  go_wp2_with fail
  refine LG.out.mono ?_
  rintro e w0 ⟨b, rfl, rfl, hsum⟩
  cases b with
  | true =>
    go_wp2
    go_ret
    exact ⟨rfl, Below.refl _ _⟩
  | false =>
    have hsm := hsum rfl
    have HSM := Lib.hid hsm
    have hm2000 : m ≤ 2000 := by omega
    clear hsum hsm LG
    go_wp2_with fail
    refine (new_any w HF.out).mono ?_
    rintro e w1 ⟨rfl, h1, b1, s1⟩
    obtain ⟨hb', hhb⟩ : ∃ g, w.heap.size = g := ⟨_, rfl⟩
    have H1 := Lib.hid (show HashOf w1 hb' (catTo Zs 0) by rw [← hhb]; exact h1)
    have q1 := Lib.hid b1
    have hbE : w.heap.size ≤ hb' := by omega
    have hbs : hb' < w1.heap.size := by omega
    simp only [hhb]
    have HHB := Lib.hid hhb
    clear h1 b1 s1 hhb
    have hbK : Hid (1 ≠ hb') := Lib.hid (by have := HKl.out; omega)
    go_wp2
    go_loopw [4, 5] (fun v i wr => ∃ k : Nat, k ≤ m ∧ i = .int .i64 k ∧ Hid (wr.ownsRow (hb' + 1) 5 1 v (sumTo Ns k) (vals (catTo Zs k))) ∧ Hid (HashOf wr hb' (catTo Zs k)) ∧ Hid (Below w.heap.size w wr)) (fun _ i _ => m + 1 - (intOf i).toNat)
    case atStart => exact ⟨0, by omega, rfl, Lib.hid (World.ownsRow_nil _ _ _ _), H1, q1⟩
    case round =>
      obtain ⟨k, hk, rfl, HO, HH, HB⟩ := hrel
      obtain ⟨D, d, hv, _, _⟩ := own_shape HO.out
      subst hv
      have sr := HB.out.size
      have hlb := HH.out.lt
      obtain ⟨zs, hzs⟩ : ∃ zs, catTo Zs k = zs := ⟨_, rfl⟩
      obtain ⟨N, hNk⟩ : ∃ N, sumTo Ns k = N := ⟨_, rfl⟩
      have hcb := catTo_bytes' HL.out k hk
      rw [hzs, hNk] at hcb
      have BZ := Lib.hid hcb.1
      have LZ := Lib.hid hcb.2
      have hN2 : N ≤ 2000 := by have := HSM.out; have := sumTo_le Ns k m hk; omega
      rw [hzs, hNk] at HO
      rw [hzs] at HH
      simp only [hNk]
      have HZS := Lib.hid hzs
      have HNK := Lib.hid hNk
      clear hzs hNk hcb
      obtain ⟨T, hT⟩ : ∃ T, shaZ zs = T := ⟨_, rfl⟩
      have lT : Hid (T.length = 32) := Lib.hid (by rw [← hT]; exact shaZ_len _)
      have HT := Lib.hid hT
      have hNe : ∀ w, (binOp .neq 25 (.agg (vals T).toArray) (.agg (vals T).toArray)).run Tryd.prog w = .ok (.bool false) w := fun w => by rw [run_tagNe T T lT.out lT.out w, show eqB T T = true by simp [eqB]]; rfl
      have hkI : (k : Int) ≤ (m : Int) := by omega
      clear hT
      go_wp2_with fail
      refine (sum_any HH.out BZ.out (by rw [LZ.out]; omega) (HK.out.below HB.out HKl.out)).mono ?_
      rw [HT.out]
      rintro e w2 ⟨rfl, b2⟩
      have q2 := Lib.hid (HB.out.trans (b2.mono sr))
      have HH2 := Lib.hid (HH.out.below b2 hlb)
      have HO2 := Lib.hid (own_below HO.out b2 (Nat.le_refl _))
      have s2 := b2.size
      clear b2 HB HH HO
      have G := lT
      go_upto_region 9 with (have g := G; clear g; refine wpList_store_as (op := ⟨none, .store 25 (.tmp 6) (.tmp 22), _, _, _, _⟩) rfl 25 (.tmp 6) (.tmp 22) rfl w2.heap.size 0 (vals T).toArray rfl rfl (tag_there w2 T lT.out) (tag_size T lT.out) (all_oneCell_toArray (vals_one T)) ?_; intro w3 hw3; clear G)
      obtain ⟨r3, b3, s3⟩ := stored_tag lT.out hw3
      have q3 := Lib.hid (q2.out.trans (b3.mono q2.out.size))
      have HH3 := Lib.hid (HH2.out.below b3 (by omega))
      have HO3 := Lib.hid (own_below HO2.out b3 (Nat.le_refl _))
      have R3 := Lib.hid r3
      obtain ⟨tb, htb⟩ : ∃ g, w2.heap.size = g := ⟨_, rfl⟩
      rw [htb] at R3 s3 s2
      simp only [htb]
      have Z3 := Lib.hid (bs_of_own HO3.out BZ.out).drew
      have hlb3 : hb' < w3.heap.size := by omega
      have htb3 : tb < w3.heap.size := s3
      clear hw3 htb r3 b3 HH2 HO2 q2
      have hu := Tryd.underlying25
      have hiT := tag_size T lT.out
      refine wp_region_noPanic ?_
      refine wp_region_held_drew (S := fun w' => w'.rangeAt tb 0 (vals T)) (by kernel_rfl) R3.out (fun hHeld => ?_)
      refine wpAnyH_take (i := 0) (oi := ⟨some 24, .move (.tmp 7), _, _, _, _⟩) (v := .int .i64 0) rfl (by kernel_rfl) (by kernel_rfl) (by kernel_rfl) (fun _ _ _ h => h) (Or.inl ⟨by rfl, fun w hSw => ?_⟩) (by assumption) ?_
      · go_simp
      try simp only [Act.put, List.setIfInBounds_toArray, List.set_cons_zero, List.set_cons_succ]
      refine wpAnyH_take (i := 1) (oi := ⟨some 25, .binOp .neq 33 (.tmp 24) (.const (.int .i64 0)) 33, _, _, _, _⟩) (v := .bool false) rfl (by kernel_rfl) (by kernel_rfl) (by kernel_rfl) (fun _ _ _ h => h) (Or.inl ⟨by rfl, fun w hSw => ?_⟩) (by assumption) ?_
      · (go_simp; first | done | rfl | simp)
      try simp only [Act.put, List.setIfInBounds_toArray, List.set_cons_zero, List.set_cons_succ]
      refine wpAnyH_take (i := 2) (oi := ⟨some 26, .move (.tmp 25), _, _, _, _⟩) (v := .bool false) rfl (by kernel_rfl) (by kernel_rfl) (by kernel_rfl) (fun _ _ _ h => h) (Or.inl ⟨by rfl, fun w hSw => ?_⟩) (by assumption) ?_
      · go_simp
      try simp only [Act.put, List.setIfInBounds_toArray, List.set_cons_zero, List.set_cons_succ]
      refine wpAnyH_take (i := 3) (oi := ⟨some 27, .load 25 (.tmp 6), _, _, _, _⟩) (v := _) rfl (by kernel_rfl) (by kernel_rfl) (by kernel_rfl) (fun _ _ _ h => h) (yieldsIf_load_mid (by rfl) _ _ rfl _ _ rfl (vals T) _ (fun _ h => h) hu rfl hiT) (by assumption) ?_
      try simp only [Act.put, List.setIfInBounds_toArray, List.set_cons_zero, List.set_cons_succ]
      refine wpAnyH_take (i := 4) (oi := ⟨some 28, .move (.tmp 4), _, _, _, _⟩) (v := .slice D N d) rfl (by kernel_rfl) (by kernel_rfl) (by kernel_rfl) (fun _ _ _ h => h) (Or.inl ⟨by rfl, fun w hSw => ?_⟩) (by assumption) ?_
      · go_simp
      try simp only [Act.put, List.setIfInBounds_toArray, List.set_cons_zero, List.set_cons_succ]
      refine wpAnyH_ready (rs := [5]) (by kernel_rfl) (by simp) ?_
      refine AllReadyH.cons (o := ⟨some 29, .call { callee := .value (.func 15), args := #[.tmp 28], argTypes := #[22] }, _, _, _, _⟩) rfl (fun K hK => ?_) AllReadyH.nil
      go_simp
      refine (refsum_any d Z3.out (Nat.le_refl _) (by omega)).mono ?_
      rw [HT.out]
      rintro e w4 ⟨rfl, b4⟩
      have r4 := rangeAt_same R3.out (b4.block tb htb3)
      have q4 := Lib.hid (q3.out.drew.trans (b4.mono q3.out.size))
      have HH4 := Lib.hid (HashOf.below (w := w3.drew) (HH3.out.same rfl) b4 hlb3)
      have HO4 := Lib.hid (own_below (w := w3.drew) HO3.out b4 (Nat.le_refl _))
      have s4 : w3.heap.size ≤ w4.heap.size := b4.size
      clear b4
      go_wp2_with fail
      refine hK.out _ _ r4 (fun hHeld2 => ?_)
      clear hK K hHeld
      have hHeld := hHeld2
      clear hHeld2
      try simp only [Act.put, List.setIfInBounds_toArray, List.set_cons_zero, List.set_cons_succ]
      refine wpAnyH_take (i := 6) (oi := ⟨some 30, .binOp .neq 25 (.tmp 27) (.tmp 29) 25, _, _, _, _⟩) (v := .bool false) rfl (by kernel_rfl) (by kernel_rfl) (by kernel_rfl) (fun _ _ _ h => h) (Or.inl ⟨by rfl, fun w hSw => ?_⟩) (by assumption) ?_
      · go_simp
      try simp only [Act.put, List.setIfInBounds_toArray, List.set_cons_zero, List.set_cons_succ]
      refine wpAnyH_take (i := 7) (oi := ⟨some 31, .pick (.tmp 26) (.const (.bool true)) (.tmp 30), _, _, _, _⟩) (v := .bool false) rfl (by kernel_rfl) (by kernel_rfl) (by kernel_rfl) (fun _ _ _ h => h) (Or.inl ⟨by rfl, fun w hSw => ?_⟩) (by assumption) ?_
      · go_simp
      try simp only [Act.put, List.setIfInBounds_toArray, List.set_cons_zero, List.set_cons_succ]
      refine wpAnyH_take (i := 8) (oi := ⟨some 32, .move (.tmp 31), _, _, _, _⟩) (v := .bool false) rfl (by kernel_rfl) (by kernel_rfl) (by kernel_rfl) (fun _ _ _ h => h) (Or.inl ⟨by rfl, fun w hSw => ?_⟩) (by assumption) ?_
      · go_simp
      try simp only [Act.put, List.setIfInBounds_toArray, List.set_cons_zero, List.set_cons_succ]
      refine wpAnyH_take (i := 9) (oi := ⟨some 33, .move (.tmp 3), _, _, _, _⟩) (v := .pointer (some ⟨hb', 0, none⟩)) rfl (by kernel_rfl) (by kernel_rfl) (by kernel_rfl) (fun _ _ _ h => h) (Or.inl ⟨by rfl, fun w hSw => ?_⟩) (by assumption) ?_
      · go_simp
      try simp only [Act.put, List.setIfInBounds_toArray, List.set_cons_zero, List.set_cons_succ]
      refine wpAnyH_take (i := 11) (oi := ⟨some 35, .move (.tmp 4), _, _, _, _⟩) (v := .slice D N d) rfl (by kernel_rfl) (by kernel_rfl) (by kernel_rfl) (fun _ _ _ h => h) (Or.inl ⟨by rfl, fun w hSw => ?_⟩) (by assumption) ?_
      · go_simp
      try simp only [Act.put, List.setIfInBounds_toArray, List.set_cons_zero, List.set_cons_succ]
      refine wpAnyH_take (i := 12) (oi := ⟨some 36, .call { callee := .builtin .len, args := #[.tmp 35], argTypes := #[22] }, _, _, _, _⟩) (v := .int .i64 (N : Int)) rfl (by kernel_rfl) (by kernel_rfl) (by kernel_rfl) (fun _ _ _ h => h) (Or.inl ⟨by rfl, fun w hSw => ?_⟩) (by assumption) ?_
      · go_simp
      try simp only [Act.put, List.setIfInBounds_toArray, List.set_cons_zero, List.set_cons_succ]
      refine wpAnyH_ready (rs := [10]) (by kernel_rfl) (by simp) ?_
      refine AllReadyH.cons (o := ⟨some 34, .call { callee := .value (.func 20), args := #[.tmp 33], argTypes := #[31] }, _, _, _, _⟩) rfl (fun K hK => ?_) AllReadyH.nil
      go_simp
      refine (len_any HH4.out N LZ.out).mono ?_
      rintro e w5 ⟨rfl, rfl⟩
      go_wp2_with fail
      refine hK.out _ _ r4 (fun hHeld2 => ?_)
      clear hK K hHeld
      have hHeld := hHeld2
      clear hHeld2
      try simp only [Act.put, List.setIfInBounds_toArray, List.set_cons_zero, List.set_cons_succ]
      refine wpAnyH_take (i := 13) (oi := ⟨some 37, .binOp .neq 3 (.tmp 34) (.tmp 36) 3, _, _, _, _⟩) (v := .bool false) rfl (by kernel_rfl) (by kernel_rfl) (by kernel_rfl) (fun _ _ _ h => h) (Or.inl ⟨by rfl, fun w hSw => ?_⟩) (by assumption) ?_
      · (go_simp; first | done | rfl | simp)
      try simp only [Act.put, List.setIfInBounds_toArray, List.set_cons_zero, List.set_cons_succ]
      refine wpAnyH_take (i := 14) (oi := ⟨some 38, .pick (.tmp 32) (.const (.bool true)) (.tmp 37), _, _, _, _⟩) (v := .bool false) rfl (by kernel_rfl) (by kernel_rfl) (by kernel_rfl) (fun _ _ _ h => h) (Or.inl ⟨by rfl, fun w hSw => ?_⟩) (by assumption) ?_
      · go_simp
      try simp only [Act.put, List.setIfInBounds_toArray, List.set_cons_zero, List.set_cons_succ]
      refine wpAnyH_done (by kernel_rfl) ?_ _
      refine NoPanic.normal ?_
      clear hHeld r4 HH3 HO3 R3 Z3 q3 hNe hu hiT
      by_cases hkm : k = m
      · have hkmI : ((k : Int) == (m : Int)) = true := by simp; omega
        go_wp2
        go_ret
        exact ⟨rfl, q4.out⟩
      · have hkmI : ((k : Int) == (m : Int)) = false := by simp; omega
        have hkmI' : ¬ (k : Int) = (m : Int) := by omega
        have hlt : k < m := by omega
        have hltI : (k : Int) < (m : Int) := by omega
        have L4 := Lib.hid (HL.out.below q4.out)
        obtain ⟨b1, o1, hA, hb1, hc1⟩ := L4.out.at_ hlt
        subst hA
        have ZK := Lib.hid (L4.out.bs k hlt)
        obtain ⟨Ak, hAk⟩ : ∃ x, As k = x := ⟨_, rfl⟩
        obtain ⟨Nk, hNk⟩ : ∃ x, Ns k = x := ⟨_, rfl⟩
        obtain ⟨Ck, hCk⟩ : ∃ x, Cs k = x := ⟨_, rfl⟩
        obtain ⟨zk, hzk⟩ : ∃ x, Zs k = x := ⟨_, rfl⟩
        rw [hAk, hNk, hzk] at ZK
        rw [hAk, hNk, hCk] at hc1
        have hNk2 : Nk ≤ 2000 := by
          have h1 := HSM.out
          have h2 := sumTo_le Ns (k + 1) m hlt
          have h3 : sumTo Ns (k + 1) = sumTo Ns k + Ns k := rfl
          omega
        have HNk : Hid (sumTo Ns (k + 1) = N + Nk) := Lib.hid (by show sumTo Ns k + Ns k = _; rw [HNK.out, hNk])
        have HZk : Hid (catTo Zs (k + 1) = zs ++ zk) := Lib.hid (by show catTo Zs k ++ Zs k = _; rw [HZS.out, hzk])
        have LK := Lib.hid ZK.out.len
        have eK : Hid (eqB zk zk = true) := Lib.hid (by simp [eqB])
        have s4w := q4.out.size
        have EA := Lib.hid hAk
        have EN := Lib.hid hNk
        have EC := Lib.hid hCk
        have EZ := Lib.hid hzk
        clear hAk hNk hCk hzk hkm
        go_wp2_with fail
        refine (refcopy_any Ck ZK.out s4w (by omega)).mono ?_
        intro e w5 hm5
        obtain ⟨D5, d5, rfl, ho5, b5, _, _⟩ := hm5.n LK.out
        have q5 := Lib.hid (q4.out.trans (b5.mono s4w))
        have HH5 := Lib.hid (HH4.out.below b5 (by omega))
        have HO5 := Lib.hid (own_below HO4.out b5 (Nat.le_refl _))
        have OW5 := Lib.hid (Own.of ho5 ZK.out.isBytes)
        have V5 := Lib.hid (Made.bs ho5 ZK.out.isBytes)
        have s5 := b5.size
        have B5 := Lib.hid b5
        clear hm5 ho5 b5 HH4 q4 hc1
        go_wp2_with fail
        refine (write_any HH5.out BZ.out d5 V5.out (Nat.le_refl _) (by rw [LZ.out]; omega) (HK.out.below q5.out HKl.out) hbK.out).mono ?_
        rintro e w6 ⟨rfl, h6, g6⟩
        have q6 := Lib.hid (below_hash g6 hbE q5.out q5.out.size)
        have H6 := Lib.hid h6
        have s6 := g6.size
        have OW6 : Hid (Own w6 w4.heap.size D5 Nk d5) := Lib.hid (by
          obtain ⟨zz, e1, e2, e3⟩ := OW5.out
          exact ⟨zz, e1, e2, own_keepB e3 (fun g hg1 hg2 => g6.block g hg2 (by simp; omega))⟩)
        have V6 := Lib.hid (V5.out.keepB (w' := w6) (fun b off e hb => g6.block b hb (by
          obtain ⟨zz, e1, e2, e3⟩ := OW5.out
          have := (e3.lt b (by rw [e]; rfl)).1
          simp; omega)))
        have L6 := Lib.hid (HL.out.below q6.out)
        obtain ⟨b2, o2, hA2, hb2, hc2⟩ := L6.out.at_ hlt
        obtain ⟨rfl, rfl⟩ : b1 = b2 ∧ o1 = o2 := by simpa using hA2
        clear hA2
        have ZK6 := Lib.hid (L6.out.bs k hlt)
        rw [EA.out, EN.out, EZ.out] at ZK6
        rw [EA.out, EN.out, EC.out] at hc2
        have G6 := Lib.hid g6
        clear h6 g6 HH5 HO5 q5 OW5 V5
        go_wp2_with fail
        refine (refsame_any d5 Ck V6.out ZK6.out (by unfold maxLen; omega) (by unfold maxLen; omega)).mono ?_
        rw [eK.out]
        rintro e w7 ⟨rfl, hq⟩
        have q67 : Below w6.heap.size w6 w7 := by
          obtain ⟨mm, rfl⟩ := hq
          exact below_drewN (Below.refl _ _) mm
        have s7 := q67.size
        have q7 := Lib.hid (q6.out.trans (q67.mono q6.out.size))
        have H7 := Lib.hid (H6.out.below q67 (by omega))
        have OW7 := Lib.hid (OW6.out.below q67 (Nat.le_refl _))
        have K7 : Hid (∀ g, hb' + 1 ≤ g → g < w4.heap.size → w7.heap[g]? = w4.heap[g]?) := Lib.hid (fun g hg1 hg2 => (q67.block g (by omega)).trans ((G6.out.block g (by omega) (by simp; omega)).trans (B5.out.block g hg2)))
        clear hq q67 H6 OW6 V6 ZK6 L6 G6 B5 hc2 q6
        go_wp2
        go_loopw [9] (fun j wx => ∃ jj : Nat, jj ≤ Nk ∧ j = .int .i64 jj ∧ Hid (Own wx w4.heap.size D5 Nk d5) ∧ Hid (Below w4.heap.size w7 wx)) (fun j _ => Nk - (intOf j).toNat)
        case atStart => exact ⟨0, by omega, rfl, OW7, Lib.hid (Below.refl _ _)⟩
        case round =>
          clear OW7
          obtain ⟨jj, hj, rfl, OWx, Bx⟩ := hrel
          by_cases hlj : jj < Nk
          · obtain ⟨g, u, rfl, hg1, hg2, hu0, hu1, hc, hf, HS⟩ := OWx.out.at_ hlj
            go_wp2
            go_roundw
            case rel => exact ⟨jj + 1, by omega, by go_num, Lib.hid (HS.out _ (by omega) (by omega)), Lib.hid (Bx.out.setCell (by simpa using hg1) _)⟩
            case measure => simp [intOf]; omega
          · have sx := Bx.out.size
            have qx := Lib.hid (q7.out.trans (Bx.out.mono (by omega)))
            have Hx := Lib.hid (H7.out.below Bx.out (by omega))
            have HOx := Lib.hid (own_keepB HO4.out (fun g hg1 hg2 => (Bx.out.block g hg2).trans (K7.out g hg1 hg2)))
            have Lx := Lib.hid (HL.out.below qx.out)
            obtain ⟨b3, o3, hA3, hb3, hc3⟩ := Lx.out.at_ hlt
            obtain ⟨rfl, rfl⟩ : b1 = b3 ∧ o1 = o3 := by simpa using hA3
            clear hA3
            have ZKx := Lib.hid (Lx.out.bs k hlt)
            rw [EA.out, EN.out, EZ.out] at ZKx
            rw [EA.out, EN.out, EC.out] at hc3
            have hown := HOx.out
            have hva : Hid (vals (zs ++ zk) = vals zs ++ vals zk) := Lib.hid (by simp [vals])
            clear HO4 K7 H7 q7 Bx OWx HOx
            go_wp2_with (at_builtin; refine wpList_app _ rfl (.tmp 73) (.tmp 77) 22 rfl (hb' + 1) 5 1 1 Tryd.underlying22 u8_info (by omega) (.slice D N d) N (vals zs) rfl hown Ak Nk Ck (vals zk) rfl ZKx.out.lies.1 ZKx.out.lies.2 (vals_one _) (by unfold maxLen; omega) (by omega) (by omega) ?_; intro v2 w9 ho9 hg9)
            have H9 := Lib.hid (Hx.out.same (hg9.block hb' (by omega) (fun e => by have := (hown.lt hb' e.symm).1; omega)))
            have q9 := Lib.hid (qx.out.grown hg9 qx.out.size (fun q hq => by have := (hown.lt q hq).1; omega))
            go_roundw
            case rel => exact ⟨k + 1, by omega, by go_num, Lib.hid (by rw [HNk.out, HZk.out, hva.out]; exact ho9), Lib.hid (by rw [HZk.out]; exact H9.out), q9⟩
            case measure => simp [intOf]; omega
end Go.Proofs.YtmglhfhcljdfcaaDoor
