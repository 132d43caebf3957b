/- The statement FrameBack: the walk. -/
import Derived.Test.YtcihbkdpkhhhcaaDoorFJoin
import Derived.Test.YtcihbkdpkhhhcaaDoorFLists
namespace Go.Proofs.YtcihbkdpkhhhcaaDoor
open Go.ChangeShapes Go.WideShapes Go.ChangeAt Go.RowKit
set_option linter.unusedVariables false
open Plain Sha
/-- So many frames are whole in the first C bytes. -/
theorem whole_at (Ns : Nat → Nat) (C : Nat) : ∀ m, ∃ K, K ≤ m ∧ EN Ns K ≤ C ∧ (K < m → C < EN Ns (K + 1))
  | 0 => ⟨0, Nat.le_refl _, Nat.zero_le _, fun h => absurd h (by omega)⟩
  | m + 1 => by
    obtain ⟨K, h1, h2, h3⟩ := whole_at Ns C m
    by_cases hK : K < m
    · exact ⟨K, by omega, h2, fun _ => h3 hK⟩
    · have : K = m := by omega
      subst this
      by_cases hE : EN Ns (K + 1) ≤ C
      · exact ⟨K + 1, by omega, hE, fun h => absurd h (by omega)⟩
      · exact ⟨K, by omega, h2, fun _ => by omega⟩
theorem cut_frames {Ns : Nat → Nat} {Zs : Nat → List Int} {m K C : Nat} (hl : ∀ j, j < m → (Zs j).length = Ns j) (hs : ∀ j, j < m → Ns j ≤ 65536) (hK : K ≤ m) (h1 : EN Ns K ≤ C) (h2 : K < m → C < EN Ns (K + 1)) :
    (framesZ ((FZ Zs m).take C)).map (payZ ((FZ Zs m).take C)) = (List.range K).map Zs ∧ useZ (framesZ ((FZ Zs m).take C)) = EN Ns K := by
  have hL : ∀ z ∈ (List.range m).map Zs, z.length ≤ 65536 := fun z hz => by
    obtain ⟨j, hj, rfl⟩ := List.mem_map.1 hz
    have hj := List.mem_range.1 hj
    rw [hl j hj]; exact hs j hj
  have e1 : ∀ k, k ≤ m → (joinZ (((List.range m).map Zs).take k)).length = EN Ns k := fun k hk => by
    rw [take_range Zs k m hk, joinZ_range, FZ_len k (fun j hj => hl j (by omega))]
  obtain ⟨q, hq, hq2⟩ := join_cut ((List.range m).map Zs) hL K C (by simpa using hK) (by rw [e1 K hK]; exact h1) (fun h => by
    have h : K < m := by simpa using h
    rw [e1 (K + 1) (by omega)]; exact h2 h)
  rw [joinZ_range, take_range Zs K m hK] at hq
  have := frames_all ((List.range K).map Zs) q hq2 (fun z hz => by
    obtain ⟨j, hj, rfl⟩ := List.mem_map.1 hz
    have hj := List.mem_range.1 hj
    rw [hl j (by omega)]; exact hs j (by omega))
  rw [hq]
  exact ⟨this.1, by rw [this.2, joinZ_range, FZ_len K (fun j hj => hl j (by omega))]⟩
theorem endsV_at (Ns : Nat → Nat) {k m : Nat} (h : k < m) : (endsV Ns m)[k]? = some (.int .i64 ((EN Ns (k + 1) : Nat) : Int)) := by
  unfold endsV
  rw [List.getElem?_map, List.getElem?_range h]
  rfl
set_option maxRecDepth 100000 in
set_option maxHeartbeats 8000000 in
theorem frameBack_in {A : Option Addr} {m : Nat} (c : Nat) {As : Nat → Option Addr} {Ns Cs : Nat → Nat} {Zs : Nat → List Int} (a1 : Int) (w : World) (h : Lists w w.heap.size A m As Ns Cs Zs) (hm : m ≤ maxLen) (hN : ∀ j, j < m → Ns j ≤ 140737488355328) (hF : LaidF w) (hK : LaidK w) :
    Calls Tryd.prog 7 #[.slice A m c, .int .i64 a1] w fun e w' => e = .returned (.bool true) ∧ Below w.heap.size w w' := by
  have HL := Lib.hid h
  have HFl := Lib.hid hF.lt
  have HKl := Lib.hid hK.lt
  have HF := Lib.hid hF
  have HK := Lib.hid hK
  have HLen : Hid (∀ j, j < m → (Zs j).length = Ns j) := Lib.hid (fun j hj => (h.bs j hj).len)
  have HByt : Hid (IsBytes (FZ Zs m)) := Lib.hid (catTo_bytes _ m (fun j hj => frameZ_bytes (h.bs j hj).isBytes))
  have HG := Lib.hid (fun (w1 : World) (b1 : Below w.heap.size w w1) => flong_any c (h.below b1) hm hN)
  clear h hF hK hm hN
  go_enter Tryd.func7, Tryd.ntmps7
  go_wp2_with fail
  refine (fawake_any w HF.out HK.out).mono ?_
  rintro e w1 ⟨rfl, b1⟩
  have q1 := Lib.hid b1
  clear b1
  go_wp2_with fail
  refine (HG.out w1 q1.out).mono ?_
  rintro e w1' ⟨b, rfl, rfl, hb⟩
  cases b with
  | true =>
    go_wp2
    go_ret
    exact ⟨rfl, q1.out⟩
  | false =>
    have hs := hb rfl
    have hm100 : m ≤ 100 := by omega
    have HS1 : Hid (∀ k, k ≤ m → EN Ns k ≤ 2000 ∧ sumTo Ns k ≤ 2000) := Lib.hid (fun k hk => by have h1 := EN_le Ns k m hk; have h2 := EN_eq Ns m; have h3 := sumTo_le Ns k m hk; omega)
    have HNs : Hid (∀ j, j < m → Ns j ≤ 2000) := Lib.hid (fun j hj => by have h1 := (HS1.out (j + 1) (by omega)).2; have : sumTo Ns (j + 1) = sumTo Ns j + Ns j := rfl; omega)
    have C2 := Lib.hid (fjoin_any c (HL.out.below q1.out) q1.out.size hs (HF.out.below q1.out HFl.out) (HK.out.below q1.out HKl.out))
    obtain ⟨T, hT⟩ : ∃ T, EN Ns m = T := ⟨_, rfl⟩
    have hT2 : T ≤ 2000 := by rw [← hT]; exact (HS1.out m (Nat.le_refl _)).1
    have HT := Lib.hid hT
    rw [hT] at C2
    clear hb hs hT HG
    obtain ⟨C, hC, hcut⟩ : ∃ C : Nat, C ≤ T ∧ ((a1 < 0 ∧ C = T) ∨ (¬ a1 < 0 ∧ (T : Int) < a1 ∧ C = T) ∨ (a1 = (C : Int))) := by
      by_cases h1 : a1 < 0
      · exact ⟨T, Nat.le_refl _, .inl ⟨h1, rfl⟩⟩
      by_cases h2 : (T : Int) < a1
      · exact ⟨T, Nat.le_refl _, .inr (.inl ⟨h1, h2, rfl⟩)⟩
      · exact ⟨a1.toNat, by omega, .inr (.inr (by omega))⟩
    obtain ⟨K, hKm, hK1, hK2⟩ := whole_at Ns C m
    have HZ := Lib.hid (cut_frames HLen.out (fun j hj => by have := HNs.out j hj; omega) hKm hK1 hK2)
    have HK1 := Lib.hid hK1
    have HK2 := Lib.hid hK2
    clear hK1 hK2
    go_wp2_with fail
    refine C2.out.mono ?_
    rintro e w2 ⟨v1, v2, rfl, o1, o2, b2⟩
    obtain ⟨D, d, rfl, hd, hd2⟩ := own_shape o1
    obtain ⟨E, ec, rfl, he, he2⟩ := own_shape o2
    have q2 := Lib.hid (q1.out.trans (b2.mono q1.out.size))
    have s2 := b2.size
    have z2 : Hid (Bs w2 w2.heap.size D T (FZ Zs m)) := Lib.hid (bs_of_own o1 HByt.out)
    have O2 := Lib.hid o2
    have zC : Hid (Bs w2 w2.heap.size D C ((FZ Zs m).take C)) := Lib.hid (by
      have := z2.out.cut (k := 0) (m := C) (by omega) D (fun b off e _ => by rw [e]; rfl)
      rwa [List.drop_zero] at this)
    have hsC := cut_h D T d C (C : Int) rfl (by omega)
    have C3 := Lib.hid (all_count d (k := K) (u := EN Ns K) zC.out (Nat.le_refl _) (by omega) (by omega) (HF.out.below q2.out HFl.out) (HK.out.below q2.out HKl.out) HZ.out.1 (by simp) HZ.out.2)
    clear o1 o2 b2 C2 zC z2 q1
    rcases hcut with ⟨h1, rfl⟩ | ⟨h1, h2, rfl⟩ | rfl
    all_goals
      go_upto_region 8 with fail
    all_goals
      go_wp2
      go_loop [7, 8] (fun a b => ∃ k : Nat, k ≤ K ∧ a = .int .i64 (k : Int) ∧ b = .int .i64 ((EN Ns k : Nat) : Int)) (fun a _ => K - (intOf a).toNat)
      case atStart => exact ⟨0, by omega, rfl, rfl⟩
      case round =>
        obtain ⟨k, hk, rfl, rfl⟩ := hrel
        by_cases hlt : k < K
        · have hkm : (k : Int) < (m : Int) := by omega
          obtain ⟨g, cap, hv, _, _⟩ := O2.out.form (by omega)
          injection hv with e1 e2 e3
          subst e1; subst e3
          have hcell := O2.out.cellAt k (by omega)
          rw [endsV_at Ns (by omega)] at hcell
          have hle : EN Ns (k + 1) ≤ EN Ns K := EN_le Ns _ _ (by omega)
          have hle2 := HK1.out
          obtain ⟨E1, hE1⟩ : ∃ E1, EN Ns (k + 1) = E1 := ⟨_, rfl⟩
          rw [hE1] at hcell hle
          have hleC : (E1 : Int) ≤ (C : Int) := by omega
          have HE1 := Lib.hid hE1
          clear hE1 hle hle2 C3 hsC
          go_wp2
          go_round
          case rel => exact ⟨k + 1, by omega, by go_num, by rw [HE1.out]⟩
          case measure => simp [intOf]; omega
        · obtain rfl : k = K := by omega
          have hex : k = m ∨ (k < m ∧ C < EN Ns (k + 1)) := by
            by_cases h : k < m
            · exact .inr ⟨h, HK2.out h⟩
            · exact .inl (by omega)
          obtain ⟨U, hU⟩ : ∃ U, EN Ns k = U := ⟨_, rfl⟩
          have HU := Lib.hid hU
          rw [hU] at C3 ⊢
          clear hU
          rcases hex with hex | ⟨hkm, hE⟩
          · have hkmI : ¬ (k : Int) < (m : Int) := by omega
            clear hex
            go_wp2_with fail
            refine C3.out.mono ?_
            rintro e w3 ⟨A3, c3, ps, rfl, r3, p3, e3, l3, b3, _, _⟩
            have q3 := Lib.hid (q2.out.trans (b3.mono q2.out.size))
            have PR := Lib.hid (pieceRow_of r3 p3)
            have L3 := Lib.hid (HL.out.below q3.out)
            have E3 := Lib.hid e3
            have k100 : k ≤ 100 := by omega
            have hkm2 : k ≤ m := hKm
            clear r3 p3 e3 l3 b3 C3 hsC
            go_wp2
            go_loopw [11] (fun i wr => ∃ j mm : Nat, j ≤ k ∧ i = .int .i64 (j : Int) ∧ wr = w3.drewN mm) (fun i _ => k - (intOf i).toNat)
            case atStart => exact ⟨0, 0, by omega, rfl, rfl⟩
            case round =>
              obtain ⟨j, mm, hj, rfl, rfl⟩ := hrel
              by_cases hltj : j < k
              · obtain ⟨p, hp⟩ : ∃ p, ps[j]? = some p := ⟨_, List.getElem?_eq_getElem (by rw [PR.out.len]; exact hltj)⟩
                obtain ⟨b1, o1, rfl, e1, z1, m1⟩ := PR.out.cell j p hp
                obtain ⟨b2, o2, rfl, _, e2⟩ := L3.out.at_ (k := j) (by omega)
                have z2 := L3.out.bs j (by omega)
                have hz : p.zs = Zs j := by
                  have := congrArg (·[j]?) E3.out
                  simpa [List.getElem?_map, hp, List.getElem?_range hltj] using this
                obtain ⟨pA, pn, pc, pz⟩ := p
                have hz : pz = Zs j := hz
                have e1 : w3.cell? ⟨b1, o1 + j, none⟩ = some (.slice pA pn pc) := e1
                have hNj := HNs.out j (by omega)
                have S2 : Hid (∀ x, Calls Tryd.prog 21 #[.slice pA pn pc, .slice (As j) (Ns j) (Cs j)] (w3.drewN x) (Quiet (.bool true) (w3.drewN x))) := Lib.hid (fun x => by
                  have := same_any pc (Cs j) (z1.drewN x) (z2.drewN x) m1 (by unfold maxLen; omega)
                  rwa [show pz = Zs j from hz, eqB_self] at this)
                have hjI : (j : Int) < (k : Int) := by omega
                have hjm : (j : Int) < (m : Int) := by omega
                generalize Ns j = nj at *
                generalize Cs j = cj at *
                generalize As j = aj at *
                clear z1 z2 m1 hp hz hNj
                go_wp2
                go_region_with ((go_at_call 21; refine (S2.out _).mono ?_; rintro e w9 ⟨rfl, m9, rfl⟩))
                all_goals
                  go_wp2
                  go_roundw
                  case rel => exact ⟨j + 1, _, by omega, by go_num, rfl⟩
                  case measure => simp [intOf]; omega
              · obtain rfl : j = k := by omega
                go_wp2
                go_ret
                exact ⟨rfl, below_drewN q3.out _⟩
          · have hkmI : (k : Int) < (m : Int) := by omega
            obtain ⟨g, cap, hv, _, _⟩ := O2.out.form (by omega)
            injection hv with e1 e2 e3
            subst e1; subst e3
            have hcell := O2.out.cellAt k (by omega)
            rw [endsV_at Ns (by omega)] at hcell
            obtain ⟨E1, hE1⟩ : ∃ E1, EN Ns (k + 1) = E1 := ⟨_, rfl⟩
            rw [hE1] at hcell hE
            have hEI : ¬ (E1 : Int) ≤ (C : Int) := by omega
            clear hE1
            go_wp2_with fail
            refine C3.out.mono ?_
            rintro e w3 ⟨A3, c3, ps, rfl, r3, p3, e3, l3, b3, _, _⟩
            have q3 := Lib.hid (q2.out.trans (b3.mono q2.out.size))
            have PR := Lib.hid (pieceRow_of r3 p3)
            have L3 := Lib.hid (HL.out.below q3.out)
            have E3 := Lib.hid e3
            have k100 : k ≤ 100 := by omega
            have hkm2 : k ≤ m := hKm
            clear r3 p3 e3 l3 b3 C3 hsC
            go_wp2
            go_loopw [11] (fun i wr => ∃ j mm : Nat, j ≤ k ∧ i = .int .i64 (j : Int) ∧ wr = w3.drewN mm) (fun i _ => k - (intOf i).toNat)
            case atStart => exact ⟨0, 0, by omega, rfl, rfl⟩
            case round =>
              obtain ⟨j, mm, hj, rfl, rfl⟩ := hrel
              by_cases hltj : j < k
              · obtain ⟨p, hp⟩ : ∃ p, ps[j]? = some p := ⟨_, List.getElem?_eq_getElem (by rw [PR.out.len]; exact hltj)⟩
                obtain ⟨b1, o1, rfl, e1, z1, m1⟩ := PR.out.cell j p hp
                obtain ⟨b2, o2, rfl, _, e2⟩ := L3.out.at_ (k := j) (by omega)
                have z2 := L3.out.bs j (by omega)
                have hz : p.zs = Zs j := by
                  have := congrArg (·[j]?) E3.out
                  simpa [List.getElem?_map, hp, List.getElem?_range hltj] using this
                obtain ⟨pA, pn, pc, pz⟩ := p
                have hz : pz = Zs j := hz
                have e1 : w3.cell? ⟨b1, o1 + j, none⟩ = some (.slice pA pn pc) := e1
                have hNj := HNs.out j (by omega)
                have S2 : Hid (∀ x, Calls Tryd.prog 21 #[.slice pA pn pc, .slice (As j) (Ns j) (Cs j)] (w3.drewN x) (Quiet (.bool true) (w3.drewN x))) := Lib.hid (fun x => by
                  have := same_any pc (Cs j) (z1.drewN x) (z2.drewN x) m1 (by unfold maxLen; omega)
                  rwa [show pz = Zs j from hz, eqB_self] at this)
                have hjI : (j : Int) < (k : Int) := by omega
                have hjm : (j : Int) < (m : Int) := by omega
                generalize Ns j = nj at *
                generalize Cs j = cj at *
                generalize As j = aj at *
                clear z1 z2 m1 hp hz hNj
                go_wp2
                go_region_with ((go_at_call 21; refine (S2.out _).mono ?_; rintro e w9 ⟨rfl, m9, rfl⟩))
                all_goals
                  go_wp2
                  go_roundw
                  case rel => exact ⟨j + 1, _, by omega, by go_num, rfl⟩
                  case measure => simp [intOf]; omega
              · obtain rfl : j = k := by omega
                go_wp2
                go_ret
                exact ⟨rfl, below_drewN q3.out _⟩
end Go.Proofs.YtcihbkdpkhhhcaaDoor
