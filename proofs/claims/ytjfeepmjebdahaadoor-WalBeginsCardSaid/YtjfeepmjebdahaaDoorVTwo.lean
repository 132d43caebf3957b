/- The statement WalAdds: the walk. Two wals on one disk. -/
import Derived.Test.YtjfeepmjebdahaaDoorB9
namespace Go.Proofs.YtjfeepmjebdahaaDoor
open Go.ChangeShapes Go.WideShapes Go.ChangeAt Go.RowKit
set_option linter.unusedVariables false
open Plain Sha
theorem cut_lS (A : Option Addr) (n c lo : Nat) (l : Int) (hl : l = lo) (h1 : lo ≤ n) (h2 : n ≤ c) :
    ∃ A', (∀ W, (Instr.slice 33 (.slice A n c) (some (.int .i64 l)) none none).run Tryd.prog W = .ok (.slice A' (n - lo) (c - lo)) W) ∧ CutAt A A' lo (n - lo) := by
  subst hl
  refine ⟨_, fun W => ?_, cutAt_if A c lo (n - lo) (by omega)⟩
  have he : Tryd.prog.elem 33 = 27 := by simp [Program.elem, Tryd.underlying33]
  rw [run_slice_l W 33 A n c (by rw [he]; exact Tryd.underlying33) .i64 _ (by omega) (by omega), he, sizeOf_sl]
  simp [Result.andThen, sliced]
theorem RecsAt.cap {w : World} {K : Nat → Prop} {B m : Nat} {A : Option Addr} {c : Nat} {ps : List Piece} {l : List (List Int)} (h : RecsAt w K B (.slice A m c) ps l) : m ≤ c ∧ c ≤ maxLen := by
  obtain ⟨A', c', e, h1, h2⟩ := own_shape h.own
  injection e with e1 e2 e3
  subst e2 e3
  exact ⟨h1, h2⟩
/-- Two wals on one disk. -/
def Wal2 (w0 w : World) (v u d : Nat) (s : DiskZ) : Prop := ∃ K, WalAt w v d K ∧ WalAt w u d K ∧ Grown w0 w d K s
theorem wal2_add {w0 w : World} {v u d : Nat} {s s' : DiskZ} {A : Option Addr} {n : Nat} (c : Nat) {zs : List Int} {x : Int} (h : Wal2 w0 w v u d s) (hz : Stands w (fun k => k < w0.heap.size) ⟨A, n, n, zs⟩) (hl : n ≤ 65536) (hr : dWrite s (frameZ zs) = (x, s')) (hs : Small s) :
    Calls Tryd.prog 22 #[.pointer (some ⟨u, 0, none⟩), .slice A n c] w (fun e w' => e = .returned (.int .i64 x) ∧ Wal2 w0 w' v u d s') := by
  obtain ⟨K, h1, h2, h3⟩ := h
  have hnew := h3.at_.new
  refine (waladd_any c h2 h3 hs (hz.more (fun k hk _ hKk => by have := hnew k hKk; omega)) hl).mono fun e w' hd => ?_
  rw [hr] at hd
  obtain ⟨e1, K', h4, h5, h6⟩ := h3.did hd
  exact ⟨e1, K', h1.did h5 h6, h2.did h5 h6, h4⟩
set_option maxRecDepth 100000 in
set_option maxHeartbeats 4000000 in
theorem walAdds_in (A : Option Addr) (m c : Nat) (As : Nat → Option Addr) (Ns Cs : Nat → Nat) (Zs : Nat → List Int) (A2 : Option Addr) (m2 c2 : Nat) (As2 : Nat → Option Addr) (Ns2 Cs2 : Nat → Nat) (Zs2 : Nat → List Int) (w : World) (h : Lists w w.heap.size A m As Ns Cs Zs) (hm : m ≤ maxLen) (hN : ∀ j, j < m → Ns j ≤ 140737488355328)
    (h2 : Lists w w.heap.size A2 m2 As2 Ns2 Cs2 Zs2) (hm2 : m2 ≤ maxLen) (hN2 : ∀ j, j < m2 → Ns2 j ≤ 140737488355328) (hF : LaidF w) (hK : LaidK w) :
    Calls Tryd.prog 6 #[.slice A m c, .slice A2 m2 c2] w fun e w' => e = .returned (.bool true) ∧ Below w.heap.size w w' := by
  have HL := Lib.hid h
  have HL2 := Lib.hid h2
  have HF := Lib.hid hF
  have HK := Lib.hid hK
  have HN := Lib.hid hN
  have HN2 := Lib.hid hN2
  have HLen : Hid (∀ j, j < m → (Zs j).length = Ns j) := Lib.hid (fun j hj => (h.bs j hj).len)
  have HLen2 : Hid (∀ j, j < m2 → (Zs2 j).length = Ns2 j) := Lib.hid (fun j hj => (h2.bs j hj).len)
  have HG := Lib.hid (fun (w1 : World) (b1 : Below w.heap.size w w1) => wlong_any c (h.below b1) hm hN)
  have HG2 := Lib.hid (fun (w1 : World) (b1 : Below w.heap.size w w1) => wlong_any c2 (h2.below b1) hm2 hN2)
  clear h h2 hF hK hN hN2 hm hm2
  go_enter Tryd.func6, Tryd.ntmps6
  go_wp2_with fail
  refine (wawake_any w HF.out HK.out).mono ?_
  rintro e w1 ⟨rfl, b1⟩
  have q1 := Lib.hid b1
  clear b1
  go_wp2_with fail
  refine (HG.out w1 q1.out).mono ?_
  rintro e w1' ⟨b, rfl, rfl, hb⟩
  cases b with
  | true =>
    go_wp2
    go_ret
    exact ⟨rfl, q1.out⟩
  | false =>
    have HS1 := Lib.hid (hb rfl)
    clear hb
    go_wp2_with fail
    refine (HG2.out w1 q1.out).mono ?_
    rintro e w1' ⟨b, rfl, rfl, hb⟩
    cases b with
    | true =>
      go_wp2
      go_ret
      exact ⟨rfl, q1.out⟩
    | false =>
      have HS2 := Lib.hid (hb rfl)
      obtain ⟨hm50, hEN, hNs⟩ := weigh HS1.out
      obtain ⟨hm50b, hEN2, hNs2⟩ := weigh HS2.out
      have HEN := Lib.hid hEN
      have HNs := Lib.hid hNs
      have HEN2 := Lib.hid hEN2
      have HNs2 := Lib.hid hNs2
      clear hb hEN hNs hEN2 hNs2 HG HG2 HS1 HS2
      go_wp2_with fail
      refine (atk_first w w1 q1.out).mono ?_
      rintro e w2 ⟨rfl, k2, b2⟩
      have K2 := Lib.hid k2
      clear k2 b2
      go_wp2_with fail
      refine (wal_new K2.out HF.out HK.out).mono ?_
      rintro e w3 ⟨rfl, h⟩
      have H3 := Lib.hid h
      clear h
      obtain ⟨b, hb⟩ : ∃ b, w2.heap.size = b := ⟨_, rfl⟩
      obtain ⟨d, hd⟩ : ∃ d, w1.heap.size = d := ⟨_, rfl⟩
      rw [hb, hd] at H3 ⊢
      clear hb hd K2 q1
      have H0 : Hid (Holds ⟨true, [], []⟩ [] []) := Lib.hid ⟨rfl, first_nil, fun z hz => by cases hz⟩
      go_wp2
      go_loopw [7] (fun i wr => ∃ k : Nat, k ≤ m ∧ i = .int .i64 (k : Int) ∧ Hid (Wal w wr b d (sAdd ⟨true, [], []⟩ Zs k))) (fun i _ => m - (intOf i).toNat)
      case atStart => exact ⟨0, by omega, rfl, Lib.hid (by rw [sAdd_zero]; exact H3.out)⟩
      case round =>
        obtain ⟨k, hk, rfl, HR⟩ := hrel
        by_cases hlt : k < m
        · have hLr := HL.out.below HR.out.bel
          obtain ⟨g, o, rfl, hg, hcell⟩ := hLr.at_ hlt
          have hz := hLr.bs k hlt
          have hnk := HNs.out k hlt
          have C1 := Lib.hid (wal_add (Cs k) HR.out (Below.refl _ _) (stands_bs hz (by unfold maxLen; omega) (fun k hk => .inr hk)) (by omega) (sAdd_succ Zs k rfl) (sAdd_small (fun j hj => HLen.out j (by omega)) (by have := HEN.out k hk; simp [allZ]; omega) (by simp; omega)))
          clear hz hLr
          have hltI : (k : Int) < (m : Int) := by omega
          go_wp2_with fail
          refine C1.out.mono ?_
          rintro e w4 ⟨rfl, h⟩
          have H4 := Lib.hid h
          clear h C1
          go_wp2
          go_roundw
          case rel => exact ⟨k + 1, by omega, by go_num, H4⟩
          case measure => simp [intOf]; omega
        · obtain rfl : k = m := by omega
          have hh1 := sAdd_holds H0.out Zs k (fun j hj => by rw [HLen.out j hj]; have := HNs.out j hj; omega)
          rw [List.nil_append] at hh1
          have hlen : (allZ (sAdd ⟨true, [], []⟩ Zs k)).length ≤ 2000 := by rw [sAdd_len HLen.out]; have := HEN.out k (Nat.le_refl _); simp [allZ]; omega
          obtain ⟨s1, hs1⟩ : ∃ s1, sAdd ⟨true, [], []⟩ Zs k = s1 := ⟨_, rfl⟩
          have hu1 : s1.up = true := by rw [← hs1]; rfl
          have hw1 : s1.ws.length = k := by rw [← hs1]; unfold sAdd; simp
          rw [hs1] at HR hh1 hlen
          have HH1 := Lib.hid hh1
          have HU1 := Lib.hid hu1
          have HL1 := Lib.hid hlen
          have HW1 := Lib.hid hw1
          clear hh1 hlen hs1 hu1 hw1 H3 H0 hk hlt
          go_wp2_with fail
          refine (newwal_any _ d).mono ?_
          rintro e w4 ⟨rfl, b4, z4, x4, y4⟩
          obtain ⟨u, hu⟩ : ∃ u, wr.heap.size = u := ⟨_, rfl⟩
          have H4 : Hid (Wal2 w w4 b u d s1) := Lib.hid (by
            obtain ⟨K, h1, h2⟩ := HR.out
            refine ⟨K, h1.below b4, ⟨by rw [← hu]; exact x4, by rw [← hu]; exact y4, fun e => ?_⟩, h2.below b4⟩
            have := h2.at_.dk.lt u e
            omega)
          rw [hu]
          clear b4 z4 x4 y4 hu HR
          go_wp2
          go_loopw [9] (fun i wr => ∃ k2 : Nat, k2 ≤ m2 ∧ i = .int .i64 (k2 : Int) ∧ Hid (Wal2 w wr b u d (sAdd s1 Zs2 k2))) (fun i _ => m2 - (intOf i).toNat)
          case atStart => exact ⟨0, by omega, rfl, Lib.hid (by rw [sAdd_zero]; exact H4.out)⟩
          case round =>
            obtain ⟨k2, hk, rfl, HR⟩ := hrel
            by_cases hlt : k2 < m2
            · have hbel : Below w.heap.size w wr := by obtain ⟨K, _, _, h⟩ := HR.out; exact h.at_.bel
              have hLr := HL2.out.below hbel
              obtain ⟨g, o, rfl, hg, hcell⟩ := hLr.at_ hlt
              have hz := hLr.bs k2 hlt
              have hnk := HNs2.out k2 hlt
              have C1 := Lib.hid (wal2_add (Cs2 k2) HR.out (stands_bs hz (by unfold maxLen; omega) (fun k hk => hk)) (by omega) (sAdd_succ Zs2 k2 HU1.out) (sAdd_small (fun j hj => HLen2.out j (by omega)) (by have := HEN2.out k2 hk; have := HL1.out; omega) (by rw [HW1.out]; omega)))
              clear hz hLr hbel
              have hltI : (k2 : Int) < (m2 : Int) := by omega
              go_wp2_with fail
              refine C1.out.mono ?_
              rintro e w5 ⟨rfl, h⟩
              have H5 := Lib.hid h
              clear h C1
              go_wp2
              go_roundw
              case rel => exact ⟨k2 + 1, by omega, by go_num, H5⟩
              case measure => simp [intOf]; omega
            · obtain rfl : k2 = m2 := by omega
              have hh2 := sAdd_holds HH1.out Zs2 k2 (fun j hj => by rw [HLen2.out j hj]; have := HNs2.out j hj; omega)
              have hlen : (allZ (sAdd s1 Zs2 k2)).length ≤ 4000 := by rw [sAdd_len HLen2.out]; have := HEN2.out k2 (Nat.le_refl _); have := HL1.out; omega
              obtain ⟨s2, hs2⟩ : ∃ s2, sAdd s1 Zs2 k2 = s2 := ⟨_, rfl⟩
              have hu2 : s2.up = true := by rw [← hs2]; exact HU1.out
              have hw2 : s2.ws.length = k + k2 := by rw [← hs2]; unfold sAdd; simp [HW1.out]
              rw [hs2] at HR hh2 hlen
              have hsm : Small s2 := ⟨by omega, by omega⟩
              have hsy : dSync s2 = (0, (dSync s2).2) := by rw [← dSync_code hu2]
              have hsm3 : Small (dSync s2).2 := by
                unfold dSync
                rw [if_pos hu2]
                exact ⟨by rw [allZ_flat]; exact hsm.bytes, by simp⟩
              have hll : (L0 Zs k ++ L0 Zs2 k2).length = k + k2 := by rw [List.length_append, L0_len, L0_len]
              have hla : lastZ (allZ (dSync s2).2) (dSync s2).2.zs.length = k + k2 := by
                have h := last_join (l := L0 Zs k ++ L0 Zs2 k2) (q := []) (k + k2) (by omega) hh2.short
                have e : (L0 Zs k ++ L0 Zs2 k2).take (k + k2) = L0 Zs k ++ L0 Zs2 k2 := List.take_of_length_le (by omega)
                have e2 : (dSync s2).2.zs = joinZ (L0 Zs k ++ L0 Zs2 k2) := by
                  have := hh2.all
                  rw [List.append_nil] at this
                  unfold dSync
                  rw [if_pos hu2]
                  exact this
                rw [e, ← hh2.sync.all, ← e2] at h
                exact h
              obtain ⟨K2, v2, u2, g2⟩ := HR.out
              have V2 := Lib.hid v2
              have U2 := Lib.hid u2
              have G2 := Lib.hid g2
              have HS2 := Lib.hid hsm
              have HS3 := Lib.hid hsm3
              have HH2 := Lib.hid hh2.recs
              have HSY := Lib.hid hsy
              have HLA := Lib.hid hla
              have HLl := Lib.hid hll
              clear hk hlt hh2 hlen hs2 hu2 hw2 hsm hsy hsm3 hll hla v2 u2 g2 HR H4 HH1 HU1 HL1 HW1
              go_wp2_with fail
              refine (wal_recs2 V2.out G2.out HS2.out HH2.out HLl.out).mono ?_
              rintro e w6 ⟨A6, c6, ps6, rfl, v6, g6, b6, r6⟩
              have V6 := Lib.hid v6
              have G6 := Lib.hid g6
              have U6 := Lib.hid (U2.out.below b6)
              have R6 := Lib.hid r6
              clear v6 g6 b6 r6 V2 G2 U2
              go_wp2_with fail
              refine (wal_recs2 U6.out G6.out HS2.out HH2.out HLl.out).mono ?_
              rintro e w7 ⟨A7, c7, ps7, rfl, u7, g7, b7, r7⟩
              have U7 := Lib.hid u7
              have G7 := Lib.hid g7
              have V7 := Lib.hid (V6.out.below b7)
              have X7 := Lib.hid (R6.out.below b7)
              have Y7 := Lib.hid r7
              clear u7 g7 b7 r7 V6 G6 U6 R6
              have gw : IntKind.i64.wrap ((k : Int) + (k2 : Int)) = ((k + k2 : Nat) : Int) := by rw [IntKind.wrap_i64]; omega
              go_wp2_with fail
              refine (begin_any c6 c7 (X7.out.row HLl.out) (Y7.out.row HLl.out) (by omega) ⟨[], by rw [X7.out.zs, Y7.out.zs, List.append_nil]⟩).mono ?_
              rintro e w8 ⟨rfl, n8, rfl⟩
              have hA8 := lists_row (HL.out.below (G7.out.at_.bel.trans (below_drewN (Below.refl _ _) n8))) (Nat.le_trans G7.out.at_.bel.size (Nat.le_refl _)) HN.out
              have C8 := Lib.hid (begin_any c c6 hA8 ((X7.out.row HLl.out).drewN n8) (by omega) ⟨L0 Zs2 k2, by rw [X7.out.zs, piecesOf_zs]; rfl⟩)
              clear hA8
              go_wp2_with fail
              refine C8.out.mono ?_
              rintro e w9 ⟨rfl, n9, rfl⟩
              have hb9 : Below w7.heap.size w7 ((w7.drewN n8).drewN n9) := ⟨rfl, rfl, rfl, Nat.le_refl _, fun _ _ => rfl⟩
              obtain ⟨w9, hw9⟩ : ∃ w9, (w7.drewN n8).drewN n9 = w9 := ⟨_, rfl⟩
              rw [hw9] at hb9 ⊢
              have V9 := Lib.hid (V7.out.below hb9)
              have U9a := Lib.hid (U7.out.below hb9)
              have G9 := Lib.hid (G7.out.below hb9)
              have X9 := Lib.hid (X7.out.below hb9)
              have hcap := X7.out.cap
              obtain ⟨R, hsl, hcut⟩ := cut_lS A6 (k + k2) c6 k (k : Int) rfl (by omega) hcap.1
              rw [Nat.add_sub_cancel_left] at hsl hcut
              have hB9 := lists_row (HL2.out.below G9.out.at_.bel) G9.out.at_.bel.size HN2.out
              have hR9 : PieceRow w9 R k2 (ps6.drop k) := by
                have := (X9.out.row HLl.out).drop (k := k) (R := R) (by rw [Nat.add_sub_cancel_left]; exact hcut)
                rwa [Nat.add_sub_cancel_left] at this
              have C9 := Lib.hid (begin_any c2 (c6 - k) hB9 hR9 (by omega) ⟨[], by
                rw [List.append_nil, List.map_drop, X9.out.zs, piecesOf_zs, List.drop_append_of_le_length (by rw [L0_len]; omega), List.drop_of_length_le (by rw [L0_len]; omega), List.nil_append]; rfl⟩)
              clear hw9 hb9 hB9 hR9 hcut hcap C8 V7 G7 X7 Y7 U7
              go_wp2_with fail
              refine C9.out.mono ?_
              rintro e w10 ⟨rfl, n10, rfl⟩
              have hb10 : Below w9.heap.size w9 (w9.drewN n10) := ⟨rfl, rfl, rfl, Nat.le_refl _, fun _ _ => rfl⟩
              have U9 := Lib.hid (U9a.out.below hb10)
              have V10 := Lib.hid (V9.out.below hb10)
              have G10 := Lib.hid (G9.out.below hb10)
              have C10 := Lib.hid (walsync_any U9.out G10.out.at_.dk HS2.out)
              rw [HSY.out] at C10
              clear hb10 C9 V9 G9 X9 U9a
              go_wp2_with fail
              refine C10.out.mono ?_
              intro e w11 hd
              obtain ⟨rfl, K3, g11, m11, n11⟩ := G10.out.did hd
              have C11 := Lib.hid (walast_any (V10.out.did m11 n11) g11 HS3.out)
              rw [HLA.out] at C11
              have B11 := Lib.hid g11.at_.bel
              clear hd g11 m11 n11 C10 V10 G10 U9
              go_wp2_with fail
              refine C11.out.mono ?_
              rintro e w12 ⟨rfl, b12⟩
              have B12 := Lib.hid (B11.out.trans (b12.mono B11.out.size))
              clear b12 C11 hsl gw
              go_wp2
              go_ret
              exact ⟨rfl, B12.out⟩
end Go.Proofs.YtjfeepmjebdahaaDoor
