/- The document's own disk: its Crash. -/
import Derived.Test.YtlbmhkccmclmfaaRCut
namespace Go.Proofs.Ytlbmhkccmclmfaa
open Go.ChangeShapes Go.WideShapes Go.ChangeAt Go.RowKit
set_option linter.unusedVariables false
theorem leftZ_begins (ws : List (List Int)) (kp torn : Int) (h0 : 0 ≤ kp) : ∃ r, ws.flatten = (leftZ ws kp torn).flatten ++ r := by
  unfold leftZ
  split
  · exact ⟨[], by simp⟩
  · next hk =>
    have hlt : kp.toNat < ws.length := by omega
    have e1 : ws = ws.take kp.toNat ++ (ws[kp.toNat] :: ws.drop (kp.toNat + 1)) := by rw [← List.drop_eq_getElem_cons hlt, List.take_append_drop]
    have e2 : ws.getD kp.toNat [] = ws[kp.toNat] := by rw [List.getD_eq_getElem?_getD, List.getElem?_eq_getElem hlt]; rfl
    rw [e2]
    generalize (max (min torn ((ws[kp.toNat].length : Int) - 1)) 0).toNat = t
    refine ⟨(ws[kp.toNat]).drop t ++ (ws.drop (kp.toNat + 1)).flatten, ?_⟩
    conv => lhs; rw [e1]
    rw [List.flatten_append, List.flatten_cons, List.flatten_append, List.flatten_singleton]
    conv => lhs; rw [← List.take_append_drop t (ws[kp.toNat])]
    simp only [List.append_assoc]
theorem left_take (z0 : List Int) (ws : List (List Int)) (kp torn : Int) (h0 : 0 ≤ kp) : (z0 ++ ws.flatten).take (z0 ++ (leftZ ws kp torn).flatten).length = z0 ++ (leftZ ws kp torn).flatten := by
  obtain ⟨r, hr⟩ := leftZ_begins ws kp torn h0
  rw [hr, ← List.append_assoc, List.take_left]
theorem left_len_all (ws : List (List Int)) (kp : Nat) (torn : Int) (h : ws.length ≤ kp) : (leftZ ws kp torn).flatten.length = (ws.take ws.length).flatten.length := by
  unfold leftZ
  rw [if_pos (by omega), List.take_length]
theorem left_len_some (ws : List (List Int)) (kp : Nat) (torn : Int) (h : kp < ws.length) : ∃ hs : Nat, (ws.take (kp + 1)).flatten.length = (ws.take kp).flatten.length + hs ∧ (leftZ ws kp torn).flatten.length = (ws.take kp).flatten.length + min (max (min torn ((hs : Int) - 1)) 0).toNat hs := by
  refine ⟨(ws.getD kp []).length, ?_, ?_⟩
  · rw [List.take_add_one, List.getElem?_eq_getElem h, List.getD_eq_getElem?_getD, List.getElem?_eq_getElem h]
    simp only [List.flatten_append, List.length_append, Option.toList_some, List.flatten_singleton, Option.getD_some]
  · unfold leftZ
    rw [if_neg (by omega), Int.toNat_natCast, List.flatten_append, List.length_append, List.flatten_singleton, List.length_take]
theorem flatten_take_le2 (k : Nat) (ws : List (List Int)) : (ws.take k).flatten.length ≤ ws.flatten.length := by
  have := flatten_take_le k ws
  omega
set_option maxRecDepth 100000 in
set_option maxHeartbeats 4000000 in
theorem rcrash_any {w : World} {r : Nat} {K : Nat → Prop} {s : DiskZ} (keep torn : Int) (h : Rf w r K s) (hs : Small s) (hkb : -9223372036854775808 ≤ keep ∧ keep ≤ 9223372036854775807) (htb : -9223372036854775808 ≤ torn ∧ torn ≤ 9223372036854775807) : Calls Try.prog 29 #[.pointer (some ⟨r, 0, none⟩), .int .i64 keep, .int .i64 torn] w (RDid w r K (dCrash s keep torn)) := by
  have HD := Lib.hid h
  obtain ⟨v, EV, h⟩ := h
  obtain ⟨A0, n0, c0, hn0, rfl, hc0, hc0m, hbs⟩ := h.val
  have h0 := h.b
  have h1 := h.syn
  have h2 := h.ends
  have h3 := h.down
  have hby := hs.bytes
  have hwr := hs.writes
  have hr0 := h.lt r h.kb
  have HFZ := Lib.hid h.f
  have hn1 : n0 ≤ 1000000 := by omega
  cases hu : s.up with
  | false =>
    rw [hu] at h3
    have HZ : Hid (dCrash s keep torn = (60, s)) := Lib.hid (by unfold dCrash; rw [hu]; rfl)
    clear hu h hn0 hbs hby hwr hs
    go_enter Try.func29, Try.ntmps29
    go_wp2
    go_ret
    rw [HZ.out]
    exact ⟨rfl, K, HD.out, Moved.refl _ _, Newer.refl _ _⟩
  | true =>
    rw [hu] at h3
    by_cases hneg : keep < 0
    · have HZ : Hid (dCrash s keep torn = (2, s)) := Lib.hid (by unfold dCrash; rw [hu, if_pos rfl, if_pos (.inl hneg)])
      clear hu h hn0 hbs hby hwr hs
      go_enter Try.func29, Try.ntmps29
      go_wp2
      go_ret
      rw [HZ.out]
      exact ⟨rfl, K, HD.out, Moved.refl _ _, Newer.refl _ _⟩
    by_cases hneg2 : torn < 0
    · have HZ : Hid (dCrash s keep torn = (2, s)) := Lib.hid (by unfold dCrash; rw [hu, if_pos rfl, if_pos (.inr hneg2)])
      clear hu h hn0 hbs hby hwr hs
      go_enter Try.func29, Try.ntmps29
      go_wp2
      go_ret
      rw [HZ.out]
      exact ⟨rfl, K, HD.out, Moved.refl _ _, Newer.refl _ _⟩
    obtain ⟨kp, hkp⟩ := Int.eq_ofNat_of_zero_le (show 0 ≤ keep by omega)
    subst hkp
    obtain ⟨E, m, d, hm, rfl, _, _, hrow⟩ := h.row
    have HROW := Lib.hid hrow
    have HM := Lib.hid hm
    have hm3 : m ≤ 1000000 := by omega
    obtain ⟨EV, hEV⟩ : ∃ EV, Value.slice E m d = EV := ⟨_, rfl⟩
    obtain ⟨fe, hfe⟩ : ∃ fe, (s.zs ++ (leftZ s.ws kp torn).flatten).length = fe := ⟨_, rfl⟩
    have hlen0 : (allZ s).length = s.zs.length + s.ws.flatten.length := by simp only [allZ, List.length_append]
    have hfe2 : fe = s.zs.length + (leftZ s.ws kp torn).flatten.length := by rw [← hfe, List.length_append]
    have hfn : fe ≤ n0 := by have := (leftZ_len s.ws kp torn).1; omega
    have HZ : Hid (dCrash s kp torn = (0, ⟨false, s.zs ++ (leftZ s.ws kp torn).flatten, []⟩)) := Lib.hid (by unfold dCrash; rw [hu, if_pos rfl, if_neg (by omega)])
    have htk : (allZ s).take fe = s.zs ++ (leftZ s.ws kp torn).flatten := by rw [← hfe]; exact left_take s.zs s.ws kp torn (by omega)
    have HTL : Hid (((allZ s).take fe).length = fe) := Lib.hid (by rw [List.length_take, hn0]; omega)
    have HTB : Hid (IsBytes ((allZ s).take fe)) := Lib.hid (isBytes_iff.2 fun z hz => isBytes_iff.1 h.bytes z (List.mem_of_mem_take hz))
    have hcut := hbs.cut (k := 0) (m := fe) (by omega) A0 (fun b off e _ => by rw [e]; simp)
    rw [List.drop_zero] at hcut
    have HCP := Lib.hid (refcopy_any c0 hcut (Nat.le_refl _) (by omega))
    have HC := Lib.hid (cut_h A0 n0 c0 fe fe rfl (by omega))
    have HT : Hid (allZ (⟨false, s.zs ++ (leftZ s.ws kp torn).flatten, []⟩ : DiskZ) = (allZ s).take fe) := Lib.hid (by rw [allZ_flat, htk])
    have HS1 : Hid ((⟨false, s.zs ++ (leftZ s.ws kp torn).flatten, []⟩ : DiskZ).zs.length = fe) := Lib.hid hfe
    have HUU := Lib.hid hu
    have HA := Lib.hid h
    rw [hEV] at HA
    have g3 : (fe : Int) ≤ (c0 : Int) := by omega
    obtain ⟨a0, ha0⟩ : ∃ a0, s.zs.length = a0 := ⟨_, rfl⟩
    have HFE := Lib.hid hfe2
    have HA0 := Lib.hid ha0
    have hsmall : ∀ j, a0 + (s.ws.take j).flatten.length ≤ 1000000 := fun j => by have := flatten_take_le2 j s.ws; omega
    have HSMA := Lib.hid hsmall
    rw [ha0] at h1
    have HEV := Lib.hid hEV
    clear hu h hn0 hbs hby hwr hs hcut hrow hm hfe hlen0 htk hEV hsmall hfe2 ha0
    go_enter Try.func29, Try.ntmps29
    go_wp2
    go_loop [7, 8] (fun a i => ∃ j : Nat, j ≤ m ∧ j ≤ kp ∧ i = .int .i64 j ∧ ∃ e : Nat, a = .int .i64 e ∧ e ≤ 1000000 ∧ Hid (e = a0 + (s.ws.take j).flatten.length)) (fun _ i => m - (intOf i).toNat)
    case atStart => exact ⟨0, by omega, by omega, rfl, a0, rfl, by have := HSMA.out 0; omega, Lib.hid (by simp)⟩
    case round =>
      obtain ⟨j, hj, hjk, rfl, e, rfl, he, HE⟩ := hrel
      by_cases hlt : j < m ∧ j < kp
      · obtain ⟨hlt1, hlt2⟩ := hlt
        have i1 : (j : Int) < m := by omega
        have i2 : (j : Int) < kp := by omega
        obtain ⟨g, rfl, hc⟩ := HROW.out j hlt1
        rw [HA0.out] at hc
        have hle := HSMA.out (j + 1)
        have HE2 : Hid (a0 + (s.ws.take (j + 1)).flatten.length = a0 + (s.ws.take (j + 1)).flatten.length) := Lib.hid rfl
        obtain ⟨e2, he2⟩ : ∃ e2, a0 + (s.ws.take (j + 1)).flatten.length = e2 := ⟨_, rfl⟩
        rw [he2] at hc hle
        have HE3 := Lib.hid he2.symm
        clear he2 HE2
        go_wp2
        go_round
        case rel => exact ⟨j + 1, by omega, by omega, by go_num, e2, rfl, hle, HE3⟩
        case measure => simp [intOf]; omega
      · have HXX : Hid (j = min m kp) := Lib.hid (by omega)
        by_cases hkm : kp < m
        · have hjk2 : j = kp := by omega
          subst hjk2
          have i1 : (j : Int) < m := by omega
          have i2 : ¬ ((j : Int) < j) := by omega
          obtain ⟨g, rfl, hc⟩ := HROW.out j hkm
          rw [HA0.out] at hc
          obtain ⟨hs, hs1, hs2⟩ := left_len_some s.ws j torn (by rw [HM.out]; exact hkm)
          obtain ⟨e2, he2⟩ : ∃ e2, a0 + (s.ws.take (j + 1)).flatten.length = e2 := ⟨_, rfl⟩
          have hE := HE.out
          have hF := HFE.out
          have hle := HSMA.out (j + 1)
          rw [he2] at hc hle
          have f1 : e2 = e + hs := by omega
          have f2 : (fe : Int) = e + min (max (min torn ((hs : Int) - 1)) 0) hs := by rw [HA0.out] at hF; omega
          have hs3 : hs ≤ 1000000 := by omega
          have i3 : (e2 : Int) = e + hs := by omega
          have F2 := Lib.hid f2
          have I3 := Lib.hid i3
          have hle0 : (e : Int) ≤ e2 := by omega
          clear hs1 hs2 he2 hE hF f1 hlt f2 i3
          go_upto_if 51 with fail
          go_cut [2, 7, 9] from 52 (fun a b c wx => b = .int .i64 (fe : Int) ∧ wx = w)
          case rest =>
            obtain ⟨rfl, hw⟩ := hcut
            have hw' := hw.symm
            subst hw'
            clear hle0 hle F2 I3 hs3 hc i1 i2
            have C := HC.out
            go_upto_region 17 with (go_at_call 26; refine HCP.out.mono ?_; intro e w1 hm1; obtain ⟨A5, c5, rfl, ho5, hb5, hc5, hc5m⟩ := hm1.n HTL.out; have z0 : w1.cell? ⟨r, 0, none⟩ = some (.slice A0 n0 c0) := (hb5.cell (p := ⟨r, 0, none⟩) hr0).trans h0; have y0 : w1.frozen? ⟨r, 0, none⟩ = false := (hb5.frozen (p := ⟨r, 0, none⟩) hr0).trans (HFZ.out 0); clear hm1)
            obtain ⟨w2, hw2⟩ : ∃ w2, w1.setCell ⟨r, 0, none⟩ (.slice A5 fe c5) = w2 := ⟨_, rfl⟩
            have HW2 := Lib.hid hw2
            have g2 : ∀ i, w2.frozen? ⟨r, i, none⟩ = false := fun i => by rw [← hw2, World.frozen?_setCell]; exact (hb5.frozen (p := ⟨r, i, none⟩) hr0).trans (HFZ.out i)
            have g2c : ∀ i, i ≠ 0 → w2.cell? ⟨r, i, none⟩ = w.cell? ⟨r, i, none⟩ := fun i hi => by
              rw [← hw2, World.cell?_setCell_other _ _ _ _ (fun e => hi (congrArg Addr.off e).symm)]
              exact hb5.cell (p := ⟨r, i, none⟩) hr0
            have q0 : w2.cell? ⟨r, 0, none⟩ = some (.slice A5 fe c5) := by rw [← hw2]; exact World.cell?_setCell_same _ _ _ z0
            have q1 : w2.cell? ⟨r, 1, none⟩ = some (.int .i64 (s.zs.length : Nat)) := (g2c 1 (by omega)).trans HA.out.syn
            have q2 : w2.cell? ⟨r, 2, none⟩ = some EV := (g2c 2 (by omega)).trans HA.out.ends
            have q3 : w2.cell? ⟨r, 3, none⟩ = some (.bool (!s.up)) := (g2c 3 (by omega)).trans HA.out.down
            have p1 := g2 1
            have p2 := g2 2
            have p3 := g2 3
            have HG2 := Lib.hid g2
            have HO5 := Lib.hid ho5
            have HB5 := Lib.hid hb5
            have far2 : Hid (∀ k, k ≠ r → w2.heap[k]? = w1.heap[k]?) := Lib.hid (fun k hk => by rw [← hw2]; exact Below.heap_setCell _ _ _ _ hk)
            have HSW : Hid (w2.heap.size = w1.heap.size ∧ w2.os = w1.os ∧ w2.tape = w1.tape ∧ w2.output = w1.output) := Lib.hid (by rw [← hw2]; exact ⟨by simp [World.setCell], rfl, rfl, rfl⟩)
            simp only [HW2.out]
            clear hw2 g2 g2c ho5 hb5 z0 y0
            go_wp2
            go_ret
            rw [HZ.out]
            obtain ⟨w4, hw4⟩ : ∃ w4, (((w2.setCell ⟨r, 1, none⟩ (.int .i64 (fe : Int))).setCell ⟨r, 2, none⟩ (.slice none 0 0)).setCell ⟨r, 3, none⟩ (.bool true)) = w4 := ⟨_, rfl⟩
            have key := HA.out.anew (s' := ⟨false, s.zs ++ (leftZ s.ws j torn).flatten, []⟩) (w4 := w4) (n := fe) HB5.out (by rw [HT.out]; exact HO5.out) (by rw [HT.out]; exact HTL.out) (by rw [HT.out]; exact HTB.out) rfl
              (fun k hk => by rw [← hw4]; exact (Below.heap_setCell _ _ _ _ hk).trans ((Below.heap_setCell _ _ _ _ hk).trans ((Below.heap_setCell _ _ _ _ hk).trans (far2.out k hk))))
              (by rw [← hw4]; simpa [World.setCell] using HSW.out.1) (by rw [← hw4]; exact HSW.out.2.1) (by rw [← hw4]; exact HSW.out.2.2.1) (by rw [← hw4]; exact HSW.out.2.2.2)
              (by rw [← hw4]; rw [World.cell?_setCell_other _ _ _ _ (by simp)]; rw [World.cell?_setCell_other _ _ _ _ (by simp)]; rw [World.cell?_setCell_other _ _ _ _ (by simp)]; exact q0)
              (by rw [← hw4]; rw [World.cell?_setCell_other _ _ _ _ (by simp)]; rw [World.cell?_setCell_other _ _ _ _ (by simp)]; rw [HS1.out]; exact World.cell?_setCell_same _ _ _ q1)
              (by rw [← hw4]; rw [World.cell?_setCell_other _ _ _ _ (by simp)]; exact World.cell?_setCell_same _ _ _ (by rw [World.cell?_setCell_other _ _ _ _ (by simp)]; exact q2))
              (by rw [← hw4]; exact World.cell?_setCell_same _ _ _ (by rw [World.cell?_setCell_other _ _ _ _ (by simp)]; rw [World.cell?_setCell_other _ _ _ _ (by simp)]; exact q3))
              (fun i => by rw [← hw4]; rw [World.frozen?_setCell]; rw [World.frozen?_setCell, World.frozen?_setCell]; exact HG2.out i)
            rw [hw4]
            exact ⟨rfl, _, key.1, key.2, wider_newer K w _⟩
          case first =>
            by_cases ht1 : (e2 : Int) - e - 1 < torn
            · by_cases ht2 : 0 < (e2 : Int) - e - 1
              · go_wp2
                go_meet
                case rel => exact ⟨congrArg (Value.int .i64) (by rw [F2.out]; have := I3.out; omega), rfl⟩
              · go_wp2
                go_meet
                case rel => exact ⟨congrArg (Value.int .i64) (by rw [F2.out]; have := I3.out; omega), rfl⟩
            · by_cases ht2 : 0 < torn
              · go_wp2
                go_meet
                case rel => exact ⟨congrArg (Value.int .i64) (by rw [F2.out]; have := I3.out; omega), rfl⟩
              · go_wp2
                go_meet
                case rel => exact ⟨congrArg (Value.int .i64) (by rw [F2.out]; have := I3.out; omega), rfl⟩
        · have hjm : j = m := by omega
          subst hjm
          have hef : fe = e := by
            have h1 := HE.out
            have h2 := HFE.out
            have h3 := left_len_all s.ws kp torn (by rw [HM.out]; omega)
            rw [HM.out] at h3
            rw [HA0.out] at h2
            omega
          subst hef
          have i1 : ¬ ((j : Int) < j) := by omega
          have i2 : ¬ ((kp : Int) < j) := by omega
          have C := HC.out
          clear hlt HXX he
          go_upto_region 17 with (go_at_call 26; refine HCP.out.mono ?_; intro e w1 hm1; obtain ⟨A5, c5, rfl, ho5, hb5, hc5, hc5m⟩ := hm1.n HTL.out; have z0 : w1.cell? ⟨r, 0, none⟩ = some (.slice A0 n0 c0) := (hb5.cell (p := ⟨r, 0, none⟩) hr0).trans h0; have y0 : w1.frozen? ⟨r, 0, none⟩ = false := (hb5.frozen (p := ⟨r, 0, none⟩) hr0).trans (HFZ.out 0); clear hm1)
          obtain ⟨w2, hw2⟩ : ∃ w2, w1.setCell ⟨r, 0, none⟩ (.slice A5 fe c5) = w2 := ⟨_, rfl⟩
          have HW2 := Lib.hid hw2
          have g2 : ∀ i, w2.frozen? ⟨r, i, none⟩ = false := fun i => by rw [← hw2, World.frozen?_setCell]; exact (hb5.frozen (p := ⟨r, i, none⟩) hr0).trans (HFZ.out i)
          have g2c : ∀ i, i ≠ 0 → w2.cell? ⟨r, i, none⟩ = w.cell? ⟨r, i, none⟩ := fun i hi => by
            rw [← hw2, World.cell?_setCell_other _ _ _ _ (fun e => hi (congrArg Addr.off e).symm)]
            exact hb5.cell (p := ⟨r, i, none⟩) hr0
          have q0 : w2.cell? ⟨r, 0, none⟩ = some (.slice A5 fe c5) := by rw [← hw2]; exact World.cell?_setCell_same _ _ _ z0
          have q1 : w2.cell? ⟨r, 1, none⟩ = some (.int .i64 (s.zs.length : Nat)) := (g2c 1 (by omega)).trans HA.out.syn
          have q2 : w2.cell? ⟨r, 2, none⟩ = some EV := (g2c 2 (by omega)).trans HA.out.ends
          have q3 : w2.cell? ⟨r, 3, none⟩ = some (.bool (!s.up)) := (g2c 3 (by omega)).trans HA.out.down
          have p1 := g2 1
          have p2 := g2 2
          have p3 := g2 3
          have HG2 := Lib.hid g2
          have HO5 := Lib.hid ho5
          have HB5 := Lib.hid hb5
          have far2 : Hid (∀ k, k ≠ r → w2.heap[k]? = w1.heap[k]?) := Lib.hid (fun k hk => by rw [← hw2]; exact Below.heap_setCell _ _ _ _ hk)
          have HSW : Hid (w2.heap.size = w1.heap.size ∧ w2.os = w1.os ∧ w2.tape = w1.tape ∧ w2.output = w1.output) := Lib.hid (by rw [← hw2]; exact ⟨by simp [World.setCell], rfl, rfl, rfl⟩)
          simp only [HW2.out]
          clear hw2 g2 g2c ho5 hb5 z0 y0
          go_wp2
          go_ret
          rw [HZ.out]
          obtain ⟨w4, hw4⟩ : ∃ w4, (((w2.setCell ⟨r, 1, none⟩ (.int .i64 (fe : Int))).setCell ⟨r, 2, none⟩ (.slice none 0 0)).setCell ⟨r, 3, none⟩ (.bool true)) = w4 := ⟨_, rfl⟩
          have key := HA.out.anew (s' := ⟨false, s.zs ++ (leftZ s.ws kp torn).flatten, []⟩) (w4 := w4) (n := fe) HB5.out (by rw [HT.out]; exact HO5.out) (by rw [HT.out]; exact HTL.out) (by rw [HT.out]; exact HTB.out) rfl
            (fun k hk => by rw [← hw4]; exact (Below.heap_setCell _ _ _ _ hk).trans ((Below.heap_setCell _ _ _ _ hk).trans ((Below.heap_setCell _ _ _ _ hk).trans (far2.out k hk))))
            (by rw [← hw4]; simpa [World.setCell] using HSW.out.1) (by rw [← hw4]; exact HSW.out.2.1) (by rw [← hw4]; exact HSW.out.2.2.1) (by rw [← hw4]; exact HSW.out.2.2.2)
            (by rw [← hw4]; rw [World.cell?_setCell_other _ _ _ _ (by simp)]; rw [World.cell?_setCell_other _ _ _ _ (by simp)]; rw [World.cell?_setCell_other _ _ _ _ (by simp)]; exact q0)
            (by rw [← hw4]; rw [World.cell?_setCell_other _ _ _ _ (by simp)]; rw [World.cell?_setCell_other _ _ _ _ (by simp)]; rw [HS1.out]; exact World.cell?_setCell_same _ _ _ q1)
            (by rw [← hw4]; rw [World.cell?_setCell_other _ _ _ _ (by simp)]; exact World.cell?_setCell_same _ _ _ (by rw [World.cell?_setCell_other _ _ _ _ (by simp)]; exact q2))
            (by rw [← hw4]; exact World.cell?_setCell_same _ _ _ (by rw [World.cell?_setCell_other _ _ _ _ (by simp)]; rw [World.cell?_setCell_other _ _ _ _ (by simp)]; exact q3))
            (fun i => by rw [← hw4]; rw [World.frozen?_setCell]; rw [World.frozen?_setCell, World.frozen?_setCell]; exact HG2.out i)
          rw [hw4]
          exact ⟨rfl, _, key.1, key.2, wider_newer K w _⟩
end Go.Proofs.Ytlbmhkccmclmfaa
