/- The document's own disk: its Cut, its Crash. -/
import Derived.Test.YtlbmhkccmclmfaaRDk
namespace Go.Proofs.Ytlbmhkccmclmfaa
open Go.ChangeShapes Go.WideShapes Go.ChangeAt Go.RowKit
set_option linter.unusedVariables false
set_option maxHeartbeats 2000000 in
theorem rcut_any {w : World} {r : Nat} {K : Nat → Prop} {s : DiskZ} (n : Int) (h : Rf w r K s) (hs : Small s) : Calls Try.prog 31 #[.pointer (some ⟨r, 0, none⟩), .int .i64 n] w (RDid w r K (dCut s n)) := by
  have HD := Lib.hid h
  obtain ⟨v, EV, h⟩ := h
  obtain ⟨A0, n0, c0, hn0, rfl, hc0, hc0m, hbs⟩ := h.val
  have h0 := h.b
  have h3 := h.down
  have HA := Lib.hid h
  have hby := hs.bytes
  have hr0 := h.lt r h.kb
  have HFZ := Lib.hid h.f
  have hn1 : n0 ≤ 1000000 := by omega
  cases hu : s.up with
  | false =>
    rw [hu] at h3
    have HZ : Hid (dCut s n = (60, s)) := Lib.hid (by unfold dCut; rw [hu]; rfl)
    clear hu h hn0 hbs hby hs
    go_enter Try.func31, Try.ntmps31
    go_wp2
    go_ret
    rw [HZ.out]
    exact ⟨rfl, K, HD.out, Moved.refl _ _, Newer.refl _ _⟩
  | true =>
    rw [hu] at h3
    by_cases hbad : n < 0 ∨ (n0 : Int) < n
    · have HZ : Hid (dCut s n = (2, s)) := Lib.hid (by unfold dCut; rw [hu, if_pos rfl, hn0, if_pos hbad])
      clear hu h hn0 hbs hby hs
      by_cases hneg : n < 0
      · clear hbad
        go_enter Try.func31, Try.ntmps31
        go_wp2
        go_ret
        rw [HZ.out]
        exact ⟨rfl, K, HD.out, Moved.refl _ _, Newer.refl _ _⟩
      · have hgt : (n0 : Int) < n := by omega
        clear hbad
        go_enter Try.func31, Try.ntmps31
        go_wp2
        go_ret
        rw [HZ.out]
        exact ⟨rfl, K, HD.out, Moved.refl _ _, Newer.refl _ _⟩
    · obtain ⟨fe, rfl⟩ := Int.eq_ofNat_of_zero_le (show 0 ≤ n by omega)
      have hfn : fe ≤ n0 := by omega
      obtain ⟨S2, hS2⟩ : ∃ S2, (⟨true, (allZ s).take fe, []⟩ : DiskZ) = S2 := ⟨_, rfl⟩
      have HZ : Hid (dCut s fe = (0, ⟨true, (allZ s).take fe, []⟩)) := Lib.hid (by unfold dCut; rw [hu, if_pos rfl, hn0, if_neg hbad]; rfl)
      have HTL : Hid (((allZ s).take fe).length = fe) := Lib.hid (by rw [List.length_take, hn0]; omega)
      have HTB : Hid (IsBytes ((allZ s).take fe)) := Lib.hid (isBytes_iff.2 fun z hz => isBytes_iff.1 h.bytes z (List.mem_of_mem_take hz))
      have hcut := hbs.cut (k := 0) (m := fe) (by omega) A0 (fun b off e _ => by rw [e]; simp)
      rw [List.drop_zero] at hcut
      have HCP := Lib.hid (refcopy_any c0 hcut (Nat.le_refl _) (by omega))
      have C := cut_h A0 n0 c0 fe fe rfl (by omega)
      have HUU := Lib.hid hu
      have HT : Hid (allZ (⟨true, (allZ s).take fe, []⟩ : DiskZ) = (allZ s).take fe) := Lib.hid (allZ_flat _ _)
      have HS1 : Hid ((⟨true, (allZ s).take fe, []⟩ : DiskZ).zs.length = fe) := Lib.hid HTL.out
      have g1 : ¬ (fe : Int) < 0 := by omega
      have g2 : ¬ (n0 : Int) < fe := by omega
      have g3 : (fe : Int) ≤ (c0 : Int) := by omega
      clear hu h hn0 hbs hby hs hbad hcut hS2 S2
      go_enter Try.func31, Try.ntmps31
      go_upto_region 6 with (go_at_call 26; refine HCP.out.mono ?_; intro e w1 hm1; obtain ⟨A5, c5, rfl, ho5, hb5, hc5, hc5m⟩ := hm1.n HTL.out; have z0 : w1.cell? ⟨r, 0, none⟩ = some (.slice A0 n0 c0) := (hb5.cell (p := ⟨r, 0, none⟩) hr0).trans h0; have y0 : w1.frozen? ⟨r, 0, none⟩ = false := (hb5.frozen (p := ⟨r, 0, none⟩) hr0).trans (HFZ.out 0); clear hm1)
      obtain ⟨w2, hw2⟩ : ∃ w2, w1.setCell ⟨r, 0, none⟩ (.slice A5 fe c5) = w2 := ⟨_, rfl⟩
      have HW2 := Lib.hid hw2
      have g2 : ∀ i, w2.frozen? ⟨r, i, none⟩ = false := fun i => by rw [← hw2, World.frozen?_setCell]; exact (hb5.frozen (p := ⟨r, i, none⟩) hr0).trans (HFZ.out i)
      have g2c : ∀ i, i ≠ 0 → w2.cell? ⟨r, i, none⟩ = w.cell? ⟨r, i, none⟩ := fun i hi => by
        rw [← hw2, World.cell?_setCell_other _ _ _ _ (fun e => hi (congrArg Addr.off e).symm)]
        exact hb5.cell (p := ⟨r, i, none⟩) hr0
      have q0 : w2.cell? ⟨r, 0, none⟩ = some (.slice A5 fe c5) := by rw [← hw2]; exact World.cell?_setCell_same _ _ _ z0
      have q1 : w2.cell? ⟨r, 1, none⟩ = some (.int .i64 (s.zs.length : Nat)) := (g2c 1 (by omega)).trans HA.out.syn
      have q2 : w2.cell? ⟨r, 2, none⟩ = some EV := (g2c 2 (by omega)).trans HA.out.ends
      have q3 : w2.cell? ⟨r, 3, none⟩ = some (.bool (!s.up)) := (g2c 3 (by omega)).trans HA.out.down
      have p1 := g2 1
      have p2 := g2 2
      have p3 := g2 3
      have HG2 := Lib.hid g2
      have HO5 := Lib.hid ho5
      have HB5 := Lib.hid hb5
      have far2 : Hid (∀ k, k ≠ r → w2.heap[k]? = w1.heap[k]?) := Lib.hid (fun k hk => by rw [← hw2]; exact Below.heap_setCell _ _ _ _ hk)
      have HSW : Hid (w2.heap.size = w1.heap.size ∧ w2.os = w1.os ∧ w2.tape = w1.tape ∧ w2.output = w1.output) := Lib.hid (by rw [← hw2]; exact ⟨by simp [World.setCell], rfl, rfl, rfl⟩)
      simp only [HW2.out]
      clear hw2 g2 g2c ho5 hb5 z0 y0
      go_wp2
      go_ret
      rw [HZ.out]
      obtain ⟨w4, hw4⟩ : ∃ w4, ((w2.setCell ⟨r, 1, none⟩ (.int .i64 (fe : Int))).setCell ⟨r, 2, none⟩ (.slice none 0 0)) = w4 := ⟨_, rfl⟩
      have key := HA.out.anew (s' := ⟨true, (allZ s).take fe, []⟩) (w4 := w4) (n := fe) HB5.out (by rw [HT.out]; exact HO5.out) (by rw [HT.out]; exact HTL.out) (by rw [HT.out]; exact HTB.out) rfl
        (fun k hk => by rw [← hw4]; exact ((Below.heap_setCell _ _ _ _ hk).trans ((Below.heap_setCell _ _ _ _ hk).trans (far2.out k hk))))
        (by rw [← hw4]; simpa [World.setCell] using HSW.out.1) (by rw [← hw4]; exact HSW.out.2.1) (by rw [← hw4]; exact HSW.out.2.2.1) (by rw [← hw4]; exact HSW.out.2.2.2)
        (by rw [← hw4]; rw [World.cell?_setCell_other _ _ _ _ (by simp)]; rw [World.cell?_setCell_other _ _ _ _ (by simp)]; exact q0)
        (by rw [← hw4]; rw [World.cell?_setCell_other _ _ _ _ (by simp)]; rw [HS1.out]; exact World.cell?_setCell_same _ _ _ q1)
        (by rw [← hw4]; exact World.cell?_setCell_same _ _ _ (by rw [World.cell?_setCell_other _ _ _ _ (by simp)]; exact q2))
        (by rw [← hw4]; rw [World.cell?_setCell_other _ _ _ _ (by simp)]; rw [World.cell?_setCell_other _ _ _ _ (by simp)]; rw [q3, HUU.out])
        (fun i => by rw [← hw4]; rw [World.frozen?_setCell, World.frozen?_setCell]; exact HG2.out i)
      rw [hw4]
      exact ⟨rfl, _, key.1, key.2, wider_newer K w _⟩
end Go.Proofs.Ytlbmhkccmclmfaa
