/- The document's own answers for wal. -/
import Derived.Test.YtjfeepmjebdahaaDoorB9
import Derived.Test.YtjfeepmjebdahaaDoorB7
import Derived.Test.YtjfeepmjebdahaaDoorB5
namespace Go.Proofs.YtjfeepmjebdahaaDoor
open Go.ChangeShapes Go.WideShapes Go.ChangeAt Go.RowKit
set_option linter.unusedVariables false
open Plain Sha
theorem rdid_under {w w1 w' : World} {r : Nat} {R : Nat → Prop} {x : Int × DiskZ} {e : Ending} (hb : Below w.heap.size w w1) (h : RDid w1 r R x e w') : RDid w r R x e w' := by
  obtain ⟨h1, R', h2, h3, h4⟩ := h
  exact ⟨h1, R', h2, (Moved.of_below R hb).then h3, fun k hk => (h4 k hk).imp id (fun e => Nat.le_trans hb.size e)⟩
set_option maxRecDepth 100000 in
theorem radd_any {w : World} {r : Nat} {R : Nat → Prop} {s : DiskZ} {B n : Nat} {A : Option Addr} (c : Nat) {zs : List Int} (h : Rf w r R s) (hz : Bs w B A n zs) (hB : B ≤ w.heap.size) (hn : n ≤ 65536) (hs : Small s) :
    Calls Tryd.prog 35 #[.pointer (some ⟨r, 0, none⟩), .slice A n c] w (RDid w r R (dWrite s (frameZ zs))) := by
  have C1 := Lib.hid (refseal_any c hz hB hn)
  have LF : Hid ((frameZ zs).length = n + 12) := Lib.hid (by rw [frameZ_len, hz.len])
  have BF : Hid (IsBytes (frameZ zs)) := Lib.hid (frameZ_bytes hz.isBytes)
  have H := Lib.hid h
  have HS := Lib.hid hs
  clear h hz hs
  go_enter Tryd.func35, Tryd.ntmps35
  go_wp2_with fail
  refine C1.out.mono ?_
  intro e w1 hm
  obtain ⟨D, q, rfl, ho, hb, _, _⟩ := hm.n LF.out
  have C2 := Lib.hid (rwrite_any q (H.out.below hb) (bs_of_own ho BF.out) (Nat.le_refl _) (by omega) HS.out)
  have HB := Lib.hid hb
  clear hm ho hb C1
  go_wp2_with fail
  refine C2.out.mono ?_
  intro e w2 h2
  obtain ⟨rfl, h3⟩ := rdid_under HB.out h2
  go_wp2
  go_ret
  exact ⟨rfl, h3⟩
set_option maxRecDepth 100000 in
theorem rrecs_any {w : World} {r : Nat} {R : Nat → Prop} {s : DiskZ} (h : Rf w r R s) (hs : Small s) : Calls Tryd.prog 13 #[.pointer (some ⟨r, 0, none⟩)] w (RecsSays w (recsZ (allZ s))) := by
  obtain ⟨v, u, h⟩ := h
  obtain ⟨A, n, c, hl, rfl, hc, hcm, hbs⟩ := h.val
  have h0 := h.b
  have C1 := Lib.hid (refall_any c hbs (Nat.le_refl _) (by have := hs.bytes; omega) hc)
  clear h hbs hl hc hcm hs
  go_enter Tryd.func13, Tryd.ntmps13
  go_wp2_with fail
  refine C1.out.mono ?_
  rintro e w1 ⟨hb, v, ps, rfl, ho, hps, hzs⟩
  have HB := Lib.hid hb
  have HO := Lib.hid ho
  have HP := Lib.hid hps
  have HZ := Lib.hid hzs
  obtain ⟨V, cv, rfl, _, _⟩ := own_shape ho
  clear hb ho hps hzs C1
  go_wp2
  go_ret
  exact ⟨HB.out, _, ps, rfl, HO.out, HP.out, HZ.out⟩
set_option maxRecDepth 100000 in
set_option maxHeartbeats 2000000 in
theorem rlast_any {w : World} {r : Nat} {R : Nat → Prop} {s : DiskZ} (h : Rf w r R s) (hs : Small s) : Calls Tryd.prog 15 #[.pointer (some ⟨r, 0, none⟩)] w (fun e w' => e = .returned (.int .i64 (lastZ (allZ s) s.zs.length : Nat)) ∧ Below w.heap.size w w') := by
  have hr := h.lt r (by obtain ⟨v, u, h⟩ := h; exact h.kb)
  obtain ⟨v, u, h⟩ := h
  obtain ⟨A, n, c, hl, rfl, hc, hcm, hbs⟩ := h.val
  have h0 := h.b
  have h1 := h.syn
  have hzn : s.zs.length ≤ n := by rw [← hl]; unfold allZ; rw [List.length_append]; omega
  have HLT : Hid (lastZ (allZ s) s.zs.length = (framesZ ((allZ s).take s.zs.length)).length) := Lib.hid (lastZ_take _ _ (by omega))
  obtain ⟨z, hz⟩ : ∃ z, s.zs.length = z := ⟨_, rfl⟩
  rw [hz] at h1 hzn HLT
  have zC : Bs w w.heap.size A z ((allZ s).take z) := by
    have := hbs.cut (k := 0) (m := z) (by omega) A (fun b off e _ => by rw [e]; rfl)
    rwa [List.drop_zero] at this
  have HZZ := Lib.hid hz
  have hcut := cut_h A n c z (z : Int) rfl (by omega)
  have C1 := Lib.hid (refall_any (w := w.drew) c zC.drew (Nat.le_refl _) (by have := hs.bytes; omega) (by omega))
  clear h hbs hl hs zC hz
  go_enter Tryd.func15, Tryd.ntmps15
  go_wp2
  refine Late.region (fun w' => w'.cell? ⟨r, 0, none⟩ = some (.slice A n c) ∧ w'.cell? ⟨r, 1, none⟩ = some (.int .i64 (z : Int))) [] (by kernel_rfl) ⟨h0, h1⟩ (fun hHeld => ?_)
  refine Late.take (i := 0) (oi := ⟨some 6, Op.move (Operand.tmp 0), _, _, _, _⟩) (v := ?_) rfl (by kernel_rfl) (by kernel_rfl) (by kernel_rfl) (by kernel_rfl) (fun _ _ _ h => h) (Or.inl ⟨by rfl, fun w hSw => ?_⟩) (by assumption) ?_
  rotate_left
  · (obtain ⟨s1, s2⟩ := hSw; go_simp; try with_reducible rfl)
  try simp only [Act.put, List.setIfInBounds_toArray, List.set_cons_zero, List.set_cons_succ]
  refine Late.take (i := 1) (oi := ⟨some 7, Op.nilCheck (Operand.tmp 6), _, _, _, _⟩) (v := ?_) rfl (by kernel_rfl) (by kernel_rfl) (by kernel_rfl) (by kernel_rfl) (fun _ _ _ h => h) (Or.inl ⟨by rfl, fun w hSw => ?_⟩) (by assumption) ?_
  rotate_left
  · (obtain ⟨s1, s2⟩ := hSw; go_simp; try with_reducible rfl)
  try simp only [Act.put, List.setIfInBounds_toArray, List.set_cons_zero, List.set_cons_succ]
  refine Late.take (i := 2) (oi := ⟨some 8, Op.fieldAddr 30 (Operand.tmp 7) 0, _, _, _, _⟩) (v := ?_) rfl (by kernel_rfl) (by kernel_rfl) (by kernel_rfl) (by kernel_rfl) (fun _ _ _ h => h) (Or.inl ⟨by rfl, fun w hSw => ?_⟩) (by assumption) ?_
  rotate_left
  · (obtain ⟨s1, s2⟩ := hSw; go_simp; try with_reducible rfl)
  try simp only [Act.put, List.setIfInBounds_toArray, List.set_cons_zero, List.set_cons_succ]
  refine Late.take (i := 3) (oi := ⟨some 9, Op.load 27 (Operand.tmp 8), _, _, _, _⟩) (v := ?_) rfl (by kernel_rfl) (by kernel_rfl) (by kernel_rfl) (by kernel_rfl) (fun _ _ _ h => h) (Or.inl ⟨by rfl, fun w hSw => ?_⟩) (by assumption) ?_
  rotate_left
  · (obtain ⟨s1, s2⟩ := hSw; go_simp; try with_reducible rfl)
  try simp only [Act.put, List.setIfInBounds_toArray, List.set_cons_zero, List.set_cons_succ]
  refine Late.take (i := 4) (oi := ⟨some 10, Op.move (Operand.tmp 0), _, _, _, _⟩) (v := ?_) rfl (by kernel_rfl) (by kernel_rfl) (by kernel_rfl) (by kernel_rfl) (fun _ _ _ h => h) (Or.inl ⟨by rfl, fun w hSw => ?_⟩) (by assumption) ?_
  rotate_left
  · (obtain ⟨s1, s2⟩ := hSw; go_simp; try with_reducible rfl)
  try simp only [Act.put, List.setIfInBounds_toArray, List.set_cons_zero, List.set_cons_succ]
  refine Late.take (i := 5) (oi := ⟨some 11, Op.nilCheck (Operand.tmp 10), _, _, _, _⟩) (v := ?_) rfl (by kernel_rfl) (by kernel_rfl) (by kernel_rfl) (by kernel_rfl) (fun _ _ _ h => h) (Or.inl ⟨by rfl, fun w hSw => ?_⟩) (by assumption) ?_
  rotate_left
  · (obtain ⟨s1, s2⟩ := hSw; go_simp; try with_reducible rfl)
  try simp only [Act.put, List.setIfInBounds_toArray, List.set_cons_zero, List.set_cons_succ]
  refine Late.take (i := 6) (oi := ⟨some 12, Op.fieldAddr 30 (Operand.tmp 11) 1, _, _, _, _⟩) (v := ?_) rfl (by kernel_rfl) (by kernel_rfl) (by kernel_rfl) (by kernel_rfl) (fun _ _ _ h => h) (Or.inl ⟨by rfl, fun w hSw => ?_⟩) (by assumption) ?_
  rotate_left
  · (obtain ⟨s1, s2⟩ := hSw; go_simp; try with_reducible rfl)
  try simp only [Act.put, List.setIfInBounds_toArray, List.set_cons_zero, List.set_cons_succ]
  refine Late.take (i := 7) (oi := ⟨some 13, Op.load 3 (Operand.tmp 12), _, _, _, _⟩) (v := ?_) rfl (by kernel_rfl) (by kernel_rfl) (by kernel_rfl) (by kernel_rfl) (fun _ _ _ h => h) (Or.inl ⟨by rfl, fun w hSw => ?_⟩) (by assumption) ?_
  rotate_left
  · (obtain ⟨s1, s2⟩ := hSw; go_simp; try with_reducible rfl)
  try simp only [Act.put, List.setIfInBounds_toArray, List.set_cons_zero, List.set_cons_succ]
  refine Late.take (i := 8) (oi := ⟨some 14, Op.slice 27 (Operand.tmp 9) none (some (Operand.tmp 13)) none, _, _, _, _⟩) (v := ?_) rfl (by kernel_rfl) (by kernel_rfl) (by kernel_rfl) (by kernel_rfl) (fun _ _ _ h => h) (Or.inl ⟨by rfl, fun w hSw => ?_⟩) (by assumption) ?_
  rotate_left
  · (obtain ⟨s1, s2⟩ := hSw; go_simp; try with_reducible rfl)
  try simp only [Act.put, List.setIfInBounds_toArray, List.set_cons_zero, List.set_cons_succ]
  refine Late.one (i := 9) (o := ⟨some 15, Op.call { callee := Callee.value (Operand.func 32), args := #[Operand.tmp 14], argTypes := #[27] }, _, _, _, _⟩) (by kernel_rfl) rfl (fun K hK => ?_)
  go_simp
  refine C1.out.mono ?_
  rintro e w1 ⟨hb, v, ps, rfl, ho, hps, hzs⟩
  have HB := Lib.hid ((Below.refl w.heap.size w).drew.trans hb)
  have HLn : Hid (ps.length = lastZ (allZ s) s.zs.length) := Lib.hid (by
    rw [HZZ.out, HLT.out]
    have := congrArg List.length hzs
    rwa [List.length_map, List.length_map] at this)
  have v0 := (hb.cell (p := ⟨r, 0, none⟩) hr).trans h0
  have v1 := (hb.cell (p := ⟨r, 1, none⟩) hr).trans h1
  obtain ⟨V, cv, rfl, _, _⟩ := own_shape ho
  clear hb ho hps hzs
  go_wp2_with fail
  refine hK.out _ _ (⟨v0, v1⟩) (fun hHeld2 => ?_)
  clear hK K hHeld
  have hHeld := hHeld2
  clear hHeld2
  try simp only [Act.put, List.setIfInBounds_toArray, List.set_cons_zero, List.set_cons_succ]
  refine Late.take (i := 10) (oi := ⟨some 5, Op.move (Operand.tmp 15), _, _, _, _⟩) (v := ?_) rfl (by kernel_rfl) (by kernel_rfl) (by kernel_rfl) (by kernel_rfl) (fun _ _ _ h => h) (Or.inl ⟨by rfl, fun w hSw => ?_⟩) (by assumption) ?_
  rotate_left
  · (obtain ⟨s1, s2⟩ := hSw; go_simp; try with_reducible rfl)
  try simp only [Act.put, List.setIfInBounds_toArray, List.set_cons_zero, List.set_cons_succ]
  refine Late.take (i := 11) (oi := ⟨some 16, Op.extract (Operand.tmp 5) 0, _, _, _, _⟩) (v := ?_) rfl (by kernel_rfl) (by kernel_rfl) (by kernel_rfl) (by kernel_rfl) (fun _ _ _ h => h) (Or.inl ⟨by rfl, fun w hSw => ?_⟩) (by assumption) ?_
  rotate_left
  · (obtain ⟨s1, s2⟩ := hSw; go_simp; try with_reducible rfl)
  try simp only [Act.put, List.setIfInBounds_toArray, List.set_cons_zero, List.set_cons_succ]
  refine Late.take (i := 13) (oi := ⟨some 3, Op.assign (Operand.tmp 16), _, _, _, _⟩) (v := ?_) rfl (by kernel_rfl) (by kernel_rfl) (by kernel_rfl) (by kernel_rfl) (fun _ _ _ h => h) (Or.inl ⟨by rfl, fun w hSw => ?_⟩) (by assumption) ?_
  rotate_left
  · (obtain ⟨s1, s2⟩ := hSw; go_simp; try with_reducible rfl)
  try simp only [Act.put, List.setIfInBounds_toArray, List.set_cons_zero, List.set_cons_succ]
  refine Late.take (i := 12) (oi := ⟨some 17, Op.extract (Operand.tmp 5) 1, _, _, _, _⟩) (v := ?_) rfl (by kernel_rfl) (by kernel_rfl) (by kernel_rfl) (by kernel_rfl) (fun _ _ _ h => h) (Or.inl ⟨by rfl, fun w hSw => ?_⟩) (by assumption) ?_
  rotate_left
  · (obtain ⟨s1, s2⟩ := hSw; go_simp; try with_reducible rfl)
  try simp only [Act.put, List.setIfInBounds_toArray, List.set_cons_zero, List.set_cons_succ]
  refine Late.take (i := 14) (oi := ⟨some 4, Op.assign (Operand.tmp 17), _, _, _, _⟩) (v := ?_) rfl (by kernel_rfl) (by kernel_rfl) (by kernel_rfl) (by kernel_rfl) (fun _ _ _ h => h) (Or.inl ⟨by rfl, fun w hSw => ?_⟩) (by assumption) ?_
  rotate_left
  · (obtain ⟨s1, s2⟩ := hSw; go_simp; try with_reducible rfl)
  try simp only [Act.put, List.setIfInBounds_toArray, List.set_cons_zero, List.set_cons_succ]
  refine Late.done (by kernel_rfl) ?_ _
  refine NoPanic.normal ?_
  go_wp2
  go_ret
  exact ⟨by rw [← HLn.out]; rfl, HB.out⟩
/-- What the document's Recover tells of a disk that is up. -/
def RRecovered (w : World) (r : Nat) (R : Nat → Prop) (s : DiskZ) (e : Ending) (w' : World) : Prop :=
  ∃ v ps R', e = .returned (.tuple #[v, .int .i64 (((allZ s).length - usedZ (allZ s) : Nat) : Int), .int .i64 0]) ∧ Rf w' r R' (recS s) ∧ Moved R w w' ∧ Newer w R R' ∧ RecsAt w' R' w.heap.size v ps (recsZ (allZ s))
set_option maxRecDepth 100000 in
set_option maxHeartbeats 2000000 in
theorem rrecover_up {w : World} {r : Nat} {R : Nat → Prop} {s : DiskZ} (h : Rf w r R s) (hs : Small s) (hu : s.up = true) : Calls Tryd.prog 58 #[.pointer (some ⟨r, 0, none⟩)] w (RRecovered w r R s) := by
  have H := Lib.hid h
  have HS := Lib.hid hs
  have HU := Lib.hid hu
  have hr := h.lt r (by obtain ⟨v, u, h⟩ := h; exact h.kb)
  have HRlt := Lib.hid h.lt
  obtain ⟨v, u, h⟩ := h
  obtain ⟨A, n, c, hl, rfl, hc, hcm, hbs⟩ := h.val
  have h0 := h.b
  have h3 := h.down
  rw [hu] at h3
  have C1 := Lib.hid (refall_any c hbs (Nat.le_refl _) (by have := hs.bytes; omega) hc)
  have hUn : usedZ (allZ s) ≤ n := by rw [← hl]; exact usedZ_le _
  obtain ⟨U, hU⟩ : ∃ U, usedZ (allZ s) = U := ⟨_, rfl⟩
  have hU2 : useZ (framesZ (allZ s)) = U := hU
  rw [hU] at hUn
  have HUU := Lib.hid hU
  have HU2 := Lib.hid hU2
  have HLn := Lib.hid hl
  have gw : IntKind.i64.wrap ((n : Int) - (U : Int)) = (n : Int) - (U : Int) := by unfold maxLen at hcm; rw [IntKind.wrap_i64]; omega
  clear h hbs hl hs hu hU hU2
  go_enter Tryd.func58, Tryd.ntmps58
  go_wp2_with fail
  refine C1.out.mono ?_
  rintro e w1 ⟨hb, v, ps, rfl, ho, hps, hzs⟩
  rw [HU2.out]
  obtain ⟨V, cv, rfl, _, _⟩ := own_shape ho
  have h0' := (hb.cell (p := ⟨r, 0, none⟩) hr).trans h0
  have R1 : Hid (RecsAt w1 R w.heap.size (.slice V ps.length cv) ps (recsZ (allZ s))) := Lib.hid
    ⟨ho, hps, hzs, fun k hk hKk => by have := (ho.lt k hk).1; have := HRlt.out k hKk; omega, fun p hp k hk hKk => by have := ((hps p hp).own.lt k hk).1; have := HRlt.out k hKk; omega⟩
  have H1 := Lib.hid (H.out.below hb)
  have HB := Lib.hid hb
  clear hb ho hps hzs C1 h0 h3
  have h0 := h0'
  clear h0'
  by_cases hlt : U < n
  · have hltI : 0 < (n : Int) - (U : Int) := by omega
    have C2 := Lib.hid (rcut_any (U : Int) H1.out HS.out)
    have hR : Hid ((dCut s (U : Int)).2 = recS s) := Lib.hid (by
      unfold dCut recS
      rw [HUU.out, HLn.out, if_pos hlt, HU.out]
      rw [if_pos rfl, if_neg (by omega), Int.toNat_natCast])
    go_wp2_with fail
    refine C2.out.mono ?_
    rintro e w2 ⟨rfl, R2, h2, m2, n2⟩
    have R2' := Lib.hid (R1.out.keep m2 n2)
    have H2 := Lib.hid h2
    have M2 := Lib.hid ((Moved.of_below R HB.out).then m2)
    have N2 : Hid (Newer w R R2) := Lib.hid (fun k hk => (n2 k hk).imp id (fun e => Nat.le_trans HB.out.size e))
    clear h2 m2 n2 C2
    go_wp2
    go_ret3
    exact ⟨.slice V ps.length cv, ps, R2, by rw [HUU.out, HLn.out, Int.ofNat_sub hUn]; rfl, by rw [← hR.out]; exact H2.out, M2.out, N2.out, R2'.out⟩
  · have hltI : ¬ 0 < (n : Int) - (U : Int) := by omega
    have hR : Hid (recS s = s) := Lib.hid (by unfold recS; rw [HUU.out, HLn.out, if_neg hlt])
    go_wp2
    go_ret3
    exact ⟨.slice V ps.length cv, ps, R, by rw [HUU.out, HLn.out, Int.ofNat_sub hUn]; rfl, by rw [hR.out]; exact H1.out, Moved.of_below R HB.out, Newer.refl _ _, R1.out⟩
set_option maxRecDepth 100000 in
theorem rrecover_down {w : World} {r : Nat} {R : Nat → Prop} {s : DiskZ} (h : Rf w r R s) (hu : s.up = false) : Calls Tryd.prog 58 #[.pointer (some ⟨r, 0, none⟩)] w (fun e w' => e = .returned (.tuple #[.slice none 0 0, .int .i64 0, .int .i64 60]) ∧ w = w') := by
  obtain ⟨v, u, h⟩ := h
  have h3 := h.down
  rw [hu] at h3
  clear h
  go_enter Tryd.func58, Tryd.ntmps58
  go_wp2
  go_ret3
  exact ⟨rfl, rfl⟩
end Go.Proofs.YtjfeepmjebdahaaDoor
