/- The document's own Put. -/
import Derived.Test.YtmlkcedhjnmfgaaSpX
import Derived.Test.YtmlkcedhjnmfgaaSpRZ
import Derived.Test.YtmlkcedhjnmfgaaSpW
import Derived.Test.YtmlkcedhjnmfgaaSpO
namespace Go.Proofs.Ytmlkcedhjnmfgaa
open Go.ChangeShapes Go.WideShapes Go.ChangeAt Go.RowKit
set_option linter.unusedVariables false
set_option linter.unusedSimpArgs false
open Plain Sp
theorem SVar.drewNS {W : World} {b : Nat} (h : SVar W b) (m : Nat) : SVar (W.drewN m) b := ⟨h.th, h.lt⟩
theorem own_farSs {base size n b : Nat} {t : TypeId} {v : Value} {xs : List Value} (hb : b < base) : ∀ (vs : List Value) (o : Nat) (w : World), w.ownsRow base t size v n xs → (w.setCells b o vs).ownsRow base t size v n xs
  | [], _, _, h => h
  | u :: r, o, w, h => by rw [World.setCells]; exact own_farSs hb r (o + 1) _ (own_farS h hb o u)
theorem ownsRow_allocDrew {w : World} {base size n : Nat} {t : TypeId} {v : Value} {xs : List Value} (h : w.ownsRow base t size v n xs) (o : Obj) : (w.alloc o).drew.ownsRow base t size v n xs := h.alloc o
theorem lies_newD (w : World) (p : PairZ) (t : TypeId) (g : Nat) (hg : w.heap.size = g) : Lies ((w.alloc (.cells #[.string p.k, .string p.v] t)).drew) 2 (some ⟨g, 0, none⟩) 1 (pvs [p]) ∧ Sourced (some ⟨g, 0, none⟩) 1 := by
  subst hg
  refine ⟨⟨rfl, fun ad hA => ?_⟩, fun h => by cases h⟩
  injection hA with hA
  subst hA
  exact World.news_of_block (cs := #[.string p.k, .string p.v]) (t := t) (fr := (0, 0)) (heap_alloc_new w _)
/-- A space and a number that the document's call hands back: the pairs are in new memory. -/
def GivesN (w : World) (r : SpZ × Int) (e : Ending) (w' : World) : Prop :=
  ∃ n d D, e = .returned (.tuple #[.agg #[.int .i64 r.1.K, .int .i64 r.1.Y, .slice D n d], .int .i64 r.2]) ∧ Prs w' w'.heap.size D n r.1.l ∧ FarR w.heap.size D n ∧ Below w.heap.size w w'
theorem givesN_err {w w' : World} {r : SpZ × Int} {e : Int} (hr : r = (sp0, e)) (hb : Below w.heap.size w w') : GivesN w r (.returned (.tuple #[.agg #[.int .i64 0, .int .i64 0, .slice none 0 0], .int .i64 e])) w' := by
  subst hr
  exact ⟨0, 0, none, rfl, Prs.nil, far_nil _ _, hb⟩
set_option maxRecDepth 100000 in
set_option maxHeartbeats 8000000 in
theorem rput_yes {w : World} {n c : Nat} {A : Option Addr} {l : List PairZ} (K Y : Int) (k v : ByteArray) (r : SpZ × Int) (h : Prs w w.heap.size A n l) (hn : n ≤ 1000) (hm : mayB ⟨K, Y, l⟩ = true) (hk : keyB k = true) (hv : valB v = true) (hr : fitR ⟨K, Y, insP l k v⟩ = r) :
    Calls Try.prog 12 #[.agg #[.int .i64 K, .int .i64 Y, .slice A n c], .string k, .string v] w (GivesN w r) := by
  obtain ⟨W1, hW1⟩ : ∃ W, W = (w.alloc (.cells #[.int .i64 K, .int .i64 Y, .slice A n c] 24)).alloc (.cells #[.int .i64 0, .int .i64 0, .slice none 0 0] 24) := ⟨_, rfl⟩
  have b1 := Lib.hid (show Below w.heap.size w W1 by rw [hW1]; exact (below_one _ _).alloc (by simp) _)
  have X1 := Lib.hid (show SBox W1 w.heap.size K Y A n c by rw [hW1]; exact (sbox_new _ _ _ _ _ _ _ _ rfl).grow (below_one _ _))
  have V1 := Lib.hid (show SVar W1 (w.heap.size + 1) by rw [hW1]; exact svar_new _ _ _ _ _ _ (by simp))
  have u1 : W1.heap.size = w.heap.size + 2 := by rw [hW1]; simp
  have HG := Lib.hid ((h.below b1.out (Nat.le_refl _)).more b1.out.size)
  have L := Lib.hid h.len
  have HOK0 := Lib.hid h.ok
  have HW1 := Lib.hid hW1
  have HS := Lib.hid rsp_size
  obtain ⟨_, hri, _, _, _⟩ := may_parts hm
  have MM := Lib.hid (rmay_any K Y c true HG.out (Nat.le_refl _) hn hm)
  have KM := Lib.hid (rkey_any k true hk)
  have VM := Lib.hid (rval_any v true hv)
  obtain ⟨R, hR⟩ : ∃ R, delP l k = R := ⟨_, rfl⟩
  obtain ⟨M, hM⟩ : ∃ M, R.length = M := ⟨_, rfl⟩
  obtain ⟨P, hP⟩ : ∃ P, posP l k = P := ⟨_, rfl⟩
  obtain ⟨X, hX⟩ : ∃ X, (insP l k v).length = X := ⟨_, rfl⟩
  obtain ⟨y, hy⟩ : ∃ y, cnt (insP l k v) = y := ⟨_, rfl⟩
  have hMn : M ≤ n := by rw [← hM, ← hR, ← L.out]; exact del_len l k
  have hXM : X = M + 1 := by rw [← hX, ← hM, ← hR]; exact ins_len hri
  have hcl : y ≤ 1152921504606846976 := by
    have h1 := rise_len (ins_rise hri hk hv)
    rw [hX, hy] at h1
    omega
  have HX := Lib.hid hX
  have HCY := Lib.hid hy
  have FQ := Lib.hid (show fitB K Y (insP l k v) = (decide ((X : Int) ≤ K) && decide ((y : Int) ≤ Y)) by unfold fitB; rw [hX, hy])
  have HR := Lib.hid hr
  have HE := Lib.hid (insT_end k v hri)
  rw [hR, hP, hM] at HE
  have HCM := Lib.hid (fun (j : Nat) (p : PairZ) (hp : R[j]? = some p) => show ltB k p.k = decide (P ≤ j) from by rw [← hP]; exact ins_cmp hri (by rw [hR]; exact hp))
  have HOK : Hid (∀ p, p ∈ insP l k v → POk p) := Lib.hid (fun p hp => by
    rcases List.mem_append.1 hp with hp | hp
    · exact HOK0.out p (List.mem_filter.1 hp).1
    · rcases List.mem_cons.1 hp with rfl | hp
      · simp only [keyB, valB, Bool.and_eq_true, decide_eq_true_eq] at hk hv
        exact ⟨by show k.size ≤ maxLen; unfold maxLen; omega, by show v.size ≤ maxLen; unfold maxLen; omega⟩
      · exact HOK0.out p (List.mem_filter.1 hp).1)
  have WM := Lib.hid (fun (V : World) (hV : Prs V V.heap.size A n l) => without_any (w := V) c k M R hV (Nat.le_refl _) hn hR hM)
  have HC := Lib.hid (fun (V : World) (hV : Below W1.heap.size W1 V) => X1.out.grow hV)
  clear hW1 h hm hk hv hr hri hR hM hP hX hy
  go_enter Try.func12, Try.ntmps12
  go_upto_region 1 with fail
  rw [← HW1.out]
  obtain ⟨h1, h2, h3⟩ := X1.out
  go_upto_region 3 with (first
    | (go_at_call 25; refine MM.out.mono ?_; rintro e w5 ⟨rfl, b5⟩; have B5 := Lib.hid b5; clear b5)
    | (go_at_call 39; refine (KM.out _).mono ?_; rintro e w6 ⟨rfl, hq6⟩; have B6 := Lib.hid (q_belowX B5.out hq6); clear hq6)
    | (go_at_call 40; refine (VM.out _).mono ?_; rintro e w7 ⟨rfl, hq7⟩; have B7 := Lib.hid (q_belowX B6.out hq7); clear hq7)
    | fail)
  clear h1 h2 h3
  obtain ⟨h1, h2, h3⟩ := HC.out _ B7.out
  go_upto_region 4 with (first
    | (go_at_call 41; refine (WM.out _ (HG.out.grow B7.out)).mono ?_; rintro e w8 ⟨D8, d8, rfl, hP8, _, b8⟩; have B8 := Lib.hid (B7.out.trans (b8.mono B7.out.size)); have P8 := Lib.hid hP8; clear hP8 b8)
    | fail)
  clear h1 h2 h3 MM KM VM WM B5 B6 B7
  obtain ⟨h1, h2, h3⟩ := HC.out _ B8.out
  obtain ⟨g, hg⟩ : ∃ g, w8.heap.size = g := ⟨_, rfl⟩
  obtain ⟨W9, hW9⟩ : ∃ W, W = w8.alloc (.cells #[.int .i64 K, .int .i64 Y, .slice none 0 0] 24) := ⟨_, rfl⟩
  have z8 := B8.out.size
  have hlt0 : w.heap.size < g := by omega
  have hlt1 : w.heap.size + 1 < g := by omega
  have hle0 : w.heap.size ≤ g := by omega
  have B9 := Lib.hid (show Below W1.heap.size W1 W9 by rw [hW9]; exact B8.out.alloc z8 _)
  have BW9 := Lib.hid (b1.out.trans (B9.out.mono b1.out.size))
  have X9s := Lib.hid (HC.out _ B9.out)
  have V9r := Lib.hid (V1.out.grow B9.out)
  have X9 := Lib.hid (show SBox W9 g K Y none 0 0 by rw [hW9]; exact sbox_new _ _ _ _ _ _ _ _ hg)
  have V9 := Lib.hid (show SVar W9 g by rw [hW9]; exact svar_new _ _ _ _ _ _ hg)
  have u9 : W9.heap.size = g + 1 := by rw [hW9, ← hg]; simp
  have R9 := Lib.hid (show Prs W9 g D8 M R by rw [hW9, ← hg]; exact P8.out.below (below_one _ _) (Nat.le_refl _))
  have HG9 := Lib.hid hg
  have HW9 := Lib.hid hW9
  clear hW9 hg z8
  go_upto_region 5 with fail
  rw [HG9.out, ← HW9.out]
  clear h1 h2 h3 HW9 HG9 P8 HC X1 V1 B8 HG HW1 b1 B9 u1
  go_wp2
  go_loopw [10, 11] (fun q i wr => ∃ j x : Nat, j ≤ M ∧ x ≤ 2 * j ∧ ∃ qb : Bool, q = .bool qb ∧ qb = decide (P < j) ∧ i = .int .i64 j ∧ Hid (Below g W9 wr) ∧ g + 1 ≤ wr.heap.size ∧ Hid (SVar wr g) ∧ ∃ D d, Hid (SBox wr g K Y D x d) ∧ Hid (wr.ownsRow (g + 1) 66 2 (.slice D x d) x (pvs (insT R P k v j)))) (fun _ i _ => M - (intOf i).toNat)
  case atStart => exact ⟨0, 0, by omega, by omega, false, rfl, by simp, rfl, Lib.hid (Below.refl _ _), by omega, V9, none, 0, X9, Lib.hid (by rw [insT_zero]; exact World.ownsRow_nil _ _ _ _)⟩
  case round =>
    obtain ⟨j, x, hj, hx, qb, rfl, hqb, rfl, HW, hsz, VR, D, d, XR, HO⟩ := hrel
    by_cases hlt : j < M
    · have hltI : (j : Int) < (M : Int) := by omega
      obtain ⟨pb, po, p, rfl, hpb, HK, hpo, c0, c1⟩ := (R9.out.below HW.out (Nat.le_refl _)).at_ hlt
      have HCP := Lib.hid (fun (V : World) (hV : Below g W9 V) => show V.cell? ⟨pb, po + j * 2, none⟩ = some (.string p.k) ∧ V.cell? ⟨pb, po + j * 2 + 1, none⟩ = some (.string p.v) from
        ⟨(hV.cell (p := ⟨pb, po + j * 2, none⟩) hpb).trans (((HW.out.cell (p := ⟨pb, po + j * 2, none⟩) hpb).symm).trans c0), (hV.cell (p := ⟨pb, po + j * 2 + 1, none⟩) hpb).trans (((HW.out.cell (p := ⟨pb, po + j * 2 + 1, none⟩) hpb).symm).trans c1)⟩)
      have hcm := HCM.out j p HK.out
      clear hpo c1
      rcases Nat.lt_trichotomy j P with hjP | hjP | hjP
      · obtain rfl : qb = false := by rw [hqb]; simp; omega
        have SK : (Op.bytesLess p.k.toList k.toList || p.k.toList == k.toList) = true := by
          rw [decide_eq_false (by omega)] at hcm; rw [leq_of, hcm]; rfl
        have HT := Lib.hid (insT_lo k v hjP HK.out)
        have HQ : Hid (false = decide (P < j + 1)) := Lib.hid (by rw [decide_eq_false (by omega)])
        clear hqb hcm
        have HST := Lib.hid (fun (V : World) (hV : Below (g + 1) wr V) => show V.cell? ⟨g, 2, none⟩ = some (.slice D x d) ∧ V.cell? ⟨pb, po + j * 2, none⟩ = some (.string p.k) ∧ V.cell? ⟨pb, po + j * 2 + 1, none⟩ = some (.string p.v) from
          ⟨(hV.cell (p := ⟨g, 2, none⟩) (by show g < _; omega)).trans XR.out.2.2, (hV.cell (p := ⟨pb, po + j * 2, none⟩) (by show pb < _; omega)).trans (HCP.out _ HW.out).1, (hV.cell (p := ⟨pb, po + j * 2 + 1, none⟩) (by show pb < _; omega)).trans (HCP.out _ HW.out).2⟩)
        go_upto_region 12 with fail
        refine Late.region (fun w' => w'.cell? ⟨g, 2, none⟩ = some (.slice D x d) ∧ w'.cell? ⟨pb, po + j * 2, none⟩ = some (.string p.k) ∧ w'.cell? ⟨pb, po + j * 2 + 1, none⟩ = some (.string p.v)) [9] (by kernel_rfl) (HST.out _ (Below.refl _ _).drew) (fun hHeld => ?_)
        refine Late.take (i := 0) (oi := ⟨some 60, Op.fieldAddr 24 (Operand.tmp 9) 2, _, _, _, _⟩) (v := ?_) rfl (by kernel_rfl) (by kernel_rfl) (by kernel_rfl) (by kernel_rfl) (fun _ _ _ h => h) (Or.inl ⟨by rfl, fun w hSw => ?_⟩) (by assumption) ?_
        rotate_left
        · (obtain ⟨s1, s2, s3⟩ := hSw; go_simp; try with_reducible rfl)
        try simp only [Act.put, List.setIfInBounds_toArray, List.set_cons_zero, List.set_cons_succ]
        refine Late.take (i := 1) (oi := ⟨some 61, Op.load 22 (Operand.tmp 60), _, _, _, _⟩) (v := ?_) rfl (by kernel_rfl) (by kernel_rfl) (by kernel_rfl) (by kernel_rfl) (fun _ _ _ h => h) (Or.inl ⟨by rfl, fun w hSw => ?_⟩) (by assumption) ?_
        rotate_left
        · (obtain ⟨s1, s2, s3⟩ := hSw; go_simp; try with_reducible rfl)
        try simp only [Act.put, List.setIfInBounds_toArray, List.set_cons_zero, List.set_cons_succ]
        refine Late.take (i := 2) (oi := ⟨some 62, Op.move (Operand.tmp 8), _, _, _, _⟩) (v := ?_) rfl (by kernel_rfl) (by kernel_rfl) (by kernel_rfl) (by kernel_rfl) (fun _ _ _ h => h) (Or.inl ⟨by rfl, fun w hSw => ?_⟩) (by assumption) ?_
        rotate_left
        · (obtain ⟨s1, s2, s3⟩ := hSw; go_simp; try with_reducible rfl)
        try simp only [Act.put, List.setIfInBounds_toArray, List.set_cons_zero, List.set_cons_succ]
        refine Late.take (i := 3) (oi := ⟨some 63, Op.move (Operand.tmp 11), _, _, _, _⟩) (v := ?_) rfl (by kernel_rfl) (by kernel_rfl) (by kernel_rfl) (by kernel_rfl) (fun _ _ _ h => h) (Or.inl ⟨by rfl, fun w hSw => ?_⟩) (by assumption) ?_
        rotate_left
        · (obtain ⟨s1, s2, s3⟩ := hSw; go_simp; try with_reducible rfl)
        try simp only [Act.put, List.setIfInBounds_toArray, List.set_cons_zero, List.set_cons_succ]
        refine Late.take (i := 4) (oi := ⟨some 64, Op.indexAddr 22 (Operand.tmp 62) (Operand.tmp 63), _, _, _, _⟩) (v := ?_) rfl (by kernel_rfl) (by kernel_rfl) (by kernel_rfl) (by kernel_rfl) (fun _ _ _ h => h) (Or.inl ⟨by rfl, fun w hSw => ?_⟩) (by assumption) ?_
        rotate_left
        · (obtain ⟨s1, s2, s3⟩ := hSw; go_simp; try with_reducible rfl)
        try simp only [Act.put, List.setIfInBounds_toArray, List.set_cons_zero, List.set_cons_succ]
        refine Late.take (i := 5) (oi := ⟨some 65, Op.load 66 (Operand.tmp 64), _, _, _, _⟩) (v := ?_) rfl (by kernel_rfl) (by kernel_rfl) (by kernel_rfl) (by kernel_rfl) (fun _ _ _ h => h) (Or.inl ⟨by rfl, fun w hSw => ?_⟩) (by assumption) ?_
        rotate_left
        · (obtain ⟨s1, s2, s3⟩ := hSw; go_simp; try with_reducible rfl)
        try simp only [Act.put, List.setIfInBounds_toArray, List.set_cons_zero, List.set_cons_succ]
        refine Late.one (i := 6) (o := ⟨some 66, Op.buildSlice 22 1 #[(0, Operand.tmp 65)], _, _, _, _⟩) (by kernel_rfl) rfl (fun K hK => ?_)
        go_simp
        refine hK.out _ _ (by first | exact HST.out _ ((Below.refl _ _).drew.alloc hsz _) | exact HST.out _ ((Below.refl _ _).alloc hsz _).drew) (fun hHeld2 => ?_)
        clear hK K hHeld
        have hHeld := hHeld2
        clear hHeld2
        try simp only [Act.put, List.setIfInBounds_toArray, List.set_cons_zero, List.set_cons_succ]
        refine Late.one (i := 7) (o := ⟨some 67, Op.call { callee := Callee.builtin Builtin.append, args := #[Operand.tmp 61, Operand.tmp 66], argTypes := #[22, 22] }, _, _, _, _⟩) (by kernel_rfl) rfl (fun K hK => ?_)
        refine step_app _ (by rfl) (.tmp 61) (.tmp 66) 22 (by rfl) (g + 1) 66 2 32 Try.underlying22 rpair_info (by omega) (.slice D x d) (x) (pvs (insT R P k v j)) (by rfl) (by first | exact ownsRow_drewAlloc HO.out _ | exact ownsRow_allocDrew HO.out _) _ 1 1 (pvs [p]) (by rfl) (by first | exact (lies_newP wr p 66 (wr.heap.size) rfl).1 | exact (lies_newD wr p 66 (wr.heap.size) rfl).1) (lies_newP wr p 66 (wr.heap.size) rfl).2 (pvs_one _) (by unfold maxLen; omega) (by omega) (by simp; omega) ?_
        intro v16 w16 ho16 hg16 _
        have B16 : Hid (Below (g + 1) wr w16) := Lib.hid (by first | exact ((Below.refl _ _).drew.alloc hsz _).grown hg16 (by simp; omega) (fun q hq => (HO.out.lt q hq).1) | exact ((Below.refl _ _).alloc hsz _).drew.grown hg16 (by simp; omega) (fun q hq => (HO.out.lt q hq).1))
        have HO16 := Lib.hid ho16
        clear ho16 hg16
        refine hK.out _ _ (HST.out _ B16.out) (fun hHeld2 => ?_)
        clear hK K hHeld
        have hHeld := hHeld2
        clear hHeld2
        try simp only [Act.put, List.setIfInBounds_toArray, List.set_cons_zero, List.set_cons_succ]
        refine Late.one (i := 8) (o := ⟨some 68, Op.fieldAddr 24 (Operand.tmp 9) 2, _, _, _, _⟩) (by kernel_rfl) rfl (fun K hK => ?_)
        go_simp
        refine hK.out _ _ (hHeld) (fun hHeld2 => ?_)
        clear hK K hHeld
        have hHeld := hHeld2
        clear hHeld2
        try simp only [Act.put, List.setIfInBounds_toArray, List.set_cons_zero, List.set_cons_succ]
        refine Late.end_ (i := 9) (o := ⟨none, Op.store 22 (Operand.tmp 68) (Operand.tmp 67), _, _, _, _⟩) (by kernel_rfl) rfl rfl (fun K hK => ?_)
        obtain ⟨D6, d6, rfl, _, _⟩ := own_shapeP HO16.out
        have f16 := (VR.out.below B16.out (by omega)).free (o := 2) (by omega)
        have c16 := (HST.out _ B16.out).1
        go_simp
        refine hK.out _ _ ?_
        clear hK K
        try simp only [Act.put, List.setIfInBounds_toArray, List.set_cons_zero, List.set_cons_succ]
        refine Late.done (by kernel_rfl) ?_ _
        refine NoPanic.normal ?_
        have B17 := Lib.hid (HW.out.trans (((B16.out.mono (show g ≤ g + 1 by omega)).setCell (p := ⟨g, 2, none⟩) (Nat.le_refl _) (.slice D6 (x + 1) d6))))
        have HOX : Hid ((w16.setCell ⟨g, 2, none⟩ (.slice D6 (x + 1) d6)).ownsRow (g + 1) 66 2 (.slice D6 (x + 1) d6) (x + 1) (pvs (insT R P k v (j + 1)))) := Lib.hid (by
          rw [HT.out, pvs_app]
          exact own_farS HO16.out (by omega) _ _)
        have VX := Lib.hid ((VR.out.below B16.out (by omega)).set1 g 2 (.slice D6 (x + 1) d6))
        have XX := Lib.hid (sbox_set2 (A' := D6) (n' := x + 1) (c' := d6) (XR.out.below B16.out (by omega)) (VR.out.below B16.out (by omega)))
        have hszX : g + 1 ≤ (w16.setCell ⟨g, 2, none⟩ (.slice D6 (x + 1) d6)).heap.size := by
          have := B16.out.size
          simp [World.setCell]; omega
        clear HST B16 HO16
        go_wp2
        go_roundw
        case rel => exact ⟨j + 1, x + 1, by omega, by omega, _, rfl, HQ.out, by go_num, B17, hszX, VX, D6, d6, XX, HOX⟩
        case measure => simp [intOf]; omega
      · subst hjP
        obtain rfl : qb = false := by rw [hqb]; simp
        have SK : (Op.bytesLess p.k.toList k.toList || p.k.toList == k.toList) = false := by
          rw [decide_eq_true (by omega)] at hcm; rw [leq_of, hcm]; rfl
        have HT := Lib.hid (insT_at k v HK.out)
        have HQ : Hid (true = decide (j < j + 1)) := Lib.hid (by rw [decide_eq_true (by omega)])
        clear hqb hcm
        have hsz1 := hsz
        have LN := Lib.hid (lies_newR wr ⟨k, v⟩ 66 wr.heap.size rfl)
        have OW1 := Lib.hid (HO.out.alloc (.cells #[.string k, .string v] 66))
        have BW1 := Lib.hid (((Below.refl (g + 1) wr).alloc hsz (.cells #[.string k, .string v] 66)))
        have y4 := XR.out.2.2
        go_upto_region 11 with (at_builtin; refine wpList_appA _ rfl (.tmp 53) (.tmp 57) 22 rfl (g + 1) 66 2 32 Try.underlying22 rpair_info (by omega) _ x (pvs (insT R j k v j)) rfl OW1.out _ 1 1 (pvs [⟨k, v⟩]) rfl LN.out.1 LN.out.2 (pvs_one _) (by unfold maxLen; omega) (by omega) (by simp; omega) ?_; intro v1 w1 ho1 hg1 _; have B1 := Lib.hid (show Below (g + 1) wr w1 from BW1.out.grown hg1 (Nat.le_trans hsz (by simp)) (fun q hq => (OW1.out.lt q hq).1)); have HO1 := Lib.hid ho1; clear ho1 hg1; obtain ⟨D1, d1, rfl, _, _⟩ := own_shapeP HO1.out; have f1 := (VR.out.below B1.out (by omega)).free (o := 2) (by omega); have c1' := (XR.out.below B1.out (by omega)).2.2)
        obtain ⟨W2, hW2⟩ : ∃ W, W = w1.setCell ⟨g, 2, none⟩ (.slice D1 (x + 1) d1) := ⟨_, rfl⟩
        have hsz2 : g + 1 ≤ W2.heap.size := by
          have := B1.out.size
          rw [hW2]; simp [World.setCell]; omega
        have HW2 := Lib.hid (show Below g W9 W2 by rw [hW2]; exact HW.out.trans (((B1.out.mono (show g ≤ g + 1 by omega)).setCell (p := ⟨g, 2, none⟩) (Nat.le_refl _) (.slice D1 (x + 1) d1))))
        have HO2 : Hid (W2.ownsRow (g + 1) 66 2 (.slice D1 (x + 1) d1) (x + 1) (pvs ((insT R j k v j) ++ [⟨k, v⟩]))) := Lib.hid (by
          rw [hW2, pvs_app]
          exact own_farS HO1.out (by omega) _ _)
        have VR2 := Lib.hid (show SVar W2 g by rw [hW2]; exact (VR.out.below B1.out (by omega)).set1 g 2 (.slice D1 (x + 1) d1))
        have XR2 := Lib.hid (show SBox W2 g K Y D1 (x + 1) d1 by rw [hW2]; exact sbox_set2 (A' := D1) (n' := x + 1) (c' := d1) (XR.out.below B1.out (by omega)) (VR.out.below B1.out (by omega)))
        rw [← hW2]
        clear hW2 f1 c1' y4 B1 HO1 LN OW1 BW1
        have HST := Lib.hid (fun (V : World) (hV : Below (g + 1) W2 V) => show V.cell? ⟨g, 2, none⟩ = some (.slice D1 (x + 1) d1) ∧ V.cell? ⟨pb, po + j * 2, none⟩ = some (.string p.k) ∧ V.cell? ⟨pb, po + j * 2 + 1, none⟩ = some (.string p.v) from
          ⟨(hV.cell (p := ⟨g, 2, none⟩) (by show g < _; omega)).trans XR2.out.2.2, (hV.cell (p := ⟨pb, po + j * 2, none⟩) (by show pb < _; omega)).trans (HCP.out _ HW2.out).1, (hV.cell (p := ⟨pb, po + j * 2 + 1, none⟩) (by show pb < _; omega)).trans (HCP.out _ HW2.out).2⟩)
        go_upto_region 12 with fail
        refine Late.region (fun w' => w'.cell? ⟨g, 2, none⟩ = some (.slice D1 (x + 1) d1) ∧ w'.cell? ⟨pb, po + j * 2, none⟩ = some (.string p.k) ∧ w'.cell? ⟨pb, po + j * 2 + 1, none⟩ = some (.string p.v)) [9] (by kernel_rfl) (HST.out _ (Below.refl _ _).drew) (fun hHeld => ?_)
        refine Late.take (i := 0) (oi := ⟨some 60, Op.fieldAddr 24 (Operand.tmp 9) 2, _, _, _, _⟩) (v := ?_) rfl (by kernel_rfl) (by kernel_rfl) (by kernel_rfl) (by kernel_rfl) (fun _ _ _ h => h) (Or.inl ⟨by rfl, fun w hSw => ?_⟩) (by assumption) ?_
        rotate_left
        · (obtain ⟨s1, s2, s3⟩ := hSw; go_simp; try with_reducible rfl)
        try simp only [Act.put, List.setIfInBounds_toArray, List.set_cons_zero, List.set_cons_succ]
        refine Late.take (i := 1) (oi := ⟨some 61, Op.load 22 (Operand.tmp 60), _, _, _, _⟩) (v := ?_) rfl (by kernel_rfl) (by kernel_rfl) (by kernel_rfl) (by kernel_rfl) (fun _ _ _ h => h) (Or.inl ⟨by rfl, fun w hSw => ?_⟩) (by assumption) ?_
        rotate_left
        · (obtain ⟨s1, s2, s3⟩ := hSw; go_simp; try with_reducible rfl)
        try simp only [Act.put, List.setIfInBounds_toArray, List.set_cons_zero, List.set_cons_succ]
        refine Late.take (i := 2) (oi := ⟨some 62, Op.move (Operand.tmp 8), _, _, _, _⟩) (v := ?_) rfl (by kernel_rfl) (by kernel_rfl) (by kernel_rfl) (by kernel_rfl) (fun _ _ _ h => h) (Or.inl ⟨by rfl, fun w hSw => ?_⟩) (by assumption) ?_
        rotate_left
        · (obtain ⟨s1, s2, s3⟩ := hSw; go_simp; try with_reducible rfl)
        try simp only [Act.put, List.setIfInBounds_toArray, List.set_cons_zero, List.set_cons_succ]
        refine Late.take (i := 3) (oi := ⟨some 63, Op.move (Operand.tmp 11), _, _, _, _⟩) (v := ?_) rfl (by kernel_rfl) (by kernel_rfl) (by kernel_rfl) (by kernel_rfl) (fun _ _ _ h => h) (Or.inl ⟨by rfl, fun w hSw => ?_⟩) (by assumption) ?_
        rotate_left
        · (obtain ⟨s1, s2, s3⟩ := hSw; go_simp; try with_reducible rfl)
        try simp only [Act.put, List.setIfInBounds_toArray, List.set_cons_zero, List.set_cons_succ]
        refine Late.take (i := 4) (oi := ⟨some 64, Op.indexAddr 22 (Operand.tmp 62) (Operand.tmp 63), _, _, _, _⟩) (v := ?_) rfl (by kernel_rfl) (by kernel_rfl) (by kernel_rfl) (by kernel_rfl) (fun _ _ _ h => h) (Or.inl ⟨by rfl, fun w hSw => ?_⟩) (by assumption) ?_
        rotate_left
        · (obtain ⟨s1, s2, s3⟩ := hSw; go_simp; try with_reducible rfl)
        try simp only [Act.put, List.setIfInBounds_toArray, List.set_cons_zero, List.set_cons_succ]
        refine Late.take (i := 5) (oi := ⟨some 65, Op.load 66 (Operand.tmp 64), _, _, _, _⟩) (v := ?_) rfl (by kernel_rfl) (by kernel_rfl) (by kernel_rfl) (by kernel_rfl) (fun _ _ _ h => h) (Or.inl ⟨by rfl, fun w hSw => ?_⟩) (by assumption) ?_
        rotate_left
        · (obtain ⟨s1, s2, s3⟩ := hSw; go_simp; try with_reducible rfl)
        try simp only [Act.put, List.setIfInBounds_toArray, List.set_cons_zero, List.set_cons_succ]
        refine Late.one (i := 6) (o := ⟨some 66, Op.buildSlice 22 1 #[(0, Operand.tmp 65)], _, _, _, _⟩) (by kernel_rfl) rfl (fun K hK => ?_)
        go_simp
        refine hK.out _ _ (by first | exact HST.out _ ((Below.refl _ _).drew.alloc hsz2 _) | exact HST.out _ ((Below.refl _ _).alloc hsz2 _).drew) (fun hHeld2 => ?_)
        clear hK K hHeld
        have hHeld := hHeld2
        clear hHeld2
        try simp only [Act.put, List.setIfInBounds_toArray, List.set_cons_zero, List.set_cons_succ]
        refine Late.one (i := 7) (o := ⟨some 67, Op.call { callee := Callee.builtin Builtin.append, args := #[Operand.tmp 61, Operand.tmp 66], argTypes := #[22, 22] }, _, _, _, _⟩) (by kernel_rfl) rfl (fun K hK => ?_)
        refine step_app _ (by rfl) (.tmp 61) (.tmp 66) 22 (by rfl) (g + 1) 66 2 32 Try.underlying22 rpair_info (by omega) (.slice D1 (x + 1) d1) ((x + 1)) (pvs (insT R j k v j ++ [⟨k, v⟩])) (by rfl) (by first | exact ownsRow_drewAlloc HO2.out _ | exact ownsRow_allocDrew HO2.out _) _ 1 1 (pvs [p]) (by rfl) (by first | exact (lies_newP W2 p 66 (W2.heap.size) rfl).1 | exact (lies_newD W2 p 66 (W2.heap.size) rfl).1) (lies_newP W2 p 66 (W2.heap.size) rfl).2 (pvs_one _) (by unfold maxLen; omega) (by omega) (by simp; omega) ?_
        intro v16 w16 ho16 hg16 _
        have B16 : Hid (Below (g + 1) W2 w16) := Lib.hid (by first | exact ((Below.refl _ _).drew.alloc hsz2 _).grown hg16 (by simp; omega) (fun q hq => (HO2.out.lt q hq).1) | exact ((Below.refl _ _).alloc hsz2 _).drew.grown hg16 (by simp; omega) (fun q hq => (HO2.out.lt q hq).1))
        have HO16 := Lib.hid ho16
        clear ho16 hg16
        refine hK.out _ _ (HST.out _ B16.out) (fun hHeld2 => ?_)
        clear hK K hHeld
        have hHeld := hHeld2
        clear hHeld2
        try simp only [Act.put, List.setIfInBounds_toArray, List.set_cons_zero, List.set_cons_succ]
        refine Late.one (i := 8) (o := ⟨some 68, Op.fieldAddr 24 (Operand.tmp 9) 2, _, _, _, _⟩) (by kernel_rfl) rfl (fun K hK => ?_)
        go_simp
        refine hK.out _ _ (hHeld) (fun hHeld2 => ?_)
        clear hK K hHeld
        have hHeld := hHeld2
        clear hHeld2
        try simp only [Act.put, List.setIfInBounds_toArray, List.set_cons_zero, List.set_cons_succ]
        refine Late.end_ (i := 9) (o := ⟨none, Op.store 22 (Operand.tmp 68) (Operand.tmp 67), _, _, _, _⟩) (by kernel_rfl) rfl rfl (fun K hK => ?_)
        obtain ⟨D6, d6, rfl, _, _⟩ := own_shapeP HO16.out
        have f16 := (VR2.out.below B16.out (by omega)).free (o := 2) (by omega)
        have c16 := (HST.out _ B16.out).1
        go_simp
        refine hK.out _ _ ?_
        clear hK K
        try simp only [Act.put, List.setIfInBounds_toArray, List.set_cons_zero, List.set_cons_succ]
        refine Late.done (by kernel_rfl) ?_ _
        refine NoPanic.normal ?_
        have B17 := Lib.hid (HW2.out.trans (((B16.out.mono (show g ≤ g + 1 by omega)).setCell (p := ⟨g, 2, none⟩) (Nat.le_refl _) (.slice D6 ((x + 1) + 1) d6))))
        have HOX : Hid ((w16.setCell ⟨g, 2, none⟩ (.slice D6 ((x + 1) + 1) d6)).ownsRow (g + 1) 66 2 (.slice D6 ((x + 1) + 1) d6) ((x + 1) + 1) (pvs (insT R j k v (j + 1)))) := Lib.hid (by
          rw [HT.out, pvs_app]
          exact own_farS HO16.out (by omega) _ _)
        have VX := Lib.hid ((VR2.out.below B16.out (by omega)).set1 g 2 (.slice D6 ((x + 1) + 1) d6))
        have XX := Lib.hid (sbox_set2 (A' := D6) (n' := (x + 1) + 1) (c' := d6) (XR2.out.below B16.out (by omega)) (VR2.out.below B16.out (by omega)))
        have hszX : g + 1 ≤ (w16.setCell ⟨g, 2, none⟩ (.slice D6 ((x + 1) + 1) d6)).heap.size := by
          have := B16.out.size
          simp [World.setCell]; omega
        clear HST B16 HO16
        go_wp2
        go_roundw
        case rel => exact ⟨j + 1, (x + 1) + 1, by omega, by omega, _, rfl, HQ.out, by go_num, B17, hszX, VX, D6, d6, XX, HOX⟩
        case measure => simp [intOf]; omega
      · obtain rfl : qb = true := by rw [hqb]; simp; omega
        have HT := Lib.hid (insT_hi k v hjP HK.out)
        have HQ : Hid (true = decide (P < j + 1)) := Lib.hid (by rw [decide_eq_true (by omega)])
        clear hqb hcm
        have HST := Lib.hid (fun (V : World) (hV : Below (g + 1) wr V) => show V.cell? ⟨g, 2, none⟩ = some (.slice D x d) ∧ V.cell? ⟨pb, po + j * 2, none⟩ = some (.string p.k) ∧ V.cell? ⟨pb, po + j * 2 + 1, none⟩ = some (.string p.v) from
          ⟨(hV.cell (p := ⟨g, 2, none⟩) (by show g < _; omega)).trans XR.out.2.2, (hV.cell (p := ⟨pb, po + j * 2, none⟩) (by show pb < _; omega)).trans (HCP.out _ HW.out).1, (hV.cell (p := ⟨pb, po + j * 2 + 1, none⟩) (by show pb < _; omega)).trans (HCP.out _ HW.out).2⟩)
        go_upto_region 12 with fail
        refine Late.region (fun w' => w'.cell? ⟨g, 2, none⟩ = some (.slice D x d) ∧ w'.cell? ⟨pb, po + j * 2, none⟩ = some (.string p.k) ∧ w'.cell? ⟨pb, po + j * 2 + 1, none⟩ = some (.string p.v)) [9] (by kernel_rfl) (HST.out _ (Below.refl _ _).drew) (fun hHeld => ?_)
        refine Late.take (i := 0) (oi := ⟨some 60, Op.fieldAddr 24 (Operand.tmp 9) 2, _, _, _, _⟩) (v := ?_) rfl (by kernel_rfl) (by kernel_rfl) (by kernel_rfl) (by kernel_rfl) (fun _ _ _ h => h) (Or.inl ⟨by rfl, fun w hSw => ?_⟩) (by assumption) ?_
        rotate_left
        · (obtain ⟨s1, s2, s3⟩ := hSw; go_simp; try with_reducible rfl)
        try simp only [Act.put, List.setIfInBounds_toArray, List.set_cons_zero, List.set_cons_succ]
        refine Late.take (i := 1) (oi := ⟨some 61, Op.load 22 (Operand.tmp 60), _, _, _, _⟩) (v := ?_) rfl (by kernel_rfl) (by kernel_rfl) (by kernel_rfl) (by kernel_rfl) (fun _ _ _ h => h) (Or.inl ⟨by rfl, fun w hSw => ?_⟩) (by assumption) ?_
        rotate_left
        · (obtain ⟨s1, s2, s3⟩ := hSw; go_simp; try with_reducible rfl)
        try simp only [Act.put, List.setIfInBounds_toArray, List.set_cons_zero, List.set_cons_succ]
        refine Late.take (i := 2) (oi := ⟨some 62, Op.move (Operand.tmp 8), _, _, _, _⟩) (v := ?_) rfl (by kernel_rfl) (by kernel_rfl) (by kernel_rfl) (by kernel_rfl) (fun _ _ _ h => h) (Or.inl ⟨by rfl, fun w hSw => ?_⟩) (by assumption) ?_
        rotate_left
        · (obtain ⟨s1, s2, s3⟩ := hSw; go_simp; try with_reducible rfl)
        try simp only [Act.put, List.setIfInBounds_toArray, List.set_cons_zero, List.set_cons_succ]
        refine Late.take (i := 3) (oi := ⟨some 63, Op.move (Operand.tmp 11), _, _, _, _⟩) (v := ?_) rfl (by kernel_rfl) (by kernel_rfl) (by kernel_rfl) (by kernel_rfl) (fun _ _ _ h => h) (Or.inl ⟨by rfl, fun w hSw => ?_⟩) (by assumption) ?_
        rotate_left
        · (obtain ⟨s1, s2, s3⟩ := hSw; go_simp; try with_reducible rfl)
        try simp only [Act.put, List.setIfInBounds_toArray, List.set_cons_zero, List.set_cons_succ]
        refine Late.take (i := 4) (oi := ⟨some 64, Op.indexAddr 22 (Operand.tmp 62) (Operand.tmp 63), _, _, _, _⟩) (v := ?_) rfl (by kernel_rfl) (by kernel_rfl) (by kernel_rfl) (by kernel_rfl) (fun _ _ _ h => h) (Or.inl ⟨by rfl, fun w hSw => ?_⟩) (by assumption) ?_
        rotate_left
        · (obtain ⟨s1, s2, s3⟩ := hSw; go_simp; try with_reducible rfl)
        try simp only [Act.put, List.setIfInBounds_toArray, List.set_cons_zero, List.set_cons_succ]
        refine Late.take (i := 5) (oi := ⟨some 65, Op.load 66 (Operand.tmp 64), _, _, _, _⟩) (v := ?_) rfl (by kernel_rfl) (by kernel_rfl) (by kernel_rfl) (by kernel_rfl) (fun _ _ _ h => h) (Or.inl ⟨by rfl, fun w hSw => ?_⟩) (by assumption) ?_
        rotate_left
        · (obtain ⟨s1, s2, s3⟩ := hSw; go_simp; try with_reducible rfl)
        try simp only [Act.put, List.setIfInBounds_toArray, List.set_cons_zero, List.set_cons_succ]
        refine Late.one (i := 6) (o := ⟨some 66, Op.buildSlice 22 1 #[(0, Operand.tmp 65)], _, _, _, _⟩) (by kernel_rfl) rfl (fun K hK => ?_)
        go_simp
        refine hK.out _ _ (by first | exact HST.out _ ((Below.refl _ _).drew.alloc hsz _) | exact HST.out _ ((Below.refl _ _).alloc hsz _).drew) (fun hHeld2 => ?_)
        clear hK K hHeld
        have hHeld := hHeld2
        clear hHeld2
        try simp only [Act.put, List.setIfInBounds_toArray, List.set_cons_zero, List.set_cons_succ]
        refine Late.one (i := 7) (o := ⟨some 67, Op.call { callee := Callee.builtin Builtin.append, args := #[Operand.tmp 61, Operand.tmp 66], argTypes := #[22, 22] }, _, _, _, _⟩) (by kernel_rfl) rfl (fun K hK => ?_)
        refine step_app _ (by rfl) (.tmp 61) (.tmp 66) 22 (by rfl) (g + 1) 66 2 32 Try.underlying22 rpair_info (by omega) (.slice D x d) (x) (pvs (insT R P k v j)) (by rfl) (by first | exact ownsRow_drewAlloc HO.out _ | exact ownsRow_allocDrew HO.out _) _ 1 1 (pvs [p]) (by rfl) (by first | exact (lies_newP wr p 66 (wr.heap.size) rfl).1 | exact (lies_newD wr p 66 (wr.heap.size) rfl).1) (lies_newP wr p 66 (wr.heap.size) rfl).2 (pvs_one _) (by unfold maxLen; omega) (by omega) (by simp; omega) ?_
        intro v16 w16 ho16 hg16 _
        have B16 : Hid (Below (g + 1) wr w16) := Lib.hid (by first | exact ((Below.refl _ _).drew.alloc hsz _).grown hg16 (by simp; omega) (fun q hq => (HO.out.lt q hq).1) | exact ((Below.refl _ _).alloc hsz _).drew.grown hg16 (by simp; omega) (fun q hq => (HO.out.lt q hq).1))
        have HO16 := Lib.hid ho16
        clear ho16 hg16
        refine hK.out _ _ (HST.out _ B16.out) (fun hHeld2 => ?_)
        clear hK K hHeld
        have hHeld := hHeld2
        clear hHeld2
        try simp only [Act.put, List.setIfInBounds_toArray, List.set_cons_zero, List.set_cons_succ]
        refine Late.one (i := 8) (o := ⟨some 68, Op.fieldAddr 24 (Operand.tmp 9) 2, _, _, _, _⟩) (by kernel_rfl) rfl (fun K hK => ?_)
        go_simp
        refine hK.out _ _ (hHeld) (fun hHeld2 => ?_)
        clear hK K hHeld
        have hHeld := hHeld2
        clear hHeld2
        try simp only [Act.put, List.setIfInBounds_toArray, List.set_cons_zero, List.set_cons_succ]
        refine Late.end_ (i := 9) (o := ⟨none, Op.store 22 (Operand.tmp 68) (Operand.tmp 67), _, _, _, _⟩) (by kernel_rfl) rfl rfl (fun K hK => ?_)
        obtain ⟨D6, d6, rfl, _, _⟩ := own_shapeP HO16.out
        have f16 := (VR.out.below B16.out (by omega)).free (o := 2) (by omega)
        have c16 := (HST.out _ B16.out).1
        go_simp
        refine hK.out _ _ ?_
        clear hK K
        try simp only [Act.put, List.setIfInBounds_toArray, List.set_cons_zero, List.set_cons_succ]
        refine Late.done (by kernel_rfl) ?_ _
        refine NoPanic.normal ?_
        have B17 := Lib.hid (HW.out.trans (((B16.out.mono (show g ≤ g + 1 by omega)).setCell (p := ⟨g, 2, none⟩) (Nat.le_refl _) (.slice D6 (x + 1) d6))))
        have HOX : Hid ((w16.setCell ⟨g, 2, none⟩ (.slice D6 (x + 1) d6)).ownsRow (g + 1) 66 2 (.slice D6 (x + 1) d6) (x + 1) (pvs (insT R P k v (j + 1)))) := Lib.hid (by
          rw [HT.out, pvs_app]
          exact own_farS HO16.out (by omega) _ _)
        have VX := Lib.hid ((VR.out.below B16.out (by omega)).set1 g 2 (.slice D6 (x + 1) d6))
        have XX := Lib.hid (sbox_set2 (A' := D6) (n' := x + 1) (c' := d6) (XR.out.below B16.out (by omega)) (VR.out.below B16.out (by omega)))
        have hszX : g + 1 ≤ (w16.setCell ⟨g, 2, none⟩ (.slice D6 (x + 1) d6)).heap.size := by
          have := B16.out.size
          simp [World.setCell]; omega
        clear HST B16 HO16
        go_wp2
        go_roundw
        case rel => exact ⟨j + 1, x + 1, by omega, by omega, _, rfl, HQ.out, by go_num, B17, hszX, VX, D6, d6, XX, HOX⟩
        case measure => simp [intOf]; omega
    · have e : j = M := by omega
      subst e
      by_cases hPM : P < j
      · obtain rfl : qb = true := by rw [hqb]; simp; omega
        have HOF : Hid (wr.ownsRow (g + 1) 66 2 (.slice D x d) x (pvs (insP l k v))) := Lib.hid (by rw [← HE.out.1 hPM]; exact HO.out)
        clear hqb
        go_upto_region 15 with fail
        have hok : ∀ p, p ∈ insP l k v → POk p := HOK.out
        have PF := Lib.hid (prs_of_own HOF.out hok)
        have FF := Lib.hid ((far_of_own HOF.out).mono (show w.heap.size ≤ g + 1 by omega))
        have CC := fun (m' : Nat) => rcount_any (w := wr.drewN m') d y (PF.out.drewN m') (by unfold maxLen; omega) HCY.out hcl
        have hXN : x = X := by rw [← PF.out.len]; exact HX.out
        have XT := Lib.hid (X9s.out.below HW.out hlt0)
        have VT := Lib.hid (V9r.out.below HW.out hlt1)
        have BT := Lib.hid (BW9.out.trans (HW.out.mono hle0))
        have HF6 := Lib.hid (fun (m' : Nat) (W6 : World) (h6 : W6 = (wr.drewN m').setCells (w.heap.size + 1) 0 #[.int .i64 K, .int .i64 Y, .slice D (x) d].toList) => show Prs W6 W6.heap.size D (x) (insP l k v) from by
          rw [h6]; exact prs_of_own (own_farSs (by omega) _ 0 _ (show (wr.drewN m').ownsRow (g + 1) 66 2 (.slice D (x) d) (x) (pvs (insP l k v)) from HOF.out)) hok)
        obtain ⟨x1, x2, x3⟩ := XT.out
        obtain ⟨z1, z2, z3⟩ := XR.out
        clear hok
        by_cases hK : K < ((X : Nat) : Int)
        · have E1 : Hid (r = (sp0, 120)) := Lib.hid (by rw [← HR.out]; unfold fitR; rw [FQ.out, decide_eq_false (by omega)]; rfl)
          rw [← hXN] at hK
          clear hXN hXM
          go_wp2
          have hKb : decide (K < (x : Int)) = true := decide_eq_true (by omega)
          go_quiet (fail)
          go_wp2_with (first
            | (refine sp_store_as (op := ⟨none, .store 24 (.tmp 6) (.tmp 93), _, _, _, _⟩) rfl 24 (.tmp 6) (.tmp 93) rfl (w.heap.size + 1) 0 #[.int .i64 0, .int .i64 0, .slice none 0 0] rfl rfl (VT.out.drewNS _).th HS.out (sp_one _ _ _ _ _) ?_; intro w6 hw6)
            | fail)
          obtain ⟨R6, B6⟩ := sp_stored (VT.out.drewNS _) hw6 (by omega) (below_drewN BT.out _)
          exact bodyPost_ret (ret_spaceR (p := 6) (u := 7) rfl _ _ (w.heap.size + 1) rfl R6 rfl) rfl (givesN_err E1.out B6)
        by_cases hY : Y < ((y : Nat) : Int)
        · have E1 : Hid (r = (sp0, 120)) := Lib.hid (by rw [← HR.out]; unfold fitR; rw [FQ.out, decide_eq_false (show ¬ (y : Int) ≤ Y by omega), Bool.and_false]; rfl)
          rw [← hXN] at hK
          clear hXN hXM
          go_wp2
          have hKb : decide (K < (x : Int)) = false := decide_eq_false (by omega)
          go_quiet ((go_at_call 26; first | exact quiet_rel CC | exact quiet_rel_add CC))
          go_wp2_with (first
            | (refine sp_store_as (op := ⟨none, .store 24 (.tmp 6) (.tmp 93), _, _, _, _⟩) rfl 24 (.tmp 6) (.tmp 93) rfl (w.heap.size + 1) 0 #[.int .i64 0, .int .i64 0, .slice none 0 0] rfl rfl (VT.out.drewNS _).th HS.out (sp_one _ _ _ _ _) ?_; intro w6 hw6)
            | fail)
          obtain ⟨R6, B6⟩ := sp_stored (VT.out.drewNS _) hw6 (by omega) (below_drewN BT.out _)
          exact bodyPost_ret (ret_spaceR (p := 6) (u := 7) rfl _ _ (w.heap.size + 1) rfl R6 rfl) rfl (givesN_err E1.out B6)
        · have E1 : Hid (r = (⟨K, Y, insP l k v⟩, 0)) := Lib.hid (by rw [← HR.out]; unfold fitR; rw [FQ.out, decide_eq_true (show (X : Int) ≤ K by omega), decide_eq_true (show (y : Int) ≤ Y by omega)]; rfl)
          rw [← hXN] at hK
          clear hXN hXM
          go_wp2
          have hKb : decide (K < (x : Int)) = false := decide_eq_false (by omega)
          go_quiet ((go_at_call 26; first | exact quiet_rel CC | exact quiet_rel_add CC))
          go_wp2_with (first
            | (refine sp_store_as (op := ⟨none, .store 24 (.tmp 6) (.tmp 94), _, _, _, _⟩) rfl 24 (.tmp 6) (.tmp 94) rfl (w.heap.size + 1) 0 #[.int .i64 K, .int .i64 Y, .slice D (x) d] rfl rfl (VT.out.drewNS _).th HS.out (sp_one _ _ _ _ _) ?_; intro w6 hw6)
            | fail)
          have P6 := HF6.out _ _ hw6.out
          obtain ⟨R6, B6⟩ := sp_stored (VT.out.drewNS _) hw6 (by omega) (below_drewN BT.out _)
          exact bodyPost_ret (ret_spaceR (p := 6) (u := 7) rfl _ _ (w.heap.size + 1) rfl R6 rfl) rfl (by rw [E1.out]; exact ⟨_, _, _, rfl, P6, FF.out, B6⟩)
      · obtain rfl : qb = false := by rw [hqb]; simp; omega
        have HEE := HE.out.2 hPM
        have HTE := Lib.hid HEE.2
        clear hqb HEE
        have hsz1 := hsz
        have LN := Lib.hid (lies_newR wr ⟨k, v⟩ 66 wr.heap.size rfl)
        have OW1 := Lib.hid (HO.out.alloc (.cells #[.string k, .string v] 66))
        have BW1 := Lib.hid (((Below.refl (g + 1) wr).alloc hsz (.cells #[.string k, .string v] 66)))
        have y4 := XR.out.2.2
        go_upto_region 15 with (at_builtin; refine wpList_appA _ rfl (.tmp 72) (.tmp 76) 22 rfl (g + 1) 66 2 32 Try.underlying22 rpair_info (by omega) _ x (pvs (insT R P k v j)) rfl OW1.out _ 1 1 (pvs [⟨k, v⟩]) rfl LN.out.1 LN.out.2 (pvs_one _) (by unfold maxLen; omega) (by omega) (by simp; omega) ?_; intro v1 w1 ho1 hg1 _; have B1 := Lib.hid (show Below (g + 1) wr w1 from BW1.out.grown hg1 (Nat.le_trans hsz (by simp)) (fun q hq => (OW1.out.lt q hq).1)); have HO1 := Lib.hid ho1; clear ho1 hg1; obtain ⟨D1, d1, rfl, _, _⟩ := own_shapeP HO1.out; have f1 := (VR.out.below B1.out (by omega)).free (o := 2) (by omega); have c1' := (XR.out.below B1.out (by omega)).2.2)
        obtain ⟨W2, hW2⟩ : ∃ W, W = w1.setCell ⟨g, 2, none⟩ (.slice D1 (x + 1) d1) := ⟨_, rfl⟩
        have hsz2 : g + 1 ≤ W2.heap.size := by
          have := B1.out.size
          rw [hW2]; simp [World.setCell]; omega
        have HW2 := Lib.hid (show Below g W9 W2 by rw [hW2]; exact HW.out.trans (((B1.out.mono (show g ≤ g + 1 by omega)).setCell (p := ⟨g, 2, none⟩) (Nat.le_refl _) (.slice D1 (x + 1) d1))))
        have HO2 : Hid (W2.ownsRow (g + 1) 66 2 (.slice D1 (x + 1) d1) (x + 1) (pvs ((insT R P k v j) ++ [⟨k, v⟩]))) := Lib.hid (by
          rw [hW2, pvs_app]
          exact own_farS HO1.out (by omega) _ _)
        have VR2 := Lib.hid (show SVar W2 g by rw [hW2]; exact (VR.out.below B1.out (by omega)).set1 g 2 (.slice D1 (x + 1) d1))
        have XR2 := Lib.hid (show SBox W2 g K Y D1 (x + 1) d1 by rw [hW2]; exact sbox_set2 (A' := D1) (n' := x + 1) (c' := d1) (XR.out.below B1.out (by omega)) (VR.out.below B1.out (by omega)))
        rw [← hW2]
        clear hW2 f1 c1' y4 B1 HO1 LN OW1 BW1
        have HOF : Hid (W2.ownsRow (g + 1) 66 2 (.slice D1 (x + 1) d1) (x + 1) (pvs (insP l k v))) := Lib.hid (by rw [← HTE.out]; exact HO2.out)
        have hok : ∀ p, p ∈ insP l k v → POk p := HOK.out
        have PF := Lib.hid (prs_of_own HOF.out hok)
        have FF := Lib.hid ((far_of_own HOF.out).mono (show w.heap.size ≤ g + 1 by omega))
        have CC := fun (m' : Nat) => rcount_any (w := W2.drewN m') d1 y (PF.out.drewN m') (by unfold maxLen; omega) HCY.out hcl
        have hXN : (x + 1) = X := by rw [← PF.out.len]; exact HX.out
        have XT := Lib.hid (X9s.out.below HW2.out hlt0)
        have VT := Lib.hid (V9r.out.below HW2.out hlt1)
        have BT := Lib.hid (BW9.out.trans (HW2.out.mono hle0))
        have HF6 := Lib.hid (fun (m' : Nat) (W6 : World) (h6 : W6 = (W2.drewN m').setCells (w.heap.size + 1) 0 #[.int .i64 K, .int .i64 Y, .slice D1 ((x + 1)) d1].toList) => show Prs W6 W6.heap.size D1 ((x + 1)) (insP l k v) from by
          rw [h6]; exact prs_of_own (own_farSs (by omega) _ 0 _ (show (W2.drewN m').ownsRow (g + 1) 66 2 (.slice D1 ((x + 1)) d1) ((x + 1)) (pvs (insP l k v)) from HOF.out)) hok)
        obtain ⟨x1, x2, x3⟩ := XT.out
        obtain ⟨z1, z2, z3⟩ := XR2.out
        clear hok
        by_cases hK : K < ((X : Nat) : Int)
        · have E1 : Hid (r = (sp0, 120)) := Lib.hid (by rw [← HR.out]; unfold fitR; rw [FQ.out, decide_eq_false (by omega)]; rfl)
          rw [← hXN] at hK
          clear hXN hXM
          go_wp2
          have hKb : decide (K < ((x : Int) + 1)) = true := decide_eq_true (by omega)
          go_quiet (fail)
          go_wp2_with (first
            | (refine sp_store_as (op := ⟨none, .store 24 (.tmp 6) (.tmp 93), _, _, _, _⟩) rfl 24 (.tmp 6) (.tmp 93) rfl (w.heap.size + 1) 0 #[.int .i64 0, .int .i64 0, .slice none 0 0] rfl rfl (VT.out.drewNS _).th HS.out (sp_one _ _ _ _ _) ?_; intro w6 hw6)
            | fail)
          obtain ⟨R6, B6⟩ := sp_stored (VT.out.drewNS _) hw6 (by omega) (below_drewN BT.out _)
          exact bodyPost_ret (ret_spaceR (p := 6) (u := 7) rfl _ _ (w.heap.size + 1) rfl R6 rfl) rfl (givesN_err E1.out B6)
        by_cases hY : Y < ((y : Nat) : Int)
        · have E1 : Hid (r = (sp0, 120)) := Lib.hid (by rw [← HR.out]; unfold fitR; rw [FQ.out, decide_eq_false (show ¬ (y : Int) ≤ Y by omega), Bool.and_false]; rfl)
          rw [← hXN] at hK
          clear hXN hXM
          go_wp2
          have hKb : decide (K < ((x : Int) + 1)) = false := decide_eq_false (by omega)
          go_quiet ((go_at_call 26; first | exact quiet_rel CC | exact quiet_rel_add CC))
          go_wp2_with (first
            | (refine sp_store_as (op := ⟨none, .store 24 (.tmp 6) (.tmp 93), _, _, _, _⟩) rfl 24 (.tmp 6) (.tmp 93) rfl (w.heap.size + 1) 0 #[.int .i64 0, .int .i64 0, .slice none 0 0] rfl rfl (VT.out.drewNS _).th HS.out (sp_one _ _ _ _ _) ?_; intro w6 hw6)
            | fail)
          obtain ⟨R6, B6⟩ := sp_stored (VT.out.drewNS _) hw6 (by omega) (below_drewN BT.out _)
          exact bodyPost_ret (ret_spaceR (p := 6) (u := 7) rfl _ _ (w.heap.size + 1) rfl R6 rfl) rfl (givesN_err E1.out B6)
        · have E1 : Hid (r = (⟨K, Y, insP l k v⟩, 0)) := Lib.hid (by rw [← HR.out]; unfold fitR; rw [FQ.out, decide_eq_true (show (X : Int) ≤ K by omega), decide_eq_true (show (y : Int) ≤ Y by omega)]; rfl)
          rw [← hXN] at hK
          clear hXN hXM
          go_wp2
          have hKb : decide (K < ((x : Int) + 1)) = false := decide_eq_false (by omega)
          go_quiet ((go_at_call 26; first | exact quiet_rel CC | exact quiet_rel_add CC))
          go_wp2_with (first
            | (refine sp_store_as (op := ⟨none, .store 24 (.tmp 6) (.tmp 94), _, _, _, _⟩) rfl 24 (.tmp 6) (.tmp 94) rfl (w.heap.size + 1) 0 #[.int .i64 K, .int .i64 Y, .slice D1 ((x + 1)) d1] rfl rfl (VT.out.drewNS _).th HS.out (sp_one _ _ _ _ _) ?_; intro w6 hw6)
            | fail)
          have P6 := HF6.out _ _ hw6.out
          obtain ⟨R6, B6⟩ := sp_stored (VT.out.drewNS _) hw6 (by omega) (below_drewN BT.out _)
          exact bodyPost_ret (ret_spaceR (p := 6) (u := 7) rfl _ _ (w.heap.size + 1) rfl R6 rfl) rfl (by rw [E1.out]; exact ⟨_, _, _, rfl, P6, FF.out, B6⟩)
end Go.Proofs.Ytmlkcedhjnmfgaa
