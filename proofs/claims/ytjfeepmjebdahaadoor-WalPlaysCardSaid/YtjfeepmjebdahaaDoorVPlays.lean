/- The statement WalPlays: the walk. -/
import Derived.Test.YtjfeepmjebdahaaDoorVOne
namespace Go.Proofs.YtjfeepmjebdahaaDoor
open Go.ChangeShapes Go.WideShapes Go.ChangeAt Go.RowKit
set_option linter.unusedVariables false
open Plain Sha
theorem rfw_new {w : World} {r : Nat} (h : w.heap[r]? = some (.cells #[.slice none 0 0, .int .i64 0, .slice none 0 0, .bool false] 30 (0, 0))) (hr : r < w.heap.size) : Rf w r (fun k => k = r) ⟨true, [], []⟩ := by
  refine ⟨.slice none 0 0, .slice none 0 0, rfl, fun k hk => (by omega), ?_, ?_, ?_, ?_, fun i => frozen_of_row _ _ _ _ _ h, World.ownsRow_nil _ _ _ _, fun k hk => (by cases hk), IsBytes.nil, World.ownsRow_nil _ _ _ _, fun k hk => (by cases hk)⟩
  all_goals (rw [cell_of_row _ _ _ _ _ _ h]; rfl)
theorem wDo_size {s : DiskZ} {n : Nat} (h : SizeB s n) (a : ActZ) : SizeB (wDo s a) (n + a.zs.length + 40) := by
  have hrec : ∀ {t : DiskZ}, SizeB t n → SizeB (recD t) (n + a.zs.length + 40) := fun {t} ht => by
    unfold recD
    split
    · unfold recS
      split
      · exact ⟨by rw [allZ_flat, List.length_take]; have := ht.bytes; omega, by simp⟩
      · exact ht.more (by omega)
    · exact ht.more (by omega)
  unfold wDo
  repeat' split
  · exact (dWrite_size h _).more (by rw [frameZ_len]; omega)
  · exact (dSync_size h).more (by omega)
  · exact (dCrash_size h _ _).more (by omega)
  · exact hrec (dStart_size h)
  · exact (dWrite_size h _).more (by omega)
  · exact hrec h
  · exact h.more (by omega)
/-- Bytes that may be stored into, whatever they are. -/
def Mut (w : World) (base : Nat) (A : Option Addr) (n : Nat) : Prop := 0 < n → ∃ g, A = some ⟨g, 0, none⟩ ∧ base ≤ g ∧ ∀ j, j < n → w.frozen? ⟨g, j, none⟩ = false ∧ ∃ u : Int, 0 ≤ u ∧ u < 256 ∧ w.cell? ⟨g, j, none⟩ = some (.int .u8 u)
theorem mut_of {w : World} {base : Nat} {p : Piece} (h : PieceOk w base p) : Mut w base p.A p.n := fun hn => by
  obtain ⟨pA, pn, pc, pz⟩ := p
  have ho : w.ownsRow base 5 1 (.slice pA pn pc) pn (vals pz) := h.own
  have hl : pz.length = pn := h.len
  have hb : IsBytes pz := h.bytes
  have hn : 0 < pn := hn
  obtain ⟨g, cap, hv, hg, hlt⟩ := ho.form hn
  injection hv with e1 e2 e3
  subst e1
  refine ⟨g, rfl, hg, fun j hj => ?_⟩
  have hj : j < pn := hj
  refine ⟨ho.frozenAt j, pz.getD j 0, (hb j (by omega)).1, (hb j (by omega)).2, ?_⟩
  rw [ho.cellAt j (by omega)]
  simp [vals, List.getElem?_map, List.getD_eq_getElem?_getD, List.getElem?_eq_getElem (show j < pz.length by omega)]
theorem Mut.set {w : World} {base n : Nat} {A : Option Addr} (h : Mut w base A n) (q : Addr) (z : Int) (h0 : 0 ≤ z) (h1 : z < 256) (u0 : Value) (hq : w.cell? q = some u0) : Mut (w.setCell q (.int .u8 z)) base A n := fun hn => by
  obtain ⟨g, e, hg, hc⟩ := h hn
  refine ⟨g, e, hg, fun j hj => ⟨by rw [World.frozen?_setCell]; exact (hc j hj).1, ?_⟩⟩
  by_cases hp : (⟨g, j, none⟩ : Addr) = q
  · subst hp
    exact ⟨z, h0, h1, World.cell?_setCell_same _ _ _ hq⟩
  · obtain ⟨u, h2, h3, h4⟩ := (hc j hj).2
    exact ⟨u, h2, h3, by rw [World.cell?_setCell_other _ _ _ _ (Ne.symm hp)]; exact h4⟩
theorem Mut.drewN {w : World} {base n : Nat} {A : Option Addr} (h : Mut w base A n) (k : Nat) : Mut (w.drewN k) base A n := h
/-- While records that were told are stored into. -/
structure Loose (w0 w : World) (b d r : Nat) (K R : Nat → Prop) (s : DiskZ) (base : Nat) (V : Option Addr) (ps : List Piece) : Prop where
  trio : Trio w0 w b d r K R s s
  bytes : ∀ p ∈ ps, Mut w base p.A p.n
  cell : ∀ k p, ps[k]? = some p → ∃ g, V = some ⟨g, 0, none⟩ ∧ w.cell? ⟨g, k, none⟩ = some (pv p)
/-- Where the records' bytes stand: apart from all else. -/
def ApartP (w0 : World) (b : Nat) (K R : Nat → Prop) (V : Option Addr) (ps : List Piece) : Prop :=
  ∀ p ∈ ps, ∀ g, p.A = some ⟨g, 0, none⟩ → (∀ g0, V = some ⟨g0, 0, none⟩ → g ≠ g0) ∧ ¬ K g ∧ ¬ R g ∧ g ≠ b ∧ w0.heap.size ≤ g
theorem Loose.set {w0 w : World} {b d r base : Nat} {K R : Nat → Prop} {s : DiskZ} {V : Option Addr} {ps : List Piece} (h : Loose w0 w b d r K R s base V ps) (hap : ApartP w0 b K R V ps) {p : Piece} (hp : p ∈ ps) {g j : Nat} (hA : p.A = some ⟨g, 0, none⟩) (z : Int) (h0 : 0 ≤ z) (h1 : z < 256) (u0 : Value) (hq : w.cell? ⟨g, j, none⟩ = some u0) :
    Loose w0 (w.setCell ⟨g, j, none⟩ (.int .u8 z)) b d r K R s base V ps := by
  obtain ⟨a1, a2, a3, a4, a5⟩ := hap p hp g hA
  refine ⟨h.trio.cell a2 a3 a4 a5 _, fun p2 hp2 => (h.bytes p2 hp2).set _ z h0 h1 u0 hq, fun k p2 hk => ?_⟩
  obtain ⟨g0, e, hc⟩ := h.cell k p2 hk
  refine ⟨g0, e, ?_⟩
  rw [World.cell?_setCell_other _ _ _ _ (fun e2 => a1 g0 e (congrArg Addr.block e2))]
  exact hc
theorem loose_of {w0 w : World} {b d r base m c : Nat} {K R : Nat → Prop} {s : DiskZ} {V : Option Addr} {ps : List Piece} {l : List (List Int)} (h : Trio w0 w b d r K R s s) (hr : RecsAt w K base (.slice V m c) ps l) (hm : l.length = m)
    (hK : ∀ k, K k → k < base) (hR : ∀ k, R k → k < base) (hb : b < base) (h0 : w0.heap.size ≤ base) : Loose w0 w b d r K R s base V ps ∧ ApartP w0 b K R V ps := by
  have e1 : ps.length = m := by have := congrArg List.length hr.zs; rw [List.length_map, hm] at this; exact this
  have ho := hr.own
  rw [e1] at ho
  refine ⟨⟨h, fun p hp => mut_of (hr.all p hp), fun k p hk => ?_⟩, fun p hp g hA => ?_⟩
  · have hlt : k < m := by rw [← e1]; exact (List.getElem?_eq_some_iff.1 hk).1
    obtain ⟨g, cap, hv, _, _⟩ := ho.form (by omega)
    injection hv with f1 f2 f3
    subst f1
    refine ⟨g, rfl, ?_⟩
    rw [ho.cellAt k (by omega), List.getElem?_map, hk]
    rfl
  · have hpo := (hr.all p hp).own
    have hbl : (Value.slice p.A p.n p.c).ownBlock = some g := by rw [hA]; rfl
    have hlt := hpo.lt g hbl
    refine ⟨fun g0 hV e => ?_, fun hk => by have := hK g hk; omega, fun hk => by have := hR g hk; omega, by omega, by omega⟩
    rcases kinds_apart hpo ho with h2 | h2
    · rw [hbl] at h2; cases h2
    · exact h2 (by rw [hbl, hV, e]; rfl)
set_option maxRecDepth 100000 in
set_option maxHeartbeats 8000000 in
theorem walPlays_in (A : Option Addr) (m c : Nat) (F : Nat → ActZ) (w : World) (h : Acts w w.heap.size A m F) (hm : m ≤ maxLen) (hF : LaidF w) (hK : LaidK w) :
    Calls Tryd.prog 3 #[.slice A m c] w fun e w' => e = .returned (.bool true) ∧ Below w.heap.size w w' := by
  have HF := Lib.hid h
  have GR := Lib.hid (great7_any c h hm)
  have HFK := Lib.hid (And.intro hF hK)
  by_cases hg : 2000 < gsum7 F m
  · rw [decide_eq_true hg] at GR
    clear hg h hF hK
    go_enter Tryd.func3, Tryd.ntmps3
    go_wp2_with fail
    refine GR.out.mono ?_
    rintro e w' ⟨rfl, rfl⟩
    go_wp2
    go_ret
    exact ⟨rfl, Below.refl _ _⟩
  rw [decide_eq_false hg] at GR
  have HG : Hid (∀ k, k ≤ m → gsum7 F k ≤ 2000) := Lib.hid (fun k hk => by have := gsum7_le F k m hk; omega)
  have hm3 : m ≤ 2000 := by have := gsum7_many F m; omega
  clear hg h hm hF hK
  go_enter Tryd.func3, Tryd.ntmps3
  go_wp2_with fail
  refine GR.out.mono ?_
  rintro e w' ⟨rfl, rfl⟩
  go_wp2_with fail
  refine (atk_first w w (Below.refl _ _)).mono ?_
  rintro e w2 ⟨rfl, h0, _⟩
  obtain ⟨D, hD⟩ : ∃ D, w.heap.size = D := ⟨_, rfl⟩
  obtain ⟨w3, hw3⟩ : ∃ w3, w2.alloc (.cells #[.slice none 0 0, .int .i64 0, .slice none 0 0, .bool false] 30) = w3 := ⟨_, rfl⟩
  obtain ⟨r, hr⟩ : ∃ r, w2.heap.size = r := ⟨_, rfl⟩
  have hlt2 := h0.dk.lt w.heap.size rfl
  have P3 : Hid (Pair w w3 D r (fun k => k = D) (fun k => k = r) ⟨true, [], []⟩ ⟨true, [], []⟩ ∧ w3.heap.size = r + 1 ∧ D < r) := Lib.hid (by
    have b3 : Below w2.heap.size w2 w3 := by rw [← hw3]; exact (Below.refl _ _).alloc (Nat.le_refl _) _
    have hh : w3.heap[r]? = some (.cells #[.slice none 0 0, .int .i64 0, .slice none 0 0, .bool false] 30 (0, 0)) := by rw [← hw3, ← hr]; exact heap_alloc_new w2 _
    have s3 : w3.heap.size = w2.heap.size + 1 := by rw [← hw3]; simp
    have h4 := h0.below b3
    have hs2 := h0.bel.size
    rw [hD] at h4
    exact ⟨⟨h4.dk, rfw_new hh (by omega), fun k hk e => by omega, h4.new, fun k hk => by omega, h4.bel⟩, by omega, by omega⟩)
  have HW3 := Lib.hid hw3
  have HR := Lib.hid hr
  have HDD := Lib.hid hD
  simp only [hD]
  clear hD h0 hw3 hr GR hlt2
  go_upto_region 4 with fail
  simp only [HW3.out, HR.out]
  go_wp2_with fail
  refine (newwal_any w3 D).mono ?_
  rintro e w4 ⟨rfl, b4, s4, y0, y1⟩
  obtain ⟨b, hb⟩ : ∃ b, w3.heap.size = b := ⟨_, rfl⟩
  have H0 : Hid (∃ K R s, Trio w w4 b D r K R s s ∧ SizeB s (gsum7 F 0)) := Lib.hid (by
    obtain ⟨p3, s3, hDr⟩ := P3.out
    rw [hb] at y0 y1
    exact ⟨_, _, _, ⟨p3.below b4, ⟨y0, y1, fun e => by omega⟩, fun e => by omega, HFK.out.1, HFK.out.2⟩, ⟨by simp [allZ], by simp⟩⟩)
  rw [hb]
  clear b4 s4 y0 y1 hb P3
  go_wp2
  go_loopw [6] (fun i wr => ∃ k : Nat, k ≤ m + 1 ∧ i = .int .i64 k ∧ Hid (∃ K R s, Trio w wr b D r K R s s ∧ SizeB s (gsum7 F (min k m)))) (fun i _ => m + 1 - (intOf i).toNat)
  case atStart => exact ⟨0, by omega, rfl, by rw [Nat.zero_min]; exact H0⟩
  case round =>
    obtain ⟨k, hk, rfl, HS⟩ := hrel
    by_cases hlt : k ≤ m
    · have hltI : (k : Int) ≤ m := by omega
      obtain ⟨K, R, s, hP, hsz⟩ := HS.out
      rw [Nat.min_eq_left hlt] at hsz
      have HP := Lib.hid hP
      have HZ := Lib.hid hsz
      have HSm : Hid (Small s) := Lib.hid (hsz.small (by have := HG.out k hlt; omega))
      have hbase := hP.pair.bel.size
      obtain ⟨Z, hZ⟩ : ∃ Z, recsZ (allZ s) = Z := ⟨_, rfl⟩
      obtain ⟨nr, hnr⟩ : ∃ nr, Z.length = nr := ⟨_, rfl⟩
      have hnr2 : nr ≤ 2000 := by
        rw [← hnr, ← hZ]
        unfold recsZ
        rw [List.length_map]
        have h1 := useF_many (allZ s) ((allZ s).length + 1) 0
        have h2 := usedZ_le (allZ s)
        have h3 := hsz.bytes
        have h4 := HG.out k hlt
        unfold usedZ framesZ at h2
        unfold framesZ
        omega
      have C0 := Lib.hid (wal_recs2 hP.wal hP.grown HSm.out hZ hnr)
      have HZZ := Lib.hid hZ
      have HNR := Lib.hid hnr
      clear hP hsz HS hZ hnr
      go_wp2_with fail
      refine C0.out.mono ?_
      rintro e w1 ⟨Vr, cr, ps, rfl, _, _, hb1, r1⟩
      have hT1 := HP.out.below hb1
      have HT1 := Lib.hid hT1
      have HR1 := Lib.hid r1
      obtain ⟨RV, RE, hRf⟩ := hT1.pair.rf
      obtain ⟨A7, n, q7, hl7, rfl, hc7, hm7, hbs7⟩ := hRf.val
      obtain ⟨z, hz⟩ : ∃ z, s.zs.length = z := ⟨_, rfl⟩
      obtain ⟨up, hup⟩ : ∃ up, s.up = up := ⟨_, rfl⟩
      obtain ⟨lz, hlz⟩ : ∃ lz, lastZ (allZ s) z = lz := ⟨_, rfl⟩
      have hrl : r < w1.heap.size := hT1.pair.rf.lt r hRf.kb
      have HCELL : Hid (∀ v, Below w1.heap.size w1 v → v.cell? ⟨r, 0, none⟩ = some (.slice A7 n q7) ∧ v.cell? ⟨r, 1, none⟩ = some (.int .i64 (z : Int)) ∧ v.cell? ⟨r, 3, none⟩ = some (.bool (!up))) := Lib.hid (fun v hv => by
        have e1 := hRf.syn
        have e3 := hRf.down
        rw [hz] at e1
        rw [hup] at e3
        exact ⟨(hv.cell (p := ⟨r, 0, none⟩) hrl).trans hRf.b, (hv.cell (p := ⟨r, 1, none⟩) hrl).trans e1, (hv.cell (p := ⟨r, 3, none⟩) hrl).trans e3⟩)
      have CR : Hid (∀ v, Below w1.heap.size w1 v → Calls Tryd.prog 13 #[.pointer (some ⟨r, 0, none⟩)] v (RecsSays v Z)) := Lib.hid (fun v hv => by
        have := rrecs_any (HT1.out.below hv).pair.rf HSm.out
        rwa [HZZ.out] at this)
      have CL : Hid (∀ v, Below w1.heap.size w1 v → Calls Tryd.prog 14 #[.pointer (some ⟨b, 0, none⟩)] v (fun e w' => e = .returned (.int .i64 (lz : Nat)) ∧ Below v.heap.size v w')) := Lib.hid (fun v hv => by
        have := walast_any (HT1.out.below hv).wal (HT1.out.below hv).grown HSm.out
        rwa [hz, hlz] at this)
      have CRL : Hid (∀ v, Below w1.heap.size w1 v → Calls Tryd.prog 15 #[.pointer (some ⟨r, 0, none⟩)] v (fun e w' => e = .returned (.int .i64 (lz : Nat)) ∧ Below v.heap.size v w')) := Lib.hid (fun v hv => by
        have := rlast_any (HT1.out.below hv).pair.rf HSm.out
        rwa [hz, hlz] at this)
      have CB : Hid (∀ v, Below w1.heap.size w1 v → Calls Tryd.prog 17 #[.pointer (some ⟨D, 0, none⟩)] v (fun e w' => ∃ A6 n6 q6, e = .returned (.slice A6 n6 q6) ∧ (allZ s).length = n6 ∧ Stands w' (fun k => v.heap.size ≤ k ∧ k < w'.heap.size) ⟨A6, n6, q6, allZ s⟩ ∧ w'.ownsRow v.heap.size 5 1 (.slice A6 n6 q6) n6 (vals (allZ s)) ∧ n6 ≤ q6 ∧ q6 ≤ maxLen ∧ Below v.heap.size v w')) := Lib.hid (fun v hv => told_any (HT1.out.below hv).pair.dk HSm.out)
      have CS : Hid (∀ v, Below w1.heap.size w1 v → Calls Tryd.prog 18 #[.pointer (some ⟨D, 0, none⟩)] v (fun e w' => e = .returned (.int .i64 (z : Nat)) ∧ v = w')) := Lib.hid (fun v hv => by
        have := synced_any (HT1.out.below hv).pair.dk
        rwa [hz] at this)
      have CU : Hid (∀ v, Below w1.heap.size w1 v → Calls Tryd.prog 19 #[.pointer (some ⟨D, 0, none⟩)] v (fun e w' => e = .returned (.bool up) ∧ v = w')) := Lib.hid (fun v hv => by
        have := up_any (HT1.out.below hv).pair.dk
        rwa [hup] at this)
      have HB7 := Lib.hid hbs7
      have HM7 := Lib.hid (Nat.le_trans hc7 hm7)
      have B0 : Hid (Below w1.heap.size w1 w1.drew) := Lib.hid (Below.refl _ _).drew
      obtain ⟨h0, h1, h3⟩ := HCELL.out w1.drew B0.out
      have hub : (up == !up) = false := by cases up <;> rfl
      clear hRf hbs7 hl7 hz hup hlz hc7 hm7 hT1 r1 hb1 C0 hrl
      go_wp2
      refine Late.region (fun w' => w'.cell? ⟨r, 0, none⟩ = some (.slice A7 n q7) ∧ w'.cell? ⟨r, 1, none⟩ = some (.int .i64 (z : Int)) ∧ w'.cell? ⟨r, 3, none⟩ = some (.bool (!up))) [] (by kernel_rfl) ⟨h0, h1, h3⟩ (fun hHeld => ?_)
      refine Late.take (i := 0) (oi := ⟨some 25, Op.move (Operand.tmp 7), _, _, _, _⟩) (v := ?_) rfl (by kernel_rfl) (by kernel_rfl) (by kernel_rfl) (by kernel_rfl) (fun _ _ _ h => h) (Or.inl ⟨by rfl, fun w hSw => ?_⟩) (by assumption) ?_
      rotate_left
      · (obtain ⟨s1, s2, s3⟩ := hSw; go_simp; try with_reducible rfl)
      try simp only [Act.put, List.setIfInBounds_toArray, List.set_cons_zero, List.set_cons_succ]
      refine Late.take (i := 1) (oi := ⟨some 26, Op.move (Operand.tmp 4), _, _, _, _⟩) (v := ?_) rfl (by kernel_rfl) (by kernel_rfl) (by kernel_rfl) (by kernel_rfl) (fun _ _ _ h => h) (Or.inl ⟨by rfl, fun w hSw => ?_⟩) (by assumption) ?_
      rotate_left
      · (obtain ⟨s1, s2, s3⟩ := hSw; go_simp; try with_reducible rfl)
      try simp only [Act.put, List.setIfInBounds_toArray, List.set_cons_zero, List.set_cons_succ]
      refine Late.one (i := 2) (o := ⟨some 27, Op.call { callee := Callee.value (Operand.func 13), args := #[Operand.tmp 26], argTypes := #[26] }, _, _, _, _⟩) (by kernel_rfl) rfl (fun K hK => ?_)
      go_simp
      refine (CR.out _ B0.out).mono ?_
      rintro e v1 ⟨hb, vv, ps2, rfl, ho2, hp2, hz2⟩
      have B1 := Lib.hid (B0.out.trans (hb.mono B0.out.size))
      have e2 : ps2.length = nr := by have := congrArg List.length hz2; rw [List.length_map, HNR.out] at this; exact this
      obtain ⟨V2, w2c, rfl, _, _⟩ := own_shape ho2
      rw [e2] at ho2 ⊢
      have PR2 := Lib.hid (pieceRow_of ho2 hp2)
      have Z2 := Lib.hid hz2
      clear hb ho2 hp2 hz2 e2
      obtain ⟨x0, x1, x3⟩ := HCELL.out v1 B1.out
      go_wp2_with fail
      refine hK.out _ _ (⟨x0, x1, x3⟩) (fun hHeld2 => ?_)
      clear hK K hHeld
      have hHeld := hHeld2
      clear hHeld2
      try simp only [Act.put, List.setIfInBounds_toArray, List.set_cons_zero, List.set_cons_succ]
      refine Late.one (i := 3) (o := ⟨some 28, Op.call { callee := Callee.value (Operand.func 12), args := #[Operand.tmp 25, Operand.tmp 27], argTypes := #[33, 33] }, _, _, _, _⟩) (by kernel_rfl) rfl (fun K hK => ?_)
      go_simp
      refine (reflists_any cr w2c ((HR1.out.below B1.out).row HNR.out) PR2.out (by omega) (by rw [HR1.out.zs, Z2.out])).mono ?_
      rintro e v2 ⟨rfl, hq⟩
      have B2 : Hid (Below w1.heap.size w1 v2) := Lib.hid (by obtain ⟨j, rfl⟩ := hq; exact below_drewN B1.out j)
      clear hq x0 x1 x3
      obtain ⟨x0, x1, x3⟩ := HCELL.out v2 B2.out
      go_wp2_with fail
      refine hK.out _ _ (⟨x0, x1, x3⟩) (fun hHeld2 => ?_)
      clear hK K hHeld
      have hHeld := hHeld2
      clear hHeld2
      try simp only [Act.put, List.setIfInBounds_toArray, List.set_cons_zero, List.set_cons_succ]
      refine Late.take (i := 4) (oi := ⟨some 29, Op.unOp UnOp.not 4 (Operand.tmp 28), _, _, _, _⟩) (v := ?_) rfl (by kernel_rfl) (by kernel_rfl) (by kernel_rfl) (by kernel_rfl) (fun _ _ _ h => h) (Or.inl ⟨by rfl, fun w hSw => ?_⟩) (by assumption) ?_
      rotate_left
      · (obtain ⟨s1, s2, s3⟩ := hSw; go_simp; try with_reducible rfl)
      try simp only [Act.put, List.setIfInBounds_toArray, List.set_cons_zero, List.set_cons_succ]
      refine Late.take (i := 5) (oi := ⟨some 30, Op.move (Operand.tmp 29), _, _, _, _⟩) (v := ?_) rfl (by kernel_rfl) (by kernel_rfl) (by kernel_rfl) (by kernel_rfl) (fun _ _ _ h => h) (Or.inl ⟨by rfl, fun w hSw => ?_⟩) (by assumption) ?_
      rotate_left
      · (obtain ⟨s1, s2, s3⟩ := hSw; go_simp; try with_reducible rfl)
      try simp only [Act.put, List.setIfInBounds_toArray, List.set_cons_zero, List.set_cons_succ]
      refine Late.take (i := 6) (oi := ⟨some 31, Op.move (Operand.tmp 5), _, _, _, _⟩) (v := ?_) rfl (by kernel_rfl) (by kernel_rfl) (by kernel_rfl) (by kernel_rfl) (fun _ _ _ h => h) (Or.inl ⟨by rfl, fun w hSw => ?_⟩) (by assumption) ?_
      rotate_left
      · (obtain ⟨s1, s2, s3⟩ := hSw; go_simp; try with_reducible rfl)
      try simp only [Act.put, List.setIfInBounds_toArray, List.set_cons_zero, List.set_cons_succ]
      refine Late.take (i := 8) (oi := ⟨some 33, Op.move (Operand.tmp 4), _, _, _, _⟩) (v := ?_) rfl (by kernel_rfl) (by kernel_rfl) (by kernel_rfl) (by kernel_rfl) (fun _ _ _ h => h) (Or.inl ⟨by rfl, fun w hSw => ?_⟩) (by assumption) ?_
      rotate_left
      · (obtain ⟨s1, s2, s3⟩ := hSw; go_simp; try with_reducible rfl)
      try simp only [Act.put, List.setIfInBounds_toArray, List.set_cons_zero, List.set_cons_succ]
      refine Late.one (i := 7) (o := ⟨some 32, Op.call { callee := Callee.value (Operand.func 14), args := #[Operand.tmp 31], argTypes := #[31] }, _, _, _, _⟩) (by kernel_rfl) rfl (fun K hK => ?_)
      go_simp
      refine (CL.out _ B2.out).mono ?_
      rintro e v3 ⟨rfl, hb⟩
      have B3 := Lib.hid (B2.out.trans (hb.mono B2.out.size))
      clear hb x0 x1 x3
      obtain ⟨x0, x1, x3⟩ := HCELL.out v3 B3.out
      go_wp2_with fail
      refine hK.out _ _ (⟨x0, x1, x3⟩) (fun hHeld2 => ?_)
      clear hK K hHeld
      have hHeld := hHeld2
      clear hHeld2
      try simp only [Act.put, List.setIfInBounds_toArray, List.set_cons_zero, List.set_cons_succ]
      refine Late.one (i := 9) (o := ⟨some 34, Op.call { callee := Callee.value (Operand.func 15), args := #[Operand.tmp 33], argTypes := #[26] }, _, _, _, _⟩) (by kernel_rfl) rfl (fun K hK => ?_)
      go_simp
      refine (CRL.out _ B3.out).mono ?_
      rintro e v4 ⟨rfl, hb⟩
      have B4 := Lib.hid (B3.out.trans (hb.mono B3.out.size))
      clear hb x0 x1 x3
      obtain ⟨x0, x1, x3⟩ := HCELL.out v4 B4.out
      go_wp2_with fail
      refine hK.out _ _ (⟨x0, x1, x3⟩) (fun hHeld2 => ?_)
      clear hK K hHeld
      have hHeld := hHeld2
      clear hHeld2
      try simp only [Act.put, List.setIfInBounds_toArray, List.set_cons_zero, List.set_cons_succ]
      refine Late.take (i := 10) (oi := ⟨some 35, Op.binOp BinOp.neq 3 (Operand.tmp 32) (Operand.tmp 34) 3, _, _, _, _⟩) (v := ?_) rfl (by kernel_rfl) (by kernel_rfl) (by kernel_rfl) (by kernel_rfl) (fun _ _ _ h => h) (Or.inl ⟨by rfl, fun w hSw => ?_⟩) (by assumption) ?_
      rotate_left
      · (obtain ⟨s1, s2, s3⟩ := hSw; go_simp; try with_reducible rfl)
      try simp only [Act.put, List.setIfInBounds_toArray, List.set_cons_zero, List.set_cons_succ]
      refine Late.take (i := 11) (oi := ⟨some 36, Op.pick (Operand.tmp 30) (Operand.const (Value.bool true)) (Operand.tmp 35), _, _, _, _⟩) (v := ?_) rfl (by kernel_rfl) (by kernel_rfl) (by kernel_rfl) (by kernel_rfl) (fun _ _ _ h => h) (Or.inl ⟨by rfl, fun w hSw => ?_⟩) (by assumption) ?_
      rotate_left
      · (obtain ⟨s1, s2, s3⟩ := hSw; go_simp; try with_reducible rfl)
      try simp only [Act.put, List.setIfInBounds_toArray, List.set_cons_zero, List.set_cons_succ]
      refine Late.take (i := 12) (oi := ⟨some 37, Op.move (Operand.tmp 36), _, _, _, _⟩) (v := ?_) rfl (by kernel_rfl) (by kernel_rfl) (by kernel_rfl) (by kernel_rfl) (fun _ _ _ h => h) (Or.inl ⟨by rfl, fun w hSw => ?_⟩) (by assumption) ?_
      rotate_left
      · (obtain ⟨s1, s2, s3⟩ := hSw; go_simp; try with_reducible rfl)
      try simp only [Act.put, List.setIfInBounds_toArray, List.set_cons_zero, List.set_cons_succ]
      refine Late.take (i := 13) (oi := ⟨some 38, Op.move (Operand.tmp 3), _, _, _, _⟩) (v := ?_) rfl (by kernel_rfl) (by kernel_rfl) (by kernel_rfl) (by kernel_rfl) (fun _ _ _ h => h) (Or.inl ⟨by rfl, fun w hSw => ?_⟩) (by assumption) ?_
      rotate_left
      · (obtain ⟨s1, s2, s3⟩ := hSw; go_simp; try with_reducible rfl)
      try simp only [Act.put, List.setIfInBounds_toArray, List.set_cons_zero, List.set_cons_succ]
      refine Late.take (i := 15) (oi := ⟨some 40, Op.move (Operand.tmp 4), _, _, _, _⟩) (v := ?_) rfl (by kernel_rfl) (by kernel_rfl) (by kernel_rfl) (by kernel_rfl) (fun _ _ _ h => h) (Or.inl ⟨by rfl, fun w hSw => ?_⟩) (by assumption) ?_
      rotate_left
      · (obtain ⟨s1, s2, s3⟩ := hSw; go_simp; try with_reducible rfl)
      try simp only [Act.put, List.setIfInBounds_toArray, List.set_cons_zero, List.set_cons_succ]
      refine Late.take (i := 16) (oi := ⟨some 41, Op.nilCheck (Operand.tmp 40), _, _, _, _⟩) (v := ?_) rfl (by kernel_rfl) (by kernel_rfl) (by kernel_rfl) (by kernel_rfl) (fun _ _ _ h => h) (Or.inl ⟨by rfl, fun w hSw => ?_⟩) (by assumption) ?_
      rotate_left
      · (obtain ⟨s1, s2, s3⟩ := hSw; go_simp; try with_reducible rfl)
      try simp only [Act.put, List.setIfInBounds_toArray, List.set_cons_zero, List.set_cons_succ]
      refine Late.take (i := 17) (oi := ⟨some 42, Op.fieldAddr 30 (Operand.tmp 41) 0, _, _, _, _⟩) (v := ?_) rfl (by kernel_rfl) (by kernel_rfl) (by kernel_rfl) (by kernel_rfl) (fun _ _ _ h => h) (Or.inl ⟨by rfl, fun w hSw => ?_⟩) (by assumption) ?_
      rotate_left
      · (obtain ⟨s1, s2, s3⟩ := hSw; go_simp; try with_reducible rfl)
      try simp only [Act.put, List.setIfInBounds_toArray, List.set_cons_zero, List.set_cons_succ]
      refine Late.take (i := 18) (oi := ⟨some 43, Op.load 27 (Operand.tmp 42), _, _, _, _⟩) (v := ?_) rfl (by kernel_rfl) (by kernel_rfl) (by kernel_rfl) (by kernel_rfl) (fun _ _ _ h => h) (Or.inl ⟨by rfl, fun w hSw => ?_⟩) (by assumption) ?_
      rotate_left
      · (obtain ⟨s1, s2, s3⟩ := hSw; go_simp; try with_reducible rfl)
      try simp only [Act.put, List.setIfInBounds_toArray, List.set_cons_zero, List.set_cons_succ]
      refine Late.one (i := 14) (o := ⟨some 39, Op.call { callee := Callee.value (Operand.func 17), args := #[Operand.tmp 38], argTypes := #[24] }, _, _, _, _⟩) (by kernel_rfl) rfl (fun K hK => ?_)
      go_simp
      refine (CB.out _ B4.out).mono ?_
      rintro e v5 ⟨A6, n6, q6, rfl, hl6, hs6, ho6, hc6, hm6, hb⟩
      have B5 := Lib.hid (B4.out.trans (hb.mono B4.out.size))
      have HS6 := Lib.hid hs6
      have HM6 := Lib.hid (Nat.le_trans hc6 hm6)
      clear hb hl6 hs6 ho6 hc6 hm6 x0 x1 x3
      obtain ⟨x0, x1, x3⟩ := HCELL.out v5 B5.out
      go_wp2_with fail
      refine hK.out _ _ (⟨x0, x1, x3⟩) (fun hHeld2 => ?_)
      clear hK K hHeld
      have hHeld := hHeld2
      clear hHeld2
      try simp only [Act.put, List.setIfInBounds_toArray, List.set_cons_zero, List.set_cons_succ]
      refine Late.one (i := 19) (o := ⟨some 44, Op.call { callee := Callee.value (Operand.func 16), args := #[Operand.tmp 39, Operand.tmp 43], argTypes := #[27, 27] }, _, _, _, _⟩) (by kernel_rfl) rfl (fun K hK => ?_)
      go_simp
      refine (refsame_any q6 q7 HS6.out.bs (HB7.out.belowM B5.out (Nat.le_refl _)) HM6.out HM7.out).mono ?_
      rw [eqB_self]
      rintro e v6 ⟨rfl, hq⟩
      have B6 : Hid (Below w1.heap.size w1 v6) := Lib.hid (by obtain ⟨j, rfl⟩ := hq; exact below_drewN B5.out j)
      clear hq x0 x1 x3
      obtain ⟨x0, x1, x3⟩ := HCELL.out v6 B6.out
      go_wp2_with fail
      refine hK.out _ _ (⟨x0, x1, x3⟩) (fun hHeld2 => ?_)
      clear hK K hHeld
      have hHeld := hHeld2
      clear hHeld2
      try simp only [Act.put, List.setIfInBounds_toArray, List.set_cons_zero, List.set_cons_succ]
      refine Late.take (i := 20) (oi := ⟨some 45, Op.unOp UnOp.not 4 (Operand.tmp 44), _, _, _, _⟩) (v := ?_) rfl (by kernel_rfl) (by kernel_rfl) (by kernel_rfl) (by kernel_rfl) (fun _ _ _ h => h) (Or.inl ⟨by rfl, fun w hSw => ?_⟩) (by assumption) ?_
      rotate_left
      · (obtain ⟨s1, s2, s3⟩ := hSw; go_simp; try with_reducible rfl)
      try simp only [Act.put, List.setIfInBounds_toArray, List.set_cons_zero, List.set_cons_succ]
      refine Late.take (i := 21) (oi := ⟨some 46, Op.pick (Operand.tmp 37) (Operand.const (Value.bool true)) (Operand.tmp 45), _, _, _, _⟩) (v := ?_) rfl (by kernel_rfl) (by kernel_rfl) (by kernel_rfl) (by kernel_rfl) (fun _ _ _ h => h) (Or.inl ⟨by rfl, fun w hSw => ?_⟩) (by assumption) ?_
      rotate_left
      · (obtain ⟨s1, s2, s3⟩ := hSw; go_simp; try with_reducible rfl)
      try simp only [Act.put, List.setIfInBounds_toArray, List.set_cons_zero, List.set_cons_succ]
      refine Late.take (i := 22) (oi := ⟨some 47, Op.move (Operand.tmp 46), _, _, _, _⟩) (v := ?_) rfl (by kernel_rfl) (by kernel_rfl) (by kernel_rfl) (by kernel_rfl) (fun _ _ _ h => h) (Or.inl ⟨by rfl, fun w hSw => ?_⟩) (by assumption) ?_
      rotate_left
      · (obtain ⟨s1, s2, s3⟩ := hSw; go_simp; try with_reducible rfl)
      try simp only [Act.put, List.setIfInBounds_toArray, List.set_cons_zero, List.set_cons_succ]
      refine Late.take (i := 23) (oi := ⟨some 48, Op.move (Operand.tmp 3), _, _, _, _⟩) (v := ?_) rfl (by kernel_rfl) (by kernel_rfl) (by kernel_rfl) (by kernel_rfl) (fun _ _ _ h => h) (Or.inl ⟨by rfl, fun w hSw => ?_⟩) (by assumption) ?_
      rotate_left
      · (obtain ⟨s1, s2, s3⟩ := hSw; go_simp; try with_reducible rfl)
      try simp only [Act.put, List.setIfInBounds_toArray, List.set_cons_zero, List.set_cons_succ]
      refine Late.take (i := 25) (oi := ⟨some 50, Op.move (Operand.tmp 4), _, _, _, _⟩) (v := ?_) rfl (by kernel_rfl) (by kernel_rfl) (by kernel_rfl) (by kernel_rfl) (fun _ _ _ h => h) (Or.inl ⟨by rfl, fun w hSw => ?_⟩) (by assumption) ?_
      rotate_left
      · (obtain ⟨s1, s2, s3⟩ := hSw; go_simp; try with_reducible rfl)
      try simp only [Act.put, List.setIfInBounds_toArray, List.set_cons_zero, List.set_cons_succ]
      refine Late.take (i := 26) (oi := ⟨some 51, Op.nilCheck (Operand.tmp 50), _, _, _, _⟩) (v := ?_) rfl (by kernel_rfl) (by kernel_rfl) (by kernel_rfl) (by kernel_rfl) (fun _ _ _ h => h) (Or.inl ⟨by rfl, fun w hSw => ?_⟩) (by assumption) ?_
      rotate_left
      · (obtain ⟨s1, s2, s3⟩ := hSw; go_simp; try with_reducible rfl)
      try simp only [Act.put, List.setIfInBounds_toArray, List.set_cons_zero, List.set_cons_succ]
      refine Late.take (i := 27) (oi := ⟨some 52, Op.fieldAddr 30 (Operand.tmp 51) 1, _, _, _, _⟩) (v := ?_) rfl (by kernel_rfl) (by kernel_rfl) (by kernel_rfl) (by kernel_rfl) (fun _ _ _ h => h) (Or.inl ⟨by rfl, fun w hSw => ?_⟩) (by assumption) ?_
      rotate_left
      · (obtain ⟨s1, s2, s3⟩ := hSw; go_simp; try with_reducible rfl)
      try simp only [Act.put, List.setIfInBounds_toArray, List.set_cons_zero, List.set_cons_succ]
      refine Late.take (i := 28) (oi := ⟨some 53, Op.load 3 (Operand.tmp 52), _, _, _, _⟩) (v := ?_) rfl (by kernel_rfl) (by kernel_rfl) (by kernel_rfl) (by kernel_rfl) (fun _ _ _ h => h) (Or.inl ⟨by rfl, fun w hSw => ?_⟩) (by assumption) ?_
      rotate_left
      · (obtain ⟨s1, s2, s3⟩ := hSw; go_simp; try with_reducible rfl)
      try simp only [Act.put, List.setIfInBounds_toArray, List.set_cons_zero, List.set_cons_succ]
      refine Late.one (i := 24) (o := ⟨some 49, Op.call { callee := Callee.value (Operand.func 18), args := #[Operand.tmp 48], argTypes := #[24] }, _, _, _, _⟩) (by kernel_rfl) rfl (fun K hK => ?_)
      go_simp
      refine (CS.out _ B6.out).mono ?_
      rintro e w' ⟨rfl, rfl⟩
      go_wp2_with fail
      refine hK.out _ _ (⟨x0, x1, x3⟩) (fun hHeld2 => ?_)
      clear hK K hHeld
      have hHeld := hHeld2
      clear hHeld2
      try simp only [Act.put, List.setIfInBounds_toArray, List.set_cons_zero, List.set_cons_succ]
      refine Late.take (i := 29) (oi := ⟨some 54, Op.binOp BinOp.neq 3 (Operand.tmp 49) (Operand.tmp 53) 3, _, _, _, _⟩) (v := ?_) rfl (by kernel_rfl) (by kernel_rfl) (by kernel_rfl) (by kernel_rfl) (fun _ _ _ h => h) (Or.inl ⟨by rfl, fun w hSw => ?_⟩) (by assumption) ?_
      rotate_left
      · (obtain ⟨s1, s2, s3⟩ := hSw; go_simp; try with_reducible rfl)
      try simp only [Act.put, List.setIfInBounds_toArray, List.set_cons_zero, List.set_cons_succ]
      refine Late.take (i := 30) (oi := ⟨some 55, Op.pick (Operand.tmp 47) (Operand.const (Value.bool true)) (Operand.tmp 54), _, _, _, _⟩) (v := ?_) rfl (by kernel_rfl) (by kernel_rfl) (by kernel_rfl) (by kernel_rfl) (fun _ _ _ h => h) (Or.inl ⟨by rfl, fun w hSw => ?_⟩) (by assumption) ?_
      rotate_left
      · (obtain ⟨s1, s2, s3⟩ := hSw; go_simp; try with_reducible rfl)
      try simp only [Act.put, List.setIfInBounds_toArray, List.set_cons_zero, List.set_cons_succ]
      refine Late.take (i := 31) (oi := ⟨some 56, Op.move (Operand.tmp 55), _, _, _, _⟩) (v := ?_) rfl (by kernel_rfl) (by kernel_rfl) (by kernel_rfl) (by kernel_rfl) (fun _ _ _ h => h) (Or.inl ⟨by rfl, fun w hSw => ?_⟩) (by assumption) ?_
      rotate_left
      · (obtain ⟨s1, s2, s3⟩ := hSw; go_simp; try with_reducible rfl)
      try simp only [Act.put, List.setIfInBounds_toArray, List.set_cons_zero, List.set_cons_succ]
      refine Late.take (i := 32) (oi := ⟨some 57, Op.move (Operand.tmp 3), _, _, _, _⟩) (v := ?_) rfl (by kernel_rfl) (by kernel_rfl) (by kernel_rfl) (by kernel_rfl) (fun _ _ _ h => h) (Or.inl ⟨by rfl, fun w hSw => ?_⟩) (by assumption) ?_
      rotate_left
      · (obtain ⟨s1, s2, s3⟩ := hSw; go_simp; try with_reducible rfl)
      try simp only [Act.put, List.setIfInBounds_toArray, List.set_cons_zero, List.set_cons_succ]
      refine Late.take (i := 34) (oi := ⟨some 59, Op.move (Operand.tmp 4), _, _, _, _⟩) (v := ?_) rfl (by kernel_rfl) (by kernel_rfl) (by kernel_rfl) (by kernel_rfl) (fun _ _ _ h => h) (Or.inl ⟨by rfl, fun w hSw => ?_⟩) (by assumption) ?_
      rotate_left
      · (obtain ⟨s1, s2, s3⟩ := hSw; go_simp; try with_reducible rfl)
      try simp only [Act.put, List.setIfInBounds_toArray, List.set_cons_zero, List.set_cons_succ]
      refine Late.take (i := 35) (oi := ⟨some 60, Op.nilCheck (Operand.tmp 59), _, _, _, _⟩) (v := ?_) rfl (by kernel_rfl) (by kernel_rfl) (by kernel_rfl) (by kernel_rfl) (fun _ _ _ h => h) (Or.inl ⟨by rfl, fun w hSw => ?_⟩) (by assumption) ?_
      rotate_left
      · (obtain ⟨s1, s2, s3⟩ := hSw; go_simp; try with_reducible rfl)
      try simp only [Act.put, List.setIfInBounds_toArray, List.set_cons_zero, List.set_cons_succ]
      refine Late.take (i := 36) (oi := ⟨some 61, Op.fieldAddr 30 (Operand.tmp 60) 3, _, _, _, _⟩) (v := ?_) rfl (by kernel_rfl) (by kernel_rfl) (by kernel_rfl) (by kernel_rfl) (fun _ _ _ h => h) (Or.inl ⟨by rfl, fun w hSw => ?_⟩) (by assumption) ?_
      rotate_left
      · (obtain ⟨s1, s2, s3⟩ := hSw; go_simp; try with_reducible rfl)
      try simp only [Act.put, List.setIfInBounds_toArray, List.set_cons_zero, List.set_cons_succ]
      refine Late.take (i := 37) (oi := ⟨some 62, Op.load 4 (Operand.tmp 61), _, _, _, _⟩) (v := ?_) rfl (by kernel_rfl) (by kernel_rfl) (by kernel_rfl) (by kernel_rfl) (fun _ _ _ h => h) (Or.inl ⟨by rfl, fun w hSw => ?_⟩) (by assumption) ?_
      rotate_left
      · (obtain ⟨s1, s2, s3⟩ := hSw; go_simp; try with_reducible rfl)
      try simp only [Act.put, List.setIfInBounds_toArray, List.set_cons_zero, List.set_cons_succ]
      refine Late.one (i := 33) (o := ⟨some 58, Op.call { callee := Callee.value (Operand.func 19), args := #[Operand.tmp 57], argTypes := #[24] }, _, _, _, _⟩) (by kernel_rfl) rfl (fun K hK => ?_)
      go_simp
      refine (CU.out _ B6.out).mono ?_
      rintro e w' ⟨rfl, rfl⟩
      go_wp2_with fail
      refine hK.out _ _ (⟨x0, x1, x3⟩) (fun hHeld2 => ?_)
      clear hK K hHeld
      have hHeld := hHeld2
      clear hHeld2
      try simp only [Act.put, List.setIfInBounds_toArray, List.set_cons_zero, List.set_cons_succ]
      refine Late.take (i := 38) (oi := ⟨some 63, Op.binOp BinOp.eql 4 (Operand.tmp 58) (Operand.tmp 62) 4, _, _, _, _⟩) (v := ?_) rfl (by kernel_rfl) (by kernel_rfl) (by kernel_rfl) (by kernel_rfl) (fun _ _ _ h => h) (Or.inl ⟨by rfl, fun w hSw => ?_⟩) (by assumption) ?_
      rotate_left
      · (obtain ⟨s1, s2, s3⟩ := hSw; go_simp; try with_reducible rfl)
      try simp only [Act.put, List.setIfInBounds_toArray, List.set_cons_zero, List.set_cons_succ]
      refine Late.take (i := 39) (oi := ⟨some 64, Op.pick (Operand.tmp 56) (Operand.const (Value.bool true)) (Operand.tmp 63), _, _, _, _⟩) (v := ?_) rfl (by kernel_rfl) (by kernel_rfl) (by kernel_rfl) (by kernel_rfl) (fun _ _ _ h => h) (Or.inl ⟨by rfl, fun w hSw => ?_⟩) (by assumption) ?_
      rotate_left
      · (obtain ⟨s1, s2, s3⟩ := hSw; go_simp; try with_reducible rfl)
      try simp only [Act.put, List.setIfInBounds_toArray, List.set_cons_zero, List.set_cons_succ]
      refine Late.done (by kernel_rfl) ?_ _
      refine NoPanic.normal ?_
      obtain ⟨base, hbs⟩ : ∃ base, wr.heap.size = base := ⟨_, rfl⟩
      have hLA : Loose w v6 b D r K R s base Vr ps ∧ ApartP w b K R Vr ps := by
        rw [← hbs]
        exact loose_of (HT1.out.below B6.out) (HR1.out.below B6.out) HNR.out HP.out.pair.dk.lt HP.out.pair.rf.lt HP.out.wal.lt hbase
      have HL0 := Lib.hid hLA.1
      have HAP := Lib.hid hLA.2
      have HPL : Hid (ps.length = nr) := Lib.hid (by have := congrArg List.length HR1.out.zs; rw [List.length_map, HNR.out] at this; exact this)
      clear h0 h1 h3 x0 x1 x3 hHeld HCELL CR CL CRL CB CS CU HB7 HM7 hub hLA hbs hbase B0 B1 B2 B3 B4 B5 PR2 Z2 HS6 HM6
      go_wp2
      go_loopw [8] (fun i wx => ∃ q : Nat, q ≤ nr ∧ i = .int .i64 (q : Int) ∧ Hid (Loose w wx b D r K R s base Vr ps)) (fun i _ => nr - (intOf i).toNat)
      case atStart => exact ⟨0, by omega, rfl, HL0⟩
      case round =>
        clear HL0
        obtain ⟨q, hq, rfl, HL1⟩ := hrel
        by_cases hltq : q < nr
        · have hqI : (q : Int) < (nr : Int) := by omega
          obtain ⟨p, hp⟩ : ∃ p, ps[q]? = some p := ⟨_, List.getElem?_eq_getElem (by rw [HPL.out]; exact hltq)⟩
          have HPM := Lib.hid (List.mem_of_getElem? hp)
          have HPQ := Lib.hid hp
          obtain ⟨g0, rfl, hc0⟩ := HL1.out.cell q p hp
          obtain ⟨pA, pn, pc, pz⟩ := p
          change wr.cell? ⟨g0, q, none⟩ = some (.slice pA pn pc) at hc0
          have hpn : pn ≤ 9223372036854775807 := by
            have h := HR1.out.all _ HPM.out
            have := Nat.le_trans h.cap h.max
            unfold maxLen at this
            exact this
          obtain ⟨wq, hwq⟩ : ∃ wq, wq = wr := ⟨_, rfl⟩
          subst hwq
          clear hp
          go_wp2
          clear hc0
          go_loopw [9] (fun i wx => ∃ j : Nat, j ≤ pn ∧ i = .int .i64 (j : Int) ∧ Hid (Loose w wx b D r K R s base (some ⟨g0, 0, none⟩) ps)) (fun i _ => pn - (intOf i).toNat)
          case atStart => exact ⟨0, by omega, rfl, HL1⟩
          case round =>
            clear HL1
            obtain ⟨j, hj, rfl, HL2⟩ := hrel
            obtain ⟨g1, e1, hc1⟩ := HL2.out.cell q _ HPQ.out
            obtain rfl : g0 = g1 := by injection e1 with e1; injection e1
            change wr.cell? ⟨g0, q, none⟩ = some (.slice pA pn pc) at hc1
            clear e1
            by_cases hltj : j < pn
            · have hjI : (j : Int) < (pn : Int) := by omega
              obtain ⟨g2, e2, hg2, hcs⟩ := HL2.out.bytes _ HPM.out (show 0 < pn by omega)
              have e2 : pA = some ⟨g2, 0, none⟩ := e2
              subst e2
              obtain ⟨hff, u, hu0, hu1, hcc⟩ := hcs j hltj
              have HPX : Hid (∀ x : Int, 0 ≤ x → x < 256 → Loose w (wr.setCell ⟨g2, j, none⟩ (.int .u8 x)) b D r K R s base (some ⟨g0, 0, none⟩) ps) := Lib.hid (fun x hx0 hx1 => HL2.out.set HAP.out HPM.out rfl x hx0 hx1 _ hcc)
              clear hcs hg2
              go_wp2
              go_roundw
              case rel => exact ⟨j + 1, by omega, by go_num, Lib.hid (HPX.out _ (by omega) (by omega))⟩
              case measure => simp [intOf]; omega
            · have hjI : ¬ (j : Int) < (pn : Int) := by omega
              go_wp2
              go_roundw
              case rel => exact ⟨q + 1, by omega, by go_num, HL2⟩
              case measure => simp [intOf]; omega
        · have hqI : ¬ (q : Int) < (nr : Int) := by omega
          by_cases hkm : k < m
          · have hkI : (k : Int) < m := by omega
            obtain ⟨b0, off, rfl, hb, a0, a1, a2, a3⟩ := (HF.out.below HL1.out.trio.pair.bel).at_ hkm
            have HOK := Lib.hid (HF.out.ok k hkm)
            have hln : (F k).len ≤ 65536 := by have h1 := HG.out (k + 1) (by omega); simp only [gsum7] at h1; omega
            have HON := Lib.hid (onew_any (F k) HL1.out.trio HSm.out HOK.out hln)
            have HSZ2 : Hid (SizeB (wDo s (F k)) (gsum7 F (min (k + 1) m))) := Lib.hid (by
              rw [Nat.min_eq_left (by omega)]
              exact (wDo_size HZ.out (F k)).more (by rw [HOK.out.bs.len]; simp only [gsum7]; omega))
            clear hln
            go_wp2_with fail
            refine HON.out.mono ?_
            rintro e w9 ⟨rfl, K9, R9, h9⟩
            have HN : Hid (∃ K R s, Trio w w9 b D r K R s s ∧ SizeB s (gsum7 F (min (k + 1) m))) := Lib.hid ⟨K9, R9, _, h9, HSZ2.out⟩
            clear h9 a0 a1 a2 a3
            go_wp2
            go_roundw
            case rel => exact ⟨k + 1, by omega, by go_num, HN⟩
            case measure => simp [intOf]; omega
          · have hkI : ¬ (k : Int) < m := by omega
            have HN : Hid (∃ K R s, Trio w wr b D r K R s s ∧ SizeB s (gsum7 F (min (k + 1) m))) := Lib.hid ⟨K, R, s, HL1.out.trio, HZ.out.more (by rw [Nat.min_eq_right (by omega)]; exact gsum7_le F k m hlt)⟩
            go_wp2
            go_roundw
            case rel => exact ⟨k + 1, by omega, by go_num, HN⟩
            case measure => simp [intOf]; omega
    · have hkm : ¬ (k : Int) ≤ m := by omega
      have HB := Lib.hid (show Below w.heap.size w wr by obtain ⟨K, R, s, h1, _⟩ := HS.out; exact h1.pair.bel)
      go_wp2
      go_ret
      exact ⟨rfl, HB.out⟩
end Go.Proofs.YtjfeepmjebdahaaDoor
