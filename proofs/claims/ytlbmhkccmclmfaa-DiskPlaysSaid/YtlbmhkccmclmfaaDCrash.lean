/- Crash of a disk. -/
import Derived.Test.YtlbmhkccmclmfaaDSync
import Derived.Lib.MinMax
namespace Go.Proofs.Ytlbmhkccmclmfaa
open Go.ChangeShapes Go.WideShapes Go.ChangeAt Go.RowKit
set_option linter.unusedVariables false
/-- What a crash leaves of writes. -/
def leftZ (ws : List (List Int)) (keep torn : Int) : List (List Int) :=
  if (ws.length : Int) ≤ keep then ws else ws.take keep.toNat ++ [(ws.getD keep.toNat []).take (max (min torn (((ws.getD keep.toNat []).length : Int) - 1)) 0).toNat]
theorem flatten_take_le : ∀ (k : Nat) (ws : List (List Int)), (ws.take k).flatten.length + (ws.getD k []).length ≤ ws.flatten.length
  | k, [] => by simp
  | 0, a :: l => by simp
  | k + 1, a :: l => by have := flatten_take_le k l; simp at this ⊢; omega
theorem leftZ_len (ws : List (List Int)) (keep torn : Int) : (leftZ ws keep torn).flatten.length ≤ ws.flatten.length ∧ (leftZ ws keep torn).length ≤ ws.length + 1 := by
  unfold leftZ
  split
  · exact ⟨Nat.le_refl _, by omega⟩
  · constructor
    · rw [List.flatten_append, List.length_append, List.flatten_singleton, List.length_take]
      have := flatten_take_le keep.toNat ws
      omega
    · rw [List.length_append, List.length_take, List.length_singleton]; omega
def LeftSays (w : World) (b : Nat) (v : Value) (ls : List (List Int)) (e : Ending) (w' : World) : Prop := ∃ A qs c, e = .returned (.slice A qs.length c) ∧ Bunch w' (fun k => k ≠ b ∧ v.ownBlock ≠ some k) A qs ∧ qs.map (·.zs) = ls ∧ Below w.heap.size w w'
set_option maxHeartbeats 1000000 in
theorem left_all {w : World} {b : Nat} {K : Nat → Prop} {s : DiskZ} {v u : Value} {ps : List PieceZ} (h : DkAt w b K s v u ps) (hs : Small s) (keep torn : Int) (h2 : keep ≤ 9223372036854775807) (hk : (s.ws.length : Int) ≤ keep) :
    Calls Try.prog 38 #[u, .int .i64 keep, .int .i64 torn] w (LeftSays w b v (leftZ s.ws keep torn)) := by
  obtain ⟨W, d, rfl, hm1, hm2, hbu⟩ := h.bunch
  have hlen := h.len
  have HR : Hid (LeftSays w b v (leftZ s.ws keep torn) (.returned (.slice W ps.length d)) w) := Lib.hid ⟨W, ps, d, rfl, hbu.more (fun k hk _ => ⟨hk.2.1, hk.2.2⟩), by unfold leftZ; rw [if_pos hk]; exact h.ws, Below.refl _ _⟩
  have hwr := hs.writes
  rw [← hlen] at hk
  obtain ⟨m, hm⟩ : ∃ m, ps.length = m := ⟨_, rfl⟩
  rw [hm] at HR hk ⊢
  have hms : m ≤ 1000000 := by omega
  clear h hbu hlen hm hwr hs hm1 hm2
  go_enter Try.func38, Try.ntmps38
  go_wp2
  go_ret
  exact HR.out
set_option maxHeartbeats 1000000 in
theorem left_some {w : World} {b : Nat} {K : Nat → Prop} {s : DiskZ} {v u : Value} {ps : List PieceZ} (h : DkAt w b K s v u ps) (hs : Small s) (k : Nat) (torn : Int) (h3 : 0 ≤ torn) (h4 : torn ≤ 9223372036854775807) (hk : k < s.ws.length) :
    Calls Try.prog 38 #[u, .int .i64 k, .int .i64 torn] w (LeftSays w b v (leftZ s.ws k torn)) := by
  obtain ⟨W, d, rfl, hm1, hm2, hbu⟩ := h.bunch
  have hlen := h.len
  have hwr := hs.writes
  have hby := hs.bytes
  obtain ⟨m, hm⟩ : ∃ m, ps.length = m := ⟨_, rfl⟩
  have hms : m ≤ 1000000 := by omega
  have hkm : k < m := by omega
  obtain ⟨g, off, p, rfl, hg, hF, HP, hc, hst⟩ := hbu.at_ (k := k) (by omega)
  have hvb : ∀ k, v.ownBlock = some k → k < w.heap.size := fun k hk => h.lt k (h.blk2 k hk).1
  have hbb : b < w.heap.size := h.lt b h.kb
  have hpn : p.n ≤ 1000000 := by
    have h1 := flatten_take_le k s.ws
    have h2 : s.ws.getD k [] = p.zs := by rw [← h.ws, List.getD_eq_getElem?_getD, List.getElem?_map, HP.out]; rfl
    rw [h2, hst.len] at h1
    unfold allZ at hby
    rw [List.length_append] at hby
    omega
  have hzz : leftZ s.ws k torn = (ps.take k).map (·.zs) ++ [p.zs.take (max (min torn ((p.n : Int) - 1)) 0).toNat] := by
    unfold leftZ
    have h2 : s.ws.getD k [] = p.zs := by rw [← h.ws, List.getD_eq_getElem?_getD, List.getElem?_map, HP.out]; rfl
    rw [if_neg (by omega), Int.toNat_natCast, h2, hst.len, ← h.ws, List.map_take]
  have hpm := hst.max
  have hpc := hst.cap
  obtain ⟨pA, pn, pc, pz⟩ := p
  simp only at hpn hzz hc hpm hpc
  unfold pval at hc
  simp only at hc
  obtain ⟨j, hj⟩ : ∃ j : Nat, (max (min torn ((pn : Int) - 1)) 0).toNat = j := ⟨_, rfl⟩
  have e : max (min torn ((pn : Int) - 1)) 0 = (j : Int) := by omega
  have hjn : j ≤ pn := by omega
  rw [hj] at hzz
  have i0 := slice_info
  obtain ⟨i, z, hi, hz, hsz, hbz, hzs⟩ := i0
  have ho : ∀ q v', ((ps.take k).map pval)[q]? = some v' → (w.alloc (.cells #[.slice pA j j] 27)).cell? ((⟨g, off, none⟩ : Addr).add q) = some v' := fun q v' hq => by
    rw [Go.WideShapes.add_plain, World.cell?_alloc_lt _ _ _ hg]
    obtain ⟨g2, off2, e2, _, hcc⟩ := hbu.row (by omega)
    injection e2 with e2
    injection e2 with e3 e4
    subst e3 e4
    rw [List.getElem?_map, List.getElem?_take] at hq
    by_cases hqk : q < k
    · rw [if_pos hqk] at hq
      cases hx : ps[q]? with
      | none => rw [hx] at hq; cases hq
      | some x => rw [hx] at hq; injection hq with hq; rw [← hq]; exact hcc q x hx
    · rw [if_neg hqk] at hq; cases hq
  have hrun : ∀ ty, _ := fun ty => run_append_grow (P := Try.prog) (w.alloc (.cells #[.slice pA j j] 27)) 38 ty 27 i z Try.underlying38 hi hz ⟨g, off, none⟩ k k ((ps.take k).map pval) (by rw [hsz]; simp; omega) ho ⟨w.heap.size, 0, none⟩ 1 1 [.slice pA j j] (by rw [hsz]; rfl) (World.news_of_block (cs := #[.slice pA j j]) (t := 27) (fr := (0, 0)) (heap_alloc_new w _)) (by omega) (by omega) (growslice_fits (by omega) (by rw [hbz]; omega))
  obtain ⟨G, hG⟩ : ∃ G, grownCap (w.alloc (.cells #[.slice pA j j] 27)) (k + 1) k 27 = G := ⟨_, rfl⟩
  have hge := grownCap_ge (w.alloc (.cells #[.slice pA j j] 27)) (k + 1) k 27
  have hle := grownCap_le_maxLen (w.alloc (.cells #[.slice pA j j] 27)) (k + 1) k 27 (by unfold maxLen; omega)
  rw [hG] at hrun hge hle
  obtain ⟨Y, hY⟩ : ∃ Y, (w.alloc (.cells #[.slice pA j j] 27)).drew.alloc (.cells (((ps.take k).map pval).toArray ++ [Value.slice pA j j].toArray ++ Builtin.zeroCells z.cells (G - (k + 1))) 27) = Y := ⟨_, rfl⟩
  rw [hY, show (w.alloc (.cells #[.slice pA j j] 27)).heap.size = w.heap.size + 1 by simp] at hrun
  have HR := Lib.hid hrun
  have bY : Below w.heap.size w Y := by rw [← hY]; exact (((Below.refl w.heap.size w).alloc (Nat.le_refl _) _).drew).alloc (by show w.heap.size ≤ (w.alloc _).heap.size; simp) _
  have hh : Y.heap[w.heap.size + 1]? = some (.cells (((ps.take k).map pval).toArray ++ [Value.slice pA j j].toArray ++ Builtin.zeroCells z.cells (G - (k + 1))) 27 (0, 0)) := by
    rw [← hY]
    have := heap_alloc_new (w.alloc (.cells #[.slice pA j j] 27)).drew (.cells (((ps.take k).map pval).toArray ++ [Value.slice pA j j].toArray ++ Builtin.zeroCells z.cells (G - (k + 1))) 27)
    rwa [show (w.alloc (.cells #[.slice pA j j] 27)).drew.heap.size = w.heap.size + 1 by show (w.alloc _).heap.size = _; simp] at this
  have hql : (ps.take k ++ [⟨pA, j, j, pz.take j⟩] : List PieceZ).length = k + 1 := by simp; omega
  have HL : Hid (LeftSays w b v (leftZ s.ws k torn) (.returned (.slice (some ⟨w.heap.size + 1, 0, none⟩) (k + 1) G)) Y) := Lib.hid (by
    refine ⟨some ⟨w.heap.size + 1, 0, none⟩, ps.take k ++ [⟨pA, j, j, pz.take j⟩], G, by rw [hql], ?_, by rw [hzz]; simp, bY⟩
    refine bunch_own (base := 0) (c := G) ?_ (fun q hq => ?_) (fun q hq => ?_)
    · rw [hql]
      refine ⟨by simp; omega, .inr ⟨w.heap.size + 1, G, _, rfl, Nat.zero_le _, hh, hge, hle, ?_, ?_⟩⟩
      · simp [size_zeroCells, hzs]; omega
      · rw [Array.toList_append, Array.toList_append, List.take_append_of_le_length (by simp; omega), List.take_of_length_le (by simp; omega)]
        simp [pval]
    · simp [Value.ownBlock] at hq
      exact ⟨by omega, fun e => by have := hvb q e; omega⟩
    · have kk : ∀ q : PieceZ, q ∈ ps → Stands Y (fun k => k ≠ b ∧ v.ownBlock ≠ some k) q := fun q hq => ((hbu.all q hq).keep (fun k _ hk => bY.block k hk)).more (fun k hF _ => ⟨hF.2.1, hF.2.2⟩)
      rcases List.mem_append.1 hq with hq | hq
      · exact kk q (List.mem_of_mem_take hq)
      · obtain rfl : q = ⟨pA, j, j, pz.take j⟩ := by simpa using hq
        exact (kk ⟨pA, pn, pc, pz⟩ (List.mem_of_getElem? HP.out)).cut (k := j) (c' := j) hjn (Nat.le_refl _) (Nat.le_trans hjn (Nat.le_trans hpc hpm)))
  have hw1 : ¬ ((m : Int) ≤ k) := by omega
  have A1 := Lib.hid (aheadS_any (some ⟨g, off, none⟩) ps.length d k w (by omega) hm2)
  have A2 := Lib.hid (ahead8_any pA pn pc j w (by omega) hpm)
  rw [hm] at A1 ⊢
  clear h hbu hlen hwr hby hs hm hst HP hvb hzz ho hrun hG hY hh hql bY hi hz hsz hbz hzs hj hF
  go_enter Try.func38, Try.ntmps38
  go_wp2_with (first
    | (go_at_call 42; refine A1.out.mono ?_; rintro e w' ⟨rfl, rfl⟩)
    | (go_at_call 34; refine A2.out.mono ?_; rintro e w' ⟨rfl, rfl⟩)
    | (at_builtin; refine Lib.wpList_append_run _ rfl (.tmp 26) (.tmp 30) _ _ rfl _ _ rfl rfl _ _ (HR.out _) ?_))
  go_ret
  exact HL.out
def dCrash (s : DiskZ) (keep torn : Int) : Int × DiskZ := if s.up then (if keep < 0 ∨ torn < 0 then (2, s) else (0, ⟨false, s.zs ++ (leftZ s.ws keep torn).flatten, []⟩)) else (60, s)
theorem left_any {w : World} {b : Nat} {K : Nat → Prop} {s : DiskZ} {v u : Value} {ps : List PieceZ} (h : DkAt w b K s v u ps) (hs : Small s) (keep torn : Int) (h1 : 0 ≤ keep) (h2 : keep ≤ 9223372036854775807) (h3 : 0 ≤ torn) (h4 : torn ≤ 9223372036854775807) :
    Calls Try.prog 38 #[u, .int .i64 keep, .int .i64 torn] w (LeftSays w b v (leftZ s.ws keep torn)) := by
  by_cases hk : (s.ws.length : Int) ≤ keep
  · exact left_all h hs keep torn h2 hk
  · obtain ⟨k, rfl⟩ := Int.eq_ofNat_of_zero_le h1
    exact left_some h hs k torn h3 h4 (by omega)
set_option maxHeartbeats 1000000 in
theorem crash1_yes {w : World} {b : Nat} {K : Nat → Prop} {s : DiskZ} {x y z : Nat} (keep torn : Int) (h : Dk w b K s) (h1 : w.cell? ⟨y, 0, none⟩ = some (.pointer (some ⟨b, 0, none⟩))) (h2 : w.cell? ⟨x, 0, none⟩ = some (.int .i64 keep)) (h3 : w.cell? ⟨z, 0, none⟩ = some (.int .i64 torn))
    (hs : Small s) (hyK : ¬ K y) (hxK : ¬ K x) (hzK : ¬ K z) (k1 : 0 ≤ keep) (k2 : keep ≤ 9223372036854775807) (k3 : 0 ≤ torn) (k4 : torn ≤ 9223372036854775807) :
    Calls Try.prog 37 #[.pointer (some ⟨x, 0, none⟩), .pointer (some ⟨z, 0, none⟩), .pointer (some ⟨y, 0, none⟩)] w (fun e w' => ∃ v, e = .returned v ∧ DidV w b K (0, ⟨false, s.zs ++ (leftZ s.ws keep torn).flatten, []⟩) v w') := by
  obtain ⟨v, u, ps, h⟩ := h
  have HL := Lib.hid (left_any (w := w.drew) (h.keep (w1 := w.drew) (fun _ _ => rfl) (Nat.le_refl _)) hs keep torn k1 k2 k3 k4)
  have HD := Lib.hid h
  have hwr := hs.writes
  have hby : s.zs.length + s.ws.flatten.length ≤ 1000000 := by have := hs.bytes; unfold allZ at this; rw [List.length_append] at this; exact this
  obtain ⟨W, d, rfl, _, _, _⟩ := h.bunch
  have h4 := h.wr
  obtain ⟨m, hm⟩ : ∃ m, ps.length = m := ⟨_, rfl⟩
  rw [hm] at HL h4
  have n1 : ¬ keep < 0 := by omega
  have n2 : ¬ torn < 0 := by omega
  clear h hm hs
  go_enter Try.func37, Try.ntmps37
  go_wp2
  refine Late.region (fun w' => w'.cell? ⟨y, 0, none⟩ = some (.pointer (some ⟨b, 0, none⟩)) ∧ w'.cell? ⟨x, 0, none⟩ = some (.int .i64 keep) ∧ w'.cell? ⟨z, 0, none⟩ = some (.int .i64 torn)) [] (by kernel_rfl) ⟨h1, h2, h3⟩ (fun hHeld => ?_)
  refine Late.take (i := 0) (oi := ⟨some 10, Op.load 24 (Operand.tmp 2), _, _, _, _⟩) (v := ?_) rfl (by kernel_rfl) (by kernel_rfl) (by kernel_rfl) (by kernel_rfl) (fun _ _ _ h => h) (Or.inl ⟨by rfl, fun w hSw => ?_⟩) (by assumption) ?_
  rotate_left
  · (obtain ⟨s1, s2, s3⟩ := hSw; go_simp; try with_reducible rfl)
  try simp only [Act.put, List.setIfInBounds_toArray, List.set_cons_zero, List.set_cons_succ]
  refine Late.take (i := 1) (oi := ⟨some 11, Op.load 24 (Operand.tmp 2), _, _, _, _⟩) (v := ?_) rfl (by kernel_rfl) (by kernel_rfl) (by kernel_rfl) (by kernel_rfl) (fun _ _ _ h => h) (Or.inl ⟨by rfl, fun w hSw => ?_⟩) (by assumption) ?_
  rotate_left
  · (obtain ⟨s1, s2, s3⟩ := hSw; go_simp; try with_reducible rfl)
  try simp only [Act.put, List.setIfInBounds_toArray, List.set_cons_zero, List.set_cons_succ]
  refine Late.take (i := 2) (oi := ⟨some 12, Op.nilCheck (Operand.tmp 11), _, _, _, _⟩) (v := ?_) rfl (by kernel_rfl) (by kernel_rfl) (by kernel_rfl) (by kernel_rfl) (fun _ _ _ h => h) (Or.inl ⟨by rfl, fun w hSw => ?_⟩) (by assumption) ?_
  rotate_left
  · (obtain ⟨s1, s2, s3⟩ := hSw; go_simp; try with_reducible rfl)
  try simp only [Act.put, List.setIfInBounds_toArray, List.set_cons_zero, List.set_cons_succ]
  refine Late.take (i := 3) (oi := ⟨some 13, Op.fieldAddr 40 (Operand.tmp 12) 3, _, _, _, _⟩) (v := ?_) rfl (by kernel_rfl) (by kernel_rfl) (by kernel_rfl) (by kernel_rfl) (fun _ _ _ h => h) (Or.inl ⟨by rfl, fun w hSw => ?_⟩) (by assumption) ?_
  rotate_left
  · (obtain ⟨s1, s2, s3⟩ := hSw; go_simp; try with_reducible rfl)
  try simp only [Act.put, List.setIfInBounds_toArray, List.set_cons_zero, List.set_cons_succ]
  refine Late.take (i := 5) (oi := ⟨some 15, Op.load 3 (Operand.tmp 0), _, _, _, _⟩) (v := ?_) rfl (by kernel_rfl) (by kernel_rfl) (by kernel_rfl) (by kernel_rfl) (fun _ _ _ h => h) (Or.inl ⟨by rfl, fun w hSw => ?_⟩) (by assumption) ?_
  rotate_left
  · (obtain ⟨s1, s2, s3⟩ := hSw; go_simp; try with_reducible rfl)
  try simp only [Act.put, List.setIfInBounds_toArray, List.set_cons_zero, List.set_cons_succ]
  refine Late.take (i := 6) (oi := ⟨some 16, Op.load 3 (Operand.tmp 1), _, _, _, _⟩) (v := ?_) rfl (by kernel_rfl) (by kernel_rfl) (by kernel_rfl) (by kernel_rfl) (fun _ _ _ h => h) (Or.inl ⟨by rfl, fun w hSw => ?_⟩) (by assumption) ?_
  rotate_left
  · (obtain ⟨s1, s2, s3⟩ := hSw; go_simp; try with_reducible rfl)
  try simp only [Act.put, List.setIfInBounds_toArray, List.set_cons_zero, List.set_cons_succ]
  refine Late.one (i := 4) (o := ⟨some 14, Op.load 38 (Operand.tmp 13), _, _, _, _⟩) (by kernel_rfl) rfl (fun K hK => ?_)
  go_simp
  refine hK.out _ _ (⟨h1, h2, h3⟩) (fun hHeld2 => ?_)
  clear hK K hHeld
  have hHeld := hHeld2
  clear hHeld2
  try simp only [Act.put, List.setIfInBounds_toArray, List.set_cons_zero, List.set_cons_succ]
  refine Late.one (i := 7) (o := ⟨some 17, Op.call { callee := Callee.value (Operand.func 38), args := #[Operand.tmp 14, Operand.tmp 15, Operand.tmp 16], argTypes := #[38, 3, 3] }, _, _, _, _⟩) (by kernel_rfl) rfl (fun K hK => ?_)
  go_simp
  refine HL.out.mono ?_
  rintro e w2 ⟨A, qs, cq, rfl, hbun, hqs, hbl⟩
  have g1 : w2.cell? ⟨y, 0, none⟩ = some (.pointer (some ⟨b, 0, none⟩)) := (hbl.cell (p := ⟨y, 0, none⟩) (World.block_lt_of_cell? _ _ h1)).trans h1
  have g2 : w2.cell? ⟨x, 0, none⟩ = some (.int .i64 keep) := (hbl.cell (p := ⟨x, 0, none⟩) (World.block_lt_of_cell? _ _ h2)).trans h2
  have g3 : w2.cell? ⟨z, 0, none⟩ = some (.int .i64 torn) := (hbl.cell (p := ⟨z, 0, none⟩) (World.block_lt_of_cell? _ _ h3)).trans h3
  have hb2 : Below w.heap.size w w2 := (Below.refl w.heap.size w).drew.trans hbl
  have lz := leftZ_len s.ws keep torn
  have HS := Lib.hid (settle_any (w := w2) cq (HD.out.keep (fun k hk => hb2.block k (HD.out.lt k hk)) hb2.size) hbun (by rw [← hqs, List.length_map] at lz; omega) (by unfold flatZ; rw [hqs]; omega))
  have HB2 := Lib.hid hb2
  have HQS := Lib.hid hqs
  clear hbun hqs hbl hb2 lz
  obtain ⟨mq, hmq⟩ : ∃ mq, qs.length = mq := ⟨_, rfl⟩
  rw [hmq] at HS
  rw [hmq]
  clear hmq
  go_wp2_with fail
  refine hK.out _ _ (⟨g1, g2, g3⟩) (fun hHeld2 => ?_)
  clear hK K hHeld
  have hHeld := hHeld2
  clear hHeld2
  try simp only [Act.put, List.setIfInBounds_toArray, List.set_cons_zero, List.set_cons_succ]
  refine Late.one (i := 8) (o := ⟨some 18, Op.call { callee := Callee.value (Operand.func 36), args := #[Operand.tmp 10, Operand.tmp 17], argTypes := #[24, 38] }, _, _, _, _⟩) (by kernel_rfl) rfl (fun K hK => ?_)
  go_simp
  refine HS.out.mono ?_
  rintro e w3 ⟨rfl, hd, hm⟩
  have k1 : w3.cell? ⟨y, 0, none⟩ = some (.pointer (some ⟨b, 0, none⟩)) := (hm.cell? ⟨y, 0, none⟩ (World.block_lt_of_cell? _ _ g1) hyK).trans g1
  have k2 : w3.cell? ⟨x, 0, none⟩ = some (.int .i64 keep) := (hm.cell? ⟨x, 0, none⟩ (World.block_lt_of_cell? _ _ g2) hxK).trans g2
  have k3 : w3.cell? ⟨z, 0, none⟩ = some (.int .i64 torn) := (hm.cell? ⟨z, 0, none⟩ (World.block_lt_of_cell? _ _ g3) hzK).trans g3
  have HDm := Lib.hid (And.intro hd hm)
  clear hd hm
  go_wp2_with fail
  refine hK.out _ _ (⟨k1, k2, k3⟩) (fun hHeld2 => ?_)
  clear hK K hHeld
  have hHeld := hHeld2
  clear hHeld2
  try simp only [Act.put, List.setIfInBounds_toArray, List.set_cons_zero, List.set_cons_succ]
  refine Late.done (by kernel_rfl) ?_ _
  refine NoPanic.normal ?_
  obtain ⟨⟨v9, u9, ps9, hA⟩, hm9⟩ := HDm.out
  have u1 := hA.up
  have u2 := hA.f1
  have HA := Lib.hid hA
  have HM9 := Lib.hid hm9
  clear hA hm9
  go_wp2
  go_ret
  refine ⟨_, rfl, rfl, Wider K w2 w3, ⟨v9, u9, ps9, ?_⟩, ((Moved.of_below K HB2.out).then HM9.out).then (Moved.cell _ _ ⟨b, 1, none⟩ _ HD.out.kb), ?_⟩
  · have := HA.out.upped false
    rw [← HQS.out]
    exact this
  · exact fun k hk => (wider_newer K w2 w3 k hk).imp id (fun e => Nat.le_trans HB2.out.size e)
set_option maxHeartbeats 1000000 in
theorem crash1_no {w : World} {b : Nat} {K : Nat → Prop} {s : DiskZ} {x y z : Nat} (keep torn : Int) (h : Dk w b K s) (h2 : w.cell? ⟨x, 0, none⟩ = some (.int .i64 keep)) (h3 : w.cell? ⟨z, 0, none⟩ = some (.int .i64 torn)) (hn : keep < 0 ∨ torn < 0) :
    Calls Try.prog 37 #[.pointer (some ⟨x, 0, none⟩), .pointer (some ⟨z, 0, none⟩), .pointer (some ⟨y, 0, none⟩)] w (fun e w' => ∃ v, e = .returned v ∧ DidV w b K (2, s) v w') := by
  have HD := Lib.hid h
  clear h
  by_cases n1 : keep < 0
  · clear hn
    go_enter Try.func37, Try.ntmps37
    go_wp2
    go_ret
    exact ⟨_, rfl, rfl, K, HD.out, Moved.refl _ _, Newer.refl _ _⟩
  · have n2 : torn < 0 := by omega
    clear hn
    go_enter Try.func37, Try.ntmps37
    go_wp2
    go_ret
    exact ⟨_, rfl, rfl, K, HD.out, Moved.refl _ _, Newer.refl _ _⟩
theorem crash_any {w : World} {b : Nat} {K : Nat → Prop} {s : DiskZ} (keep torn : Int) (h : Dk w b K s) (hs : Small s) (k1 : -9223372036854775808 ≤ keep ∧ keep ≤ 9223372036854775807) (k2 : -9223372036854775808 ≤ torn ∧ torn ≤ 9223372036854775807) :
    Calls Try.prog 18 #[.pointer (some ⟨b, 0, none⟩), .int .i64 keep, .int .i64 torn] w (Did w b K (dCrash s keep torn)) := by
  obtain ⟨W, hW⟩ : ∃ W, ((w.alloc (.cells #[.pointer (some ⟨b, 0, none⟩)] 24)).alloc (.cells #[.int .i64 keep] 3)).alloc (.cells #[.int .i64 torn] 3) = W := ⟨_, rfl⟩
  have bW : Below w.heap.size w W := by rw [← hW]; exact (((Below.refl _ _).alloc (Nat.le_refl _) _).alloc (by simp) _).alloc (by simp; omega) _
  have y0 : W.heap[w.heap.size]? = some (.cells #[.pointer (some ⟨b, 0, none⟩)] 24 (0, 0)) := by rw [← hW, Below.heap_alloc _ _ _ (by simp; omega), Below.heap_alloc _ _ _ (by simp)]; exact heap_alloc_new w _
  have x0 : W.heap[w.heap.size + 1]? = some (.cells #[.int .i64 keep] 3 (0, 0)) := by
    rw [← hW, Below.heap_alloc _ _ _ (by simp)]
    have := heap_alloc_new (w.alloc (.cells #[.pointer (some ⟨b, 0, none⟩)] 24)) (.cells #[.int .i64 keep] 3)
    rwa [show (w.alloc (.cells #[.pointer (some ⟨b, 0, none⟩)] 24)).heap.size = w.heap.size + 1 by simp] at this
  have z0 : W.heap[w.heap.size + 2]? = some (.cells #[.int .i64 torn] 3 (0, 0)) := by
    rw [← hW]
    have := heap_alloc_new ((w.alloc (.cells #[.pointer (some ⟨b, 0, none⟩)] 24)).alloc (.cells #[.int .i64 keep] 3)) (.cells #[.int .i64 torn] 3)
    rwa [show ((w.alloc (.cells #[.pointer (some ⟨b, 0, none⟩)] 24)).alloc (.cells #[.int .i64 keep] 3)).heap.size = w.heap.size + 2 by simp] at this
  have hD := h.below bW (Nat.le_refl _)
  have hlt := h.lt
  have hy : W.cell? ⟨w.heap.size, 0, none⟩ = some (.pointer (some ⟨b, 0, none⟩)) := by rw [cell_of_row _ _ _ _ _ _ y0]; rfl
  have hx : W.cell? ⟨w.heap.size + 1, 0, none⟩ = some (.int .i64 keep) := by rw [cell_of_row _ _ _ _ _ _ x0]; rfl
  have hz : W.cell? ⟨w.heap.size + 2, 0, none⟩ = some (.int .i64 torn) := by rw [cell_of_row _ _ _ _ _ _ z0]; rfl
  have BW := Lib.hid (Moved.of_below K bW)
  have HW := Lib.hid hW
  have HDK := Lib.hid hD
  obtain ⟨v, u, ps, hA⟩ := hD
  have m0 := Lib.hid hA.made
  have m1 := hA.up
  clear hW bW y0 x0 z0 hA h
  cases hu : s.up with
  | true =>
    rw [hu] at m1
    have C1 : Calls Try.prog 37 #[.pointer (some ⟨w.heap.size + 1, 0, none⟩), .pointer (some ⟨w.heap.size + 2, 0, none⟩), .pointer (some ⟨w.heap.size, 0, none⟩)] W (fun e w' => ∃ v, e = .returned v ∧ DidV W b K (dCrash s keep torn) v w') := by
      unfold dCrash
      rw [hu]
      by_cases hn : keep < 0 ∨ torn < 0
      · rw [if_pos rfl, if_pos hn]
        exact crash1_no keep torn HDK.out hx hz hn
      · rw [if_pos rfl, if_neg hn]
        exact crash1_yes keep torn HDK.out hy hx hz hs (fun e => by have := hlt _ e; omega) (fun e => by have := hlt _ e; omega) (fun e => by have := hlt _ e; omega) (by omega) k1.2 (by omega) k2.2
    have C2 := Lib.hid (ifup_yes m0.out m1 37 _ (fun _ _ => by kernel_rfl) _ C1)
    clear C1 m0 m1 hu hy hx hz
    go_enter Try.func18, Try.ntmps18
    go_wp2_with fail
    rw [HW.out]
    refine C2.out.mono ?_
    rintro e w2 ⟨v2, rfl, hp⟩
    have HP := Lib.hid (did_under (w := w) BW.out hp)
    obtain ⟨rfl, hp⟩ := hp
    clear hp
    go_wp2
    go_ret
    exact HP.out
  | false =>
    rw [hu] at m1
    have C2 := Lib.hid (fun F => ifup_down m0.out m1 F)
    have HZ : Hid (dCrash s keep torn = (60, s)) := Lib.hid (by unfold dCrash; rw [hu]; rfl)
    clear m0 m1 hu hy hx hz
    go_enter Try.func18, Try.ntmps18
    go_wp2_with fail
    rw [HW.out]
    refine (C2.out _).mono ?_
    rintro e w2 ⟨rfl, rfl⟩
    have HP := Lib.hid (did_under (w := w) (r := (60, s)) BW.out ⟨rfl, K, HDK.out, Moved.refl _ _, Newer.refl _ _⟩)
    go_wp2
    go_ret
    rw [HZ.out]
    exact HP.out
end Go.Proofs.Ytlbmhkccmclmfaa
