/- What a disk that is up does: the check, a list's front, the syncing of writes. -/
import Derived.Test.YtlbmhkccmclmfaaDTold
namespace Go.Proofs.Ytlbmhkccmclmfaa
open Go.ChangeShapes Go.WideShapes Go.ChangeAt Go.RowKit
set_option linter.unusedVariables false
theorem cut3_u8 (A : Option Addr) (n c k : Nat) (h : Int) (hh : h = k) (h2 : k ≤ c) :
    ∀ W, (Instr.slice 27 (.slice A n c) none (some (.int .i64 h)) (some (.int .i64 h))).run Try.prog W = .ok (.slice A k k) W := by
  subst hh
  intro W
  have he : Try.prog.elem 27 = 5 := by simp [Program.elem, Try.underlying27]
  rw [run_slice_hm W 27 A n c (by rw [he]; exact Try.underlying27) .i64 .i64 _ _ (by omega) (by omega) (by omega), he, sizeOf_u8']
  cases A <;> simp [Result.andThen, sliced, Addr.add]
theorem sizeOf_sl (w : World) : (Go.sizeOf 27).run Try.prog w = .ok 1 w := by
  obtain ⟨i, z, hi, hz, hs, hb, _⟩ := slice_info
  simp [Go.sizeOf, typeInfo, hi, hs]
theorem cut3_sl (A : Option Addr) (n c k : Nat) (h : Int) (hh : h = k) (h2 : k ≤ c) :
    ∀ W, (Instr.slice 38 (.slice A n c) none (some (.int .i64 h)) (some (.int .i64 h))).run Try.prog W = .ok (.slice A k k) W := by
  subst hh
  intro W
  have he : Try.prog.elem 38 = 27 := by simp [Program.elem, Try.underlying38]
  rw [run_slice_hm W 38 A n c (by rw [he]; exact Try.underlying38) .i64 .i64 _ _ (by omega) (by omega) (by omega), he, sizeOf_sl]
  cases A <;> simp [Result.andThen, sliced, Addr.add]
theorem ahead8_any (A : Option Addr) (n c k : Nat) (w : World) (h : k ≤ c) (hc : c ≤ maxLen) : Calls Try.prog 34 #[.slice A n c, .int .i64 k] w (fun e w' => e = .returned (.slice A k k) ∧ w = w') := by
  have C := cut3_u8 A n c k k rfl h
  unfold maxLen at hc
  have h1 : (k : Int) ≤ c := by omega
  go_enter Try.func34, Try.ntmps34
  go_wp2
  go_ret
  exact ⟨rfl, rfl⟩
theorem aheadS_any (A : Option Addr) (n c k : Nat) (w : World) (h : k ≤ c) (hc : c ≤ maxLen) : Calls Try.prog 42 #[.slice A n c, .int .i64 k] w (fun e w' => e = .returned (.slice A k k) ∧ w = w') := by
  have C := cut3_sl A n c k k rfl h
  unfold maxLen at hc
  have h1 : (k : Int) ≤ c := by omega
  go_enter Try.func42, Try.ntmps42
  go_wp2
  go_ret
  exact ⟨rfl, rfl⟩
/-- The check: of a disk that is up, of one that isn't, of one that nobody made. -/
theorem ifup_yes {w : World} {b : Nat} (h0 : w.cell? ⟨b, 0, none⟩ = some (.bool true)) (h1 : w.cell? ⟨b, 1, none⟩ = some (.bool true)) (f : FuncId) (caps : Array Value) (hin : ∀ args W, (callFunc f args).run Try.prog W = .ok (.enter f args) W) (Post : Value → World → Prop)
    (hc : Calls Try.prog f caps w (fun e w' => ∃ v, e = .returned v ∧ Post v w')) : Calls Try.prog 32 #[.pointer (some ⟨b, 0, none⟩), .func (.func f) #[] caps] w (fun e w' => ∃ v, e = .returned v ∧ Post v w') := by
  have HC := Lib.hid hc
  clear hc
  go_enter Try.func32, Try.ntmps32
  go_wp2_with fail
  refine HC.out.mono ?_
  rintro e w2 ⟨v, rfl, hp⟩
  have HP := Lib.hid hp
  clear hp
  go_wp2
  go_ret
  exact ⟨_, rfl, HP.out⟩
theorem ifup_down {w : World} {b : Nat} (h0 : w.cell? ⟨b, 0, none⟩ = some (.bool true)) (h1 : w.cell? ⟨b, 1, none⟩ = some (.bool false)) (F : Value) : Calls Try.prog 32 #[.pointer (some ⟨b, 0, none⟩), F] w (fun e w' => e = .returned (.int .i64 60) ∧ w = w') := by
  go_enter Try.func32, Try.ntmps32
  go_wp2
  go_ret
  exact ⟨rfl, rfl⟩
theorem ifup_nil {w : World} (F : Value) : Calls Try.prog 32 #[.pointer none, F] w (fun e w' => e = .returned (.int .i64 1) ∧ w = w') := by
  go_enter Try.func32, Try.ntmps32
  go_wp2
  go_ret
  exact ⟨rfl, rfl⟩
theorem ifup_zero {w : World} {b : Nat} (h0 : w.cell? ⟨b, 0, none⟩ = some (.bool false)) (F : Value) : Calls Try.prog 32 #[.pointer (some ⟨b, 0, none⟩), F] w (fun e w' => e = .returned (.int .i64 1) ∧ w = w') := by
  go_enter Try.func32, Try.ntmps32
  go_wp2
  go_ret
  exact ⟨rfl, rfl⟩
/-- The set of a disk's blocks behind a call: what it had, and what is new. -/
def Wider (K : Nat → Prop) (w w' : World) : Nat → Prop := fun k => K k ∨ (w.heap.size ≤ k ∧ k < w'.heap.size)
theorem wider_newer (K : Nat → Prop) (w w' : World) : Newer w K (Wider K w w') := fun k h => h.imp id (fun h => h.1)
/-- Between two writes that are synced. -/
structure Settling (w : World) (b : Nat) (v : Value) (zs : List Int) (wr : World) : Prop where
  syn : ∃ v', wr.cell? ⟨b, 2, none⟩ = some v' ∧ wr.ownsRow 0 5 1 v' zs.length (vals zs) ∧ (v'.ownBlock = v.ownBlock ∨ ∀ k, v'.ownBlock = some k → w.heap.size ≤ k)
  bytes : IsBytes zs
  cell : ∀ i, i ≠ 2 → wr.cell? ⟨b, i, none⟩ = w.cell? ⟨b, i, none⟩
  frozen : ∀ i, wr.frozen? ⟨b, i, none⟩ = w.frozen? ⟨b, i, none⟩
  moved : Moved (fun k => k = b ∨ v.ownBlock = some k) w wr
theorem Settling.step {w wr w2 : World} {b n : Nat} {v v' v2 : Value} {zs ys : List Int} (h : Settling w b v zs wr) (hb : b < w.heap.size) (hvb : ∀ k, v.ownBlock = some k → k ≠ b ∧ k < w.heap.size)
    (h1 : wr.cell? ⟨b, 2, none⟩ = some v') (hat : v'.ownBlock = v.ownBlock ∨ ∀ k, v'.ownBlock = some k → w.heap.size ≤ k) (hy : IsBytes ys) (hl : (zs ++ ys).length = n)
    (ho : w2.ownsRow 0 5 1 v2 n (vals (zs ++ ys))) (hg : wr.grownBy w2 v'.ownBlock) (hat2 : v2.ownBlock = v'.ownBlock ∨ v2.ownBlock = some wr.heap.size) : Settling w b v (zs ++ ys) (w2.setCell ⟨b, 2, none⟩ v2) := by
  have hs := h.moved.size
  have hv' : ∀ k, v'.ownBlock = some k → k ≠ b := fun k hk => by
    rcases hat with e | e
    · rw [e] at hk; exact (hvb k hk).1
    · have := e k hk; omega
  have hbl : w2.heap[b]? = wr.heap[b]? := hg.block b (by omega) (fun e => hv' b e.symm rfl)
  have hc2 : w2.cell? ⟨b, 2, none⟩ = some v' := (World.cell?_of_block (a := ⟨b, 2, none⟩) hbl).trans h1
  have hat3 : v2.ownBlock = v.ownBlock ∨ ∀ k, v2.ownBlock = some k → w.heap.size ≤ k := by
    rcases hat2 with e | e
    · rw [e]; exact hat
    · exact .inr (fun k hk => by rw [e] at hk; injection hk with hk; omega)
  have hv2 : ∀ k, v2.ownBlock = some k → k ≠ b := fun k hk => by
    rcases hat3 with e | e
    · rw [e] at hk; exact (hvb k hk).1
    · have := e k hk; omega
  refine ⟨⟨v2, World.cell?_setCell_same _ _ _ hc2, ?_, hat3⟩, h.bytes.app hy, fun i hi => ?_, fun i => ?_, ?_⟩
  · rw [hl]
    exact own_same ho (fun k hk => Below.heap_setCell _ _ _ _ (hv2 k hk))
  · rw [World.cell?_setCell_other _ _ _ _ (fun e => hi (congrArg Addr.off e).symm), World.cell?_of_block (a := ⟨b, i, none⟩) hbl]; exact h.cell i hi
  · rw [World.frozen?_setCell, World.frozen?_of_block (a := ⟨b, i, none⟩) hbl]; exact h.frozen i
  · refine (h.moved.trans (G := fun k => v'.ownBlock = some k) (Moved.grown hg (fun k hk => hk)) (fun k hk => ?_)).then (Moved.cell _ _ _ _ (.inl rfl))
    rcases hat with e | e
    · rw [e] at hk; exact .inl (.inr hk)
    · exact .inr (e k hk)
/-- Behind the syncing. -/
def Settled (w : World) (b : Nat) (K : Nat → Prop) (s' : DiskZ) (e : Ending) (w' : World) : Prop := e = .returned (.tuple #[]) ∧ Dk w' b (Wider K w w') s' ∧ Moved K w w'
theorem Settling.end_ {w wr : World} {b : Nat} {K : Nat → Prop} {s : DiskZ} {v u : Value} {ps : List PieceZ} {zs : List Int} (h : DkAt w b K s v u ps) (hS : Settling w b v zs wr) :
    Dk (wr.setCell ⟨b, 3, none⟩ (.slice none 0 0)) b (Wider K w (wr.setCell ⟨b, 3, none⟩ (.slice none 0 0))) ⟨s.up, zs, []⟩ ∧ Moved K w (wr.setCell ⟨b, 3, none⟩ (.slice none 0 0)) := by
  obtain ⟨v', h1, ho, hat⟩ := hS.syn
  have hs := hS.moved.size
  have hb := h.lt b h.kb
  have hz : (wr.setCell ⟨b, 3, none⟩ (.slice none 0 0)).heap.size = wr.heap.size := by simp [World.setCell]
  have hv' : ∀ k, v'.ownBlock = some k → (K k ∨ w.heap.size ≤ k) ∧ k ≠ b ∧ k < wr.heap.size := fun k hk => by
    have hlt := (ho.lt k hk).2
    rcases hat with e | e
    · rw [e] at hk; exact ⟨.inl (h.blk2 k hk).1, (h.blk2 k hk).2, hlt⟩
    · have := e k hk; exact ⟨.inr this, by omega, hlt⟩
  refine ⟨⟨v', .slice none 0 0, [], .inl h.kb, fun k hk => ?_, ?_, ?_, ?_, ?_, ?_, ?_, ?_, own_same ho (fun k hk => Below.heap_setCell _ _ _ _ (hv' k hk).2.1), fun k hk => ?_, hS.bytes, World.ownsRow_nil _ _ _ _, fun k hk => (by cases hk), fun p hp => (by cases hp), rfl⟩, ?_⟩
  · rcases hk with hk | hk
    · have := h.lt k hk; omega
    · exact hk.2
  · rw [World.cell?_setCell_other _ _ _ _ (by simp), hS.cell 0 (by omega)]; exact h.made
  · rw [World.cell?_setCell_other _ _ _ _ (by simp), hS.cell 1 (by omega)]; exact h.up
  · rw [World.cell?_setCell_other _ _ _ _ (by simp)]; exact h1
  · exact World.cell?_setCell_same _ _ _ ((hS.cell 3 (by omega)).trans h.wr)
  · rw [World.frozen?_setCell, hS.frozen]; exact h.f1
  · rw [World.frozen?_setCell, hS.frozen]; exact h.f2
  · rw [World.frozen?_setCell, hS.frozen]; exact h.f3
  · have := hv' k hk
    exact ⟨this.1.imp id (fun e => ⟨e, by omega⟩), this.2.1⟩
  · refine (hS.moved.more (fun k hk _ => ?_)).then (Moved.cell _ _ _ _ h.kb)
    rcases hk with rfl | hk
    · exact h.kb
    · exact (h.blk2 k hk).1
set_option maxHeartbeats 1000000 in
theorem settle_any {w : World} {b : Nat} {K : Nat → Prop} {s : DiskZ} {v u : Value} {ps qs : List PieceZ} {A : Option Addr} (c : Nat) (h : DkAt w b K s v u ps) (hq : Bunch w (fun k => k ≠ b ∧ v.ownBlock ≠ some k) A qs) (hm : qs.length ≤ 100000000) (hz : s.zs.length + (flatZ qs).length ≤ 100000000) :
    Calls Try.prog 36 #[.pointer (some ⟨b, 0, none⟩), .slice A qs.length c] w (Settled w b K ⟨s.up, s.zs ++ flatZ qs, []⟩) := by
  have hb : b < w.heap.size := h.lt b h.kb
  have HVB : Hid (∀ k, v.ownBlock = some k → k ≠ b ∧ k < w.heap.size) := Lib.hid (fun k hk => ⟨(h.blk2 k hk).2, h.lt k (h.blk2 k hk).1⟩)
  have HLE : Hid (∀ k, s.zs.length + (flatZ (qs.take k)).length ≤ 100000000) := Lib.hid (fun k => by have := flatZ_take_le (ps := qs) k; omega)
  have HQ := Lib.hid hq
  have HD := Lib.hid h
  have H0 : Hid (Settling w b v (s.zs ++ flatZ (qs.take 0)) w) := Lib.hid ⟨⟨v, h.syn, by simpa [flatZ] using h.own2, .inl rfl⟩, by simpa [flatZ] using h.bytes, fun _ _ => rfl, fun _ => rfl, Moved.refl _ _⟩
  obtain ⟨m, hM⟩ : ∃ m, qs.length = m := ⟨_, rfl⟩
  have HM := Lib.hid hM
  rw [hM] at hm ⊢
  clear h hM hz hq
  go_enter Try.func36, Try.ntmps36
  go_wp2
  go_loopw [8] (fun i wr => ∃ k : Nat, k ≤ m ∧ i = .int .i64 k ∧ Hid (Settling w b v (s.zs ++ flatZ (qs.take k)) wr)) (fun i _ => m - (intOf i).toNat)
  case atStart => exact ⟨0, by omega, rfl, H0⟩
  case round =>
    obtain ⟨k, hk, rfl, HS⟩ := hrel
    by_cases hlt : k < m
    · obtain ⟨g, off, p, rfl, hg, hFg, HP, hc, hst⟩ := (HQ.out.keep (w1 := wr) (fun k hF hk => HS.out.moved.block k hk (fun e => by
        rcases e with e | e
        · exact hF.1 e
        · exact hF.2 e))).at_ (k := k) (by rw [HM.out]; exact hlt)
      obtain ⟨v', h1, ho, hat⟩ := HS.out.syn
      have hl := HLE.out (k + 1)
      have E : Hid (s.zs ++ flatZ (qs.take (k + 1)) = (s.zs ++ flatZ (qs.take k)) ++ p.zs) := Lib.hid (by rw [flatZ_take HP.out, List.append_assoc])
      have hl2 : (s.zs ++ flatZ (qs.take k)).length + p.n ≤ 100000000 := by
        rw [← hst.len, ← List.length_append, ← E.out, List.length_append]; exact hl
      have f2 := HS.out.frozen 2
      rw [HD.out.f2] at f2
      have s2 : w.heap.size ≤ wr.heap.size := HS.out.moved.size
      have HVb : Hid (∀ k, v'.ownBlock = some k → k ≠ b) := Lib.hid (fun k hk => by
        rcases hat with e | e
        · rw [e] at hk; exact (HVB.out k hk).1
        · have := e k hk; omega)
      have HAT := Lib.hid hat
      have HPL := Lib.hid hst.lies
      have HPB := Lib.hid hst.bytes
      have HPN := Lib.hid hst.len
      have HF : Hid (∀ w2, wr.grownBy w2 v'.ownBlock → w2.cell? ⟨b, 2, none⟩ = some v' ∧ w2.frozen? ⟨b, 2, none⟩ = false) := Lib.hid (fun w2 hg => by
        have e := hg.block b (by omega) (fun e => HVb.out b e.symm rfl)
        exact ⟨(World.cell?_of_block (a := ⟨b, 2, none⟩) e).trans h1, (World.frozen?_of_block (a := ⟨b, 2, none⟩) e).trans f2⟩)
      have H1 := Lib.hid h1
      have HO := Lib.hid ho
      unfold pval at hc
      clear hat hst hl ho hFg
      obtain ⟨pA, pn, pc, pz⟩ := p
      simp only at HPL HPB HPN hc hl2 E
      obtain ⟨sj, hsj⟩ : ∃ sj, (s.zs ++ flatZ (qs.take k)).length = sj := ⟨_, rfl⟩
      rw [hsj] at HO hl2
      have HL := Lib.hid hsj
      clear hsj
      go_wp2_with (at_builtin; (refine wpList_appA _ rfl (.tmp 16) (.tmp 17) 27 rfl 0 5 1 1 Try.underlying27 u8_info (by omega) v' sj (vals (s.zs ++ flatZ (qs.take k))) rfl HO.out pA pn pc (vals pz) rfl HPL.out.1 HPL.out.2 (vals_one _) (by unfold maxLen; omega) (by omega) (Nat.zero_le _) ?_); intro v2 w2 ho2 hg2 hat2; obtain ⟨A2, c2, rfl, _, _⟩ := own_shape ho2; obtain ⟨q2, q3⟩ := HF.out w2 hg2)
      have HSn : Hid (Settling w b v (s.zs ++ flatZ (qs.take (k + 1))) (w2.setCell ⟨b, 2, none⟩ (.slice A2 (sj + pn) c2))) := Lib.hid (by
        rw [E.out]
        exact HS.out.step hb HVB.out H1.out HAT.out HPB.out (by rw [List.length_append, HL.out, HPN.out]) (by rw [vals_app]; exact ho2) hg2 hat2)
      clear ho2 hg2 hat2
      go_roundw
      case rel => exact ⟨k + 1, by omega, by go_num, HSn⟩
      case measure => simp [intOf]; omega
    · have hkm : k = m := by omega
      have HT : Hid (flatZ (qs.take k) = flatZ qs) := Lib.hid (by rw [List.take_of_length_le (by rw [HM.out]; omega)])
      rw [HT.out] at HS
      have e3 := HS.out.cell 3 (by omega)
      rw [HD.out.wr] at e3
      have f3 := HS.out.frozen 3
      rw [HD.out.f3] at f3
      clear hkm
      go_wp2
      go_end0
      exact ⟨rfl, HS.out.end_ HD.out⟩
end Go.Proofs.Ytlbmhkccmclmfaa
