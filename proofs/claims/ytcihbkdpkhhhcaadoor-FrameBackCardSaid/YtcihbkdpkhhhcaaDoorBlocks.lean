/- The blocks of bytes, told one by one; what stands behind them all. -/
import Derived.RangeFuncNested
import Derived.RangeFuncBound
import Derived.RangeFuncCalls
import Derived.RangeFuncLeaves
import Derived.RangeFuncBox
import Derived.Shelf.Abstract
import Derived.Shelf.RegionOpen
import Derived.OwnWalkIn
import Derived.TacticsInMore
import Derived.LoopNIn
import Derived.LoopIn
import Derived.Test.YtcihbkdpkhhhcaaDoorBlock
import Derived.Test.YtcihbkdpkhhhcaaDoorWords
namespace Go.Proofs.YtcihbkdpkhhhcaaDoor
open Go.ChangeShapes Go.WideShapes Go.ChangeAt Go.RowKit Go.Shelf
set_option linter.unusedVariables false
open Plain Sha
attribute [local go_sem] Oper.semAt_some
abbrev Blk := { l : List Nat // l.length = 16 ∧ AllW l }
def blkAt (bs : List Int) (hb : IsBytes bs) (i : Nat) : Blk := ⟨wordsAt bs i, wordsAt_len bs i, wordsAt_lt bs hb i⟩
def upto (f : Nat → Blk) (k : Nat) : List Blk := (List.range k).map f
theorem upto_succ (f : Nat → Blk) (k : Nat) : upto f (k + 1) = upto f k ++ [f k] := by simp [upto, List.range_succ]
theorem upto_length (f : Nat → Blk) (k : Nat) : (upto f k).length = k := by simp [upto]
def Kept (n₀ Bn : Nat) (W W' : World) : Prop := Below n₀ W W' ∧ W'.heap[Bn]? = W.heap[Bn]?
theorem Kept.trans {n₀ Bn : Nat} {A B C : World} (h : Kept n₀ Bn A B) (k : Kept n₀ Bn B C) : Kept n₀ Bn A C := ⟨h.1.trans k.1, k.2.trans h.2⟩
theorem Kept.refl (n₀ Bn : Nat) (A : World) : Kept n₀ Bn A A := ⟨Below.refl _ _, rfl⟩
/-- Of bytes the number at a place. -/
theorem load_at (bs : List Int) (hb : IsBytes bs) (i t : Nat) (h : 64 * i + 64 ≤ bs.length) (ht : t < 16) :
    loadZ bs ((64 * i + 4 * t : Nat) : Int) 4 = (((wordsAt bs i).getD t 0 : Nat) : Int) := by
  rw [loadZ_yes _ _ _ (by omega), wordsAt_at bs i t ht]
  have := numZ_piece_range bs (64 * i + 4 * t) 4 4 (by omega) hb
  omega
/-- A whole array is read, stored, inside a fence. -/
theorem wpListIn_load_mid {F : Fence} {n : Nat} {P : Program} {ops : Array Oper} {rest : List Oper} {o : Oper} {a : Act} {w : World} {Q : Exit → Act → World → Prop} (hg : o.guard = none) (ty : TypeId) (x : Operand) (hop : o.op = .load ty x)
    (b off : Nat) (hx : a.eval x = .pointer (some ⟨b, off, none⟩)) (cs : List Value) (d : TypeDesc) (hc : w.rangeAt b off cs)
    (hu : P.underlying ty = some d) (hd : d.isRow = true) (hi : (P.info? ty).map (·.size) = some cs.length)
    (h : wpListIn F n P ops Q rest (a.put o.dst (.agg cs.toArray)) w) : wpListIn F n P ops Q (o :: rest) a w := by
  refine wpListIn_plain hg fun K hK => ?_
  unfold Oper.wpIn
  refine ⟨?_, ?_⟩
  · simp [Oper.about, hop]
  · rw [Oper.semAt_plain F _ _ (by rw [hop]; intro c hc'; cases hc')]
    unfold execOp
    simp only [hop, hx, Instr.loadAt, Instr.sureAddr, Sem.run_bind, Sem.run_pure, Result.andThen_ok, run_loadVar_mid w b off ty cs d hc hu hd hi]
    exact hK _ _ h
theorem wpListIn_store_as {F : Fence} {n : Nat} {P : Program} {ops : Array Oper} {rest : List Oper} {o : Oper} {a : Act} {w : World} {Q : Exit → Act → World → Prop} (hg : o.guard = none) (ty : TypeId) (x y : Operand) (hop : o.op = .store ty x y)
    (b off : Nat) (cells : Array Value) (hx : a.eval x = .pointer (some ⟨b, off, none⟩)) (hy : a.eval y = .agg cells)
    (ht : w.there b off cells.size) (hi : (P.info? ty).map (·.size) = some cells.size) (h1 : cells.all (·.oneCell') = true)
    (h : ∀ w', Hid (w' = w.setCells b off cells.toList) → wpListIn F n P ops Q rest (a.put o.dst undef) w') : wpListIn F n P ops Q (o :: rest) a w := by
  refine wpListIn_plain hg fun K hK => ?_
  unfold Oper.wpIn
  refine ⟨?_, ?_⟩
  · simp [Oper.about, hop]
  · rw [Oper.semAt_plain F _ _ (by rw [hop]; intro c hc'; cases hc')]
    unfold execOp
    simp only [hop, hx, hy, Instr.storeAt, Instr.sureAddr, Sem.run_bind, Sem.run_pure, Result.andThen_ok, run_storeVar_mid w b off ty cells ht hi h1]
    exact hK _ _ (h _ (Lib.hid rfl))
theorem below_grown {w w' : World} (h : Below w.heap.size w w') : w.grownBy w' none := ⟨h.os, h.tape, h.output, h.size, fun i hi _ => h.block i hi⟩
theorem word_lt (bs : List Int) (hb : IsBytes bs) (i t : Nat) : (wordsAt bs i).getD t 0 < 4294967296 := wordsAt_lt bs hb i t
set_option maxRecDepth 100000 in
set_option maxHeartbeats 2000000 in
theorem blocks1_in (n : Nat) (hn : 1 ≤ n) (l Bn n₀ : Nat) (A : Option Addr) (len cap : Nat) (bs : List Int) (hbs : IsBytes bs) (J Jx : List Blk → World → Prop)
    (hY : ∀ pre x W, J pre W → pre.length < len / 64 → YieldAt Fence.wide (n - 1) Tryd.prog l #[.agg (u32s x.1).toArray] W fun e W' =>
      (e = .returned (.bool true) ∧ J (pre ++ [x]) W' ∧ Kept n₀ Bn W W') ∨ (e = .returned (.bool false) ∧ Jx (pre ++ [x]) W'))
    (W : World) (hJ : AbidesFrom W.heap.size J) (hBn : Boxed W Bn 22 (.slice A len cap)) (hB : Bs W n₀ A len bs) (hn₀ : n₀ ≤ W.heap.size) (hlen : len ≤ 140737488355328) (h0 : J [] W) :
    CallsIn Fence.wide n Tryd.prog 51 #[.func (.yield l) #[] #[], .pointer (some ⟨Bn, 0, none⟩)] W fun e W' => (∃ v, e = .returned v) ∧
      ((∃ ys, ys = upto (blkAt bs hbs) (len / 64) ∧ J ys W') ∨ (∃ pre, Jx pre W')) := by
  have cB := hBn.cell
  have HL := Lib.hid hB.len
  refine callsIn_of_wp Tryd.func51 rfl trivial ?_ rfl
  simp only [Tryd.ntmps51, List.size_toArray, List.length_cons, List.length_nil, Nat.reduceAdd, Nat.reduceSub, Array.replicate_succ, Array.replicate_zero, List.push_toArray, List.append_toArray, List.nil_append, List.cons_append]
  have HQ : Hid (len / 64 * 64 ≤ len) := Lib.hid (by omega)
  obtain ⟨q, hq⟩ : ∃ q : Nat, len / 64 = q := ⟨_, rfl⟩
  have hq' : ((len : Int) / 64) = (q : Int) := by omega
  rw [hq] at hY ⊢
  have hq64 : 64 * q ≤ len := by omega
  clear hq
  gi_wp2
  clear hq' cB
  gi_loopw [9] (fun i wr => ∃ k : Nat, k ≤ q ∧ i = .int .i64 k ∧ J (upto (blkAt bs hbs) k) wr ∧ Kept n₀ Bn W wr) (fun i _ => q - (intOf i).toNat)
  case atStart => exact ⟨0, Nat.zero_le _, rfl, h0, Kept.refl _ _ _⟩
  case round =>
    obtain ⟨wo, hwo⟩ : ∃ wo, wo = wr := ⟨_, rfl⟩
    subst hwo
    obtain ⟨k, hk, rfl, hJs, hkn⟩ := hrel
    by_cases hlt : k < q
    · have hb1 : Boxed wo Bn 22 (.slice A len cap) := hkn.2.trans hBn
      have hB1 : Bs wo n₀ A len bs := hB.below hkn.1
      have r16 : Row32 (wo.alloc (.cells (u32s (List.replicate 16 0)).toArray 83)) wo.heap.size (List.replicate 16 0) := Row32.new wo _ _
      have R16 := Lib.hid r16
      clear r16
      gi_wp2
      gi_loopw [12] (fun i wr => ∃ t : Nat, t ≤ 16 ∧ i = .int .i64 t ∧ ∃ cs : List Nat, Hid (cs.length = 16) ∧ Hid (∀ j, j < t → cs.getD j 0 = (wordsAt bs k).getD j 0) ∧ Hid (Row32 wr wo.heap.size cs) ∧ Below wo.heap.size wo wr) (fun i _ => 16 - (intOf i).toNat)
      case atStart => exact ⟨0, by omega, rfl, List.replicate 16 0, Lib.hid (List.length_replicate ..), Lib.hid (fun j hj => absurd hj (by omega)), R16, (Below.refl _ _).alloc (Nat.le_refl _) _⟩
      case round =>
        obtain ⟨t, ht, rfl, cs, HC, HX, HR, hbw⟩ := hrel
        have hs1 := hkn.1.size
        have hb2 : Boxed wr Bn 22 (.slice A len cap) := (hbw.block Bn hb1.lt).trans hb1
        have hB2 : Bs wr n₀ A len bs := hB1.belowM hbw (by omega)
        have cb2 := hb2.cell
        by_cases hlt2 : t < 16
        · have hld := load_at bs hbs k t (by rw [HL.out]; omega) hlt2
          have hc0 := HR.out.cells t (by rw [HC.out]; omega)
          have hf0 := HR.out.free t (by rw [HC.out]; omega)
          have hxl := word_lt bs hbs k t
          have HCX : Hid (∀ j, j < t + 1 → (cs.set t ((wordsAt bs k).getD t 0)).getD j 0 = (wordsAt bs k).getD j 0) := Lib.hid (fun j hj => by
            rw [getD_setN _ _ _ _ (by rw [HC.out]; omega)]
            split
            · next h => subst h; rfl
            · exact HX.out j (by omega))
          obtain ⟨x, hx⟩ : ∃ x, (wordsAt bs k).getD t 0 = x := ⟨_, rfl⟩
          rw [hx] at hld hxl HCX
          have HLD : Hid (loadZ bs (64 * (k : Int) + 4 * (t : Int)) 4 = (x : Int)) := Lib.hid (by rw [← hld]; congr 1)
          have HB2 := Lib.hid hB2
          clear hx hld hB2
          gi_wp2_with (refine ⟨trivial, ?_⟩; gi_at_call 43; refine (callsIn_wide.2 (load32_any cap HB2.out (by unfold maxLen; omega) _ (by omega))).mono ?_; rw [HLD.out]; rintro e w' ⟨rfl, m, rfl⟩)
          go_roundw
          case rel => exact ⟨t + 1, by omega, by go_num, cs.set t x, Lib.hid (by rw [List.length_set]; exact HC.out), HCX, Lib.hid ((HR.out.drewN _).set t x (by rw [HC.out]; exact hlt2)), (below_drewN hbw _).setCell (by simp) _⟩
          case measure => simp [intOf]; omega
        · have htt : t = 16 := by omega
          have HE : Hid (cs = wordsAt bs k) := Lib.hid (list_ext_N (by rw [HC.out, wordsAt_len]) (fun j hj => HX.out j (by rw [HC.out] at hj; omega)))
          have hJ2 : J (upto (blkAt bs hbs) k) wr := hJ _ _ _ none hJs (below_grown hbw) (fun r e => by cases e)
          obtain ⟨fn, tmps, assign, body, hy, hR⟩ := hY _ (blkAt bs hbs k) wr hJ2 (by rw [upto_length]; exact hlt)
          simp only [blkAt] at hy
          have hI : (Tryd.prog.info? 83).map (·.size) = some (u32s (wordsAt bs k)).length := by rw [u32s_len, wordsAt_len]; kernel_rfl
          have hld : wr.rangeAt wo.heap.size 0 (u32s (wordsAt bs k)) := by rw [← HE.out]; exact HR.out.range
          have HLd := Lib.hid hld
          have HI := Lib.hid hI
          clear htt hI hld
          gi_wp2_with (refine wpListIn_load_mid (o := ⟨some 29, _, _, _, _, _⟩) rfl 83 (.tmp 4) rfl wo.heap.size 0 rfl (u32s (wordsAt bs k)) _ HLd.out Tryd.underlying83 rfl HI.out ?_)
          refine hR.mono ?_
          have hk1 : Kept n₀ Bn W wr := hkn.trans ⟨hbw.mono (by omega), hbw.block Bn hb1.lt⟩
          rintro e W3 (⟨rfl, hJ3, hk3⟩ | ⟨rfl, hJx3⟩)
          · gi_wp2
            go_roundw
            case rel => exact ⟨k + 1, by omega, by go_num, by rw [upto_succ]; exact hJ3, hk1.trans hk3⟩
            case measure => simp [intOf]; omega
          · gi_wp2
            refine bodyPost_ret (results_none rfl _ _ _) rfl ?_
            exact ⟨⟨_, rfl⟩, .inr ⟨_, hJx3⟩⟩
    · obtain rfl : k = q := by omega
      gi_wp2
      go_end0
      exact ⟨⟨_, rfl⟩, .inl ⟨_, rfl, hJs⟩⟩
theorem blocks_any (A : Option Addr) (len cap : Nat) (w : World) :
    Calls Tryd.prog 48 #[.slice A len cap] w fun e w' => e = .returned (.func (.func 51) #[] #[.pointer (some ⟨w.heap.size, 0, none⟩)]) ∧ w' = w.alloc (.cells #[.slice A len cap] 22) := by
  go_enter Tryd.func48, Tryd.ntmps48
  go_wp2
  go_ret
  exact ⟨rfl, rfl⟩
theorem blocks_stops (n : Nat) (hn : 1 ≤ n) (Bn n₀ : Nat) (A : Option Addr) (len cap : Nat) (bs : List Int) (hbs : IsBytes bs) (w : World) (hBn : Boxed w Bn 22 (.slice A len cap)) (hB : Bs w n₀ A len bs) (hn₀ : n₀ ≤ w.heap.size) (hlen : len ≤ 140737488355328) :
    SeqStopsK Fence.wide n Tryd.prog 51 #[.pointer (some ⟨Bn, 0, none⟩)] (fun x : Blk => #[Value.agg (u32s x.1).toArray]) (Kept n₀ Bn) (fun ys => ys = upto (blkAt bs hbs) (len / 64)) (fun _ => True) (len / 64) w := fun l J Jx W hW hJ _ hY h0 => by
  have h1 : Boxed W Bn 22 (.slice A len cap) := (hW.block Bn hBn.lt).trans hBn
  refine (blocks1_in n hn l Bn n₀ A len cap bs hbs J Jx hY W hJ h1 (hB.belowM hW hn₀) (Nat.le_trans hn₀ hW.size) hlen h0).mono ?_
  rintro e W' ⟨he, ⟨ys, rfl, hj⟩ | ⟨pre, hj⟩⟩
  · exact ⟨he, .inl ⟨_, rfl, hj⟩⟩
  · exact ⟨he, .inr ⟨_, trivial, hj⟩⟩
end Go.Proofs.YtcihbkdpkhhhcaaDoor
