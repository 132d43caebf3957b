/- The frames of bytes, told one by one. -/
import Derived.RangeFuncNested
import Derived.RangeFuncBound
import Derived.RangeFuncCalls
import Derived.RangeFuncLeaves
import Derived.RangeFuncBox
import Derived.Shelf.Abstract
import Derived.Shelf.RegionOpen
import Derived.OwnWalkIn
import Derived.TacticsInMore
import Derived.LoopNIn
import Derived.LoopIn
import Derived.Test.YtcihbkdpkhhhcaaDoorFFirst
import Derived.Test.YtcihbkdpkhhhcaaDoorBlocks
namespace Go.Proofs.YtcihbkdpkhhhcaaDoor
open Go.ChangeShapes Go.WideShapes Go.ChangeAt Go.RowKit Go.Shelf
set_option linter.unusedVariables false
open Plain Sha
attribute [local go_sem] Oper.semAt_some
/-- The frames behind a place, as far as there are: where each stands, how long its payload is. -/
def framesF (bs : List Int) : Nat → Nat → List (Nat × Nat)
  | 0, _ => []
  | k + 1, off => match firstZ (bs.drop off) with
    | none => []
    | some m => (off, m) :: framesF bs k (off + (m + 12))
def framesZ (bs : List Int) : List (Nat × Nat) := framesF bs (bs.length + 1) 0
theorem framesF_no {bs : List Int} {k off : Nat} (h : firstZ (bs.drop off) = none) : framesF bs k off = [] := by
  cases k with
  | zero => rfl
  | succ k => unfold framesF; rw [h]
theorem framesF_yes {bs : List Int} {k off m : Nat} (h : firstZ (bs.drop off) = some m) : framesF bs (k + 1) off = (off, m) :: framesF bs k (off + (m + 12)) := by
  rw [framesF, h]
/-- A frame of the bytes. -/
abbrev Fr (bs : List Int) := { x : Nat × Nat // x.1 + (x.2 + 12) ≤ bs.length ∧ firstZ (bs.drop x.1) = some x.2 }
def shiftA (A : Option Addr) (k : Nat) : Option Addr := A.map fun a => ⟨a.block, a.off + k, none⟩
def frV (A : Option Addr) (c : Nat) {bs : List Int} (x : Fr bs) : Value := .slice (shiftA A x.1.1) (x.1.2 + 12) (c - x.1.1)
theorem shift_cut {A R : Option Addr} {off m : Nat} (h : CutAt A R off m) (hm : 0 < m) (hA : ∃ b o, A = some ⟨b, o, none⟩) : R = shiftA A off := by
  obtain ⟨b, o, rfl⟩ := hA
  rw [h b o rfl hm]; rfl
theorem CutAt.more {A R R' : Option Addr} {off k m m' : Nat} (h : CutAt A R off m) (h' : CutAt R R' k m') (hm : k + m' ≤ m) : CutAt A R' (off + k) m' := fun b o hA h0 => by
  have := h b o hA (by omega)
  have := h' _ _ this h0
  rw [this, Nat.add_assoc]
theorem drop_drop' (bs : List Int) (a b : Nat) : (bs.drop a).drop b = bs.drop (a + b) := by rw [List.drop_drop]
set_option maxRecDepth 100000 in
set_option maxHeartbeats 2000000 in
theorem frames1_in (n : Nat) (hn : 1 ≤ n) (l Bn n₀ : Nat) (A : Option Addr) (len cap : Nat) (bs : List Int) (J Jx : List (Fr bs) → World → Prop)
    (hY : ∀ pre x W, J pre W → pre.length < len + 1 → YieldAt Fence.wide (n - 1) Tryd.prog l #[frV A cap x] W fun e W' =>
      (e = .returned (.bool true) ∧ J (pre ++ [x]) W' ∧ Kept n₀ Bn W W') ∨ (e = .returned (.bool false) ∧ Jx (pre ++ [x]) W'))
    (W : World) (hJ : AbidesFrom W.heap.size J) (hBn : Boxed W Bn 22 (.slice A len cap)) (hB : Bs W n₀ A len bs) (hn₀ : n₀ ≤ W.heap.size) (hlen : len ≤ 100000000) (hcap : len ≤ cap)
    (hF : LaidF W) (hK : LaidK W) (hF0 : 0 < n₀) (hK0 : 1 < n₀) (h0 : J [] W) :
    CallsIn Fence.wide n Tryd.prog 38 #[.func (.yield l) #[] #[], .pointer (some ⟨Bn, 0, none⟩)] W fun e W' => (∃ v, e = .returned v) ∧
      ((∃ ys, ys.map (·.1) = framesZ bs ∧ J ys W') ∨ (∃ pre, (∃ t, pre.map (·.1) ++ t = framesZ bs) ∧ Jx pre W')) := by
  have cB := hBn.cell
  have HL := Lib.hid hB.len
  refine callsIn_of_wp Tryd.func38 rfl trivial ?_ rfl
  simp only [Tryd.ntmps38, List.size_toArray, List.length_cons, List.length_nil, Nat.reduceAdd, Nat.reduceSub, Array.replicate_succ, Array.replicate_zero, List.push_toArray, List.append_toArray, List.nil_append, List.cons_append]
  gi_wp2
  clear cB
  gi_loopw [3] (fun r wr => ∃ (off fuel : Nat) (R : Option Addr) (pre : List (Fr bs)), off ≤ len ∧ r = .slice R (len - off) (cap - off) ∧ Hid (CutAt A R off (len - off)) ∧ Hid (pre.map (·.1) ++ framesF bs fuel off = framesZ bs) ∧ len - off < fuel ∧ pre.length ≤ off ∧ Hid (J pre wr) ∧ Hid (Kept n₀ Bn W wr)) (fun r _ => (match r with | .slice _ m _ => m | _ => 0))
  case atStart =>
    exact ⟨0, len + 1, A, [], by omega, rfl, Lib.hid (fun b o h _ => by rw [h]; rfl), Lib.hid (by show framesF bs (len + 1) 0 = framesF bs (bs.length + 1) 0; rw [HL.out]), by omega, by simp, Lib.hid h0, Lib.hid (Kept.refl _ _ _)⟩
  case round =>
    obtain ⟨wo, hwo⟩ : ∃ wo, wo = wr := ⟨_, rfl⟩
    subst hwo
    obtain ⟨off, fuel, R, pre, hoff, rfl, HC, HP, hfu, hpl, HJ, HK1⟩ := hrel
    have hB1 : Bs wo n₀ A len bs := hB.below HK1.out.1
    have hR : Bs wo n₀ R (len - off) (bs.drop off) := by
      have := hB1.cut (k := off) (m := len - off) (by omega) R HC.out
      rwa [List.take_of_length_le (by rw [List.length_drop, HL.out]; exact Nat.le_refl _)] at this
    have C1 := Lib.hid (first_any (cap - off) hR (Nat.le_trans hn₀ HK1.out.1.size) (by omega) (by omega) (hF.below HK1.out.1 hF0) (hK.below HK1.out.1 hK0))
    have sz1 := HK1.out.1.size
    obtain ⟨fz, hfz⟩ : ∃ fz, firstZ (bs.drop off) = fz := ⟨_, rfl⟩
    rw [hfz] at C1
    cases fz with
    | none =>
      have HP' : Hid (pre.map (·.1) = framesZ bs) := Lib.hid (by have := HP.out; rwa [framesF_no hfz, List.append_nil] at this)
      have HC1 : Hid (Calls Tryd.prog 39 #[.slice R (len - off) (cap - off)] wo fun e w' => e = .returned (.tuple #[.slice none 0 0, .bool false]) ∧ Below wo.heap.size wo w') := C1
      clear hR hB1 C1 hfz HP
      gi_wp2_with (refine ⟨trivial, ?_⟩; gi_at_call 39; refine (callsIn_wide.2 HC1.out).mono ?_; rintro e w1 ⟨rfl, b1⟩)
      have hJ2 : J pre w1 := hJ _ _ _ none HJ.out (below_grown b1) (fun r e => by cases e)
      refine ⟨fun f hf => (by cases hf), ?_⟩
      gi_wp2
      refine bodyPost_ret (results_none rfl _ _ _) rfl ?_
      exact ⟨⟨_, rfl⟩, .inl ⟨pre, HP'.out, hJ2⟩⟩
    | some m =>
      obtain ⟨hfr, hm⟩ := firstZ_some hfz
      have hm12 : m + 12 ≤ len - off := by have := hfr.2.2.1; rw [← hm, List.length_drop, HL.out] at this; exact this
      have hx1 : off + (m + 12) ≤ bs.length := by rw [HL.out]; omega
      obtain ⟨fu', rfl⟩ : ∃ k, fuel = k + 1 := ⟨fuel - 1, by omega⟩
      have HP' : Hid ((pre ++ [⟨(off, m), hx1, hfz⟩] : List (Fr bs)).map (·.1) ++ framesF bs fu' (off + (m + 12)) = framesZ bs) := Lib.hid (by
        have := HP.out; rw [framesF_yes hfz] at this; rw [List.map_append]; simpa using this)
      obtain ⟨b0, o0, hA0, _, _⟩ := hB1.row (by omega)
      have hRS : R = shiftA A off := shift_cut HC.out (by omega) ⟨_, _, hA0⟩
      have HV : Hid (frV A cap (⟨(off, m), hx1, hfz⟩ : Fr bs) = .slice R (m + 12) (cap - off)) := Lib.hid (by rw [hRS]; rfl)
      obtain ⟨R', hs', hcut'⟩ := cut_l R (len - off) (cap - off) (m + 12) ((m : Int) + 12) (by omega) hm12 (by omega)
      have HC' : Hid (CutAt A R' (off + (m + 12)) (len - (off + (m + 12)))) := Lib.hid (by rw [← Nat.sub_sub]; exact HC.out.more hcut' (by omega))
      have HC1 : Hid (Calls Tryd.prog 39 #[.slice R (len - off) (cap - off)] wo fun e w' => e = .returned (.tuple #[.slice R (m + 12) (cap - off), .bool true]) ∧ Below wo.heap.size wo w') := C1
      have HS' := Lib.hid hs'
      clear hR hB1 C1 HP HC hA0 hRS hs' hcut' hm hfr
      gi_wp2_with (first | (refine ⟨trivial, ?_⟩; gi_at_call 39; refine (callsIn_wide.2 HC1.out).mono ?_; rintro e w1 ⟨rfl, b1⟩; have hJ2 : J pre w1 := hJ _ _ _ none HJ.out (below_grown b1) (fun r e => by cases e); obtain ⟨fn, tmps, assign, body, hy, hR⟩ := hY _ (⟨(off, m), hx1, hfz⟩ : Fr bs) w1 hJ2 (by omega); rw [HV.out] at hy))
      have HJ2 := Lib.hid hJ2
      have hk1 : Kept n₀ Bn W w1 := HK1.out.trans ⟨b1.mono (Nat.le_trans hn₀ sz1), b1.block Bn (by have := hBn.lt; omega)⟩
      have HK2 := Lib.hid hk1
      clear hk1 b1 HJ HK1 hJ2 HC1
      refine hR.mono ?_
      clear hR
      rintro e W3 (⟨rfl, hJ3, hk3⟩ | ⟨rfl, hJx3⟩)
      · have HJ3 := Lib.hid hJ3
        have HK3 := Lib.hid (HK2.out.trans hk3)
        have hs' := HS'.out
        clear hJ3 hk3 HK2 HJ2
        gi_wp2
        go_roundw
        case rel => exact ⟨off + (m + 12), fu', R', _, by omega, by rw [Nat.sub_sub, Nat.sub_sub], HC', HP', by omega, by rw [List.length_append]; simp; omega, HJ3, HK3⟩
        case measure => simp; omega
      · gi_wp2
        refine bodyPost_ret (results_none rfl _ _ _) rfl ?_
        exact ⟨⟨_, rfl⟩, .inr ⟨_, ⟨_, HP'.out⟩, hJx3⟩⟩
theorem frames_any (A : Option Addr) (len cap : Nat) (w : World) :
    Calls Tryd.prog 29 #[.slice A len cap] w fun e w' => e = .returned (.func (.func 38) #[] #[.pointer (some ⟨w.heap.size, 0, none⟩)]) ∧ w' = w.alloc (.cells #[.slice A len cap] 22) := by
  go_enter Tryd.func29, Tryd.ntmps29
  go_wp2
  go_ret
  exact ⟨rfl, rfl⟩
theorem frames_stops (n : Nat) (hn : 1 ≤ n) (Bn n₀ : Nat) (A : Option Addr) (len cap : Nat) (bs : List Int) (w : World) (hBn : Boxed w Bn 22 (.slice A len cap)) (hB : Bs w n₀ A len bs) (hn₀ : n₀ ≤ w.heap.size) (hlen : len ≤ 100000000) (hcap : len ≤ cap)
    (hF : LaidF w) (hK : LaidK w) (hF0 : 0 < n₀) (hK0 : 1 < n₀) :
    SeqStopsK Fence.wide n Tryd.prog 38 #[.pointer (some ⟨Bn, 0, none⟩)] (fun x : Fr bs => #[frV A cap x]) (Kept n₀ Bn) (fun ys => ys.map (·.1) = framesZ bs) (fun pre => ∃ t, pre.map (·.1) ++ t = framesZ bs) (len + 1) w := fun l J Jx W hW hJ _ hY h0 => by
  have h1 : Boxed W Bn 22 (.slice A len cap) := (hW.block Bn hBn.lt).trans hBn
  exact frames1_in n hn l Bn n₀ A len cap bs J Jx hY W hJ h1 (hB.belowM hW hn₀) (Nat.le_trans hn₀ hW.size) hlen hcap (hF.below hW (by omega)) (hK.below hW (by omega)) hF0 hK0 h0
end Go.Proofs.YtcihbkdpkhhhcaaDoor
