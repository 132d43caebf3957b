/- What stands behind all blocks of some bytes. -/
import Derived.Test.YtcihbkdpkhhhcaaDoorBlocks
import Derived.Test.YtcihbkdpkhhhcaaDoorRow8
namespace Go.Proofs.YtcihbkdpkhhhcaaDoor
open Go.ChangeShapes Go.WideShapes Go.ChangeAt Go.RowKit Go.Shelf
set_option linter.unusedVariables false
open Plain Sha
attribute [local go_sem] Oper.semAt_some
theorem Row32.kept {W W' : World} {row : Option Nat} {b : Nat} {l : List Nat} (h : Row32 W b l) (hg : W.grownBy W' row) (hr : ∀ r, row = some r → ∃ o : Obj, W.heap[r]? = some o ∧ o.isCells = false) : Row32 W' b l :=
  ⟨fun j hj => cell_kept (h.cells j hj) hg hr, fun j hj => (frozen_kept (h.cells j hj) hg hr).trans (h.free j hj)⟩
theorem row32_own {β : Type} (b : Nat) (f : β → List Nat) : Go.Own (fun s W => Row32 W b (f s)) := fun s X Y row hs hg hr => hs.kept hg hr
def accB (v : H8) (pre : List Blk) : H8 := pre.foldl (fun v x => blk v x.1) v
theorem accB_snoc (v : H8) (pre : List Blk) (x : Blk) : accB v (pre ++ [x]) = blk (accB v pre) x.1 := by simp [accB]
theorem accB_upto (v : H8) (bs : List Int) (hb : IsBytes bs) : ∀ k, accB v (upto (blkAt bs hb) k) = behindTo v bs k
  | 0 => rfl
  | k + 1 => by rw [upto_succ, accB_snoc, accB_upto v bs hb k]; rfl
theorem accB_ok {v : H8} (h : v.ok) (pre : List Blk) : (accB v pre).ok := by
  rcases pre.eq_nil_or_concat with rfl | ⟨l, x, rfl⟩
  · exact h
  · rw [List.concat_eq_append, accB_snoc]; exact blk_ok _ _
theorem H8.len (v : H8) : v.list.length = 8 := rfl
theorem keeps_below {W W' : World} (h : Below W.heap.size W W') : KeepsOthers W W' := ⟨h.size, fun k o hk _ => (h.block k (Array.getElem?_eq_some_iff.1 hk).1).trans hk⟩
theorem keeps_setCells (b : Nat) : ∀ (vs : List Value) (o : Nat) (w : World), KeepsOthers w (w.setCells b o vs)
  | [], _, w => KeepsOthers.refl w
  | v :: r, o, w => by rw [World.setCells]; exact (KeepsOthers.setCell w ⟨b, o, none⟩ v).trans (keeps_setCells b r (o + 1) _)
set_option maxRecDepth 100000 in
set_option maxHeartbeats 4000000 in
theorem behind_any (v : H8) (hv : v.ok) {B : Nat} {A : Option Addr} {n : Nat} (c : Nat) {bs : List Int} {w : World} (hB : Bs w B A n bs) (hBw : B ≤ w.heap.size) (hn : n ≤ 140737488355328) (hK : LaidK w) :
    Calls Tryd.prog 44 #[.agg (u32s v.list).toArray, .slice A n c] w fun e w' => e = .returned (.agg (u32s (behind v bs).list).toArray) ∧ Below w.heap.size w w' := by
  have hbs := hB.isBytes
  have HN := Lib.hid hB.len
  have HKL := Lib.hid hK.lt
  refine (callsIn_wide (n := 10)).1 ?_
  refine callsIn_of_wp_marks Tryd.func44 rfl trivial ?_ rfl
  simp only [Tryd.ntmps44, List.size_toArray, List.length_cons, List.length_nil, Nat.reduceAdd, Nat.reduceSub, Array.replicate_succ, Array.replicate_zero, List.push_toArray, List.append_toArray, List.nil_append, List.cons_append]
  gi_wp2_with (refine ⟨trivial, ?_⟩; gi_at_call 48; refine (callsIn_wide.2 (blocks_any _ _ _ _)).mono ?_; rintro e w' ⟨rfl, rfl⟩)
  have r0 : Row32 (((w.alloc (.cells (u32s v.list).toArray 73)).alloc (.cells (u32s (List.replicate 8 0)).toArray 73)).alloc (.cells #[.slice A n c] 22)) w.heap.size v.list :=
    ((Row32.new w v.list 73).alloc (by simp [H8.list]) _).alloc (by simp [H8.list]) _
  have r1 : Row32 (((w.alloc (.cells (u32s v.list).toArray 73)).alloc (.cells (u32s (List.replicate 8 0)).toArray 73)).alloc (.cells #[.slice A n c] 22)) (w.heap.size + 1) (List.replicate 8 0) := by
    have := (Row32.new (w.alloc (.cells (u32s v.list).toArray 73)) (List.replicate 8 0) 73).alloc (by simp) (.cells #[.slice A n c] 22)
    simpa using this
  have r2 : Boxed (((w.alloc (.cells (u32s v.list).toArray 73)).alloc (.cells (u32s (List.replicate 8 0)).toArray 73)).alloc (.cells #[.slice A n c] 22)) (w.heap.size + 1 + 1) 22 (.slice A n c) := by
    have := Boxed.new ((w.alloc (.cells (u32s v.list).toArray 73)).alloc (.cells (u32s (List.replicate 8 0)).toArray 73)) 22 (.slice A n c)
    simpa using this
  have hb : Below w.heap.size w (((w.alloc (.cells (u32s v.list).toArray 73)).alloc (.cells (u32s (List.replicate 8 0)).toArray 73)).alloc (.cells #[.slice A n c] 22)) :=
    (((Below.refl _ _).alloc (Nat.le_refl _) _).alloc (by simp) _).alloc (by simp; omega) _
  refine (show ∀ W0 : World, Row32 W0 w.heap.size v.list → Row32 W0 (w.heap.size + 1) (List.replicate 8 0) → Boxed W0 (w.heap.size + 1 + 1) 22 (.slice A n c) → Below w.heap.size w W0 → W0.heap.size = w.heap.size + 3 → Code.wpIn Fence.wide 10 Tryd.prog _ _ _ W0 from ?_) _ r0 r1 r2 hb (by simp)
  clear r0 r1 r2 hb
  intro W0 r0 r1 r2 hb hs
  have HI8 : ∀ v : H8, (Tryd.prog.info? 73).map (·.size) = some (u32s v.list).length := fun v => by rw [u32s_len, H8.len]; kernel_rfl
  have HI16 : ∀ l : List Nat, l.length = 16 → (Tryd.prog.info? 83).map (·.size) = some (u32s l).length := fun l h => by rw [u32s_len, h]; kernel_rfl
  have I8 := Lib.hid HI8
  have I16 := Lib.hid HI16
  clear HI8 HI16
  refine wpIn_rangeFunc_ownH rfl (by omega) (gf := 51) (lb := #[.pointer (some ⟨w.heap.size + 1 + 1, 0, none⟩)]) rfl trivial (enters_of Tryd.func51 (by kernel_rfl) rfl)
    (blocks_stops (10 - 1) (by omega) (w.heap.size + 1 + 1) w.heap.size A n c bs hbs W0 r2 ((hB.more hBw).below hb) hb.size hn) Kept.trans
    (fun W l o o' hl h ho hw => ⟨belowK_b (w := W0) hb.size W l o o' hl h ho hw, by
      have := r2.lt
      exact World.putObj_heap_other (by omega)⟩) (Below.refl _ _) (fun _ => rfl)
    (fun pre W => ((Row32 W w.heap.size (accB v pre).list ∧ Row32 W (w.heap.size + 1) (List.replicate 8 0)) ∧ w.heap.size + 3 ≤ W.heap.size) ∧ Below w.heap.size w W)
    (fun _ _ _ => False)
    (OwnFrom.and (Own.from (fun s X Y row hs hg hr => ⟨⟨hs.1.1.kept hg hr, hs.1.2.kept hg hr⟩, Nat.le_trans hs.2 hg.size⟩) _) (ownFrom_below (Nat.le_refl _) (by omega)))
    (fun _ _ _ _ _ hs _ _ => hs)
    ⟨⟨⟨r0, r1⟩, by omega⟩, hb⟩
    (fun x a' W => ∃ Bx, w.heap.size + 1 + 1 < Bx ∧ Row32 W Bx x.1 ∧ a' = { tmps := #[.agg (u32s v.list).toArray, .slice A n c, .pointer (some ⟨w.heap.size, 0, none⟩), undef, .pointer (some ⟨w.heap.size + 1, 0, none⟩), .pointer (some ⟨Bx, 0, none⟩), .slice A n c, .func (.func 51) #[] #[.pointer (some ⟨w.heap.size + 1 + 1, 0, none⟩)], .agg (u32s x.1).toArray, undef, undef, undef, undef], defers := [] })
    (fun x a' _ X Y row hs hg hr => by obtain ⟨Bx, h1, h2, h3⟩ := hs; exact ⟨Bx, h1, h2.kept hg (fun r e => (hr r e).2), h3⟩)
    ?assign ?body ?done ?stop
  case assign =>
    rintro l pre x W K ⟨⟨⟨p0, p1⟩, hsz⟩, hB1⟩ hK
    have hw0 := hB1.size
    have hx16 := x.2.1
    have z16 := Row32.new W (List.replicate 16 0) 83
    have T16 := Lib.hid (z16.thereFor (r := x.1) (by rw [hx16]; simp))
    have P0 := Lib.hid p0
    have P1 := Lib.hid p1
    have HX := Lib.hid hx16
    have HKK := Lib.hid hK
    clear z16 p0 p1 hK hx16
    gi_wp2_with (refine wpListIn_store_as (o := ⟨none, .store 83 (.tmp 5) (.tmp 8), _, _, _, _⟩) rfl 83 (.tmp 5) (.tmp 8) rfl W.heap.size 0 (u32s x.1).toArray rfl rfl T16.out (I16.out _ HX.out) (u32s_all _) ?_; intro w4 hw4)
    have b4 : Below W.heap.size W w4 := by rw [hw4.out]; exact below_setCells (Nat.le_refl _) _ _ _ ((Below.refl _ _).alloc (Nat.le_refl _) _)
    have R4 : Row32 w4 W.heap.size x.1 := by rw [hw4.out]; exact (Row32.new W (List.replicate 16 0) 83).store (by rw [HX.out]; simp)
    exact HKK.out _ _ ((keeps_below b4).from _) ⟨b4.mono hw0, b4.block _ (by omega)⟩ ⟨⟨⟨P0.out.below b4 (by omega), P1.out.below b4 (by omega)⟩, Nat.le_trans hsz b4.size⟩, hB1.trans (b4.mono hw0)⟩ ⟨W.heap.size, by omega, R4, rfl⟩
  case body =>
    rintro l pre x a' W hl ⟨r, hr⟩ ⟨⟨⟨p0, p1⟩, hsz⟩, hB1⟩ ⟨Bx, hBx, pX, rfl⟩ hlt
    have hw0 := hB1.size
    have hx16 := x.2.1
    have T8 := Lib.hid (p0.thereFor (r := (blk (accB v pre) x.1).list) (by rw [H8.len, H8.len]))
    have P0 := Lib.hid p0
    have P1 := Lib.hid p1
    have PX := Lib.hid pX
    have HX := Lib.hid hx16
    have HXW := Lib.hid x.2.2
    have KW := Lib.hid (hK.below hB1 HKL.out)
    have AO := Lib.hid (accB_ok hv pre)
    clear p0 p1 pX hx16
    gi_wp2_with (first
      | (refine wpListIn_load_mid (o := ⟨some 9, _, _, _, _, _⟩) rfl 73 (.tmp 2) rfl w.heap.size 0 rfl (u32s (accB v pre).list) _ P0.out.range Tryd.underlying73 rfl (I8.out _) ?_)
      | (refine wpListIn_load_mid (o := ⟨some 10, _, _, _, _, _⟩) rfl 83 (.tmp 5) rfl Bx 0 rfl (u32s x.1) _ PX.out.range Tryd.underlying83 rfl (I16.out _ HX.out) ?_))
    refine ⟨trivial, ?_⟩
    refine (CallsIn.inRound l (callsIn_wide.2 (block_any (accB v pre) AO.out x.1 HX.out HXW.out W KW.out))).mono ?_
    rintro e w5 ⟨rfl, hb5⟩
    have q0 := P0.out.below hb5 (by omega)
    have q1 := P1.out.below hb5 (by omega)
    have T85 := Lib.hid (q0.thereFor (r := (blk (accB v pre) x.1).list) (by rw [H8.len, H8.len]))
    have Q0 := Lib.hid q0
    have Q1 := Lib.hid q1
    clear q0 q1 T8 P0 P1 PX
    gi_wp2_with (refine wpListIn_store_as (o := ⟨none, .store 73 (.tmp 2) (.tmp 11), _, _, _, _⟩) rfl 73 (.tmp 2) (.tmp 11) rfl w.heap.size 0 (u32s (blk (accB v pre) x.1).list).toArray rfl rfl T85.out (I8.out _) (u32s_all _) ?_; intro w6 hw6)
    have R6 : Row32 w6 w.heap.size (accB v (pre ++ [x])).list := by rw [hw6.out, accB_snoc]; exact Q0.out.store (by rw [H8.len, H8.len])
    have S6 : Row32 w6 (w.heap.size + 1) (List.replicate 8 0) := by rw [hw6.out]; exact Q1.out.storeOther _ _ _ (by omega)
    have b6 : Below w.heap.size W w6 := by rw [hw6.out]; exact below_setCells (Nat.le_refl _) _ _ _ (hb5.mono hw0)
    have e6 : w6.heap[w.heap.size + 1 + 1]? = W.heap[w.heap.size + 1 + 1]? := by rw [hw6.out, heap_setCells _ _ (by omega)]; exact hb5.block _ (by omega)
    have k6 : KeepsOthers W w6 := by rw [hw6.out]; exact (keeps_below hb5).trans (keeps_setCells _ _ _ _)
    exact ⟨k6.from _, ⟨b6, e6⟩, ⟨⟨R6, S6⟩, Nat.le_trans hsz b6.size⟩, hB1.trans b6⟩
  case done =>
    rintro D ys W hD rfl ⟨⟨⟨p0, p1⟩, hsz⟩, hB1⟩ hD2
    have hf : accB v (upto (blkAt bs hbs) (n / 64)) = behind v bs := by rw [accB_upto]; unfold behind; rw [HN.out]
    rw [hf] at p0
    have T8 := Lib.hid (p1.thereFor (r := (behind v bs).list) (by rw [H8.len]; simp))
    have P0 := Lib.hid p0
    have P1 := Lib.hid p1
    have HD := Lib.hid hD2
    clear p0 p1 hf hD2
    gi_wp2_with (first
      | (refine wpListIn_load_mid (o := ⟨some 12, _, _, _, _, _⟩) rfl 73 (.tmp 2) rfl w.heap.size 0 rfl (u32s (behind v bs).list) _ P0.out.range Tryd.underlying73 rfl (I8.out _) ?_)
      | (refine wpListIn_store_as (o := ⟨none, .store 73 (.tmp 4) (.tmp 12), _, _, _, _⟩) rfl 73 (.tmp 4) (.tmp 12) rfl (w.heap.size + 1) 0 (u32s (behind v bs).list).toArray rfl rfl T8.out (I8.out _) (u32s_all _) ?_; intro w6 hw6))
    have R6 : Row32 w6 (w.heap.size + 1) (behind v bs).list := by rw [hw6.out]; exact P1.out.store (by rw [H8.len]; simp)
    have b6 : Below w.heap.size w w6 := by rw [hw6.out]; exact below_setCells (by omega) _ _ _ hB1
    have hD6 : w6.heap[D]? = some (.deferred (some [])) := by rw [hw6.out, heap_setCells _ _ (by omega)]; exact HD.out
    refine ⟨by simp, .inl ⟨_, _, rfl, run_takeDeferred hD6, ?_⟩⟩
    have R7 := R6.kept (grownBy_putObj' _ D (.deferred none)) (fun r e => by cases e; exact ⟨_, hD6, rfl⟩)
    exact ⟨_, results_mid (p := 4) (ty := 73) rfl _ _ (w.heap.size + 1) 0 (u32s (behind v bs).list) _ rfl R7.range Tryd.underlying73 rfl (I8.out _), rfl, b6.trans (belowK_b (w := w) (Nat.le_refl _) _ D _ _ (by omega) hD6 rfl rfl)⟩
  case stop =>
    rintro D c pre W _ _ h _
    exact h.elim
end Go.Proofs.YtcihbkdpkhhhcaaDoor
