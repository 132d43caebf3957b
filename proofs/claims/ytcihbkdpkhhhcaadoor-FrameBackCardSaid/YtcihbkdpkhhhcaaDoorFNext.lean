/- The frame with which bytes begin, told. -/
import Derived.Test.YtcihbkdpkhhhcaaDoorFIter
import Derived.Test.YtcihbkdpkhhhcaaDoorBehind
namespace Go.Proofs.YtcihbkdpkhhhcaaDoor
open Go.ChangeShapes Go.WideShapes Go.ChangeAt Go.RowKit Go.Shelf
set_option linter.unusedVariables false
open Plain Sha
attribute [local go_sem] Oper.semAt_some
theorem payloadOf_any {w : World} {B : Nat} {R : Option Addr} {n : Nat} (c : Nat) {fs : List Int} (hz : Bs w B R n fs) (hB : B ≤ w.heap.size) (h12 : 12 ≤ n) (hn : n ≤ 100000000) (hc : n ≤ c) :
    Calls Tryd.prog 30 #[.slice R n c] w (Made w ((fs.drop 4).take (n - 12))) := by
  obtain ⟨p, hp⟩ : ∃ p : Nat, n - 8 = p := ⟨_, rfl⟩
  have gw : IntKind.i64.wrap ((n : Int) - 8) = (p : Int) := by rw [IntKind.wrap_i64]; omega
  obtain ⟨R', hs', hcut⟩ := cut_lh R n c 4 p 4 (p : Int) rfl rfl (by omega) (by omega)
  have hz' := hz.cut (k := 4) (m := p - 4) (by omega) R' hcut
  have HL : Hid (((fs.drop 4).take (p - 4)).length = p - 4) := Lib.hid hz'.len
  have C1 := Lib.hid (cat1_any (w := w) (c - 4) 22 hz' hB (by omega) 1 w.heap.size rfl)
  have HE : Hid (p - 4 = n - 12) := Lib.hid (by omega)
  rw [HE.out] at HL C1 hs'
  have B0 : Hid (Below w.heap.size w (w.alloc (.cells #[.slice R' (n - 12) (c - 4)] 22))) := Lib.hid ((Below.refl _ _).alloc (Nat.le_refl _) _)
  clear hz hz' hcut hp
  go_enter Tryd.func30, Tryd.ntmps30
  go_wp2_with fail
  refine C1.out.mono ?_
  intro e w1 hm1
  obtain ⟨D, d, rfl, ho, hb, h1, h2⟩ := hm1.n HL.out
  have q1 := Lib.hid (B0.out.trans (hb.mono (by simp)))
  have O1 := Lib.hid (own_base ho (show w.heap.size ≤ _ by simp))
  clear hm1 ho hb C1
  go_wp2
  go_ret
  exact made_of HL.out O1.out q1.out
theorem piece_take {ys : List Int} (m : Nat) : ((ys.take (m + 12)).drop 4).take m = (ys.drop 4).take m := by
  rw [List.drop_take, List.take_take, Nat.min_eq_left (by omega)]
theorem fr_bs {W : World} {B n : Nat} {A : Option Addr} {bs : List Int} (h : Bs W B A n bs) (x : Fr bs) : Bs W B (shiftA A x.1.1) (x.1.2 + 12) ((bs.drop x.1.1).take (x.1.2 + 12)) :=
  h.cut (by have := x.2.1; have := h.len; omega) _ (fun b off e _ => by rw [e]; rfl)
theorem framesZ_nil {bs : List Int} (h : [] = framesZ bs) : firstZ bs = none := by
  cases hf : firstZ bs with
  | none => rfl
  | some m =>
    have h2 : firstZ (bs.drop 0) = some m := hf
    unfold framesZ at h
    rw [framesF_yes h2] at h
    cases h
theorem framesZ_cons {bs : List Int} {off m : Nat} {t : List (Nat × Nat)} (h : (off, m) :: t = framesZ bs) : off = 0 ∧ firstZ bs = some m := by
  cases hf : firstZ bs with
  | none =>
    have h2 : firstZ (bs.drop 0) = none := hf
    unfold framesZ at h
    rw [framesF_no h2] at h
    cases h
  | some k =>
    have h2 : firstZ (bs.drop 0) = some k := hf
    unfold framesZ at h
    rw [framesF_yes h2] at h
    injection h with h3 h4
    injection h3 with h5 h6
    exact ⟨h5, by rw [h6]⟩
def NextSays (w : World) (bs : List Int) (e : Ending) (w' : World) : Prop :=
  Below w.heap.size w w' ∧ match firstZ bs with
    | none => e = .returned (.tuple #[.slice none 0 0, .int .i64 0, .int .i64 50])
    | some m => ∃ A c, e = .returned (.tuple #[.slice A m c, .int .i64 ((m : Int) + 12), .int .i64 0]) ∧ w'.ownsRow w.heap.size 5 1 (.slice A m c) m (vals ((bs.drop 4).take m)) ∧ m ≤ c ∧ c ≤ maxLen
theorem box_kept {W W' : World} {row : Option Nat} {B : Nat} {t : TypeId} {v : Value} (h : Boxed W B t v) (hg : W.grownBy W' row) (hr : ∀ r, row = some r → ∃ o : Obj, W.heap[r]? = some o ∧ o.isCells = false) : Boxed W' B t v :=
  h.kept hg (fun e => by
    obtain ⟨o, ho, hc⟩ := hr B e.symm
    rw [show W.heap[B]? = _ from h] at ho; cases ho; cases hc)
theorem row_kept {W W' : World} {row : Option Nat} {base n size : Nat} {t : TypeId} {v : Value} {xs : List Value} (h : W.ownsRow base t size v n xs) (hg : W.grownBy W' row) (hr : ∀ r, row = some r → ∃ o : Obj, W.heap[r]? = some o ∧ o.isCells = false) : W'.ownsRow base t size v n xs := by
  refine h.kept hg ?_
  rcases h.2 with ⟨rfl, _⟩ | ⟨g, cap, cur, rfl, _, hgb, _⟩
  · exact .inl rfl
  · refine .inr (fun e => ?_)
    obtain ⟨o, ho, hc⟩ := hr g e.symm
    rw [hgb] at ho; cases ho; cases hc
set_option maxRecDepth 100000 in
set_option maxHeartbeats 4000000 in
theorem next_any {w : World} {B : Nat} {A : Option Addr} {n : Nat} (c : Nat) {bs : List Int} (hz : Bs w B A n bs) (hB : B ≤ w.heap.size) (hn : n ≤ 100000000) (hc : n ≤ c) (hF : LaidF w) (hK : LaidK w) :
    Calls Tryd.prog 13 #[.slice A n c] w (NextSays w bs) := by
  have HFl := Lib.hid hF.lt
  have HKl := Lib.hid hK.lt
  have HL := Lib.hid hz.len
  refine (callsIn_wide (n := 10)).1 ?_
  refine callsIn_of_wp_marks Tryd.func13 rfl trivial ?_ rfl
  simp only [Tryd.ntmps13, List.size_toArray, List.length_cons, List.length_nil, Nat.reduceAdd, Nat.reduceSub, Array.replicate_succ, Array.replicate_zero, List.push_toArray, List.append_toArray, List.nil_append, List.cons_append]
  gi_wp2_with (refine ⟨trivial, ?_⟩; gi_at_call 29; refine (callsIn_wide.2 (frames_any _ _ _ _)).mono ?_; rintro e w' ⟨rfl, rfl⟩)
  obtain ⟨W0, hW0⟩ : ∃ W0, (((w.alloc (.cells #[.slice none 0 0] 22)).alloc (.cells #[.int .i64 0] 3)).alloc (.cells #[.int .i64 0] 24)).alloc (.cells #[.slice A n c] 22) = W0 := ⟨_, rfl⟩
  have sW : W0.heap.size = w.heap.size + 4 := by rw [← hW0]; simp
  have r2 : Boxed W0 w.heap.size 22 (.slice none 0 0) := by rw [← hW0]; exact (((Boxed.new w _ _).alloc _).alloc _).alloc _
  have r3 : Boxed W0 (w.heap.size + 1) 3 (.int .i64 0) := by
    have := ((Boxed.new (w.alloc (.cells #[.slice none 0 0] 22)) 3 (.int .i64 0)).alloc (.cells #[.int .i64 0] 24)).alloc (.cells #[.slice A n c] 22)
    rw [hW0] at this; simpa using this
  have r4 : Boxed W0 (w.heap.size + 1 + 1) 24 (.int .i64 0) := by
    have := (Boxed.new ((w.alloc (.cells #[.slice none 0 0] 22)).alloc (.cells #[.int .i64 0] 3)) 24 (.int .i64 0)).alloc (.cells #[.slice A n c] 22)
    rw [hW0] at this; simpa using this
  have r5 : Boxed W0 (w.heap.size + 1 + 1 + 1) 22 (.slice A n c) := by
    have := Boxed.new (((w.alloc (.cells #[.slice none 0 0] 22)).alloc (.cells #[.int .i64 0] 3)).alloc (.cells #[.int .i64 0] 24)) 22 (.slice A n c)
    rw [hW0] at this; simpa using this
  have hb : Below w.heap.size w W0 := by
    rw [← hW0]
    exact ((((Below.refl _ _).alloc (Nat.le_refl _) _).alloc (by simp) _).alloc (by simp; omega) _).alloc (by simp; omega) _
  rw [hW0]
  clear hW0
  have hFw := hF.below hb HFl.out
  have hKw := hK.below hb HKl.out
  have hz0 := (hz.more hB).below hb
  refine wpIn_rangeFunc_ownH rfl (by omega) (gf := 38) (lb := #[.pointer (some ⟨w.heap.size + 1 + 1 + 1, 0, none⟩)]) rfl trivial (enters_of Tryd.func38 (by kernel_rfl) rfl)
    (frames_stops (10 - 1) (by omega) (w.heap.size + 1 + 1 + 1) w.heap.size A n c bs W0 r5 hz0 hb.size hn hc hFw hKw HFl.out HKl.out) Kept.trans
    (fun W l o o' hl h ho hw => ⟨belowK_b (w := W0) hb.size W l o o' hl h ho hw, by
      have := r5.lt
      exact World.putObj_heap_other (by omega)⟩) (Below.refl _ _) (fun _ => rfl)
    (fun pre W => (((Boxed W w.heap.size 22 (.slice none 0 0) ∧ Boxed W (w.heap.size + 1) 3 (.int .i64 0) ∧ Boxed W (w.heap.size + 1 + 1) 24 (.int .i64 0)) ∧ pre = []) ∧ w.heap.size + 4 ≤ W.heap.size) ∧ Below w.heap.size w W)
    (fun cd pre W => ((∃ x, pre = [x] ∧ cd = .ret ∧ ∃ A' c', Boxed W w.heap.size 22 (.slice A' x.1.2 c') ∧ Boxed W (w.heap.size + 1) 3 (.int .i64 ((x.1.2 : Int) + 12)) ∧ Boxed W (w.heap.size + 1 + 1) 24 (.int .i64 0) ∧
      W.ownsRow w.heap.size 5 1 (.slice A' x.1.2 c') x.1.2 (vals (((bs.drop x.1.1).drop 4).take x.1.2)) ∧ x.1.2 ≤ c' ∧ c' ≤ maxLen) ∧ w.heap.size + 4 ≤ W.heap.size) ∧ Below w.heap.size w W)
    (OwnFrom.and (Own.from (fun s X Y row hs hg hr => ⟨⟨⟨box_kept hs.1.1.1 hg hr, box_kept hs.1.1.2.1 hg hr, box_kept hs.1.1.2.2 hg hr⟩, hs.1.2⟩, Nat.le_trans hs.2 hg.size⟩) _) (ownFrom_below (Nat.le_refl _) (by omega)))
    (fun cd => OwnFrom.and (Own.from (fun s X Y row hs hg hr => by
      obtain ⟨⟨x, h1, h2, A', c', b1, b2, b3, h3, h4, h5⟩, h6⟩ := hs
      exact ⟨⟨x, h1, h2, A', c', box_kept b1 hg hr, box_kept b2 hg hr, box_kept b3 hg hr, row_kept h3 hg hr, h4, h5⟩, Nat.le_trans h6 hg.size⟩) _) (ownFrom_below (Nat.le_refl _) (by omega)))
    ⟨⟨⟨⟨r2, r3, r4⟩, rfl⟩, by omega⟩, hb⟩
    (fun x a' W => a' = { tmps := #[.slice A n c, undef, .pointer (some ⟨w.heap.size, 0, none⟩), .pointer (some ⟨w.heap.size + 1, 0, none⟩), .pointer (some ⟨w.heap.size + 1 + 1, 0, none⟩), frV A c x, .slice A n c, .func (.func 38) #[] #[.pointer (some ⟨w.heap.size + 1 + 1 + 1, 0, none⟩)], frV A c x, undef, undef, undef, undef], defers := [] })
    (fun x a' _ X Y row hs hg hr => hs)
    ?assign ?body ?done ?stop
  case assign =>
    rintro l pre x W K hi hK
    have HKK := Lib.hid hK
    clear hK
    gi_wp2
    exact HKK.out _ _ (KeepsFrom.refl _ _) (Kept.refl _ _ _) hi rfl
  case body =>
    rintro l pre x a' W hl ⟨r, hr⟩ ⟨⟨⟨⟨q2, q3, q4⟩, rfl⟩, hsz⟩, hB1⟩ rfl hlt
    have hzW := (hz.more hB).below hB1
    have z1 := fr_bs hzW x
    obtain ⟨⟨off, m⟩, hx1, hxf⟩ := x
    have hx2 : off + (m + 12) ≤ n := by have := HL.out; dsimp only at hx1; omega
    have C1 := Lib.hid (CallsIn.inRound l (callsIn_wide (n := 10 - 1 - 1 - 1) |>.2 (payloadOf_any (c - off) z1 hB1.size (by dsimp only; omega) (by dsimp only; omega) (by dsimp only; omega))))
    have HX : Hid ((((bs.drop off).take (m + 12)).drop 4).take (m + 12 - 12) = ((bs.drop off).drop 4).take m) := Lib.hid (by rw [Nat.add_sub_cancel]; exact piece_take m)
    have LX : Hid ((((bs.drop off).drop 4).take m).length = m) := Lib.hid (by rw [List.length_take, List.length_drop, List.length_drop]; dsimp only at hx1; omega)
    dsimp only at C1
    rw [HX.out] at C1
    clear hzW HX z1
    simp only [frV]
    obtain ⟨R, hR⟩ : ∃ R, shiftA A off = R := ⟨_, rfl⟩
    obtain ⟨cc, hcc⟩ : ∃ cc, c - off = cc := ⟨_, rfl⟩
    rw [hR, hcc] at C1
    rw [hR, hcc]
    obtain ⟨Z, hZ⟩ : ∃ Z, ((bs.drop off).drop 4).take m = Z := ⟨_, rfl⟩
    rw [hZ] at C1 LX
    have HZ := Lib.hid hZ
    clear hR hcc hZ
    gi_wp2_with (refine ⟨trivial, ?_⟩; refine C1.out.mono ?_; intro e W1 hm1; obtain ⟨D, d, rfl, ho, b1, h4, h5⟩ := hm1.n LX.out; have e2 : Boxed W1 w.heap.size 22 (.slice none 0 0) := (b1.block _ (by omega)).trans q2; have e3 : Boxed W1 (w.heap.size + 1) 3 (.int .i64 0) := (b1.block _ (by omega)).trans q3; have e4 : Boxed W1 (w.heap.size + 1 + 1) 24 (.int .i64 0) := (b1.block _ (by omega)).trans q4; have c2 := e2.cell; have c3 := e3.cell; have c4 := e4.cell; have f2 := e2.frozen; have f3 := e3.frozen; have f4 := e4.frozen)
    refine ⟨?_, ⟨⟨⟨(off, m), hx1, hxf⟩, rfl, rfl, D, d, ?_, ?_, ?_, ?_, h4, h5⟩, ?_⟩, ?_⟩
    · exact ((keeps_below b1).trans (((KeepsOthers.setCell _ _ _).trans (KeepsOthers.setCell _ _ _)).trans (KeepsOthers.setCell _ _ _))).from _
    · exact ((e2.set _).other (by omega) _).other (by omega) _
    · exact ((e3.other (by omega) _).set _).other (by omega) _
    · exact ((e4.other (by omega) _).other (by omega) _).set _
    · dsimp only
      rw [HZ.out]
      exact own_base (ownsRow_setCell_below (ownsRow_setCell_below (ownsRow_setCell_below ho (by show w.heap.size < _; omega) _) (by show w.heap.size + 1 < _; omega) _) (by show w.heap.size + 1 + 1 < _; omega) _) hB1.size
    · have := b1.size; simp; omega
    · exact (((hB1.trans (b1.mono hB1.size)).setCell (Nat.le_refl _) _).setCell (p := ⟨w.heap.size + 1, 0, none⟩) (by show w.heap.size ≤ w.heap.size + 1; omega) _).setCell (p := ⟨w.heap.size + 1 + 1, 0, none⟩) (by show w.heap.size ≤ w.heap.size + 1 + 1; omega) _
  case done =>
    rintro D ys W hD hys ⟨⟨⟨⟨q2, q3, q4⟩, rfl⟩, hsz⟩, hB1⟩ hD2
    have hn1 := framesZ_nil (bs := bs) (by simpa using hys)
    have c2 := q2.cell
    have c3 := q3.cell
    have c4 := q4.cell
    have f2 := q2.frozen
    have f3 := q3.frozen
    have f4 := q4.frozen
    gi_wp2
    have hD6 := (((KeepsOthers.setCell W ⟨w.heap.size, 0, none⟩ (.slice none 0 0)).trans (KeepsOthers.setCell _ ⟨w.heap.size + 1, 0, none⟩ (.int .i64 0))).trans (KeepsOthers.setCell _ ⟨w.heap.size + 1 + 1, 0, none⟩ (.int .i64 50))).same D _ hD2 rfl
    refine ⟨by simp, .inl ⟨_, _, rfl, run_takeDeferred hD6, ?_⟩⟩
    have hg := fun (W' : World) (h6 : W'.heap[D]? = some (.deferred (some []))) => (fun r (e : some D = some r) => (by cases e; exact ⟨_, h6, rfl⟩ : ∃ o : Obj, W'.heap[r]? = some o ∧ o.isCells = false))
    have e2 := ((q2.set (.slice none 0 0)).other (show w.heap.size ≠ w.heap.size + 1 by omega) (.int .i64 0)).other (show w.heap.size ≠ w.heap.size + 1 + 1 by omega) (.int .i64 50)
    have e3 := ((q3.other (show w.heap.size + 1 ≠ w.heap.size by omega) (.slice none 0 0)).set (.int .i64 0)).other (show w.heap.size + 1 ≠ w.heap.size + 1 + 1 by omega) (.int .i64 50)
    have e4 := ((q4.other (show w.heap.size + 1 + 1 ≠ w.heap.size by omega) (.slice none 0 0)).other (show w.heap.size + 1 + 1 ≠ w.heap.size + 1 by omega) (.int .i64 0)).set (.int .i64 50)
    have g2 := (box_kept e2 (grownBy_putObj' _ D (.deferred none)) (hg _ hD6)).cell
    have g3 := (box_kept e3 (grownBy_putObj' _ D (.deferred none)) (hg _ hD6)).cell
    have g4 := (box_kept e4 (grownBy_putObj' _ D (.deferred none)) (hg _ hD6)).cell
    refine ⟨.tuple #[.slice none 0 0, .int .i64 0, .int .i64 50], ?_, ?_, ?_⟩
    · simp [results, Tryd.f13, go_sem, g2, g3, g4]
    · exact (((hB1.setCell (Nat.le_refl _) _).setCell (p := ⟨w.heap.size + 1, 0, none⟩) (by show w.heap.size ≤ w.heap.size + 1; omega) _).setCell (p := ⟨w.heap.size + 1 + 1, 0, none⟩) (by show w.heap.size ≤ w.heap.size + 1 + 1; omega) _).trans (belowK_b (w := w) (Nat.le_refl _) _ D _ _ (by omega) hD6 rfl rfl)
    · rw [hn1]
  case stop =>
    rintro D cd pre W hD ⟨t, ht⟩ ⟨⟨⟨x, rfl, rfl, A', c', q2, q3, q4, ho, h4, h5⟩, hsz⟩, hB1⟩ hD2
    obtain ⟨⟨off, m⟩, hx1, hxf⟩ := x
    obtain ⟨rfl, hn1⟩ := framesZ_cons (bs := bs) (by simpa using ht)
    gi_wp2
    refine ⟨by simp, .inl ⟨_, _, rfl, run_takeDeferred hD2, ?_⟩⟩
    have hg := (fun r (e : some D = some r) => (by cases e; exact ⟨_, hD2, rfl⟩ : ∃ o : Obj, W.heap[r]? = some o ∧ o.isCells = false))
    have g2 := (box_kept q2 (grownBy_putObj' _ D (.deferred none)) hg).cell
    have g3 := (box_kept q3 (grownBy_putObj' _ D (.deferred none)) hg).cell
    have g4 := (box_kept q4 (grownBy_putObj' _ D (.deferred none)) hg).cell
    refine ⟨.tuple #[.slice A' m c', .int .i64 ((m : Int) + 12), .int .i64 0], ?_, ?_, ?_⟩
    · simp [results, Tryd.f13, go_sem, g2, g3, g4]
    · exact hB1.trans (belowK_b (w := w) (Nat.le_refl _) _ D _ _ (by omega) hD2 rfl rfl)
    · rw [hn1]
      exact ⟨A', c', rfl, row_kept ho (grownBy_putObj' _ D (.deferred none)) hg, h4, h5⟩
end Go.Proofs.YtcihbkdpkhhhcaaDoor
