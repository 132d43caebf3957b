/- All frames with which bytes begin, told. -/
import Derived.Test.YtcihbkdpkhhhcaaDoorFNext
import Derived.Test.YtcihbkdpkhhhcaaDoorRound
namespace Go.Proofs.YtcihbkdpkhhhcaaDoor
open Go.ChangeShapes Go.WideShapes Go.ChangeAt Go.RowKit Go.Shelf
set_option linter.unusedVariables false
open Plain Sha
attribute [local go_sem] Oper.semAt_some
/-- A list of bytes that somebody holds. -/
structure Piece where
  A : Option Addr
  n : Nat
  c : Nat
  zs : List Int
def pv (p : Piece) : Value := .slice p.A p.n p.c
structure PieceOk (W : World) (base : Nat) (p : Piece) : Prop where
  len : p.zs.length = p.n
  bytes : IsBytes p.zs
  own : W.ownsRow base 5 1 (.slice p.A p.n p.c) p.n (vals p.zs)
  cap : p.n ≤ p.c
  max : p.c ≤ maxLen
def payZ (bs : List Int) (x : Nat × Nat) : List Int := ((bs.drop x.1).drop 4).take x.2
def useZ (l : List (Nat × Nat)) : Nat := (l.map fun x => x.2 + 12).sum
theorem useZ_snoc (l : List (Nat × Nat)) (x : Nat × Nat) : useZ (l ++ [x]) = useZ l + (x.2 + 12) := by simp [useZ]
theorem useZ_le {bs : List Int} : ∀ pre : List (Fr bs), useZ (pre.map (·.1)) ≤ pre.length * bs.length
  | [] => by simp [useZ]
  | x :: pre => by
    have := useZ_le pre
    have := x.2.1
    simp only [useZ, List.map_cons, List.sum_cons, List.length_cons, Nat.succ_mul] at *
    omega
theorem PieceOk.kept {W W' : World} {base : Nat} {p : Piece} {row : Option Nat} (h : PieceOk W base p) (hg : W.grownBy W' row) (hr : ∀ r, row = some r → ∃ o : Obj, W.heap[r]? = some o ∧ o.isCells = false) : PieceOk W' base p :=
  ⟨h.len, h.bytes, row_kept h.own hg hr, h.cap, h.max⟩
theorem PieceOk.below {W W' : World} {base B : Nat} {p : Piece} (h : PieceOk W base p) (hb : Below B W W') (hB : W.heap.size ≤ B) : PieceOk W' base p :=
  ⟨h.len, h.bytes, own_below h.own hb hB, h.cap, h.max⟩
theorem slice_row : (Tryd.prog.info? 22).map (fun i => (i.zero, i.size, i.bytes)) = some (some (.slice none 0 0), 1, 24) := by kernel_rfl
def AllSays (w : World) (bs : List Int) (e : Ending) (w' : World) : Prop :=
  Below w.heap.size w w' ∧ ∃ (v : Value) (ps : List Piece), e = .returned (.tuple #[v, .int .i64 ((useZ (framesZ bs) : Nat) : Int)]) ∧ w'.ownsRow w.heap.size 22 1 v ps.length (ps.map pv) ∧ (∀ p ∈ ps, PieceOk w' w.heap.size p) ∧ ps.map (·.zs) = (framesZ bs).map (payZ bs)
/-- Between two rounds. -/
def AllI (w : World) (bs : List Int) (pre : List (Fr bs)) (W : World) : Prop :=
  ((∃ (v : Value) (ps : List Piece), Boxed W w.heap.size 33 v ∧ Boxed W (w.heap.size + 1) 3 (.int .i64 ((useZ (pre.map (·.1)) : Nat) : Int)) ∧ W.ownsRow (w.heap.size + 3) 22 1 v ps.length (ps.map pv) ∧ (∀ p ∈ ps, PieceOk W (w.heap.size + 3) p) ∧ ps.map (·.zs) = pre.map (fun x => payZ bs x.1)) ∧ w.heap.size + 3 ≤ W.heap.size) ∧ Below w.heap.size w W
theorem allI_own (w : World) (bs : List Int) (B : Nat) (hB : w.heap.size ≤ B) : OwnFrom B (AllI w bs) :=
  OwnFrom.and (Own.from (fun s X Y row hs hg hr => by
    obtain ⟨⟨v, ps, b1, b2, h1, h2, h3⟩, h4⟩ := hs
    exact ⟨⟨v, ps, box_kept b1 hg hr, box_kept b2 hg hr, row_kept h1 hg hr, fun p hp => (h2 p hp).kept hg hr, h3⟩, Nat.le_trans h4 hg.size⟩) _) (ownFrom_below (Nat.le_refl _) hB)
theorem own_kind {W : World} {b n s : Nat} {t : TypeId} {v : Value} {xs : List Value} (h : W.ownsRow b t s v n xs) : ∀ g, v.ownBlock = some g → ∃ c fz, W.heap[g]? = some (.cells c t fz) := by
  intro g hg
  rcases h.2 with ⟨rfl, _⟩ | ⟨g', cap, cur, rfl, _, hgb, _⟩
  · cases hg
  · injection hg with hg
    subst hg
    exact ⟨_, _, hgb⟩
theorem kinds_apart {W : World} {b1 b2 n1 n2 s1 s2 : Nat} {v1 v2 : Value} {xs1 xs2 : List Value} (h1 : W.ownsRow b1 5 s1 v1 n1 xs1) (h2 : W.ownsRow b2 22 s2 v2 n2 xs2) : v1.ownBlock = none ∨ v1.ownBlock ≠ v2.ownBlock := by
  cases ho : v1.ownBlock with
  | none => exact .inl rfl
  | some g =>
    refine .inr (fun e => ?_)
    obtain ⟨c1, f1, e1⟩ := own_kind h1 g ho
    obtain ⟨c2, f2, e2⟩ := own_kind h2 g e.symm
    rw [e1] at e2
    injection e2 with e2
    injection e2 with _ e2
    exact absurd e2 (by decide)
theorem all_tail {w W W1 w3 : World} {bs : List Int} {pre : List (Fr bs)} {x : Fr bs} {v : Value} {ps : List Piece} {D : Option Addr} {d g cap m U : Nat} {Z : List Int} (B0 : Nat)
    (hB1 : Below w.heap.size w W) (hsz : w.heap.size + 3 ≤ W.heap.size) (hown : W.ownsRow (w.heap.size + 3) 22 1 v ps.length (ps.map pv)) (hps : ∀ p ∈ ps, PieceOk W (w.heap.size + 3) p)
    (LX : Z.length = m) (BX : IsBytes Z) (ho : W1.ownsRow W.heap.size 5 1 (.slice D m d) m (vals Z)) (b1 : Below W.heap.size W W1) (h4 : m ≤ d) (h5 : d ≤ maxLen)
    (ho3 : w3.ownsRow (w.heap.size + 3) 22 1 (.slice (some ⟨g, 0, none⟩) (ps.length + 1) cap) (ps.length + 1) (ps.map pv ++ [.slice D m d]))
    (hg3 : (W1.alloc (.cells #[.slice D m d] 22)).grownBy w3 v.ownBlock) (e3 : Boxed w3 w.heap.size 33 v) (q3 : Boxed W (w.heap.size + 1) 3 (.int .i64 (U : Int)))
    (hZS : ∀ p : Piece, p.zs = Z → (ps ++ [p]).map (·.zs) = (pre ++ [x]).map (fun x => payZ bs x.1)) (hU : ((U : Int) + ((m : Int) + 12)) = ((useZ ((pre ++ [x]).map (·.1)) : Nat) : Int)) :
    KeepsFrom B0 W ((w3.setCell ⟨w.heap.size, 0, none⟩ (.slice (some ⟨g, 0, none⟩) (ps.length + 1) cap)).setCell ⟨w.heap.size + 1, 0, none⟩ (.int .i64 ((U : Int) + ((m : Int) + 12)))) ∧
    Kept w.heap.size (w.heap.size + 1 + 1) W ((w3.setCell ⟨w.heap.size, 0, none⟩ (.slice (some ⟨g, 0, none⟩) (ps.length + 1) cap)).setCell ⟨w.heap.size + 1, 0, none⟩ (.int .i64 ((U : Int) + ((m : Int) + 12)))) ∧
    AllI w bs (pre ++ [x]) ((w3.setCell ⟨w.heap.size, 0, none⟩ (.slice (some ⟨g, 0, none⟩) (ps.length + 1) cap)).setCell ⟨w.heap.size + 1, 0, none⟩ (.int .i64 ((U : Int) + ((m : Int) + 12)))) := by
  have s1 := b1.size
  have hv := hown.lt
  have HO2 := (own_below hown b1 (Nat.le_refl _)).alloc (.cells #[.slice D m d] 22)
  have q3' : Boxed w3 (w.heap.size + 1) 3 (.int .i64 (U : Int)) := (Boxed.alloc ((b1.block (w.heap.size + 1) (by omega)).trans q3 : Boxed W1 _ _ _) _).kept hg3 (fun e => by have := (hv _ e.symm).1; omega)
  have bW3 : Below w.heap.size W w3 := ((b1.mono (by omega)).alloc (by omega) _).grown hg3 (by simp; omega) (fun k e => by have := (hv k e).1; omega)
  have s3 := hg3.size
  simp at s3
  have bW5 : Below w.heap.size W ((w3.setCell ⟨w.heap.size, 0, none⟩ (.slice (some ⟨g, 0, none⟩) (ps.length + 1) cap)).setCell ⟨w.heap.size + 1, 0, none⟩ (.int .i64 ((U : Int) + ((m : Int) + 12)))) :=
    (bW3.setCell (Nat.le_refl _) _).setCell (p := ⟨w.heap.size + 1, 0, none⟩) (by show w.heap.size ≤ w.heap.size + 1; omega) _
  have hset : ∀ {base n : Nat} {t : TypeId} {vv : Value} {xs : List Value}, w.heap.size + 3 ≤ base → w3.ownsRow base t 1 vv n xs → ((w3.setCell ⟨w.heap.size, 0, none⟩ (.slice (some ⟨g, 0, none⟩) (ps.length + 1) cap)).setCell ⟨w.heap.size + 1, 0, none⟩ (.int .i64 ((U : Int) + ((m : Int) + 12)))).ownsRow base t 1 vv n xs := fun hb hh =>
    ownsRow_setCell_below (ownsRow_setCell_below hh (by show w.heap.size < _; omega) _) (by show w.heap.size + 1 < _; omega) _
  refine ⟨?_, ⟨bW5, ?_⟩, ⟨⟨.slice (some ⟨g, 0, none⟩) (ps.length + 1) cap, ps ++ [⟨D, m, d, Z⟩], (e3.set _).other (by omega) _, ?_, ?_, ?_, hZS _ rfl⟩, ?_⟩, hB1.trans bW5⟩
  · refine (((((keeps_below b1).trans (KeepsOthers.alloc _ _)).trans (KeepsOthers.of_grownBy hg3 (fun j o e ho => ?_))).trans (KeepsOthers.setCell _ _ _)).trans (KeepsOthers.setCell _ _ _)).from _
    obtain ⟨c1, f1, e1⟩ := own_kind HO2 j e
    rw [e1] at ho
    injection ho with ho
    subst ho
    rfl
  · refine (heap_setCells (w.heap.size + 1) (w.heap.size + 1 + 1) (by omega) [_] 0 _).trans ?_
    refine (heap_setCells w.heap.size (w.heap.size + 1 + 1) (by omega) [_] 0 _).trans ?_
    refine (hg3.block _ (by simp; omega) (fun e => by have := (hv _ e.symm).1; omega)).trans ?_
    rw [Below.heap_alloc _ _ _ (by omega)]
    exact b1.block _ (by omega)
  · have := (q3'.other (show w.heap.size + 1 ≠ w.heap.size by omega) (.slice (some ⟨g, 0, none⟩) (ps.length + 1) cap)).set (.int .i64 ((U : Int) + ((m : Int) + 12)))
    rw [hU] at this ⊢
    exact this
  · rw [List.length_append, List.map_append]
    exact hset (Nat.le_refl _) ho3
  · intro p hp
    rcases List.mem_append.1 hp with hp | hp
    · have h := hps p hp
      have h2 := (own_below h.own b1 (Nat.le_refl _)).alloc (.cells #[.slice D m d] 22)
      exact ⟨h.len, h.bytes, hset (Nat.le_refl _) (h2.kept hg3 (kinds_apart h2 HO2)), h.cap, h.max⟩
    · obtain rfl := List.mem_singleton.1 hp
      have h2 := ho.alloc (.cells #[.slice D m d] 22)
      exact ⟨LX, BX, hset (Nat.le_refl _) (own_base (h2.kept hg3 (kinds_apart h2 HO2)) hsz), h4, h5⟩
  · simp; omega
set_option maxRecDepth 100000 in
set_option maxHeartbeats 4000000 in
theorem all_any {w : World} {B : Nat} {A : Option Addr} {n : Nat} (c : Nat) {bs : List Int} (hz : Bs w B A n bs) (hB : B ≤ w.heap.size) (hn : n ≤ 100000000) (hc : n ≤ c) (hF : LaidF w) (hK : LaidK w) :
    Calls Tryd.prog 16 #[.slice A n c] w (AllSays w bs) := by
  have HFl := Lib.hid hF.lt
  have HKl := Lib.hid hK.lt
  have HL := Lib.hid hz.len
  obtain ⟨i0, hi0, hz0, hz1, hz2⟩ := info_parts slice_row
  have I0 := Lib.hid hi0
  have I1 := Lib.hid hz0
  have I2 := Lib.hid hz1
  have I3 := Lib.hid hz2
  clear hi0 hz0 hz1 hz2
  refine (callsIn_wide (n := 10)).1 ?_
  refine callsIn_of_wp_marks Tryd.func16 rfl trivial ?_ rfl
  simp only [Tryd.ntmps16, List.size_toArray, List.length_cons, List.length_nil, Nat.reduceAdd, Nat.reduceSub, Array.replicate_succ, Array.replicate_zero, List.push_toArray, List.append_toArray, List.nil_append, List.cons_append]
  gi_wp2_with (refine ⟨trivial, ?_⟩; gi_at_call 29; refine (callsIn_wide.2 (frames_any _ _ _ _)).mono ?_; rintro e w' ⟨rfl, rfl⟩)
  obtain ⟨W0, hW0⟩ : ∃ W0, ((w.alloc (.cells #[.slice none 0 0] 33)).alloc (.cells #[.int .i64 0] 3)).alloc (.cells #[.slice A n c] 22) = W0 := ⟨_, rfl⟩
  have sW : W0.heap.size = w.heap.size + 3 := by rw [← hW0]; simp
  have r2 : Boxed W0 w.heap.size 33 (.slice none 0 0) := by rw [← hW0]; exact ((Boxed.new w _ _).alloc _).alloc _
  have r3 : Boxed W0 (w.heap.size + 1) 3 (.int .i64 0) := by
    have := (Boxed.new (w.alloc (.cells #[.slice none 0 0] 33)) 3 (.int .i64 0)).alloc (.cells #[.slice A n c] 22)
    rw [hW0] at this; simpa using this
  have r5 : Boxed W0 (w.heap.size + 1 + 1) 22 (.slice A n c) := by
    have := Boxed.new ((w.alloc (.cells #[.slice none 0 0] 33)).alloc (.cells #[.int .i64 0] 3)) 22 (.slice A n c)
    rw [hW0] at this; simpa using this
  have hb : Below w.heap.size w W0 := by
    rw [← hW0]
    exact (((Below.refl _ _).alloc (Nat.le_refl _) _).alloc (by simp) _).alloc (by simp; omega) _
  rw [hW0]
  clear hW0
  have hFw := hF.below hb HFl.out
  have hKw := hK.below hb HKl.out
  have hz0 := (hz.more hB).below hb
  refine wpIn_rangeFunc_ownH rfl (by omega) (gf := 38) (lb := #[.pointer (some ⟨w.heap.size + 1 + 1, 0, none⟩)]) rfl trivial (enters_of Tryd.func38 (by kernel_rfl) rfl)
    (frames_stops (10 - 1) (by omega) (w.heap.size + 1 + 1) w.heap.size A n c bs W0 r5 hz0 hb.size hn hc hFw hKw HFl.out HKl.out) Kept.trans
    (fun W l o o' hl h ho hw => ⟨belowK_b (w := W0) hb.size W l o o' hl h ho hw, by
      have := r5.lt
      exact World.putObj_heap_other (by omega)⟩) (Below.refl _ _) (fun _ => rfl)
    (AllI w bs) (fun _ _ _ => False) (allI_own w bs _ (by omega)) (fun _ _ _ _ _ hs _ _ => hs)
    ⟨⟨⟨.slice none 0 0, [], r2, r3, World.ownsRow_nil _ _ _ _, (fun p hp => by cases hp), rfl⟩, by omega⟩, hb⟩
    (fun x a' W => a' = { tmps := #[.slice A n c, undef, .pointer (some ⟨w.heap.size, 0, none⟩), .pointer (some ⟨w.heap.size + 1, 0, none⟩), frV A c x, .slice A n c, .func (.func 38) #[] #[.pointer (some ⟨w.heap.size + 1 + 1, 0, none⟩)], frV A c x, undef, undef, undef, undef, undef, undef, undef, undef, undef, undef, undef], defers := [] })
    (fun x a' _ X Y row hs hg hr => hs)
    ?assign ?body ?done ?stop
  case assign =>
    rintro l pre x W K hi hK
    have HKK := Lib.hid hK
    clear hK
    gi_wp2
    exact HKK.out _ _ (KeepsFrom.refl _ _) (Kept.refl _ _ _) hi rfl
  case body =>
    rintro l pre x a' W hl ⟨r, hr⟩ ⟨⟨⟨v, ps, q2, q3, hown, hps, hzs⟩, hsz⟩, hB1⟩ rfl hlt
    have hzW := (hz.more hB).below hB1
    have z1 := fr_bs hzW x
    have hlen2 : ps.length = pre.length := by have := congrArg List.length hzs; simpa using this
    have huse := useZ_le pre
    have huse2 : useZ (pre.map (·.1)) ≤ 10000000200000000 :=
      Nat.le_trans huse (Nat.le_trans (Nat.mul_le_mul (show pre.length ≤ 100000001 by omega) (show bs.length ≤ 100000000 by have := HL.out; omega)) (by omega))
    obtain ⟨⟨off, m⟩, hx1, hxf⟩ := x
    have hx2 : off + (m + 12) ≤ n := by have := HL.out; dsimp only at hx1; omega
    have C1 := Lib.hid (payloadOf_any (w := W.drew) (c - off) (Bs.drew z1) hB1.size (by dsimp only; omega) (by dsimp only; omega) (by dsimp only; omega))
    have HX : Hid ((((bs.drop off).take (m + 12)).drop 4).take (m + 12 - 12) = payZ bs (off, m)) := Lib.hid (by rw [Nat.add_sub_cancel]; exact piece_take m)
    have LX : Hid ((payZ bs (off, m)).length = m) := Lib.hid (by unfold payZ; rw [List.length_take, List.length_drop, List.length_drop]; dsimp only at hx1 ⊢; omega)
    have BX : Hid (IsBytes (payZ bs (off, m))) := Lib.hid (by unfold payZ; exact (((hz.isBytes).drop _).drop _).take _)
    dsimp only at C1
    rw [HX.out] at C1
    have HU : Hid ((((useZ (pre.map (·.1)) : Nat) : Int) + ((m : Int) + 12)) = ((useZ ((pre ++ [(⟨(off, m), hx1, hxf⟩ : Fr bs)]).map (·.1)) : Nat) : Int)) := Lib.hid (by rw [List.map_append]; simp only [List.map_cons, List.map_nil]; rw [useZ_snoc]; simp)
    have HZS : Hid (∀ p : Piece, p.zs = payZ bs (off, m) → (ps ++ [p]).map (·.zs) = (pre ++ [(⟨(off, m), hx1, hxf⟩ : Fr bs)]).map (fun x => payZ bs x.1)) := Lib.hid (fun p hp => by rw [List.map_append, List.map_append, hzs]; simp [hp])
    clear hzW HX z1 huse hzs
    simp only [frV]
    obtain ⟨R, hR⟩ : ∃ R, shiftA A off = R := ⟨_, rfl⟩
    obtain ⟨cc, hcc⟩ : ∃ cc, c - off = cc := ⟨_, rfl⟩
    rw [hR, hcc] at C1
    rw [hR, hcc]
    obtain ⟨U, hU⟩ : ∃ U : Nat, useZ (pre.map (·.1)) = U := ⟨_, rfl⟩
    rw [hU] at q3 huse2 HU
    obtain ⟨Z, hZ⟩ : ∃ Z, payZ bs (off, m) = Z := ⟨_, rfl⟩
    rw [hZ] at C1 LX BX HZS
    have hown := Lib.hid hown
    have hps := Lib.hid hps
    clear hR hcc hU hZ
    have hlen3 : ps.length ≤ 100000001 := by omega
    clear hlen2
    have c2 := q2.cell
    have f2 := q2.frozen
    have gU : IntKind.i64.wrap ((U : Int) + ((m : Int) + 12)) = (U : Int) + ((m : Int) + 12) := by rw [IntKind.wrap_i64]; omega
    gi_wp2
    refine region_round (by kernel_rfl) (by rfl) (fun ⟨a, w, h⟩ => h) (wpAny_of_held (S := fun _ => True) _ _ _ _ ?_)
    have hHeld := True.intro
    refine wpAnyH_take (i := 1) (oi := ⟨some 9, .move (.tmp 4), _, _, _, _⟩) (v := .slice R (m + 12) cc) rfl (by kernel_rfl) (by kernel_rfl) (by kernel_rfl) (fun _ _ _ h => h) (Or.inl ⟨by rfl, fun w hSw => ?_⟩) trivial ?_
    · go_simp
    try simp only [Act.put, List.setIfInBounds_toArray, List.set_cons_zero, List.set_cons_succ]
    refine wpAnyH_ready (rs := [0, 2]) (by kernel_rfl) (by simp) ?_
    refine AllReadyH.cons (o := ⟨some 8, .load 33 (.tmp 2), _, _, _, _⟩) rfl (fun K hK => ?_) (AllReadyH.cons (o := ⟨some 10, .call { callee := .value (.func 30), args := #[.tmp 9], argTypes := #[22] }, _, _, _, _⟩) rfl (fun K hK => ?_) AllReadyH.nil)
    · go_simp
      refine hK.out _ _ trivial (fun hHeld => ?_)
      clear hK K
      try simp only [Act.put, List.setIfInBounds_toArray, List.set_cons_zero, List.set_cons_succ]
      refine wpAnyH_ready (rs := [2]) (by kernel_rfl) (by simp) ?_
      refine AllReadyH.cons (o := ⟨some 10, .call { callee := .value (.func 30), args := #[.tmp 9], argTypes := #[22] }, _, _, _, _⟩) rfl (fun K hK => ?_) AllReadyH.nil
      go_simp
      refine C1.out.mono ?_
      intro e W1 hm1
      obtain ⟨D, d, rfl, ho, b1, h4, h5⟩ := hm1.n LX.out
      have b1 := ((Below.refl W.heap.size W).drew).trans b1
      have e2 : Boxed W1 w.heap.size 33 v := (b1.block w.heap.size (by show w.heap.size < W.heap.size; omega)).trans q2
      have c2 := e2.cell
      have f2 := e2.frozen
      clear hm1
      go_wp2_with fail
      refine hK.out _ _ trivial (fun hHeld => ?_)
      clear hK K
      try simp only [Act.put, List.setIfInBounds_toArray, List.set_cons_zero, List.set_cons_succ]
      refine wpAnyH_ready (rs := [3]) (by kernel_rfl) (by simp) ?_
      refine AllReadyH.cons (o := ⟨some 11, .buildSlice 33 1 #[(0, .tmp 10)], _, _, _, _⟩) rfl (fun K hK => ?_) AllReadyH.nil
      go_simp
      refine hK.out _ _ trivial (fun hHeld => ?_)
      clear hK K
      try simp only [Act.put, List.setIfInBounds_toArray, List.set_cons_zero, List.set_cons_succ]
      refine wpAnyH_ready (rs := [4]) (by kernel_rfl) (by simp) ?_
      refine AllReadyH.cons (o := ⟨some 12, .call { callee := .builtin .append, args := #[.tmp 8, .tmp 11], argTypes := #[33, 33] }, _, _, _, _⟩) rfl (fun K hK => ?_) AllReadyH.nil
      have HO2 := own_below hown.out (b1 : Below W.heap.size W W1) (Nat.le_refl _)
      have sW1 : W.heap.size ≤ W1.heap.size := b1.size
      refine step_append_lies _ (by rfl) (.tmp 8) (.tmp 11) 33 (by rfl) (w.heap.size + 3) 22 i0 _ 1 24 Tryd.underlying33 I0.out I1.out I2.out I3.out rfl (by decide) v ps.length (ps.map pv) (by rfl) (HO2.alloc _) ⟨W1.heap.size, 0, none⟩ 1 1 [.slice D m d] (by rfl) (by rfl) (World.news_of_block (cs := #[.slice D m d]) (t := 22) (fr := (0, 0)) (heap_alloc_new W1 _)) (by simp [Value.oneCell']) (by omega) (by unfold maxLen; omega) (by omega) (by simp; omega) _ rfl ?_
      intro g cap w3 ho3 hg3 hwhere hlt
      have sx : W1.heap.size + 1 ≤ w3.heap.size := by have := hg3.size; simpa using this
      have e3 : Boxed w3 w.heap.size 33 v := (e2.alloc _).kept hg3 (fun e => by have := (hown.out.lt _ e.symm).1; omega)
      have c3 := e3.cell
      have f3 := e3.frozen
      clear c2 f2
      refine hK.out _ _ trivial (fun hHeld => ?_)
      clear hK K
      try simp only [Act.put, List.setIfInBounds_toArray, List.set_cons_zero, List.set_cons_succ]
      refine wpAnyH_ready (rs := [5]) (by kernel_rfl) (by simp) ?_
      refine AllReadyH.cons (o := ⟨none, .store 33 (.tmp 2) (.tmp 12), _, _, _, _⟩) rfl (fun K hK => ?_) AllReadyH.nil
      go_simp
      refine hK.out _ _ trivial (fun hHeld => ?_)
      clear hK K
      try simp only [Act.put, List.setIfInBounds_toArray, List.set_cons_zero, List.set_cons_succ]
      refine wpAnyH_done (by kernel_rfl) ?_ _
      have q4 : Boxed w3 (w.heap.size + 1) 3 (.int .i64 (U : Int)) := (Boxed.alloc ((b1.block (w.heap.size + 1) (by omega)).trans q3 : Boxed W1 _ _ _) _).kept hg3 (fun e => by have := (hown.out.lt _ e.symm).1; omega)
      have c4 := q4.cell
      have f4 := q4.frozen
      gi_wp2
      exact all_tail W0.heap.size hB1 hsz hown.out hps.out LX.out BX.out ho b1 h4 h5 ho3 hg3 e3 q3 HZS.out HU.out
    · go_simp
      refine C1.out.mono ?_
      intro e W1 hm1
      obtain ⟨D, d, rfl, ho, b1, h4, h5⟩ := hm1.n LX.out
      have b1 := ((Below.refl W.heap.size W).drew).trans b1
      have e2 : Boxed W1 w.heap.size 33 v := (b1.block w.heap.size (by show w.heap.size < W.heap.size; omega)).trans q2
      have c2 := e2.cell
      have f2 := e2.frozen
      clear hm1
      go_wp2_with fail
      refine hK.out _ _ trivial (fun hHeld => ?_)
      clear hK K
      try simp only [Act.put, List.setIfInBounds_toArray, List.set_cons_zero, List.set_cons_succ]
      refine wpAnyH_ready (rs := [0, 3]) (by kernel_rfl) (by simp) ?_
      refine AllReadyH.cons (o := ⟨some 8, .load 33 (.tmp 2), _, _, _, _⟩) rfl (fun K hK => ?_) (AllReadyH.cons (o := ⟨some 11, .buildSlice 33 1 #[(0, .tmp 10)], _, _, _, _⟩) rfl (fun K hK => ?_) AllReadyH.nil)
      · go_simp
        refine hK.out _ _ trivial (fun hHeld => ?_)
        clear hK K
        try simp only [Act.put, List.setIfInBounds_toArray, List.set_cons_zero, List.set_cons_succ]
        refine wpAnyH_ready (rs := [3]) (by kernel_rfl) (by simp) ?_
        refine AllReadyH.cons (o := ⟨some 11, .buildSlice 33 1 #[(0, .tmp 10)], _, _, _, _⟩) rfl (fun K hK => ?_) AllReadyH.nil
        go_simp
        refine hK.out _ _ trivial (fun hHeld => ?_)
        clear hK K
        try simp only [Act.put, List.setIfInBounds_toArray, List.set_cons_zero, List.set_cons_succ]
        refine wpAnyH_ready (rs := [4]) (by kernel_rfl) (by simp) ?_
        refine AllReadyH.cons (o := ⟨some 12, .call { callee := .builtin .append, args := #[.tmp 8, .tmp 11], argTypes := #[33, 33] }, _, _, _, _⟩) rfl (fun K hK => ?_) AllReadyH.nil
        have HO2 := own_below hown.out (b1 : Below W.heap.size W W1) (Nat.le_refl _)
        have sW1 : W.heap.size ≤ W1.heap.size := b1.size
        refine step_append_lies _ (by rfl) (.tmp 8) (.tmp 11) 33 (by rfl) (w.heap.size + 3) 22 i0 _ 1 24 Tryd.underlying33 I0.out I1.out I2.out I3.out rfl (by decide) v ps.length (ps.map pv) (by rfl) (HO2.alloc _) ⟨W1.heap.size, 0, none⟩ 1 1 [.slice D m d] (by rfl) (by rfl) (World.news_of_block (cs := #[.slice D m d]) (t := 22) (fr := (0, 0)) (heap_alloc_new W1 _)) (by simp [Value.oneCell']) (by omega) (by unfold maxLen; omega) (by omega) (by simp; omega) _ rfl ?_
        intro g cap w3 ho3 hg3 hwhere hlt
        have sx : W1.heap.size + 1 ≤ w3.heap.size := by have := hg3.size; simpa using this
        have e3 : Boxed w3 w.heap.size 33 v := (e2.alloc _).kept hg3 (fun e => by have := (hown.out.lt _ e.symm).1; omega)
        have c3 := e3.cell
        have f3 := e3.frozen
        clear c2 f2
        refine hK.out _ _ trivial (fun hHeld => ?_)
        clear hK K
        try simp only [Act.put, List.setIfInBounds_toArray, List.set_cons_zero, List.set_cons_succ]
        refine wpAnyH_ready (rs := [5]) (by kernel_rfl) (by simp) ?_
        refine AllReadyH.cons (o := ⟨none, .store 33 (.tmp 2) (.tmp 12), _, _, _, _⟩) rfl (fun K hK => ?_) AllReadyH.nil
        go_simp
        refine hK.out _ _ trivial (fun hHeld => ?_)
        clear hK K
        try simp only [Act.put, List.setIfInBounds_toArray, List.set_cons_zero, List.set_cons_succ]
        refine wpAnyH_done (by kernel_rfl) ?_ _
        have q4 : Boxed w3 (w.heap.size + 1) 3 (.int .i64 (U : Int)) := (Boxed.alloc ((b1.block (w.heap.size + 1) (by omega)).trans q3 : Boxed W1 _ _ _) _).kept hg3 (fun e => by have := (hown.out.lt _ e.symm).1; omega)
        have c4 := q4.cell
        have f4 := q4.frozen
        gi_wp2
        exact all_tail W0.heap.size hB1 hsz hown.out hps.out LX.out BX.out ho b1 h4 h5 ho3 hg3 e3 q3 HZS.out HU.out
      · go_simp
        have c2a := (e2.alloc (.cells #[.slice D m d] 22)).cell
        refine hK.out _ _ trivial (fun hHeld => ?_)
        clear hK K
        try simp only [Act.put, List.setIfInBounds_toArray, List.set_cons_zero, List.set_cons_succ]
        refine wpAnyH_ready (rs := [0]) (by kernel_rfl) (by simp) ?_
        refine AllReadyH.cons (o := ⟨some 8, .load 33 (.tmp 2), _, _, _, _⟩) rfl (fun K hK => ?_) AllReadyH.nil
        go_simp
        refine hK.out _ _ trivial (fun hHeld => ?_)
        clear hK K
        try simp only [Act.put, List.setIfInBounds_toArray, List.set_cons_zero, List.set_cons_succ]
        clear c2a
        refine wpAnyH_ready (rs := [4]) (by kernel_rfl) (by simp) ?_
        refine AllReadyH.cons (o := ⟨some 12, .call { callee := .builtin .append, args := #[.tmp 8, .tmp 11], argTypes := #[33, 33] }, _, _, _, _⟩) rfl (fun K hK => ?_) AllReadyH.nil
        have HO2 := own_below hown.out (b1 : Below W.heap.size W W1) (Nat.le_refl _)
        have sW1 : W.heap.size ≤ W1.heap.size := b1.size
        refine step_append_lies _ (by rfl) (.tmp 8) (.tmp 11) 33 (by rfl) (w.heap.size + 3) 22 i0 _ 1 24 Tryd.underlying33 I0.out I1.out I2.out I3.out rfl (by decide) v ps.length (ps.map pv) (by rfl) (HO2.alloc _) ⟨W1.heap.size, 0, none⟩ 1 1 [.slice D m d] (by rfl) (by rfl) (World.news_of_block (cs := #[.slice D m d]) (t := 22) (fr := (0, 0)) (heap_alloc_new W1 _)) (by simp [Value.oneCell']) (by omega) (by unfold maxLen; omega) (by omega) (by simp; omega) _ rfl ?_
        intro g cap w3 ho3 hg3 hwhere hlt
        have sx : W1.heap.size + 1 ≤ w3.heap.size := by have := hg3.size; simpa using this
        have e3 : Boxed w3 w.heap.size 33 v := (e2.alloc _).kept hg3 (fun e => by have := (hown.out.lt _ e.symm).1; omega)
        have c3 := e3.cell
        have f3 := e3.frozen
        clear c2 f2
        refine hK.out _ _ trivial (fun hHeld => ?_)
        clear hK K
        try simp only [Act.put, List.setIfInBounds_toArray, List.set_cons_zero, List.set_cons_succ]
        refine wpAnyH_ready (rs := [5]) (by kernel_rfl) (by simp) ?_
        refine AllReadyH.cons (o := ⟨none, .store 33 (.tmp 2) (.tmp 12), _, _, _, _⟩) rfl (fun K hK => ?_) AllReadyH.nil
        go_simp
        refine hK.out _ _ trivial (fun hHeld => ?_)
        clear hK K
        try simp only [Act.put, List.setIfInBounds_toArray, List.set_cons_zero, List.set_cons_succ]
        refine wpAnyH_done (by kernel_rfl) ?_ _
        have q4 : Boxed w3 (w.heap.size + 1) 3 (.int .i64 (U : Int)) := (Boxed.alloc ((b1.block (w.heap.size + 1) (by omega)).trans q3 : Boxed W1 _ _ _) _).kept hg3 (fun e => by have := (hown.out.lt _ e.symm).1; omega)
        have c4 := q4.cell
        have f4 := q4.frozen
        gi_wp2
        exact all_tail W0.heap.size hB1 hsz hown.out hps.out LX.out BX.out ho b1 h4 h5 ho3 hg3 e3 q3 HZS.out HU.out
  case done =>
    rintro D ys W hD hys ⟨⟨⟨v, ps, q2, q3, hown, hps, hzs⟩, hsz⟩, hB1⟩ hD2
    have hys : ys.map (·.1) = framesZ bs := hys
    rw [hys] at q3
    have hzs2 : ps.map (·.zs) = (framesZ bs).map (payZ bs) := by rw [hzs, ← hys, List.map_map]; rfl
    obtain ⟨U, hU⟩ : ∃ U : Nat, useZ (framesZ bs) = U := ⟨_, rfl⟩
    rw [hU] at q3
    have HU := Lib.hid hU
    obtain ⟨Av, cv, rfl, _, _⟩ := own_shape hown
    have hown := Lib.hid hown
    have hps := Lib.hid hps
    have hzs2 := Lib.hid hzs2
    clear hU hzs hys
    have c2 := q2.cell
    have c3 := q3.cell
    have f2 := q2.frozen
    have f3 := q3.frozen
    gi_wp2
    gi_region
    gi_wp2
    have hD6 : (((W.setCell ⟨w.heap.size, 0, none⟩ (.slice Av ps.length cv)).setCell ⟨w.heap.size + 1, 0, none⟩ (.int .i64 (U : Int))).drew).heap[D]? = some (.deferred (some [])) :=
      (((KeepsOthers.setCell W ⟨w.heap.size, 0, none⟩ (.slice Av ps.length cv)).trans (KeepsOthers.setCell _ ⟨w.heap.size + 1, 0, none⟩ (.int .i64 (U : Int)))).trans (KeepsOthers.drew _)).same D _ hD2 rfl
    refine ⟨by simp, .inl ⟨_, _, rfl, run_takeDeferred hD6, ?_⟩⟩
    have hg := (fun r (e : some D = some r) => (by cases e; exact ⟨_, hD6, rfl⟩ : ∃ o : Obj, (((W.setCell ⟨w.heap.size, 0, none⟩ (.slice Av ps.length cv)).setCell ⟨w.heap.size + 1, 0, none⟩ (.int .i64 (U : Int))).drew).heap[r]? = some o ∧ o.isCells = false))
    have e2 : Boxed (((W.setCell ⟨w.heap.size, 0, none⟩ (.slice Av ps.length cv)).setCell ⟨w.heap.size + 1, 0, none⟩ (.int .i64 (U : Int))).drew) w.heap.size 33 (.slice Av ps.length cv) := (q2.set (.slice Av ps.length cv)).other (show w.heap.size ≠ w.heap.size + 1 by omega) (.int .i64 (U : Int))
    have e3 : Boxed (((W.setCell ⟨w.heap.size, 0, none⟩ (.slice Av ps.length cv)).setCell ⟨w.heap.size + 1, 0, none⟩ (.int .i64 (U : Int))).drew) (w.heap.size + 1) 3 (.int .i64 (U : Int)) := (q3.other (show w.heap.size + 1 ≠ w.heap.size by omega) (.slice Av ps.length cv)).set (.int .i64 (U : Int))
    have g2 := (box_kept e2 (grownBy_putObj' _ D (.deferred none)) hg).cell
    have g3 := (box_kept e3 (grownBy_putObj' _ D (.deferred none)) hg).cell
    have hset : ∀ {n : Nat} {t : TypeId} {vv : Value} {xs : List Value}, W.ownsRow (w.heap.size + 3) t 1 vv n xs → ((((W.setCell ⟨w.heap.size, 0, none⟩ (.slice Av ps.length cv)).setCell ⟨w.heap.size + 1, 0, none⟩ (.int .i64 (U : Int))).drew).putObj D (.deferred none)).ownsRow w.heap.size t 1 vv n xs := fun hh =>
      row_kept (own_base (ownsRow_setCell_below (ownsRow_setCell_below hh (by show w.heap.size < _; omega) _) (by show w.heap.size + 1 < _; omega) _).drew (by omega)) (grownBy_putObj' _ D (.deferred none)) hg
    refine ⟨.tuple #[.slice Av ps.length cv, .int .i64 (U : Int)], ?_, ?_, ?_⟩
    · simp [results, Tryd.f16, go_sem, g2, g3]
    · exact (((hB1.setCell (Nat.le_refl _) _).setCell (p := ⟨w.heap.size + 1, 0, none⟩) (by show w.heap.size ≤ w.heap.size + 1; omega) _).drew).trans (belowK_b (w := w) (Nat.le_refl _) _ D _ _ (by omega) hD6 rfl rfl)
    · refine ⟨.slice Av ps.length cv, ps, by rw [HU.out], hset hown.out, fun p hp => ?_, hzs2.out⟩
      have h := hps.out p hp
      exact ⟨h.len, h.bytes, hset h.own, h.cap, h.max⟩
  case stop =>
    rintro D cd pre W _ _ h _
    exact h.elim
end Go.Proofs.YtcihbkdpkhhhcaaDoor
