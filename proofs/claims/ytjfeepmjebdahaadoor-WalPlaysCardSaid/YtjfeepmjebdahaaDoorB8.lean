/- Texts of the proof, one behind the other: RangeP VIter VAdd VTake VRecs VLast RoundW VRecover VRecov. -/
import Derived.RangeFuncNested
import Derived.RangeFuncBox
import Derived.RangeFuncCalls
import Derived.Test.YtjfeepmjebdahaaDoorB1
import Derived.Test.YtjfeepmjebdahaaDoorB4
import Derived.Test.YtjfeepmjebdahaaDoorB6
import Derived.Test.YtjfeepmjebdahaaDoorB5
/- A range over a function that hands its rounds new memory: what is handed over comes with a word on the world in which it is handed over (Pi). -/
namespace Go.Proofs.YtjfeepmjebdahaaDoor
open Go.ChangeShapes Go.WideShapes Go.ChangeAt Go.RowKit
set_option linter.unusedVariables false
/-- An iterator's contract: each round is told Pi of what it gets, in its own world; it keeps Kp. -/
def SeqP {α : Type} (F : Fence) (n : Nat) (P : Program) (g : Nat) (lb : Array Value) (enc : α → Array Value) (Pi : α → World → Prop) (Kp : World → World → Prop) (S Sp : List α → Prop) (N : Nat) (w : World) : Prop :=
  ∀ (l : Nat) (J Jx : List α → World → Prop) (W : World), Below w.heap.size w W → AbidesFrom W.heap.size J → AbidesFrom W.heap.size Jx →
    (∀ pre x V, J pre V → Pi x V → pre.length < N → YieldAt F (n - 1) P l (enc x) V fun e V' =>
      (e = .returned (.bool true) ∧ J (pre ++ [x]) V' ∧ Kp V V') ∨ (e = .returned (.bool false) ∧ Jx (pre ++ [x]) V')) →
    J [] W → CallsIn F n P g (#[.func (.yield l) #[] #[]] ++ lb) W fun e V => (∃ v, e = .returned v) ∧ ((∃ ys, S ys ∧ J ys V) ∨ (∃ pre, Sp pre ∧ Jx pre V))
/-- How a round may end: it goes on, or leaves the loop. -/
def roundEnd {α : Type} (B : Nat) (Kp : World → World → Prop) (I Ib : List α → World → Prop) (b : Nat) (ys : List α) (W : World) : Exit → Act → World → Prop
  | .normal, _, W' => KeepsFrom B W W' ∧ Kp W W' ∧ I ys W'
  | .exit i, _, W' => i = b ∧ KeepsFrom B W W' ∧ Ib ys W'
  | _, _, _ => False
section
variable {α : Type} {F : Fence} {n : Nat} {P : Program} {w : World}
/-- A world in which the loop's two blocks stand: its record in state s, with what is pending, and the block for deferred calls. -/
def LoopAt (w W : World) (r : Loop) : Prop := W.heap[w.heap.size + 1]? = some (.loop r) ∧ W.heap[w.heap.size]? = some (.deferred (some []))
theorem LoopAt.keep {W V : World} {r : Loop} (h : LoopAt w W r) (k : KeepsFrom w.heap.size W V) : LoopAt w V r :=
  ⟨k.same _ _ (by omega) h.1 rfl, k.same _ _ (Nat.le_refl _) h.2 rfl⟩
theorem LoopAt.turn {W : World} {r : Loop} (h : LoopAt w W r) (r' : Loop) : LoopAt w (W.putObj (w.heap.size + 1) (.loop r')) r' :=
  ⟨World.putObj_heap_same (Array.getElem?_eq_some_iff.1 h.1).1, (World.putObj_heap_other (by omega)).trans h.2⟩
theorem range_told {g : Operand} {ps : Array Tmp} {assign body : Code} {Q : Exit → Act → World → Prop} {a : Act}
    (hro : F.round = none) (h1 : 1 ≤ n) {gf : Nat} {lb : Array Value} (hg : a.eval g = .func (.func gf) #[] lb) (hFg : F.fn gf) (eg : ∀ args w, (callFunc gf args).run P w = .ok (.enter gf args) w)
    {enc : α → Array Value} {Pi : α → World → Prop} {Kp : World → World → Prop} {S Sp : List α → Prop} {N : Nat} {w0 : World} (hseq : SeqP F (n - 1) P gf lb enc Pi Kp S Sp N w0) (hb0 : Below w0.heap.size w0 w)
    (hKt : ∀ {A B C : World}, Kp A B → Kp B C → Kp A C) (hKb : ∀ (W : World) (o : Obj), w.heap.size + 1 < W.heap.size → Kp W (W.putObj (w.heap.size + 1) o)) (hps : ∀ x, (enc x).size = ps.size) (hPi : ∀ x, OwnFrom w.heap.size (fun (_ : Unit) W => Pi x W))
    (I Ib : List α → World → Prop) (b : Nat) (hI : OwnFrom w.heap.size I) (hIb : OwnFrom w.heap.size Ib) (h0 : I [] w) (a₁ : α → Act)
    (hassign : ∀ (l : Nat) (x : α) (W : World) (K : Act → World → Prop), K (a₁ x) W →
      assign.wpIn (F.inRound l) (n - 1 - 1) P (Exit.then K (fun _ _ _ => False)) { tmps := (ps.zip (enc x)).foldl (fun t (p, v) => t.setIfInBounds p v) a.tmps, defers := [] } W)
    (hbody : ∀ (l : Nat) (pre : List α) (x : α) (W : World), w.heap.size + 2 ≤ W.heap.size → I pre W → Pi x W → pre.length < N → body.wpIn (F.inRound l) (n - 1 - 1) P (roundEnd w.heap.size Kp I Ib b (pre ++ [x]) W) (a₁ x) W)
    (hdone : ∀ (D : Nat) (ys : List α) (W : World), w.heap.size ≤ D → S ys → I ys W → W.heap[D]? = some (.deferred (some [])) → Q .normal { a with defers := { target := .collected D, args := #[] } :: a.defers } W)
    (hstop : ∀ (D : Nat) (pre : List α) (W : World), w.heap.size ≤ D → Sp pre → Ib pre W → W.heap[D]? = some (.deferred (some [])) → (Code.exit b).wpIn F n P Q { a with defers := { target := .collected D, args := #[] } :: a.defers } W) :
    (Code.rangeFunc g ps assign body).wpIn F n P Q a w := by
  refine wpIn_rangeFunc fun fn hfn => ?_
  rw [hro]
  obtain ⟨rc, hrc⟩ : ∃ rc : LoopState → Option Code → Loop, rc = fun st pe => { state := st, pending := pe, fn, tmps := a.tmps, params := ps, assign, body, defers := w.heap.size } := ⟨_, rfl⟩
  obtain ⟨U, hU⟩ : ∃ U, (w.alloc (.deferred (some []))).alloc (.loop (rc .ready none)) = U := ⟨_, rfl⟩
  have sU : U.heap.size = w.heap.size + 2 := by rw [← hU]; simp
  have lU : LoopAt w U (rc .ready none) := by
    rw [← hU]
    refine ⟨?_, (Below.heap_alloc _ _ _ (by simp)).trans (World.alloc_heap_new w _)⟩
    have := World.alloc_heap_new (w.alloc (.deferred (some []))) (.loop (rc .ready none))
    rwa [World.size_alloc] at this
  have iU : I [] U := by rw [← hU]; exact hI.alloc _ (hI.alloc _ h0)
  have bU : Below w0.heap.size w0 U := by
    rw [← hU]; exact hb0.trans ((((Below.refl _ w).alloc (Nat.le_refl _) _).alloc (by simp) _).mono hb0.size)
  have walk : ∀ {X : World} {row : Option Nat}, (∀ r, row = some r → U.heap.size ≤ r ∧ ∃ o : Obj, X.heap[r]? = some o ∧ o.isWalk = true) → ∀ r, row = some r → w.heap.size ≤ r ∧ ∃ o : Obj, X.heap[r]? = some o ∧ o.isCells = false := fun h r e => by
    obtain ⟨hr, o, ho, hw⟩ := h r e
    exact ⟨by omega, o, ho, Obj.not_cells_of_walk hw⟩
  have stay : ∀ {X Y : World} {row : Option Nat} {r : Loop}, LoopAt w X r → X.grownBy Y row → (∀ r, row = some r → U.heap.size ≤ r ∧ ∃ o : Obj, X.heap[r]? = some o ∧ o.isWalk = true) → LoopAt w Y r := fun h hgr hr =>
    ⟨(grownBy_keeps hgr (fun r e => (hr r e).2) h.1 rfl).trans h.1, (grownBy_keeps hgr (fun r e => (hr r e).2) h.2 rfl).trans h.2⟩
  refine ⟨w.heap.size + 1, [{ target := .collected w.heap.size, args := #[] }], U, { target := .fn (.func gf) lb, args := #[.func (.yield (w.heap.size + 1)) #[] #[]] }, U, gf,
    #[.func (.yield (w.heap.size + 1)) #[] #[]] ++ lb, U, by rw [← hU, hrc]; exact run_enterLoop_outer _ _ _ _ _, by simp only [resolve, hg]; simp [go_sem],
    fun f' hf' => by simp [Target.leads] at hf'; subst hf'; exact hFg, by simp [invoke, go_sem, eg], fun _ => h1, ?_⟩
  refine (hseq (w.heap.size + 1) (fun pre W => I pre W ∧ LoopAt w W (rc .ready none)) (fun pre W => Ib pre W ∧ LoopAt w W (rc .done (some (.exit b)))) U bU
    (fun s X Y row hs hgr hr => ⟨hI s X Y row hs.1 hgr (walk hr), stay hs.2 hgr hr⟩) (fun s X Y row hs hgr hr => ⟨hIb s X Y row hs.1 hgr (walk hr), stay hs.2 hgr hr⟩) ?round ⟨iU, lU⟩).mono ?behind
  case round =>
    rintro pre x W ⟨hi, hl⟩ hx hlen
    have hlt : w.heap.size + 1 < W.heap.size := (Array.getElem?_eq_some_iff.1 hl.1).1
    have hy := run_yield (P := P) (args := enc x) hl.1 (by rw [hrc]; exact hps x)
    rw [hrc] at hy
    refine ⟨fn, _, assign, body, hy, roundIn_of_wpIn hfn (hassign _ x W _ ⟨_, run_beginRound hl.1 (by rw [hrc]), ?_⟩)⟩
    clear hy
    obtain ⟨V, hV⟩ : ∃ V, W.putObj (w.heap.size + 1) (.loop { rc .ready none with state := .busy }) = V := ⟨_, rfl⟩
    have lV : LoopAt w V { rc .ready none with state := .busy } := by rw [← hV]; exact hl.turn _
    have iV : I pre V := by rw [← hV]; exact hI.putObj _ hi (by omega) hl.1 rfl
    have xV : Pi x V := by rw [← hV]; exact (hPi x).putObj (s := ()) _ hx (by omega) hl.1 rfl
    have kV : Kp W V := by rw [← hV]; exact hKb _ _ hlt
    have sV : w.heap.size + 2 ≤ V.heap.size := (Array.getElem?_eq_some_iff.1 lV.1).1
    rw [hV]
    clear hV
    refine wpIn_mono (hbody _ pre x V sV iV xV hlen) fun e a3 X hp => ?_
    cases e with
    | normal =>
      obtain ⟨k3, kp, i3⟩ := hp
      have l3 := lV.keep k3
      refine ⟨_, _, run_endRound (P := P) none l3.1, .inl ⟨rfl, ⟨hI.putObj _ i3 (by omega) l3.1 rfl, ?_⟩, hKt kV (hKt kp (hKb _ _ (Array.getElem?_eq_some_iff.1 l3.1).1))⟩⟩
      have := l3.turn (rc .ready none)
      rw [hrc] at this ⊢
      exact this
    | exit i =>
      obtain ⟨rfl, k3, i3⟩ := hp
      have l3 := lV.keep k3
      refine ⟨_, _, run_endRound (P := P) (some (.exit i)) l3.1, .inr ⟨rfl, hIb.putObj _ i3 (by omega) l3.1 rfl, ?_⟩⟩
      have := l3.turn (rc .done (some (.exit i)))
      rw [hrc] at this ⊢
      exact this
    | _ => exact hp.elim
  case behind =>
    rintro e V ⟨⟨v, rfl⟩, (⟨ys, hS, hi, hl⟩ | ⟨pre, hSp, hi, hl⟩)⟩
    · have he := run_endLoop (P := P) hl.1 (by rw [hrc]; simp)
      rw [hrc] at he
      exact ⟨none, _, he, hdone _ ys _ (Nat.le_refl _) hS (hI.putObj _ hi (by omega) hl.1 rfl) ((World.putObj_heap_other (by omega)).trans hl.2)⟩
    · have he := run_endLoop (P := P) hl.1 (by rw [hrc]; simp)
      rw [hrc] at he
      exact ⟨some (.exit b), _, he, hstop _ pre _ (Nat.le_refl _) hSp (hIb.putObj _ hi (by omega) hl.1 rfl) ((World.putObj_heap_other (by omega)).trans hl.2)⟩
end
end Go.Proofs.YtjfeepmjebdahaaDoor
/- The records of bytes, told one by one, each with where its frame ends. -/
namespace Go.Proofs.YtjfeepmjebdahaaDoor
open Go.ChangeShapes Go.WideShapes Go.ChangeAt Go.RowKit Go.Shelf
set_option linter.unusedVariables false
open Plain Sha
attribute [local go_sem] Oper.semAt_some
/-- A record as it is handed over: its frame, and where its bytes stand. -/
structure It (bs : List Int) where
  x : Fr bs
  D : Option Addr
  d : Nat
def itE {bs : List Int} (t : It bs) : Nat := t.x.1.1 + (t.x.1.2 + 12)
def itV {bs : List Int} (t : It bs) : Array Value := #[.slice t.D t.x.1.2 t.d, .int .i64 (itE t : Int)]
def itP {bs : List Int} (t : It bs) : Piece := ⟨t.D, t.x.1.2, t.d, payZ bs t.x.1⟩
def itX {bs : List Int} (t : It bs) : Nat × Nat := t.x.1
/-- The blocks of F stand. -/
def Stay (F : Nat → Prop) (W W' : World) : Prop := W.heap.size ≤ W'.heap.size ∧ ∀ k, F k → W'.heap[k]? = W.heap[k]?
theorem Stay.refl (F : Nat → Prop) (W : World) : Stay F W W := ⟨Nat.le_refl _, fun _ _ => rfl⟩
theorem Stay.trans {F : Nat → Prop} {A B C : World} (h : Stay F A B) (k : Stay F B C) : Stay F A C := ⟨Nat.le_trans h.1 k.1, fun i hi => (k.2 i hi).trans (h.2 i hi)⟩
theorem Stay.below {F : Nat → Prop} {W W' : World} {B : Nat} (hb : Below B W W') (hF : ∀ k, F k → k < B) : Stay F W W' := ⟨hb.size, fun k hk => hb.block k (hF k hk)⟩
theorem LaidF.stay {W W' : World} (h : LaidF W) (hb : W'.heap[0]? = W.heap[0]?) : LaidF W' := fun j hj => (World.cell?_of_block (a := ⟨0, j, none⟩) hb).trans (h j hj)
theorem LaidK.stay {W W' : World} (h : LaidK W) (hb : W'.heap[1]? = W.heap[1]?) : LaidK W' := fun j hj => (World.cell?_of_block (a := ⟨1, j, none⟩) hb).trans (h j hj)
set_option maxRecDepth 100000 in
set_option maxHeartbeats 2000000 in
theorem recs1_in (n : Nat) (hn : 1 ≤ n) (l Bn B0 : Nat) (F : Nat → Prop) (A : Option Addr) (len cap : Nat) (bs : List Int) (J Jx : List (It bs) → World → Prop)
    (hY : ∀ pre x W, J pre W → PieceOk W B0 (itP x) → pre.length < len + 1 → YieldAt Fence.wide (n - 1) Tryd.prog l (itV x) W fun e W' =>
      (e = .returned (.bool true) ∧ J (pre ++ [x]) W' ∧ Stay F W W') ∨ (e = .returned (.bool false) ∧ Jx (pre ++ [x]) W'))
    (W : World) (hJ : AbidesFrom W.heap.size J) (hBn : Boxed W Bn 27 (.slice A len cap)) (hz : Stands W F ⟨A, len, cap, bs⟩) (hB0 : B0 ≤ W.heap.size) (hlen : len ≤ 100000000)
    (hF : LaidF W) (hK : LaidK W) (hFl : ∀ k, F k → k < W.heap.size) (f1 : F Bn) (f2 : F 0) (f3 : F 1) (h0 : J [] W) :
    CallsIn Fence.wide n Tryd.prog 52 #[.func (.yield l) #[] #[], .pointer (some ⟨Bn, 0, none⟩)] W fun e W' => (∃ v, e = .returned v) ∧
      ((∃ ys, ys.map itX = framesZ bs ∧ J ys W') ∨ (∃ pre, (∃ t, pre.map itX ++ t = framesZ bs) ∧ Jx pre W')) := by
  have cB := hBn.cell
  have HL := Lib.hid hz.len
  have hcap : len ≤ cap := hz.cap
  have hcmax : cap ≤ maxLen := hz.max
  unfold maxLen at hcmax
  have BB : Hid (IsBytes bs) := Lib.hid hz.bytes
  refine callsIn_of_wp Tryd.func52 rfl trivial ?_ rfl
  simp only [Tryd.ntmps52, List.size_toArray, List.length_cons, List.length_nil, Nat.reduceAdd, Nat.reduceSub, Array.replicate_succ, Array.replicate_zero, List.push_toArray, List.append_toArray, List.nil_append, List.cons_append]
  gi_wp2
  clear cB
  gi_loopw [3] (fun r wr => ∃ (off fuel : Nat) (pre : List (It bs)), off ≤ len ∧ r = .int .i64 (off : Int) ∧ Hid (pre.map itX ++ framesF bs fuel off = framesZ bs) ∧ len - off < fuel ∧ pre.length ≤ off ∧ Hid (J pre wr) ∧ Hid (Stay F W wr)) (fun r _ => len - (intOf r).toNat)
  case atStart =>
    exact ⟨0, len + 1, [], by omega, rfl, Lib.hid (by show framesF bs (len + 1) 0 = framesF bs (bs.length + 1) 0; rw [HL.out]), by omega, by simp, Lib.hid h0, Lib.hid (Stay.refl _ _)⟩
  case round =>
    obtain ⟨wo, hwo⟩ : ∃ wo, wo = wr := ⟨_, rfl⟩
    subst hwo
    obtain ⟨off, fuel, pre, hoff, rfl, HP, hfu, hpl, HJ, HK1⟩ := hrel
    have hz1 : Stands wo F ⟨A, len, cap, bs⟩ := hz.keep (fun k hk _ => HK1.out.2 k hk)
    have cB1 : wo.cell? ⟨Bn, 0, none⟩ = some (.slice A len cap) := (World.cell?_of_block (a := ⟨Bn, 0, none⟩) (HK1.out.2 Bn f1)).trans hBn.cell
    obtain ⟨R, hs, hcut⟩ := cut_l A len cap off (off : Int) rfl hoff hcap
    have hR : Bs wo wo.heap.size R (len - off) (bs.drop off) := by
      have := hz1.bs.cut (k := off) (m := len - off) (by show off + (len - off) ≤ len; omega) R hcut
      rwa [List.take_of_length_le (by rw [List.length_drop, HL.out]; exact Nat.le_refl _)] at this
    have C1 := Lib.hid (next_any (cap - off) hR (Nat.le_refl _) (by omega) (by omega) (hF.stay (HK1.out.2 _ f2)) (hK.stay (HK1.out.2 _ f3)))
    have sz1 := HK1.out.1
    obtain ⟨fz, hfz⟩ : ∃ fz, firstZ (bs.drop off) = fz := ⟨_, rfl⟩
    cases fz with
    | none =>
      have HP' : Hid (pre.map itX = framesZ bs) := Lib.hid (by have := HP.out; rwa [framesF_no hfz, List.append_nil] at this)
      have HC1 : Hid (Calls Tryd.prog 53 #[.slice R (len - off) (cap - off)] wo fun e w' => e = .returned (.tuple #[.slice none 0 0, .int .i64 0, .int .i64 50]) ∧ Below wo.heap.size wo w') := Lib.hid (C1.out.mono fun e w' h => by
        unfold NextSays at h; rw [hfz] at h; exact ⟨h.2, h.1⟩)
      have gw : IntKind.i64.wrap ((off : Int) + 0) = (off : Int) := by rw [IntKind.wrap_i64]; omega
      clear hR C1 hfz HP hz1 hcut
      gi_wp2_with (refine ⟨trivial, ?_⟩; gi_at_call 53; refine (callsIn_wide.2 HC1.out).mono ?_; rintro e w1 ⟨rfl, b1⟩)
      have hJ2 : J pre w1 := hJ _ _ _ none HJ.out (below_grown b1) (fun r e => by cases e)
      refine ⟨fun f hf => (by cases hf), ?_⟩
      gi_wp2
      refine bodyPost_ret (results_none rfl _ _ _) rfl ?_
      exact ⟨⟨_, rfl⟩, .inl ⟨pre, HP'.out, hJ2⟩⟩
    | some m =>
      obtain ⟨hfr, hm⟩ := firstZ_some hfz
      have hm12 : m + 12 ≤ len - off := by have := hfr.2.2.1; rw [← hm, List.length_drop, HL.out] at this; exact this
      have hx1 : off + (m + 12) ≤ bs.length := by rw [HL.out]; omega
      obtain ⟨fu', rfl⟩ : ∃ k, fuel = k + 1 := ⟨fuel - 1, by omega⟩
      obtain ⟨E, hE⟩ : ∃ E : Nat, off + (m + 12) = E := ⟨_, rfl⟩
      have gw : IntKind.i64.wrap ((off : Int) + ((m : Int) + 12)) = (E : Int) := by rw [IntKind.wrap_i64]; omega
      have hEl : E ≤ len := by omega
      have HP' : Hid (∀ D d, (pre ++ [(⟨⟨(off, m), hx1, hfz⟩, D, d⟩ : It bs)]).map itX ++ framesF bs fu' E = framesZ bs) := Lib.hid (fun D d => by
        have := HP.out; rw [framesF_yes hfz] at this; rw [List.map_append, ← hE]; simpa [itX] using this)
      have LX : Hid ((payZ bs (off, m)).length = m) := Lib.hid (by unfold payZ; rw [List.length_take, List.length_drop, List.length_drop]; dsimp only at hx1 ⊢; omega)
      have BX : Hid (IsBytes (payZ bs (off, m))) := Lib.hid (by unfold payZ; exact ((BB.out.drop _).drop _).take _)
      have HV : Hid (∀ D d, itV (⟨⟨(off, m), hx1, hfz⟩, D, d⟩ : It bs) = #[.slice D m d, .int .i64 (E : Int)]) := Lib.hid (fun D d => by unfold itV itE; rw [← hE])
      have HC1 : Hid (Calls Tryd.prog 53 #[.slice R (len - off) (cap - off)] wo fun e w' => ∃ D d, e = .returned (.tuple #[.slice D m d, .int .i64 ((m : Int) + 12), .int .i64 0]) ∧ Below wo.heap.size wo w' ∧ PieceOk w' B0 (itP (⟨⟨(off, m), hx1, hfz⟩, D, d⟩ : It bs))) := Lib.hid (C1.out.mono fun e w' h => by
        unfold NextSays at h; rw [hfz] at h
        obtain ⟨hb, D, d, rfl, ho, h4, h5⟩ := h
        exact ⟨D, d, rfl, hb, LX.out, BX.out, own_base ho (Nat.le_trans hB0 sz1), h4, h5⟩)
      clear hR C1 HP hm hfr LX BX hz1 hcut
      gi_wp2_with (first | (refine ⟨trivial, ?_⟩; gi_at_call 53; refine (callsIn_wide.2 HC1.out).mono ?_; rintro e w1 ⟨D, d, rfl, b1, hPi⟩; have hJ2 : J pre w1 := hJ _ _ _ none HJ.out (below_grown b1) (fun r e => by cases e); obtain ⟨fn, tmps, assign, body, hy, hR⟩ := hY _ _ w1 hJ2 hPi (by omega); rw [HV.out D d] at hy))
      have HK2 : Hid (Stay F W w1) := Lib.hid (HK1.out.trans (Stay.below b1 (fun k hk => Nat.lt_of_lt_of_le (hFl k hk) sz1)))
      clear b1 HJ HK1 hJ2 HC1 hPi
      refine hR.mono ?_
      clear hR
      rintro e W3 (⟨rfl, hJ3, hk3⟩ | ⟨rfl, hJx3⟩)
      · have HJ3 := Lib.hid hJ3
        have HK3 := Lib.hid (HK2.out.trans hk3)
        clear hJ3 hk3 HK2
        gi_wp2
        go_roundw
        case rel => exact ⟨E, fu', _, hEl, rfl, Lib.hid (HP'.out D d), by omega, by rw [List.length_append]; simp; omega, HJ3, HK3⟩
        case measure => simp [intOf]; omega
      · gi_wp2
        refine bodyPost_ret (results_none rfl _ _ _) rfl ?_
        exact ⟨⟨_, rfl⟩, .inr ⟨_, ⟨_, HP'.out D d⟩, hJx3⟩⟩
theorem records_any (A : Option Addr) (len cap : Nat) (w : World) :
    Calls Tryd.prog 31 #[.slice A len cap] w fun e w' => e = .returned (.func (.func 52) #[] #[.pointer (some ⟨w.heap.size, 0, none⟩)]) ∧ w' = w.alloc (.cells #[.slice A len cap] 27) := by
  go_enter Tryd.func31, Tryd.ntmps31
  go_wp2
  go_ret
  exact ⟨rfl, rfl⟩
/-- The iterator's contract. -/
theorem records_told (n : Nat) (hn : 1 ≤ n) (Bn B0 : Nat) (F : Nat → Prop) (A : Option Addr) (len cap : Nat) (bs : List Int) (w : World) (hBn : Boxed w Bn 27 (.slice A len cap)) (hz : Stands w F ⟨A, len, cap, bs⟩) (hB0 : B0 ≤ w.heap.size) (hlen : len ≤ 100000000)
    (hF : LaidF w) (hK : LaidK w) (hFl : ∀ k, F k → k < w.heap.size) (f1 : F Bn) (f2 : F 0) (f3 : F 1) :
    SeqP Fence.wide n Tryd.prog 52 #[.pointer (some ⟨Bn, 0, none⟩)] itV (fun (x : It bs) W => PieceOk W B0 (itP x)) (Stay F) (fun ys => ys.map itX = framesZ bs) (fun pre => ∃ t, pre.map itX ++ t = framesZ bs) (len + 1) w := fun l J Jx W hW hJ _ hY h0 => by
  have hs := hW.size
  have st : ∀ k, F k → W.heap[k]? = w.heap[k]? := fun k hk => hW.block k (hFl k hk)
  exact recs1_in n hn l Bn B0 F A len cap bs J Jx hY W hJ ((st _ f1).trans hBn) (hz.keep (fun k hk _ => st k hk)) (Nat.le_trans hB0 hs) hlen (hF.stay (st _ f2)) (hK.stay (st _ f3)) (fun k hk => Nat.lt_of_lt_of_le (hFl k hk) hs) f1 f2 f3 h0
end Go.Proofs.YtjfeepmjebdahaaDoor
/- A wal in memory: New, ready, Add, Sync. -/
namespace Go.Proofs.YtjfeepmjebdahaaDoor
open Go.ChangeShapes Go.WideShapes Go.ChangeAt Go.RowKit
set_option linter.unusedVariables false
open Plain Sha
/-- Block b is a wal on disk d; it is none of the disk's blocks K. -/
structure WalAt (w : World) (b d : Nat) (K : Nat → Prop) : Prop where
  made : w.cell? ⟨b, 0, none⟩ = some (.bool true)
  disk : w.cell? ⟨b, 1, none⟩ = some (.pointer (some ⟨d, 0, none⟩))
  far : ¬ K b
section
variable {w w1 : World} {b d : Nat} {K K1 : Nat → Prop}
theorem WalAt.lt (h : WalAt w b d K) : b < w.heap.size := World.block_lt_of_cell? _ _ h.made
theorem WalAt.keep (h : WalAt w b d K) (hb : w1.heap[b]? = w.heap[b]?) (hf : ¬ K1 b) : WalAt w1 b d K1 :=
  ⟨(World.cell?_of_block (a := ⟨b, 0, none⟩) hb).trans h.made, (World.cell?_of_block (a := ⟨b, 1, none⟩) hb).trans h.disk, hf⟩
theorem WalAt.did (h : WalAt w b d K) (hm : Moved K w w1) (hn : Newer w K K1) : WalAt w1 b d K1 :=
  h.keep (hm.block b h.lt h.far) (fun e => (hn b e).elim h.far (fun e => by have := h.lt; omega))
theorem WalAt.below (h : WalAt w b d K) (hb : Below w.heap.size w w1) : WalAt w1 b d K := h.keep (hb.block b h.lt) h.far
end
set_option maxRecDepth 100000 in
theorem newwal_any (w : World) (d : Nat) : Calls Tryd.prog 10 #[.pointer (some ⟨d, 0, none⟩)] w (fun e w' => e = .returned (.pointer (some ⟨w.heap.size, 0, none⟩)) ∧ Below w.heap.size w w' ∧ w'.heap.size = w.heap.size + 1 ∧ w'.cell? ⟨w.heap.size, 0, none⟩ = some (.bool true) ∧ w'.cell? ⟨w.heap.size, 1, none⟩ = some (.pointer (some ⟨d, 0, none⟩))) := by
  go_enter Tryd.func10, Tryd.ntmps10
  go_wp2
  go_ret
  have hh := heap_alloc_new w (.cells #[.bool true, .pointer (some ⟨d, 0, none⟩)] 46)
  exact ⟨rfl, (Below.refl _ _).alloc (Nat.le_refl _) _, by simp, by rw [cell_of_row _ _ _ _ _ _ hh]; rfl, by rw [cell_of_row _ _ _ _ _ _ hh]; rfl⟩
def rdy (s : DiskZ) : Int × DiskZ := if s.up then (0, s) else (60, s)
set_option maxRecDepth 100000 in
theorem ready_any {w : World} {b d : Nat} {K : Nat → Prop} {s : DiskZ} (hw : WalAt w b d K) (h : Dk w d K s) (hs : Small s) : Calls Tryd.prog 41 #[.pointer (some ⟨b, 0, none⟩)] w (Did w d K (rdy s)) := by
  have c0 := hw.made
  have c1 := hw.disk
  have C1 := Lib.hid (up_any h)
  have C2 := Lib.hid (sync_any h hs)
  have HD := Lib.hid h
  clear h hw hs
  cases hu : s.up with
  | true =>
    rw [hu] at C1
    have HZ : Hid (rdy s = (0, s)) := Lib.hid (by unfold rdy; rw [hu]; rfl)
    clear hu C2
    go_enter Tryd.func41, Tryd.ntmps41
    go_wp2_with fail
    refine C1.out.mono ?_
    rintro e w' ⟨rfl, rfl⟩
    go_wp2
    go_ret
    rw [HZ.out]
    exact ⟨rfl, K, HD.out, Moved.refl _ _, Newer.refl _ _⟩
  | false =>
    rw [hu] at C1
    have HZ : Hid (rdy s = (60, s)) := Lib.hid (by unfold rdy; rw [hu]; rfl)
    have HY : Hid (dSync s = (60, s)) := Lib.hid (by unfold dSync; rw [hu]; rfl)
    rw [HY.out] at C2
    clear hu HY
    go_enter Tryd.func41, Tryd.ntmps41
    go_wp2_with fail
    refine C1.out.mono ?_
    rintro e w' ⟨rfl, rfl⟩
    go_wp2_with fail
    refine C2.out.mono ?_
    rintro e w1 ⟨rfl, h1⟩
    go_wp2
    go_ret
    rw [HZ.out]
    exact ⟨rfl, h1⟩
theorem stands_bs {w : World} {B n : Nat} {A : Option Addr} {zs : List Int} {F : Nat → Prop} (h : Bs w B A n zs) (hn : n ≤ maxLen) (hF : ∀ k, k < B → F k) : Stands w F ⟨A, n, n, zs⟩ :=
  ⟨h.len, h.isBytes, Nat.le_refl _, hn, fun h0 => by
    obtain ⟨g, off, e, hg, hc⟩ := h.row h0
    exact ⟨g, off, e, hF g hg, hc⟩⟩
/-- What the tables of the hash want: they stand in w0, whose blocks no K holds. -/
structure Grown (w0 w : World) (d : Nat) (K : Nat → Prop) (s : DiskZ) : Prop where
  at_ : AtK w0 w d K s
  f : LaidF w0
  k : LaidK w0
theorem Grown.laid {w0 w : World} {d : Nat} {K : Nat → Prop} {s : DiskZ} (h : Grown w0 w d K s) : LaidF w ∧ LaidK w := ⟨h.f.below h.at_.bel h.f.lt, h.k.below h.at_.bel h.k.lt⟩
theorem Grown.did {w0 w w' : World} {b : Nat} {K : Nat → Prop} {s : DiskZ} {r : Int × DiskZ} {e : Ending} (h : Grown w0 w b K s) (hd : Did w b K r e w') : e = .returned (.int .i64 r.1) ∧ ∃ K', Grown w0 w' b K' r.2 ∧ Moved K w w' ∧ Newer w K K' := by
  obtain ⟨h1, K', h2, h3, h4⟩ := h.at_.did hd
  exact ⟨h1, K', ⟨h2, h.f, h.k⟩, h3, h4⟩
theorem Grown.below {w0 w w' : World} {b : Nat} {K : Nat → Prop} {s : DiskZ} (h : Grown w0 w b K s) (hb : Below w.heap.size w w') : Grown w0 w' b K s := ⟨h.at_.below hb, h.f, h.k⟩
/-- Two calls, one behind the other. -/
theorem did_then {w w1 w2 : World} {d : Nat} {K K1 : Nat → Prop} {r : Int × DiskZ} {e : Ending} (hm : Moved K w w1) (hn : Newer w K K1) (h : Did w1 d K1 r e w2) : Did w d K r e w2 := by
  obtain ⟨h1, K', h2, h3, h4⟩ := h
  exact ⟨h1, K', h2, hm.trans h3 hn, hn.trans h4 hm.size⟩
set_option maxRecDepth 100000 in
theorem walsync_any {w : World} {b d : Nat} {K : Nat → Prop} {s : DiskZ} (hw : WalAt w b d K) (h : Dk w d K s) (hs : Small s) : Calls Tryd.prog 23 #[.pointer (some ⟨b, 0, none⟩)] w (Did w d K (dSync s)) := by
  have C1 := Lib.hid (ready_any hw h hs)
  have HW := Lib.hid hw
  have HS := Lib.hid hs
  clear h hw hs
  cases hu : s.up with
  | true =>
    have HZ : Hid (rdy s = (0, s)) := Lib.hid (by unfold rdy; rw [hu]; rfl)
    rw [HZ.out] at C1
    clear hu HZ
    go_enter Tryd.func23, Tryd.ntmps23
    go_wp2_with fail
    refine C1.out.mono ?_
    rintro e w1 ⟨rfl, K1, h1, hm, hn⟩
    have HM := Lib.hid hm
    have HN := Lib.hid hn
    have c1 := (HW.out.did hm hn).disk
    have C2 := Lib.hid (sync_any h1 HS.out)
    clear h1 hm hn C1
    go_wp2_with fail
    refine C2.out.mono ?_
    intro e w2 h2
    have h2 := did_then HM.out HN.out h2
    obtain ⟨rfl, h3⟩ := h2
    go_wp2
    go_ret
    exact ⟨rfl, h3⟩
  | false =>
    have HZ : Hid (rdy s = (60, s)) := Lib.hid (by unfold rdy; rw [hu]; rfl)
    have HY : Hid (dSync s = (60, s)) := Lib.hid (by unfold dSync; rw [hu]; rfl)
    rw [HZ.out] at C1
    clear hu HZ
    go_enter Tryd.func23, Tryd.ntmps23
    go_wp2_with fail
    refine C1.out.mono ?_
    rintro e w1 ⟨rfl, h1⟩
    go_wp2
    go_ret
    rw [HY.out]
    exact ⟨rfl, h1⟩
set_option maxRecDepth 100000 in
set_option maxHeartbeats 1000000 in
theorem waladd_any {w0 w : World} {b d : Nat} {K : Nat → Prop} {s : DiskZ} {A : Option Addr} {n : Nat} (c : Nat) {zs : List Int} (hw : WalAt w b d K) (h : Grown w0 w d K s) (hs : Small s) (hz : Stands w (fun k => ¬ K k) ⟨A, n, n, zs⟩) (hl : n ≤ 65536) :
    Calls Tryd.prog 22 #[.pointer (some ⟨b, 0, none⟩), .slice A n c] w (Did w d K (dWrite s (frameZ zs))) := by
  have C1 := Lib.hid (ready_any hw h.at_.dk hs)
  have HW := Lib.hid hw
  have HS := Lib.hid hs
  have HZ1 := Lib.hid hz
  have HG := Lib.hid h
  clear h hw hs hz
  cases hu : s.up with
  | true =>
    have HZ : Hid (rdy s = (0, s)) := Lib.hid (by unfold rdy; rw [hu]; rfl)
    rw [HZ.out] at C1
    clear hu HZ
    go_enter Tryd.func22, Tryd.ntmps22
    go_wp2_with fail
    refine C1.out.mono ?_
    intro e w1 hd
    obtain ⟨rfl, K1, h1, hm, hn⟩ := HG.out.did hd
    have HM := Lib.hid hm
    have HN := Lib.hid hn
    have HW1 := Lib.hid (HW.out.did hm hn)
    have hz1 := (HZ1.out.keep (fun k hk hlt => hm.block k hlt hk)).bs
    have HG1 := Lib.hid h1
    have C2 := Lib.hid (fseal_any c hz1 (Nat.le_refl _) hl h1.laid.1 h1.laid.2)
    have LF : Hid ((frameZ zs).length = n + 12) := Lib.hid (by rw [frameZ_len, HZ1.out.len])
    have BF : Hid (IsBytes (frameZ zs)) := Lib.hid (frameZ_bytes HZ1.out.bytes)
    clear h1 hm hn C1 hd hz1
    go_wp2_with fail
    refine C2.out.mono ?_
    rintro e w2 ⟨D, q, rfl, ho, hb, h4, h5⟩
    have HG2 := Lib.hid (HG1.out.below hb)
    have HW2 := HW1.out.below hb
    have c1 := HW2.disk
    have z2 : Bs w2 w2.heap.size D (n + 12) (frameZ zs) := bs_of_own ho BF.out
    have C3 := Lib.hid (dkwrite_any q HG2.out.at_.dk z2 (Nat.le_refl _) (by omega) HS.out)
    have HB := Lib.hid hb
    clear ho hb z2 C2 HW2
    go_wp2_with fail
    refine C3.out.mono ?_
    intro e w3 h3
    have h3 := did_then (HM.out.trans (Moved.of_below _ HB.out) HN.out) HN.out h3
    obtain ⟨rfl, h4⟩ := h3
    go_wp2
    go_ret
    exact ⟨rfl, h4⟩
  | false =>
    have HZ : Hid (rdy s = (60, s)) := Lib.hid (by unfold rdy; rw [hu]; rfl)
    have HY : Hid (dWrite s (frameZ zs) = (60, s)) := Lib.hid (by unfold dWrite; rw [hu]; rfl)
    rw [HZ.out] at C1
    clear hu HZ
    go_enter Tryd.func22, Tryd.ntmps22
    go_wp2_with fail
    refine C1.out.mono ?_
    rintro e w1 ⟨rfl, h1⟩
    go_wp2
    go_ret
    rw [HY.out]
    exact ⟨rfl, h1⟩
end Go.Proofs.YtjfeepmjebdahaaDoor
/- What rounds that collect records keep. -/
namespace Go.Proofs.YtjfeepmjebdahaaDoor
open Go.ChangeShapes Go.WideShapes Go.ChangeAt Go.RowKit Go.Shelf
set_option linter.unusedVariables false
open Plain Sha
attribute [local go_sem] Oper.semAt_some
def recsZ (bs : List Int) : List (List Int) := (framesZ bs).map (payZ bs)
/-- The box rb holds what was collected: the records of pre, in rows newer than B. -/
def Recs (rb B : Nat) {bs : List Int} (pre : List (It bs)) (W : World) : Prop :=
  ∃ (v : Value) (ps : List Piece), Boxed W rb 33 v ∧ W.ownsRow B 27 1 v ps.length (ps.map pv) ∧ (∀ p ∈ ps, PieceOk W B p) ∧ ps.map (·.zs) = pre.map (fun t => payZ bs (itX t))
theorem Recs.own (rb B C : Nat) {bs : List Int} : OwnFrom C (fun (pre : List (It bs)) W => Recs rb B pre W) := fun s X Y row hs hg hr0 => by
  have hr := fun r e => (hr0 r e).2
  obtain ⟨v, ps, b1, h1, h2, h3⟩ := hs
  exact ⟨v, ps, box_kept b1 hg hr, row_kept h1 hg hr, fun p hp => (h2 p hp).kept hg hr, h3⟩
theorem moved_own {β : Type} {F : Nat → Prop} {w0 : World} {B : Nat} (hB : w0.heap.size ≤ B) : OwnFrom B (fun (_ : β) W => Moved F w0 W) := fun s X Y row hs hg hr =>
  ⟨hg.os.trans hs.os, hg.tape.trans hs.tape, hg.output.trans hs.output, Nat.le_trans hs.size hg.size, fun k hk hF => (hg.block k (Nat.lt_of_lt_of_le hk hs.size) (fun e => by have := (hr k e.symm).1; omega)).trans (hs.block k hk hF)⟩
theorem piece_own {B C : Nat} (p : Piece) : OwnFrom C (fun (_ : Unit) W => PieceOk W B p) := fun s X Y row hs hg hr => hs.kept hg (fun r e => (hr r e).2)
/-- A record more: what stands behind the append, and the store into the box. -/
theorem recs_more {W w3 : World} {rb B : Nat} {bs : List Int} {pre : List (It bs)} {x : It bs} {v v3 : Value} {ps : List Piece}
    (hb : Boxed W rb 33 v) (hrb : rb < B) (hsz : B ≤ W.heap.size) (hown : W.ownsRow B 27 1 v ps.length (ps.map pv)) (hps : ∀ p ∈ ps, PieceOk W B p) (hzs : ps.map (·.zs) = pre.map (fun t => payZ bs (itX t))) (hx : PieceOk W B (itP x))
    (ho3 : w3.ownsRow B 27 1 v3 (ps.length + 1) (ps.map pv ++ [pv (itP x)])) (hg3 : (W.alloc (.cells #[pv (itP x)] 27)).grownBy w3 v.ownBlock) :
    Boxed w3 rb 33 v ∧ KeepsOthers W (w3.setCell ⟨rb, 0, none⟩ v3) ∧ Recs rb B (pre ++ [x]) (w3.setCell ⟨rb, 0, none⟩ v3) ∧ (∀ k, k < B → k ≠ rb → (w3.setCell ⟨rb, 0, none⟩ v3).heap[k]? = W.heap[k]?) ∧ W.heap.size ≤ (w3.setCell ⟨rb, 0, none⟩ v3).heap.size ∧ Moved (fun k => k = rb ∨ B ≤ k) W (w3.setCell ⟨rb, 0, none⟩ v3) := by
  have hv := hown.lt
  have s3 : W.heap.size + 1 ≤ w3.heap.size := by have := hg3.size; simpa using this
  have e3 : Boxed w3 rb 33 v := (hb.alloc _).kept hg3 (fun e => by have := (hv _ e.symm).1; omega)
  obtain ⟨m1, m2⟩ := pieces_more hown hps hx.len hx.bytes hx.own hx.cap hx.max ho3 hg3
  have hset : ∀ {n : Nat} {t : TypeId} {vv : Value} {xs : List Value}, w3.ownsRow B t 1 vv n xs → (w3.setCell ⟨rb, 0, none⟩ v3).ownsRow B t 1 vv n xs := fun hh => ownsRow_setCell_below hh hrb _
  have blk : ∀ k, k < W.heap.size → ¬ (k = rb ∨ B ≤ k) → (w3.setCell ⟨rb, 0, none⟩ v3).heap[k]? = W.heap[k]? := fun k hk hn => by
    have hkr : k ≠ rb := fun e => hn (.inl e)
    rw [Below.heap_setCell _ _ _ _ hkr, hg3.block k (by simp; omega) (fun e => hn (.inr (hv _ e.symm).1)), Below.heap_alloc _ _ _ hk]
  have hz : (w3.setCell ⟨rb, 0, none⟩ v3).heap.size = w3.heap.size := by simp [World.setCell]
  refine ⟨e3, ?_, ⟨v3, ps ++ [itP x], e3.set _, hset m1, fun p hp => ?_, ?_⟩, fun k hk hne => blk k (by omega) (fun h => by rcases h with h | h <;> omega), by omega, ?_⟩
  · refine ((KeepsOthers.alloc _ _).trans (KeepsOthers.of_grownBy hg3 (fun j o e ho => ?_))).trans (KeepsOthers.setCell _ _ _)
    obtain ⟨c1, f1, e1⟩ := own_kind (hown.alloc _) j e
    rw [e1] at ho
    injection ho with ho
    subst ho
    rfl
  · have h := m2 p hp
    exact ⟨h.len, h.bytes, hset h.own, h.cap, h.max⟩
  · rw [List.map_append, List.map_append, hzs]; rfl
  · exact ⟨hg3.os, hg3.tape, hg3.output, by omega, blk⟩
theorem recs_len {bs : List Int} {pre : List (It bs)} {ps : List Piece} (hzs : ps.map (·.zs) = pre.map (fun t => payZ bs (itX t))) : ps.length = pre.length := by
  have := congrArg List.length hzs
  simpa using this
/-- Where the last of the first frames ends. -/
theorem last_end (bs : List Int) : ∀ (fuel off : Nat) (l t : List (Nat × Nat)), l ++ t = framesF bs fuel off → ∀ x, l.getLast? = some x → x.1 + (x.2 + 12) = off + useZ l
  | 0, off, l, t, h, x, hx => by
    simp only [framesF, List.append_eq_nil_iff] at h
    rw [h.1] at hx
    cases hx
  | fuel + 1, off, [], t, h, x, hx => by cases hx
  | fuel + 1, off, y :: l, t, h, x, hx => by
    cases hf : firstZ (bs.drop off) with
    | none => rw [framesF_no hf] at h; cases h
    | some m =>
      rw [framesF_yes hf] at h
      injection h with h1 h2
      have hu : useZ (y :: l) = y.2 + 12 + useZ l := by simp [useZ]
      rw [hu, h1]
      cases l with
      | nil =>
        simp only [List.getLast?_singleton, Option.some.injEq] at hx
        rw [← hx, h1]
        simp [useZ]
      | cons z l =>
        rw [List.getLast?_cons_cons] at hx
        have := last_end bs fuel (off + (m + 12)) (z :: l) t h2 x hx
        omega
end Go.Proofs.YtjfeepmjebdahaaDoor
/- Records. -/
namespace Go.Proofs.YtjfeepmjebdahaaDoor
open Go.ChangeShapes Go.WideShapes Go.ChangeAt Go.RowKit Go.Shelf
set_option linter.unusedVariables false
open Plain Sha
attribute [local go_sem] Oper.semAt_some
def RecsSays (w : World) (Z : List (List Int)) (e : Ending) (w' : World) : Prop :=
  Below w.heap.size w w' ∧ ∃ (v : Value) (ps : List Piece), e = .returned v ∧ w'.ownsRow w.heap.size 27 1 v ps.length (ps.map pv) ∧ (∀ p ∈ ps, PieceOk w' w.heap.size p) ∧ ps.map (·.zs) = Z
/-- The blocks that an iterator of records reads. -/
def Reads7 (Bn lo hi : Nat) : Nat → Prop := fun k => k = Bn ∨ (lo ≤ k ∧ k < hi) ∨ k = 0 ∨ k = 1
theorem stay_put {F : Nat → Prop} {B : Nat} (hF : ∀ k, F k → k < B) (W : World) (o : Obj) (h : B + 1 < W.heap.size) : Stay F W (W.putObj (B + 1) o) :=
  ⟨by simp, fun k hk => World.putObj_heap_other (by have := hF k hk; omega)⟩
set_option maxRecDepth 100000 in
set_option maxHeartbeats 4000000 in
theorem walrecs_gen {w : World} {b : Nat} {dv : Option Addr} {bs : List Int} (c0 : w.cell? ⟨b, 0, none⟩ = some (.bool true)) (c1 : w.cell? ⟨b, 1, none⟩ = some (.pointer dv)) (hF : LaidF w) (hK : LaidK w) (hbs : bs.length ≤ 1000000)
    (hC : ∀ W, Below w.heap.size w W → Calls Tryd.prog 17 #[.pointer dv] W (Told W bs)) :
    Calls Tryd.prog 11 #[.pointer (some ⟨b, 0, none⟩)] w (RecsSays w (recsZ bs)) := by
  have HFl := Lib.hid hF.lt
  have HKl := Lib.hid hK.lt
  have hbl := World.block_lt_of_cell? _ _ c0
  have HSm := Lib.hid hbs
  obtain ⟨i0, hi0, hz0, hz1, hz2⟩ := info_parts slice_row
  have I0 := Lib.hid hi0
  have I1 := Lib.hid hz0
  have I2 := Lib.hid hz1
  have I3 := Lib.hid hz2
  clear hi0 hz0 hz1 hz2
  have bX : Below w.heap.size w (w.alloc (.cells #[.slice none 0 0] 33)) := (Below.refl _ _).alloc (Nat.le_refl _) _
  have C1 := Lib.hid (hC _ bX)
  have HbX := Lib.hid bX
  have HFK := Lib.hid (And.intro hF hK)
  clear hC bX hbs hF hK
  refine (callsIn_wide (n := 10)).1 ?_
  refine callsIn_of_wp_marks Tryd.func11 rfl trivial ?_ rfl
  simp only [Tryd.ntmps11, List.size_toArray, List.length_cons, List.length_nil, Nat.reduceAdd, Nat.reduceSub, Array.replicate_succ, Array.replicate_zero, List.push_toArray, List.append_toArray, List.nil_append, List.cons_append]
  gi_wp2_with (first
    | (refine ⟨trivial, ?_⟩; gi_at_call 17; refine (callsIn_wide.2 C1.out).mono ?_; rintro e w1 ⟨A, n, c, rfl, hlen, hst, ho, hn1, hn2, hb⟩; clear ho)
    | (refine ⟨trivial, ?_⟩; gi_at_call 31; refine (callsIn_wide.2 (records_any _ _ _ _)).mono ?_; rintro e w' ⟨rfl, rfl⟩))
  have sX : (w.alloc (.cells #[.slice none 0 0] 33)).heap.size = w.heap.size + 1 := by simp
  obtain ⟨W0, hW0⟩ : ∃ W0, w1.alloc (.cells #[.slice A n c] 27) = W0 := ⟨_, rfl⟩
  have s1 := hb.size
  rw [sX] at hb s1 hst
  have sW : W0.heap.size = w1.heap.size + 1 := by rw [← hW0]; simp
  have hbW : Below w.heap.size w W0 := by rw [← hW0]; exact (HbX.out.trans (hb.mono (by omega))).alloc (by omega) _
  have r1 : Boxed W0 w.heap.size 33 (.slice none 0 0) := by
    rw [← hW0]
    exact Boxed.alloc ((hb.block w.heap.size (by omega)).trans (Boxed.new w _ _)) _
  have r2 : Boxed W0 w1.heap.size 27 (.slice A n c) := by rw [← hW0]; exact Boxed.new w1 _ _
  have hst0 : Stands W0 (Reads7 w1.heap.size (w.heap.size + 1) w1.heap.size) ⟨A, n, c, bs⟩ := by
    rw [← hW0]
    exact (hst.keep (fun k hk _ => Below.heap_alloc _ _ _ hk.2)).more (fun k hk _ => .inr (.inl hk))
  have hn3 : n ≤ 1000000 := by have := HSm.out; omega
  rw [hW0]
  clear hW0
  have hFw := HFK.out.1.below hbW HFl.out
  have hKw := HFK.out.2.below hbW HKl.out
  have hR7 : ∀ k, Reads7 w1.heap.size (w.heap.size + 1) w1.heap.size k → k < W0.heap.size ∧ k ≠ w.heap.size := fun k hk => by
    have := HFl.out
    have := HKl.out
    rcases hk with e | e | e | e <;> omega
  have HR7 := Lib.hid hR7
  refine range_told rfl (by omega) (gf := 52) (lb := #[.pointer (some ⟨w1.heap.size, 0, none⟩)]) rfl trivial (enters_of Tryd.func52 (by kernel_rfl) rfl)
    (records_told (10 - 1) (by omega) w1.heap.size W0.heap.size (Reads7 w1.heap.size (w.heap.size + 1) w1.heap.size) A n c bs W0 r2 hst0 (Nat.le_refl _) (by omega) hFw hKw (fun k hk => (hR7 k hk).1) (.inl rfl) (.inr (.inr (.inl rfl))) (.inr (.inr (.inr rfl)))) (Below.refl _ _)
    Stay.trans (fun W o hl => stay_put (fun k hk => (hR7 k hk).1) W o hl) (fun _ => rfl) (fun x => piece_own _)
    (fun pre W => Recs w.heap.size W0.heap.size pre W ∧ Moved (fun k => k = w.heap.size) W0 W) (fun _ _ => False) 0 (OwnFrom.and (Recs.own _ _ _) (moved_own (Nat.le_refl _))) (fun _ _ _ _ hs _ _ => hs)
    ⟨⟨.slice none 0 0, [], r1, World.ownsRow_nil _ _ _ _, (fun p hp => by cases hp), rfl⟩, Moved.refl _ _⟩
    ?act ?assign ?body ?done ?stop
  case assign =>
    intro l x W K hK
    have HKK := Lib.hid hK
    clear hK
    simp only [itV]
    gi_wp2
    exact HKK.out
  case body =>
    rintro l pre x W hW2 ⟨⟨v, ps, q2, hown, hps, hzs⟩, hM⟩ hx hlt
    have hlen2 : ps.length = pre.length := recs_len hzs
    have hlen3 : ps.length ≤ 1000000 := by omega
    have hWs : W0.heap.size ≤ W.heap.size := hM.size
    have c2 := q2.cell
    have f2 := q2.frozen
    have HO := Lib.hid hown
    have HP := Lib.hid hps
    have HZ := Lib.hid hzs
    have HX := Lib.hid hx
    have HQ := Lib.hid q2
    have HV : Hid (Value.slice x.D x.x.1.2 x.d = pv (itP x)) := Lib.hid rfl
    clear hown hps hzs hx hlen2
    gi_wp2_with (refine wpListIn_append_own _ rfl (.tmp 22) (.tmp 24) 33 rfl W0.heap.size 27 i0 _ 1 24 Tryd.underlying33 I0.out I1.out I2.out I3.out rfl (by decide) v ps.length (ps.map pv) rfl (HO.out.alloc _) ⟨W.heap.size, 0, none⟩ 1 1 [pv (itP x)] rfl rfl (World.news_of_block (cs := #[pv (itP x)]) (t := 27) (fr := (0, 0)) (heap_alloc_new W _)) (by simp [Value.oneCell', pv]) (by unfold maxLen; omega) (by omega) (by simp; omega) ?_; intro v3 w3 ho3 hg3 hnil; obtain ⟨va, vc, rfl, hva, hvc⟩ := own_shape ho3; obtain ⟨e3, k3, r3, st3, sz3, mv3⟩ := recs_more HQ.out (by omega) hWs HO.out HP.out HZ.out HX.out ho3 hg3; clear ho3 hg3 hnil hva hvc; have c3 := e3.cell; have f3 := e3.frozen; clear c2 f2)
    exact ⟨k3.from _, ⟨sz3, fun k hk => st3 k (HR7.out k hk).1 (HR7.out k hk).2⟩, r3, hM.trans mv3 (fun k hk => hk)⟩
  case done =>
    rintro D ys W hD hys ⟨⟨v, ps, q2, hown, hps, hzs⟩, hM⟩ hD2
    have hys : ys.map itX = framesZ bs := hys
    have hzs2 : Hid (ps.map (·.zs) = recsZ bs) := Lib.hid (by rw [hzs]; unfold recsZ; rw [← hys, List.map_map]; rfl)
    have HO := Lib.hid hown
    have HP := Lib.hid hps
    have c2 := q2.cell
    clear hzs hys
    gi_wp2
    refine ⟨by simp, .inl ⟨_, _, rfl, run_takeDeferred hD2, ?_⟩⟩
    have hg := (fun r (e : some D = some r) => (by cases e; exact ⟨_, hD2, rfl⟩ : ∃ o : Obj, W.heap[r]? = some o ∧ o.isCells = false))
    refine ⟨v, by simp [results, Tryd.f11, go_sem], ?_, v, ps, rfl, row_kept (own_base HO.out (by omega)) (grownBy_putObj' _ D (.deferred none)) hg, fun p hp => ?_, hzs2.out⟩
    · exact (hbW.trans (hM.below (by omega) (fun k hk => by omega))).trans (belowK_b (w := w) (Nat.le_refl _) _ D _ _ (by omega) hD2 rfl rfl)
    · have h := HP.out p hp
      have h2 : PieceOk W w.heap.size p := ⟨h.len, h.bytes, own_base h.own (by omega), h.cap, h.max⟩
      exact h2.kept (grownBy_putObj' _ D (.deferred none)) hg
  case stop =>
    rintro D pre W _ _ h _
    exact h.elim
theorem walrecs_any {w0 w : World} {b d : Nat} {K : Nat → Prop} {s : DiskZ} (hw : WalAt w b d K) (h : Grown w0 w d K s) (hs : Small s) :
    Calls Tryd.prog 11 #[.pointer (some ⟨b, 0, none⟩)] w (RecsSays w (recsZ (allZ s))) :=
  walrecs_gen hw.made hw.disk h.laid.1 h.laid.2 hs.bytes (fun W hb => told_any (h.at_.dk.below hb (Nat.le_refl _)) hs)
end Go.Proofs.YtjfeepmjebdahaaDoor
/- Lasting. -/
namespace Go.Proofs.YtjfeepmjebdahaaDoor
open Go.ChangeShapes Go.WideShapes Go.ChangeAt Go.RowKit Go.Shelf
set_option linter.unusedVariables false
open Plain Sha
attribute [local go_sem] Oper.semAt_some
/-- How many of the first frames end within the first k bytes. -/
def lastZ (bs : List Int) (k : Nat) : Nat := ((framesZ bs).takeWhile (fun x => decide (x.1 + (x.2 + 12) ≤ k))).length
theorem lastZ_all {bs : List Int} {k : Nat} {ys : List (It bs)} (h : ys.map itX = framesZ bs) (ha : ∀ t ∈ ys, itE t ≤ k) : lastZ bs k = ys.length := by
  unfold lastZ
  rw [← h, ← List.append_nil (ys.map itX), List.takeWhile_append_of_pos (fun x hx => by
    obtain ⟨t, ht, rfl⟩ := List.mem_map.1 hx
    exact decide_eq_true (ha t ht))]
  simp
theorem lastZ_stop {bs : List Int} {k : Nat} {q : List (It bs)} {x : It bs} {t : List (Nat × Nat)} (h : (q ++ [x]).map itX ++ t = framesZ bs) (ha : ∀ t ∈ q, itE t ≤ k) (hx : ¬ itE x ≤ k) : lastZ bs k = q.length := by
  unfold lastZ
  rw [← h, List.map_append, List.append_assoc, List.takeWhile_append_of_pos (fun x hx => by
    obtain ⟨t, ht, rfl⟩ := List.mem_map.1 hx
    exact decide_eq_true (ha t ht))]
  have hd : decide ((itX x).1 + ((itX x).2 + 12) ≤ k) = false := decide_eq_false hx
  simp [hd]
theorem box_own {β : Type} (B nb : Nat) (t : TypeId) (f : β → Value) : OwnFrom B (fun s W => Boxed W nb t (f s)) := fun s X Y row hs hg hr => box_kept hs hg (fun r e => (hr r e).2)
set_option maxRecDepth 100000 in
set_option maxHeartbeats 4000000 in
theorem walast_gen {w : World} {b k : Nat} {dv : Option Addr} {bs : List Int} (c0 : w.cell? ⟨b, 0, none⟩ = some (.bool true)) (c1 : w.cell? ⟨b, 1, none⟩ = some (.pointer dv)) (hF : LaidF w) (hK : LaidK w) (hbs : bs.length ≤ 1000000)
    (hC : ∀ W, Below w.heap.size w W → Calls Tryd.prog 17 #[.pointer dv] W (Told W bs))
    (hS : ∀ W, Below w.heap.size w W → Calls Tryd.prog 18 #[.pointer dv] W (fun e w' => e = .returned (.int .i64 (k : Nat)) ∧ W = w')) :
    Calls Tryd.prog 14 #[.pointer (some ⟨b, 0, none⟩)] w (fun e w' => e = .returned (.int .i64 (lastZ bs k : Nat)) ∧ Below w.heap.size w w') := by
  have HFl := Lib.hid hF.lt
  have HKl := Lib.hid hK.lt
  have hbl := World.block_lt_of_cell? _ _ c0
  have HSm := Lib.hid hbs
  have HC0 := Lib.hid c0
  have HC1 := Lib.hid c1
  have HC0 := Lib.hid c0
  have HC1 := Lib.hid c1
  have bX : Below w.heap.size w ((w.alloc (.cells #[.pointer (some ⟨b, 0, none⟩)] 31)).alloc (.cells #[.int .i64 0] 3)) := ((Below.refl _ _).alloc (Nat.le_refl _) _).alloc (by simp) _
  have rX : Boxed ((w.alloc (.cells #[.pointer (some ⟨b, 0, none⟩)] 31)).alloc (.cells #[.int .i64 0] 3)) w.heap.size 31 (.pointer (some ⟨b, 0, none⟩)) := (Boxed.new w _ _).alloc _
  have rY : Boxed ((w.alloc (.cells #[.pointer (some ⟨b, 0, none⟩)] 31)).alloc (.cells #[.int .i64 0] 3)) (w.heap.size + 1) 3 (.int .i64 0) := by
    have := Boxed.new (w.alloc (.cells #[.pointer (some ⟨b, 0, none⟩)] 31)) 3 (.int .i64 0)
    rwa [show (w.alloc (.cells #[.pointer (some ⟨b, 0, none⟩)] 31)).heap.size = w.heap.size + 1 by simp] at this
  have sX : ((w.alloc (.cells #[.pointer (some ⟨b, 0, none⟩)] 31)).alloc (.cells #[.int .i64 0] 3)).heap.size = w.heap.size + 2 := by simp
  have C1 := Lib.hid (hC _ bX)
  have HbX := Lib.hid bX
  have HrX := Lib.hid rX
  have HrY := Lib.hid rY
  have HSX := Lib.hid sX
  have HSy := Lib.hid hS
  have HFK := Lib.hid (And.intro hF hK)
  clear hC hbs hF hK hS bX rX rY sX
  refine (callsIn_wide (n := 10)).1 ?_
  refine callsIn_of_wp_marks Tryd.func14 rfl trivial ?_ rfl
  simp only [Tryd.ntmps14, List.size_toArray, List.length_cons, List.length_nil, Nat.reduceAdd, Nat.reduceSub, Array.replicate_succ, Array.replicate_zero, List.push_toArray, List.append_toArray, List.nil_append, List.cons_append]
  gi_wp2_with (first
    | (refine ⟨trivial, ?_⟩; gi_at_call 17; refine (callsIn_wide.2 C1.out).mono ?_; rintro e w1 ⟨A, n, c, rfl, hlen, hst, ho, hn1, hn2, hb⟩; clear ho)
    | (refine ⟨trivial, ?_⟩; gi_at_call 31; refine (callsIn_wide.2 (records_any _ _ _ _)).mono ?_; rintro e w' ⟨rfl, rfl⟩))
  obtain ⟨W0, hW0⟩ : ∃ W0, w1.alloc (.cells #[.slice A n c] 27) = W0 := ⟨_, rfl⟩
  have s1 := hb.size
  rw [HSX.out] at hb s1 hst
  have sW : W0.heap.size = w1.heap.size + 1 := by rw [← hW0]; simp
  have hbW : Below w.heap.size w W0 := by rw [← hW0]; exact (HbX.out.trans (hb.mono (by omega))).alloc (by omega) _
  have r0 : Boxed W0 w.heap.size 31 (.pointer (some ⟨b, 0, none⟩)) := by rw [← hW0]; exact Boxed.alloc ((hb.block w.heap.size (by omega)).trans HrX.out) _
  have r1 : Boxed W0 (w.heap.size + 1) 3 (.int .i64 0) := by rw [← hW0]; exact Boxed.alloc ((hb.block (w.heap.size + 1) (by omega)).trans HrY.out) _
  have r2 : Boxed W0 w1.heap.size 27 (.slice A n c) := by rw [← hW0]; exact Boxed.new w1 _ _
  have hst0 : Stands W0 (Reads7 w1.heap.size (w.heap.size + 2) w1.heap.size) ⟨A, n, c, bs⟩ := by
    rw [← hW0]
    exact (hst.keep (fun k hk _ => Below.heap_alloc _ _ _ hk.2)).more (fun k hk _ => .inr (.inl hk))
  have hn3 : n ≤ 1000000 := by have := HSm.out; omega
  rw [hW0]
  clear hW0
  have hFw := HFK.out.1.below hbW HFl.out
  have hKw := HFK.out.2.below hbW HKl.out
  have hR7 : ∀ k, Reads7 w1.heap.size (w.heap.size + 2) w1.heap.size k → k < W0.heap.size ∧ k ≠ w.heap.size + 1 := fun k hk => by
    have := HFl.out
    have := HKl.out
    rcases hk with e | e | e | e <;> omega
  have HR7 := Lib.hid hR7
  have HW0 := Lib.hid (And.intro hbW r0)
  clear c0 c1
  refine range_told rfl (by omega) (gf := 52) (lb := #[.pointer (some ⟨w1.heap.size, 0, none⟩)]) rfl trivial (enters_of Tryd.func52 (by kernel_rfl) rfl)
    (records_told (10 - 1) (by omega) w1.heap.size W0.heap.size (Reads7 w1.heap.size (w.heap.size + 2) w1.heap.size) A n c bs W0 r2 hst0 (Nat.le_refl _) (by omega) hFw hKw (fun k hk => (hR7 k hk).1) (.inl rfl) (.inr (.inr (.inl rfl))) (.inr (.inr (.inr rfl)))) (Below.refl _ _)
    Stay.trans (fun W o hl => stay_put (fun k hk => (hR7 k hk).1) W o hl) (fun _ => rfl) (fun x => piece_own _)
    (fun pre W => Boxed W (w.heap.size + 1) 3 (.int .i64 ((pre.length : Nat) : Int)) ∧ Moved (fun k => k = w.heap.size + 1) W0 W ∧ ∀ t ∈ pre, itE t ≤ k)
    (fun pre W => Moved (fun k => k = w.heap.size + 1) W0 W ∧ ∃ q x, pre = q ++ [x] ∧ Boxed W (w.heap.size + 1) 3 (.int .i64 ((q.length : Nat) : Int)) ∧ (∀ t ∈ q, itE t ≤ k) ∧ ¬ itE x ≤ k) 0
    (OwnFrom.and (box_own _ _ _ _) (OwnFrom.and (moved_own (Nat.le_refl _)) (ownFrom_pure _ _)))
    (OwnFrom.and (moved_own (Nat.le_refl _)) (fun s X Y row hs hg hr => by
      obtain ⟨q, x, e, hbx, h1, h2⟩ := hs
      exact ⟨q, x, e, box_kept hbx hg (fun r e => (hr r e).2), h1, h2⟩))
    ⟨r1, Moved.refl _ _, fun t ht => by cases ht⟩
    ?act ?assign ?body ?done ?stop
  case assign =>
    intro l x W K hK
    have HKK := Lib.hid hK
    clear hK
    simp only [itV]
    gi_wp2
    exact HKK.out
  case body =>
    rintro l pre x W hW2 ⟨q1, hM, hall⟩ hx hlt
    have HAll := Lib.hid hall
    have hnb : w.heap.size + 1 < W0.heap.size := r1.lt
    have q0 : Boxed W w.heap.size 31 (.pointer (some ⟨b, 0, none⟩)) := (hM.block _ (by omega) (by omega)).trans HW0.out.2
    have hbel : Below w.heap.size w W := HW0.out.1.trans (hM.below (by omega) (fun k hk => by omega))
    have c0 := q0.cell
    have c1 : W.cell? ⟨b, 1, none⟩ = some (.pointer dv) := (hbel.cell (p := ⟨b, 1, none⟩) hbl).trans HC1.out
    have c2 := q1.cell
    have f2 := q1.frozen
    have C2 := Lib.hid (HSy.out W hbel)
    obtain ⟨E, hE⟩ : ∃ E, itE x = E := ⟨_, rfl⟩
    have HE := Lib.hid hE
    obtain ⟨p, hp⟩ : ∃ p, pre.length = p := ⟨_, rfl⟩
    rw [hp] at c2 hlt
    have HP := Lib.hid hp
    have HM := Lib.hid hM
    have HQ := Lib.hid q1
    have gw : IntKind.i64.wrap ((p : Int) + 1) = (p : Int) + 1 := by rw [IntKind.wrap_i64]; omega
    clear hall hx hbel hE hp hM q0 q1
    rw [HE.out]
    by_cases hle : E ≤ k
    · have hleI : ¬ (k : Int) < (E : Int) := by omega
      gi_wp2_with (refine ⟨trivial, ?_⟩; gi_at_call 18; refine CallsIn.inRound l ((callsIn_wide.2 C2.out).mono ?_); rintro e w2 ⟨rfl, rfl⟩)
      refine ⟨(KeepsOthers.setCell _ _ _).from _, ⟨by simp, fun k hk => Below.heap_setCell _ _ _ _ (HR7.out k hk).2⟩, ?_, HM.out.then (Moved.cell _ _ _ _ rfl), fun t ht => ?_⟩
      · have := HQ.out.set (.int .i64 ((p : Int) + 1))
        rw [List.length_append, HP.out]
        exact this
      · rcases List.mem_append.1 ht with ht | ht
        · exact HAll.out t ht
        · obtain rfl := List.mem_singleton.1 ht
          rw [HE.out]; exact hle
    · have hleI : (k : Int) < (E : Int) := by omega
      gi_wp2_with (refine ⟨trivial, ?_⟩; gi_at_call 18; refine CallsIn.inRound l ((callsIn_wide.2 C2.out).mono ?_); rintro e w2 ⟨rfl, rfl⟩)
      exact ⟨rfl, KeepsFrom.refl _ _, HM.out, pre, x, rfl, HQ.out, HAll.out, by rw [HE.out]; exact hle⟩
  case done =>
    rintro D ys W hD hys ⟨q1, hM, hall⟩ hD2
    have hys : ys.map itX = framesZ bs := hys
    have HL := Lib.hid (lastZ_all hys hall)
    have c2 := q1.cell
    have hbel : Below w.heap.size w W := hbW.trans (hM.below (by omega) (fun k hk => by omega))
    clear hys hall
    gi_wp2
    refine ⟨by simp, .inl ⟨_, _, rfl, run_takeDeferred hD2, ?_⟩⟩
    refine ⟨.int .i64 ((ys.length : Nat) : Int), by simp [results, Tryd.f14, go_sem], by rw [HL.out], hbel.trans (belowK_b (w := w) (Nat.le_refl _) _ D _ _ (by omega) hD2 rfl rfl)⟩
  case stop =>
    rintro D pre W hD ⟨t, ht⟩ ⟨hM, q, x, rfl, q1, hall, hx⟩ hD2
    have HL := Lib.hid (lastZ_stop ht hall hx)
    have c2 := q1.cell
    have hbel : Below w.heap.size w W := hbW.trans (hM.below (by omega) (fun k hk => by omega))
    clear ht hall hx
    gi_wp2
    refine ⟨by simp, .inl ⟨_, _, rfl, run_takeDeferred hD2, ?_⟩⟩
    refine ⟨.int .i64 ((q.length : Nat) : Int), by simp [results, Tryd.f14, go_sem], by rw [HL.out], hbel.trans (belowK_b (w := w) (Nat.le_refl _) _ D _ _ (by omega) hD2 rfl rfl)⟩
theorem walast_any {w0 w : World} {b d : Nat} {K : Nat → Prop} {s : DiskZ} (hw : WalAt w b d K) (h : Grown w0 w d K s) (hs : Small s) :
    Calls Tryd.prog 14 #[.pointer (some ⟨b, 0, none⟩)] w (fun e w' => e = .returned (.int .i64 (lastZ (allZ s) s.zs.length : Nat)) ∧ Below w.heap.size w w') :=
  walast_gen hw.made hw.disk h.laid.1 h.laid.2 hs.bytes (fun W hb => told_any (h.at_.dk.below hb (Nat.le_refl _)) hs) (fun W hb => synced_any (h.at_.dk.below hb (Nat.le_refl _)))
end Go.Proofs.YtjfeepmjebdahaaDoor
/- A region that draws its order, in a function that holds a range over a function: walked as anywhere. -/
namespace Go.Proofs.YtjfeepmjebdahaaDoor
open Go.ChangeShapes Go.WideShapes Go.ChangeAt Go.RowKit
set_option linter.unusedVariables false
theorem oper_wide {n : Nat} {P : Program} {o : Oper} {a : Act} {w : World} {K : Act → World → Prop} {Q : Exit → Act → World → Prop} (hd : ∀ c, o.op ≠ .defer c) (h : o.wp P a w K Q) : o.wpIn Fence.wide n P a w K Q := by
  unfold Oper.wpIn
  refine ⟨fun f _ => trivial, ?_⟩
  rw [Oper.semAt_eq _ _ _ hd]
  unfold Oper.wp at h
  generalize (execOp a.eval o).run P w = r at h ⊢
  cases r with
  | ok x w' =>
    cases x <;> simp only [Oper.upon, Oper.uponIn] at h ⊢ <;>
      first
        | exact h
        | exact ⟨fun h => (by cases h), callsIn_wide.2 h⟩
        | exact ⟨fun h => (by cases h), fun c cs _ => (let ⟨v, w1, r, s⟩ := h c cs; ⟨v, w1, r, stepsIn_wide.2 s⟩)⟩
        | exact h.elim
  | halt x w' => cases x <;> simp only [Oper.upon, Oper.uponIn] at h ⊢ <;> exact h
theorem any_wide {n : Nat} {P : Program} {md : Region.Mode} {ops : Array Oper} {Q : Exit → Act → World → Prop} (hd : ∀ (i : Nat) o, ops[i]? = some o → ∀ c, o.op ≠ .defer c) (hL : ¬ LetsOut Q) :
    ∀ (fuel : Nat) (listed : Array Bool) (a : Act) (w : World), wpAny P md ops Q fuel listed a w → wpAnyIn Fence.wide n P md ops Q fuel listed a w
  | 0, _, _, _, h => h
  | fuel + 1, listed, a, w, h => by
    refine ⟨h.1, fun i hi => ?_⟩
    have h2 := h.2 i hi
    unfold wpOp at h2
    unfold wpOpIn
    cases ho : ops[i]? with
    | none => rw [ho] at h2; exact any_wide hd hL fuel _ _ _ h2
    | some o =>
      rw [ho] at h2
      simp only at h2 ⊢
      split
      · next hw =>
        rw [if_pos hw] at h2
        rcases h2 with h2 | ⟨_, h2⟩
        · exact Oper.wpIn_mono (fun a w => any_wide hd hL fuel _ a w) (oper_wide (hd i o ho) h2)
        · exact absurd h2 hL
      · next hw =>
        rw [if_neg hw] at h2
        exact ⟨fun _ _ => trivial, any_wide hd hL fuel _ _ _ h2⟩
theorem region_wide {n id : Nat} {P : Program} {ops : Array Oper} {Q : Exit → Act → World → Prop} {a : Act} {w : World} (hm : P.follows .mixedOrders = true) (hd : (ops.toList.all fun o => match o.op with | .defer _ => false | _ => true) = true) (hL : ¬ LetsOut Q)
    (h : wpAny P .any ops Q ops.size (Array.replicate ops.size false) a w.drew) : (Code.region id ops true).wpIn Fence.wide n P Q a w := by
  refine wpIn_region_any hm (any_wide (fun i o hi c hc => ?_) hL _ _ _ _ h)
  have := List.all_eq_true.1 hd o (by
    have h2 : ops.toList[i]? = some o := by rw [Array.getElem?_toList]; exact hi
    exact List.mem_of_getElem? h2)
  rw [hc] at this
  cases this
/-- Neither a panic nor a way out. -/
def Calm (Q : Exit → Act → World → Prop) : Exit → Act → World → Prop
  | .panic _, _, _ => False
  | .outgrown, _, _ => False
  | e, a, w => Q e a w
theorem Calm.normal {Q : Exit → Act → World → Prop} {a : Act} {w : World} (h : Q .normal a w) : Calm Q .normal a w := h
theorem Calm.imp {Q : Exit → Act → World → Prop} : ∀ (e : Exit) (a : Act) (w : World), Calm Q e a w → Q e a w := fun e a w h => by
  cases e <;> first | exact h | exact (h : False).elim
theorem late_wide {n : Nat} {P : Program} {ops : Array Oper} {Q : Exit → Act → World → Prop} (S : World → Prop) (ks : List Nat) {id : Nat} {a : Act} {w : World} (hm : P.follows .mixedOrders = true) (hd : (ops.toList.all fun o => match o.op with | .defer _ => false | _ => true) = true) (hS : S w.drew)
    (h : S w.drew → Late P .any ops (Calm Q) S ks ops.size (Array.replicate ops.size false) a w.drew) : (Code.region id ops true).wpIn Fence.wide n P Q a w :=
  wpIn_mono (region_wide hm hd (fun ⟨_, _, h⟩ => h) (Late.any _ _ _ _ (h hS))) Calm.imp
theorem late_round {l n : Nat} {P : Program} {ops : Array Oper} {Q : Exit → Act → World → Prop} (S : World → Prop) (ks : List Nat) {id : Nat} {a : Act} {w : World} (hm : P.follows .mixedOrders = true) (hd : (ops.toList.all fun o => match o.op with | .defer _ => false | _ => true) = true) (hS : S w.drew)
    (h : S w.drew → Late P .any ops (Calm Q) S ks ops.size (Array.replicate ops.size false) a w.drew) : (Code.region id ops true).wpIn (Fence.wide.inRound l) n P Q a w :=
  wpIn_mono (region_round hm hd (fun ⟨_, _, h⟩ => h) (Late.any _ _ _ _ (h hS))) Calm.imp
end Go.Proofs.YtjfeepmjebdahaaDoor
/- Recover. -/
namespace Go.Proofs.YtjfeepmjebdahaaDoor
open Go.ChangeShapes Go.WideShapes Go.ChangeAt Go.RowKit Go.Shelf
set_option linter.unusedVariables false
open Plain Sha
attribute [local go_sem] Oper.semAt_some
/-- Where the frames of bytes end. -/
def usedZ (bs : List Int) : Nat := useZ (framesZ bs)
/-- A disk behind a Recover. -/
def recS (s : DiskZ) : DiskZ := if usedZ (allZ s) < (allZ s).length then ⟨s.up, (allZ s).take (usedZ (allZ s)), []⟩ else s
def endI {bs : List Int} (pre : List (It bs)) : Nat := match pre.getLast? with
  | none => 0
  | some t => itE t
theorem endI_snoc {bs : List Int} (pre : List (It bs)) (x : It bs) : endI (pre ++ [x]) = itE x := by unfold endI; rw [List.getLast?_concat]
theorem endI_all {bs : List Int} {ys : List (It bs)} (h : ys.map itX = framesZ bs) : endI ys = usedZ bs := by
  unfold endI usedZ
  rw [← h]
  cases hl : ys.getLast? with
  | none =>
    rw [List.getLast?_eq_none_iff] at hl
    subst hl
    rfl
  | some t =>
    have := last_end bs (bs.length + 1) 0 (ys.map itX) [] (by rw [List.append_nil]; exact h) (itX t) (by rw [List.getLast?_map, hl]; rfl)
    rw [Nat.zero_add] at this
    exact this
theorem useF_le (bs : List Int) : ∀ (fuel off : Nat), off ≤ bs.length → off + useZ (framesF bs fuel off) ≤ bs.length
  | 0, off, h => by simpa [framesF, useZ] using h
  | fuel + 1, off, h => by
    cases hf : firstZ (bs.drop off) with
    | none => rw [framesF_no hf]; simpa [useZ] using h
    | some m =>
      obtain ⟨hfr, hm⟩ := firstZ_some hf
      have hm12 : m + 12 ≤ bs.length - off := by have := hfr.2.2.1; rwa [← hm, List.length_drop] at this
      rw [framesF_yes hf]
      have := useF_le bs fuel (off + (m + 12)) (by omega)
      have hu : useZ ((off, m) :: framesF bs fuel (off + (m + 12))) = m + 12 + useZ (framesF bs fuel (off + (m + 12))) := by simp [useZ]
      omega
theorem usedZ_le (bs : List Int) : usedZ bs ≤ bs.length := by have := useF_le bs (bs.length + 1) 0 (Nat.zero_le _); unfold usedZ framesZ; omega
/-- Records that were told: their rows stand in none of the disk's blocks. -/
structure RecsAt (w : World) (K : Nat → Prop) (B : Nat) (v : Value) (ps : List Piece) (Z : List (List Int)) : Prop where
  own : w.ownsRow B 27 1 v ps.length (ps.map pv)
  all : ∀ p ∈ ps, PieceOk w B p
  zs : ps.map (·.zs) = Z
  farv : ∀ k, v.ownBlock = some k → ¬ K k
  farp : ∀ p ∈ ps, ∀ k, (pv p).ownBlock = some k → ¬ K k
theorem RecsAt.keep {w w1 : World} {K K1 : Nat → Prop} {B : Nat} {v : Value} {ps : List Piece} {Z : List (List Int)} (h : RecsAt w K B v ps Z) (hm : Moved K w w1) (hn : Newer w K K1) : RecsAt w1 K1 B v ps Z := by
  have far : ∀ k, k < w.heap.size → ¬ K k → ¬ K1 k := fun k hk hK hK1 => (hn k hK1).elim hK (fun e => by omega)
  refine ⟨own_same h.own (fun g hg => hm.block g (h.own.lt g hg).2 (h.farv g hg)), fun p hp => ?_, h.zs, fun k hk => far k (h.own.lt k hk).2 (h.farv k hk), fun p hp k hk => far k ((h.all p hp).own.lt k hk).2 (h.farp p hp k hk)⟩
  have ho := h.all p hp
  exact ⟨ho.len, ho.bytes, own_same ho.own (fun g hg => hm.block g (ho.own.lt g hg).2 (h.farp p hp g hg)), ho.cap, ho.max⟩
theorem RecsAt.below {w w1 : World} {K : Nat → Prop} {B : Nat} {v : Value} {ps : List Piece} {Z : List (List Int)} (h : RecsAt w K B v ps Z) (hb : Below w.heap.size w w1) : RecsAt w1 K B v ps Z :=
  h.keep (Moved.of_below K hb) (Newer.refl _ _)
theorem RecsSays.at_ {w w' : World} {Z : List (List Int)} {e : Ending} {K : Nat → Prop} (h : RecsSays w Z e w') (hK : ∀ k, K k → k < w.heap.size) : Below w.heap.size w w' ∧ ∃ v ps, e = .returned v ∧ RecsAt w' K w.heap.size v ps Z := by
  obtain ⟨hb, v, ps, h1, h2, h3, h4⟩ := h
  exact ⟨hb, v, ps, h1, h2, h3, h4, fun k hk hKk => by have := (h2.lt k hk).1; have := hK k hKk; omega, fun p hp k hk hKk => by have := ((h3 p hp).own.lt k hk).1; have := hK k hKk; omega⟩
theorem Recs.far {rb B e : Nat} {bs : List Int} {pre : List (It bs)} {W : World} (h : Recs rb B pre W) (he : e < B) (hne : rb ≠ e) (u : Value) : Recs rb B pre (W.setCell ⟨e, 0, none⟩ u) := by
  obtain ⟨v, ps, b1, h1, h2, h3⟩ := h
  exact ⟨v, ps, b1.other hne u, ownsRow_setCell_below h1 he _, fun p hp => ⟨(h2 p hp).len, (h2 p hp).bytes, ownsRow_setCell_below (h2 p hp).own he _, (h2 p hp).cap, (h2 p hp).max⟩, h3⟩
theorem ready_up {w : World} {b d : Nat} {K : Nat → Prop} {s : DiskZ} (hw : WalAt w b d K) (h : Dk w d K s) (hu : s.up = true) : Calls Tryd.prog 41 #[.pointer (some ⟨b, 0, none⟩)] w (fun e w' => e = .returned (.int .i64 0) ∧ w = w') := by
  have c0 := hw.made
  have c1 := hw.disk
  have C1 := Lib.hid (up_any h)
  rw [hu] at C1
  clear h hw hu
  go_enter Tryd.func41, Tryd.ntmps41
  go_wp2_with fail
  refine C1.out.mono ?_
  rintro e w' ⟨rfl, rfl⟩
  go_wp2
  go_ret
  exact ⟨rfl, rfl⟩
/-- What Recover tells of a disk that is up. -/
def Recovered (w : World) (d : Nat) (K : Nat → Prop) (s : DiskZ) (e : Ending) (w' : World) : Prop :=
  ∃ v ps K', e = .returned (.tuple #[v, .int .i64 (((allZ s).length - usedZ (allZ s) : Nat) : Int), .int .i64 0]) ∧ Dk w' d K' (recS s) ∧ Moved K w w' ∧ Newer w K K' ∧ RecsAt w' K' w.heap.size v ps (recsZ (allZ s))
set_option maxRecDepth 100000 in
set_option maxHeartbeats 4000000 in
theorem walrecover_up {w0 w : World} {b d : Nat} {K : Nat → Prop} {s : DiskZ} (hw : WalAt w b d K) (h : Grown w0 w d K s) (hs : Small s) (hu : s.up = true) :
    Calls Tryd.prog 21 #[.pointer (some ⟨b, 0, none⟩)] w (Recovered w d K s) := by
  obtain ⟨hF, hK⟩ := h.laid
  have HFl := Lib.hid hF.lt
  have HKl := Lib.hid hK.lt
  have HSm := Lib.hid hs.bytes
  have HSM := Lib.hid hs
  obtain ⟨i0, hi0, hz0, hz1, hz2⟩ := info_parts slice_row
  have I0 := Lib.hid hi0
  have I1 := Lib.hid hz0
  have I2 := Lib.hid hz1
  have I3 := Lib.hid hz2
  clear hi0 hz0 hz1 hz2
  have hbl := hw.lt
  have bX : Below w.heap.size w (w.alloc (.cells #[.slice none 0 0] 33)) := (Below.refl _ _).alloc (Nat.le_refl _) _
  have HD := Lib.hid h.at_.dk
  have C0 := Lib.hid (ready_up (hw.below bX) (h.at_.dk.below bX (Nat.le_refl _)) hu)
  have C1 := Lib.hid (told_any (h.at_.dk.below bX (Nat.le_refl _)) hs)
  have c1 := (hw.below bX).disk
  have HC1 := Lib.hid hw.disk
  have HKlt := Lib.hid h.at_.dk.lt
  have HW := Lib.hid hw
  have HbX := Lib.hid bX
  have HFK := Lib.hid (And.intro hF hK)
  have HU := Lib.hid hu
  obtain ⟨bs, hbs⟩ : ∃ bs, allZ s = bs := ⟨_, rfl⟩
  have HBS := Lib.hid hbs
  rw [hbs] at HSm C1
  clear h hs bX hbs hF hK hw hu
  refine (callsIn_wide (n := 10)).1 ?_
  refine callsIn_of_wp_marks Tryd.func21 rfl trivial ?_ rfl
  simp only [Tryd.ntmps21, List.size_toArray, List.length_cons, List.length_nil, Nat.reduceAdd, Nat.reduceSub, Array.replicate_succ, Array.replicate_zero, List.push_toArray, List.append_toArray, List.nil_append, List.cons_append]
  gi_wp2_with (first
    | (refine ⟨trivial, ?_⟩; gi_at_call 41; refine (callsIn_wide.2 C0.out).mono ?_; rintro e w9 ⟨rfl, rfl⟩)
    | (refine ⟨trivial, ?_⟩; gi_at_call 17; refine (callsIn_wide.2 C1.out).mono ?_; rintro e w1 ⟨A, n, c, rfl, hlen, hst, ho, hn1, hn2, hb⟩; clear ho)
    | (refine ⟨trivial, ?_⟩; gi_at_call 31; refine (callsIn_wide.2 (records_any _ _ _ _)).mono ?_; rintro e w' ⟨rfl, rfl⟩))
  have sX : (w.alloc (.cells #[.slice none 0 0] 33)).heap.size = w.heap.size + 1 := by simp
  have s1 := hb.size
  rw [sX] at hb s1 hst
  obtain ⟨W0, hW0⟩ : ∃ W0, (w1.alloc (.cells #[.int .i64 0] 3)).alloc (.cells #[.slice A n c] 27) = W0 := ⟨_, rfl⟩
  have sW : W0.heap.size = w1.heap.size + 2 := by rw [← hW0]; simp
  have hbW : Below w.heap.size w W0 := by rw [← hW0]; exact ((HbX.out.trans (hb.mono (by omega))).alloc (by omega) _).alloc (by simp; omega) _
  have r1 : Boxed W0 w.heap.size 33 (.slice none 0 0) := by
    rw [← hW0]
    exact Boxed.alloc (Boxed.alloc ((hb.block w.heap.size (by omega)).trans (Boxed.new w _ _)) _) _
  have r2 : Boxed W0 w1.heap.size 3 (.int .i64 0) := by rw [← hW0]; exact (Boxed.new w1 _ _).alloc _
  have r3 : Boxed W0 (w1.heap.size + 1) 27 (.slice A n c) := by
    have := Boxed.new (w1.alloc (.cells #[.int .i64 0] 3)) 27 (.slice A n c)
    rwa [hW0, show (w1.alloc (.cells #[.int .i64 0] 3)).heap.size = w1.heap.size + 1 by simp] at this
  have hst0 : Stands W0 (Reads7 (w1.heap.size + 1) (w.heap.size + 1) w1.heap.size) ⟨A, n, c, bs⟩ := by
    rw [← hW0]
    exact ((hst.keep (fun k hk _ => Below.heap_alloc _ _ _ hk.2)).keep (fun k hk hlt => Below.heap_alloc _ _ _ hlt)).more (fun k hk _ => .inr (.inl hk))
  have hn3 : n ≤ 1000000 := by have := HSm.out; omega
  rw [hW0]
  clear hW0
  have hFw := HFK.out.1.below hbW HFl.out
  have hKw := HFK.out.2.below hbW HKl.out
  have hR7 : ∀ k, Reads7 (w1.heap.size + 1) (w.heap.size + 1) w1.heap.size k → k < W0.heap.size ∧ k ≠ w.heap.size ∧ k ≠ w1.heap.size := fun k hk => by
    have := HFl.out
    have := HKl.out
    rcases hk with e | e | e | e <;> omega
  have HR7 := Lib.hid hR7
  have HBW := Lib.hid hbW
  have HLen := Lib.hid hlen
  clear hst hb
  refine range_told rfl (by omega) (gf := 52) (lb := #[.pointer (some ⟨w1.heap.size + 1, 0, none⟩)]) rfl trivial (enters_of Tryd.func52 (by kernel_rfl) rfl)
    (records_told (10 - 1) (by omega) (w1.heap.size + 1) W0.heap.size (Reads7 (w1.heap.size + 1) (w.heap.size + 1) w1.heap.size) A n c bs W0 r3 hst0 (Nat.le_refl _) (by omega) hFw hKw (fun k hk => (hR7 k hk).1) (.inl rfl) (.inr (.inr (.inl rfl))) (.inr (.inr (.inr rfl)))) (Below.refl _ _)
    Stay.trans (fun W o hl => stay_put (fun k hk => (hR7 k hk).1) W o hl) (fun _ => rfl) (fun x => piece_own _)
    (fun pre W => Recs w.heap.size W0.heap.size pre W ∧ Boxed W w1.heap.size 3 (.int .i64 ((endI pre : Nat) : Int)) ∧ Moved (fun k => k = w.heap.size ∨ k = w1.heap.size) W0 W) (fun _ _ => False) 0
    (OwnFrom.and (Recs.own _ _ _) (OwnFrom.and (box_own _ _ _ (fun pre => .int .i64 ((endI pre : Nat) : Int))) (moved_own (Nat.le_refl _)))) (fun _ _ _ _ hs _ _ => hs)
    ⟨⟨.slice none 0 0, [], r1, World.ownsRow_nil _ _ _ _, (fun p hp => by cases hp), rfl⟩, r2, Moved.refl _ _⟩
    ?act ?assign ?body ?done ?stop
  case assign =>
    intro l x W K hK
    have HKK := Lib.hid hK
    clear hK
    simp only [itV]
    gi_wp2
    exact HKK.out
  case body =>
    rintro l pre x W hW2 ⟨⟨v, ps, q2, hown, hps, hzs⟩, q3, hM⟩ hx hlt
    have hlen2 : ps.length = pre.length := recs_len hzs
    have hlen3 : ps.length ≤ 1000000 := by omega
    have hWs : W0.heap.size ≤ W.heap.size := hM.size
    have c2 := q2.cell
    have f2 := q2.frozen
    have HO := Lib.hid hown
    have HP := Lib.hid hps
    have HZ := Lib.hid hzs
    have HX := Lib.hid hx
    have HQ := Lib.hid q2
    have HQ3 := Lib.hid q3
    have HM := Lib.hid hM
    obtain ⟨E, hE⟩ : ∃ E, itE x = E := ⟨_, rfl⟩
    have HE : Hid (endI (pre ++ [x]) = E) := Lib.hid (by rw [endI_snoc, hE])
    rw [hE]
    clear hown hps hzs hx hlen2 hE q2 q3 hM
    gi_wp2_with (refine wpListIn_append_own _ rfl (.tmp 24) (.tmp 26) 33 rfl W0.heap.size 27 i0 _ 1 24 Tryd.underlying33 I0.out I1.out I2.out I3.out rfl (by decide) v ps.length (ps.map pv) rfl (HO.out.alloc _) ⟨W.heap.size, 0, none⟩ 1 1 [pv (itP x)] rfl rfl (World.news_of_block (cs := #[pv (itP x)]) (t := 27) (fr := (0, 0)) (heap_alloc_new W _)) (by simp [Value.oneCell', pv]) (by unfold maxLen; omega) (by omega) (by simp; omega) ?_; intro v3 w3 ho3 hg3 hnil; obtain ⟨va, vc, rfl, hva, hvc⟩ := own_shape ho3; obtain ⟨e3, k3, r3, st3, sz3, mv3⟩ := recs_more HQ.out (by omega) hWs HO.out HP.out HZ.out HX.out ho3 hg3; have q4 : Boxed w3 w1.heap.size 3 (.int .i64 ((endI pre : Nat) : Int)) := (HQ3.out.alloc _).kept hg3 (fun e => by have := (HO.out.lt _ e.symm).1; omega); clear ho3 hg3 hnil hva hvc; have c3 := e3.cell; have f3 := e3.frozen; have c4 := q4.cell; have f4 := q4.frozen; clear c2 f2)
    refine ⟨(k3.trans (KeepsOthers.setCell _ _ _)).from _, ⟨by simp [World.setCell] at sz3 ⊢; omega, fun k hk => ?_⟩, r3.far (by omega) (by omega) _, ?_, (HM.out.trans mv3 (fun k hk => hk.imp .inl id)).then (Moved.cell _ _ _ _ (.inr rfl))⟩
    · rw [Below.heap_setCell _ _ _ _ (HR7.out k hk).2.2]
      exact st3 k (HR7.out k hk).1 (HR7.out k hk).2.1
    · rw [HE.out]
      exact (q4.other (by omega) _).set _
  case done =>
    rintro D ys W hD hys ⟨⟨v, ps, q2, hown, hps, hzs⟩, q3, hM⟩ hD2
    have hys : ys.map itX = framesZ bs := hys
    have hzs2 : Hid (ps.map (·.zs) = recsZ bs) := Lib.hid (by rw [hzs]; unfold recsZ; rw [← hys, List.map_map]; rfl)
    rw [endI_all hys] at q3
    obtain ⟨U, hU⟩ : ∃ U, usedZ bs = U := ⟨_, rfl⟩
    rw [hU] at q3
    have hUn : U ≤ n := by rw [← hU, ← HLen.out]; exact usedZ_le bs
    have HUU := Lib.hid hU
    obtain ⟨Av, cv, rfl, hva, hvc⟩ := own_shape hown
    have HO := Lib.hid hown
    have HP := Lib.hid hps
    have HQ2 := Lib.hid q2
    have HQ3 := Lib.hid q3
    have HM := Lib.hid hM
    have HD2 := Lib.hid hD2
    have hWs : W0.heap.size ≤ W.heap.size := hM.size
    have hbel : Hid (Below w.heap.size w W) := Lib.hid (HBW.out.trans (hM.below (by omega) (fun k hk => by omega)))
    have c2 := q2.cell
    have c3 := q3.cell
    have f2 := q2.frozen
    have f3 := q3.frozen
    have k0 : W.cell? ⟨b, 1, none⟩ = some (.pointer (some ⟨d, 0, none⟩)) := (hbel.out.cell (p := ⟨b, 1, none⟩) hbl).trans HC1.out
    have gw : IntKind.i64.wrap ((n : Int) - (U : Int)) = (n : Int) - (U : Int) := by rw [IntKind.wrap_i64]; omega
    clear hzs hys hU q2 q3 hown hps hM hD2
    by_cases hlt : U < n
    · have hltI : (U : Int) < (n : Int) := by omega
      have hDk : Dk W.drew d K s := (HD.out.below hbel.out (Nat.le_refl _)).drewN 1
      have C3 := Lib.hid (cut_any (U : Int) hDk HSM.out)
      have HMK : Hid (∀ v, Moved K W.drew v → Moved K W v) := Lib.hid (fun v h => (Moved.drew K W).then h)
      gi_wp2
      refine late_wide (fun w' => w'.cell? ⟨b, 1, none⟩ = some (.pointer (some ⟨d, 0, none⟩)) ∧ w'.cell? ⟨w1.heap.size, 0, none⟩ = some (.int .i64 (U : Int))) [] (by kernel_rfl) (by rfl) ⟨k0, c3⟩ (fun hHeld => ?_)
      refine Late.take (i := 0) (oi := ⟨some 33, Op.move (Operand.tmp 0), _, _, _, _⟩) (v := ?_) rfl (by kernel_rfl) (by kernel_rfl) (by kernel_rfl) (by kernel_rfl) (fun _ _ _ h => h) (Or.inl ⟨by rfl, fun w hSw => ?_⟩) (by assumption) ?_
      rotate_left
      · (obtain ⟨s1, s2⟩ := hSw; go_simp; try with_reducible rfl)
      try simp only [Act.put, List.setIfInBounds_toArray, List.set_cons_zero, List.set_cons_succ]
      refine Late.take (i := 1) (oi := ⟨some 34, Op.nilCheck (Operand.tmp 33), _, _, _, _⟩) (v := ?_) rfl (by kernel_rfl) (by kernel_rfl) (by kernel_rfl) (by kernel_rfl) (fun _ _ _ h => h) (Or.inl ⟨by rfl, fun w hSw => ?_⟩) (by assumption) ?_
      rotate_left
      · (obtain ⟨s1, s2⟩ := hSw; go_simp; try with_reducible rfl)
      try simp only [Act.put, List.setIfInBounds_toArray, List.set_cons_zero, List.set_cons_succ]
      refine Late.take (i := 2) (oi := ⟨some 35, Op.fieldAddr 46 (Operand.tmp 34) 1, _, _, _, _⟩) (v := ?_) rfl (by kernel_rfl) (by kernel_rfl) (by kernel_rfl) (by kernel_rfl) (fun _ _ _ h => h) (Or.inl ⟨by rfl, fun w hSw => ?_⟩) (by assumption) ?_
      rotate_left
      · (obtain ⟨s1, s2⟩ := hSw; go_simp; try with_reducible rfl)
      try simp only [Act.put, List.setIfInBounds_toArray, List.set_cons_zero, List.set_cons_succ]
      refine Late.take (i := 3) (oi := ⟨some 36, Op.load 24 (Operand.tmp 35), _, _, _, _⟩) (v := ?_) rfl (by kernel_rfl) (by kernel_rfl) (by kernel_rfl) (by kernel_rfl) (fun _ _ _ h => h) (Or.inl ⟨by rfl, fun w hSw => ?_⟩) (by assumption) ?_
      rotate_left
      · (obtain ⟨s1, s2⟩ := hSw; go_simp; try with_reducible rfl)
      try simp only [Act.put, List.setIfInBounds_toArray, List.set_cons_zero, List.set_cons_succ]
      refine Late.take (i := 4) (oi := ⟨some 37, Op.load 3 (Operand.tmp 7), _, _, _, _⟩) (v := ?_) rfl (by kernel_rfl) (by kernel_rfl) (by kernel_rfl) (by kernel_rfl) (fun _ _ _ h => h) (Or.inl ⟨by rfl, fun w hSw => ?_⟩) (by assumption) ?_
      rotate_left
      · (obtain ⟨s1, s2⟩ := hSw; go_simp; try with_reducible rfl)
      try simp only [Act.put, List.setIfInBounds_toArray, List.set_cons_zero, List.set_cons_succ]
      refine Late.one (i := 5) (o := ⟨some 38, Op.call { callee := Callee.value (Operand.func 42), args := #[Operand.tmp 36, Operand.tmp 37], argTypes := #[24, 3] }, _, _, _, _⟩) (by kernel_rfl) rfl (fun K hK => ?_)
      go_simp
      refine C3.out.mono ?_
      rintro e w3 ⟨rfl, K3, h3, m3, n3⟩
      have M3 := Lib.hid (HMK.out _ m3)
      have N3 := Lib.hid n3
      have D3 := Lib.hid h3
      have q0 : w3.cell? ⟨b, 1, none⟩ = some (.pointer (some ⟨d, 0, none⟩)) := (M3.out.cell? ⟨b, 1, none⟩ (by show b < _; omega) HW.out.far).trans k0
      have q3 := Boxed.cell (show Boxed w3 w1.heap.size 3 (.int .i64 (U : Int)) from (M3.out.block _ HQ3.out.lt (fun e => by have := HKlt.out _ e; omega)).trans HQ3.out)
      clear h3 m3 n3 C3
      go_wp2_with fail
      refine hK.out _ _ (⟨q0, q3⟩) (fun hHeld2 => ?_)
      clear hK K hHeld
      have hHeld := hHeld2
      clear hHeld2
      try simp only [Act.put, List.setIfInBounds_toArray, List.set_cons_zero, List.set_cons_succ]
      refine Late.done (by kernel_rfl) ?_ _
      refine Calm.normal ?_
      have hR : Hid ((dCut s (U : Int)).2 = recS s) := Lib.hid (by
        unfold dCut recS
        rw [HBS.out, HUU.out, HLen.out, if_pos hlt, HU.out]
        rw [if_pos rfl, if_neg (by omega), Int.toNat_natCast])
      have hrb : w.heap.size < W.heap.size := HQ2.out.lt
      have e1 : Boxed w3 w.heap.size 33 (.slice Av ps.length cv) := (M3.out.block _ hrb (fun e => by have := HKlt.out _ e; omega)).trans HQ2.out
      have HE1 := Lib.hid e1
      have HD3 : Hid (w3.heap[D]? = some (.deferred (some []))) := Lib.hid ((M3.out.block D (Array.getElem?_eq_some_iff.1 HD2.out).1 (fun e => by have := HKlt.out _ e; omega)).trans HD2.out)
      have s3 : W.heap.size ≤ w3.heap.size := M3.out.size
      clear c2 c3 f2 f3 k0 q0 hHeld
      have c2 := e1.cell
      have f2 := e1.frozen
      have c3 := q3
      clear e1 q3
      gi_wp2
      gi_region
      gi_wp2
      have hD6 : ((w3.setCell ⟨w.heap.size, 0, none⟩ (.slice Av ps.length cv)).drew).heap[D]? = some (.deferred (some [])) :=
        ((KeepsOthers.setCell w3 ⟨w.heap.size, 0, none⟩ (.slice Av ps.length cv)).trans (KeepsOthers.drew _)).same D _ HD3.out rfl
      refine ⟨by simp, .inl ⟨_, _, rfl, run_takeDeferred hD6, ?_⟩⟩
      have hg := (fun r (e : some D = some r) => (by cases e; exact ⟨_, hD6, rfl⟩ : ∃ o : Obj, ((w3.setCell ⟨w.heap.size, 0, none⟩ (.slice Av ps.length cv)).drew).heap[r]? = some o ∧ o.isCells = false))
      have e2 : Boxed ((w3.setCell ⟨w.heap.size, 0, none⟩ (.slice Av ps.length cv)).drew) w.heap.size 33 (.slice Av ps.length cv) := HE1.out.set _
      have g2 := (box_kept e2 (grownBy_putObj' _ D (.deferred none)) hg).cell
      have hm4 : Moved (fun k => k = w.heap.size ∨ k = D) w3 (((w3.setCell ⟨w.heap.size, 0, none⟩ (.slice Av ps.length cv)).drew).putObj D (.deferred none)) :=
        ((Moved.cell _ w3 ⟨w.heap.size, 0, none⟩ _ (.inl rfl)).then (Moved.drew _ _)).then (Moved.grown (grownBy_putObj' _ D (.deferred none)) (fun k e => by injection e with e; exact .inr e.symm))
      have hDlt := (Array.getElem?_eq_some_iff.1 HD2.out).1
      have hK3 : Hid (∀ k, K3 k → k ≠ w.heap.size ∧ k ≠ D ∧ (K k ∨ W.heap.size ≤ k)) := Lib.hid (fun k hk => by
        rcases N3.out k hk with e | e
        · have := HKlt.out k e
          exact ⟨by omega, by omega, .inl e⟩
        · have e : W.heap.size ≤ k := e
          exact ⟨by omega, by omega, .inr e⟩)
      have hall : Hid (Moved K w (((w3.setCell ⟨w.heap.size, 0, none⟩ (.slice Av ps.length cv)).drew).putObj D (.deferred none))) := Lib.hid
        (((Moved.of_below K hbel.out).then M3.out).trans hm4 (fun k hk => .inr (by rcases hk with e | e <;> omega)))
      have hset : ∀ {m : Nat} {t : TypeId} {vv : Value} {xs : List Value}, W.ownsRow W0.heap.size t 1 vv m xs → (((w3.setCell ⟨w.heap.size, 0, none⟩ (.slice Av ps.length cv)).drew).putObj D (.deferred none)).ownsRow w.heap.size t 1 vv m xs := fun hh =>
        row_kept (own_base (ownsRow_setCell_below (own_same hh (fun g hg => M3.out.block g (hh.lt g hg).2 (fun e => by have := HKlt.out _ e; have := (hh.lt g hg).1; omega))) (by show w.heap.size < _; omega) _).drew (by omega)) (grownBy_putObj' _ D (.deferred none)) hg
      refine ⟨.tuple #[.slice Av ps.length cv, .int .i64 ((n : Int) - (U : Int)), .int .i64 0], by simp [results, Tryd.f21, go_sem, g2], .slice Av ps.length cv, ps, K3, ?_, ?_, hall.out, fun k hk => ?_, hset HO.out, fun p hp => ?_, by rw [HBS.out]; exact hzs2.out, fun k hk hKk => ?_, fun p hp k hk hKk => ?_⟩
      · rw [HBS.out, HUU.out, HLen.out, Int.ofNat_sub hUn]
      · rw [← hR.out]; exact D3.out.moved hm4 (fun k hk h => h.elim (hK3.out k hk).1 (hK3.out k hk).2.1)
      · exact (hK3.out k hk).2.2.imp id (fun e => by omega)
      · have h := HP.out p hp
        exact ⟨h.len, h.bytes, hset h.own, h.cap, h.max⟩
      · have h1 := HO.out.lt k hk
        rcases (hK3.out k hKk).2.2 with e | e
        · have := HKlt.out k e; omega
        · omega
      · have h1 := (HP.out p hp).own.lt k hk
        rcases (hK3.out k hKk).2.2 with e | e
        · have := HKlt.out k e; omega
        · omega
    · have hltI : ¬ (U : Int) < (n : Int) := by omega
      have hR : Hid (recS s = s) := Lib.hid (by unfold recS; rw [HBS.out, HUU.out, HLen.out, if_neg hlt])
      gi_wp2
      gi_region
      gi_wp2
      have hD6 : ((W.setCell ⟨w.heap.size, 0, none⟩ (.slice Av ps.length cv)).drew).heap[D]? = some (.deferred (some [])) :=
        ((KeepsOthers.setCell W ⟨w.heap.size, 0, none⟩ (.slice Av ps.length cv)).trans (KeepsOthers.drew _)).same D _ HD2.out rfl
      refine ⟨by simp, .inl ⟨_, _, rfl, run_takeDeferred hD6, ?_⟩⟩
      have hg := (fun r (e : some D = some r) => (by cases e; exact ⟨_, hD6, rfl⟩ : ∃ o : Obj, ((W.setCell ⟨w.heap.size, 0, none⟩ (.slice Av ps.length cv)).drew).heap[r]? = some o ∧ o.isCells = false))
      have e2 : Boxed ((W.setCell ⟨w.heap.size, 0, none⟩ (.slice Av ps.length cv)).drew) w.heap.size 33 (.slice Av ps.length cv) := HQ2.out.set _
      have g2 := (box_kept e2 (grownBy_putObj' _ D (.deferred none)) hg).cell
      have hset : ∀ {m : Nat} {t : TypeId} {vv : Value} {xs : List Value}, W.ownsRow W0.heap.size t 1 vv m xs → (((W.setCell ⟨w.heap.size, 0, none⟩ (.slice Av ps.length cv)).drew).putObj D (.deferred none)).ownsRow w.heap.size t 1 vv m xs := fun hh =>
        row_kept (own_base (ownsRow_setCell_below hh (by show w.heap.size < _; omega) _).drew (by omega)) (grownBy_putObj' _ D (.deferred none)) hg
      have hbl2 : Below w.heap.size w (((W.setCell ⟨w.heap.size, 0, none⟩ (.slice Av ps.length cv)).drew).putObj D (.deferred none)) := ((hbel.out.setCell (Nat.le_refl _) _).drew).trans (belowK_b (w := w) (Nat.le_refl _) _ D _ _ (by omega) hD6 rfl rfl)
      refine ⟨.tuple #[.slice Av ps.length cv, .int .i64 ((n : Int) - (U : Int)), .int .i64 0], by simp [results, Tryd.f21, go_sem, g2], .slice Av ps.length cv, ps, K, ?_, ?_, Moved.of_below K hbl2, Newer.refl _ _, hset HO.out, fun p hp => ?_, by rw [HBS.out]; exact hzs2.out, fun k hk hKk => ?_, fun p hp k hk hKk => ?_⟩
      · rw [HBS.out, HUU.out, HLen.out, Int.ofNat_sub hUn]
      · rw [hR.out]; exact HD.out.below hbl2 (Nat.le_refl _)
      · have h := HP.out p hp
        exact ⟨h.len, h.bytes, hset h.own, h.cap, h.max⟩
      · have := (HO.out.lt k hk).1; have := HKlt.out k hKk; omega
      · have := ((HP.out p hp).own.lt k hk).1; have := HKlt.out k hKk; omega
  case stop =>
    rintro D pre W _ _ h _
    exact h.elim
end Go.Proofs.YtjfeepmjebdahaaDoor
/- Recover of a disk that is down. -/
namespace Go.Proofs.YtjfeepmjebdahaaDoor
open Go.ChangeShapes Go.WideShapes Go.ChangeAt Go.RowKit Go.Shelf
set_option linter.unusedVariables false
open Plain Sha
set_option maxRecDepth 100000 in
set_option maxHeartbeats 1000000 in
theorem walrecover_down {w : World} {b d : Nat} {K : Nat → Prop} {s : DiskZ} (hw : WalAt w b d K) (h : Dk w d K s) (hs : Small s) (hu : s.up = false) :
    Calls Tryd.prog 21 #[.pointer (some ⟨b, 0, none⟩)] w (fun e w' => e = .returned (.tuple #[.slice none 0 0, .int .i64 0, .int .i64 60]) ∧ ∃ K', Dk w' d K' s ∧ Moved K w w' ∧ Newer w K K') := by
  have bX : Below w.heap.size w (w.alloc (.cells #[.slice none 0 0] 33)) := (Below.refl _ _).alloc (Nat.le_refl _) _
  have C0 := Lib.hid (ready_any (hw.below bX) (h.below bX (Nat.le_refl _)) hs)
  have HZ : Hid (rdy s = (60, s)) := Lib.hid (by unfold rdy; rw [hu]; rfl)
  rw [HZ.out] at C0
  have HbX := Lib.hid bX
  have HB : Hid (Boxed (w.alloc (.cells #[.slice none 0 0] 33)) w.heap.size 33 (.slice none 0 0)) := Lib.hid (Boxed.new w _ _)
  have HKlt := Lib.hid h.lt
  clear hw h hs bX hu
  go_enter Tryd.func21, Tryd.ntmps21
  go_wp2_with fail
  refine C0.out.mono ?_
  rintro e w1 ⟨rfl, K1, h1, m1, n1⟩
  have e1 : Boxed w1 w.heap.size 33 (.slice none 0 0) := (m1.block _ HB.out.lt (fun e => by have := HKlt.out _ e; omega)).trans HB.out
  have hK1 : ∀ k, K1 k → k ≠ w.heap.size ∧ (K k ∨ w.heap.size ≤ k) := fun k hk => by
    rcases n1 k hk with e | e
    · have := HKlt.out k e
      exact ⟨by omega, .inl e⟩
    · have e : (w.alloc (.cells #[.slice none 0 0] 33)).heap.size ≤ k := e
      simp at e
      exact ⟨by omega, .inr (by omega)⟩
  have HK1 := Lib.hid hK1
  have H1 := Lib.hid h1
  have M1 := Lib.hid m1
  have HE := Lib.hid e1
  have c2 := e1.cell
  have f2 := e1.frozen
  have s1 : w.heap.size < w1.heap.size := e1.lt
  clear h1 m1 n1 e1 hK1
  go_wp2
  have g2 : (w1.setCell ⟨w.heap.size, 0, none⟩ (.slice none 0 0)).cell? ⟨w.heap.size, 0, none⟩ = some (.slice none 0 0) := (HE.out.set _).cell
  refine bodyPost_ret (v := .tuple #[.slice none 0 0, .int .i64 0, .int .i64 60]) (by simp [results, Tryd.f21, go_sem, g2]) rfl ⟨rfl, K1, H1.out.cell (fun e => (HK1.out _ e).1 rfl) _, ?_, fun k hk => (HK1.out k hk).2⟩
  exact ((Moved.of_below K HbX.out).then M1.out).trans (Moved.cell (fun k => k = w.heap.size) _ ⟨w.heap.size, 0, none⟩ _ rfl) (fun k hk => .inr (by omega))
end Go.Proofs.YtjfeepmjebdahaaDoor
