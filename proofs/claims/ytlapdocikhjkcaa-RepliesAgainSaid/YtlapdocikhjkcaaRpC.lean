/- What a client was told last: the program's, the document's. -/
import Derived.Test.YtlapdocikhjkcaaRpB
namespace Go.Proofs.Ytlapdocikhjkcaa
open Go.ChangeShapes Go.WideShapes Go.ChangeAt Go.RowKit
set_option linter.unusedVariables false
set_option linter.unusedSimpArgs false
open Plain Sha Au Rp
theorem vthere {w : World} {b : Nat} {cs : List Value} {k : Nat} (h : VBox w b k cs) {us : List Value} (hu : us.length = k) : w.there b 0 us.toArray.size := by rw [List.size_toArray, hu]; exact h.there
theorem vstored {B : Nat} {a w w' : World} {b k : Nat} {cs us : List Value} (h : VBox w b k cs) (hu : us.length = k) (hw : Hid (w' = w.setCells b 0 us.toArray.toList)) (hb : B ≤ b) (h0 : Below B a w) : VBox w' b k us ∧ Below B a w' :=
  ⟨h.store hu hw, by rw [hw.out]; exact below_setCells hb _ _ _ h0⟩
theorem results_mid_tmp2 {P : Program} {fn : Func} {p u v : Tmp} {ty : TypeId} (h : fn.results = #[.cell p ty, .tmp u, .tmp v]) (tmps : Array Value) (w : World) (b o : Nat) (cs : List Value) (d : TypeDesc)
    (hp : tmps.getD p undef = .pointer (some ⟨b, o, none⟩)) (hc : w.rangeAt b o cs) (hu : P.underlying ty = some d) (hd : d.isRow = true) (hi : (P.info? ty).map (·.size) = some cs.length) :
    (results fn tmps).run P w = .ok (.tuple #[.agg cs.toArray, tmps.getD u undef, tmps.getD v undef]) w := by
  have hp' : tmps[p]?.getD undef = .pointer (some ⟨b, o, none⟩) := by simpa using hp
  simp [results, h, hp', asAddr, run_loadVar_mid w b o ty cs d hc hu hd hi]
theorem find_of {l : List LX} {t : Int} {n pos : Nat} (hl : l.length = n) (h : IsF (fun j => (l[j]?.map fun x => decide (x.c = t)).getD false) n pos) : findG LX.c l t = l[pos]? := by
  subst hl; exact find_first h
/-- What a client was told last, if anything. -/
def lastX (l : List LX) (t : Int) : LX := (findG LX.c l t).getD x0
set_option maxRecDepth 100000 in
set_option maxHeartbeats 2000000 in
theorem lastof_any {w : World} {B n : Nat} {A : Option Addr} {l : List LX} (c : Nat) (t : Int) (x : LX) (h : Las w B A n l) (hB : B ≤ w.heap.size) (hn : n ≤ 9223372036854775807) (hx : lastX l t = x) :
    Calls Try.prog 25 #[.slice A n c, .int .i64 t] w (fun e w' => e = .returned (.agg (xc x).toArray) ∧ Below w.heap.size w w') := by
  obtain ⟨W1, hW1⟩ : ∃ W, W = ((w.alloc (.cells #[.slice A n c] 24)).alloc (.cells #[.int .i64 t] 3)).alloc (.cells zX 53) := ⟨_, rfl⟩
  have b1 := Lib.hid (show Below w.heap.size w W1 by rw [hW1]; exact (((Below.refl _ _).alloc (Nat.le_refl _) _).alloc (by simp) _).alloc (by simp; omega) _)
  have c1 : W1.cell? ⟨w.heap.size, 0, none⟩ = some (.slice A n c) := by
    rw [hW1, (below_one _ _).cell (by simp; omega), (below_one _ _).cell (by simp), cell_of_row _ _ _ _ _ _ (heap_alloc_new w _)]; rfl
  have c2 : W1.cell? ⟨w.heap.size + 1, 0, none⟩ = some (.int .i64 t) := by
    rw [hW1, (below_one _ _).cell (by simp), cell_of_row _ _ _ _ _ _ (by have := heap_alloc_new (w.alloc (.cells #[.slice A n c] 24)) (.cells #[.int .i64 t] 3); simpa using this)]; rfl
  have V1 := Lib.hid (show VBox W1 (w.heap.size + 1 + 1) 77 (xc x0) by rw [hW1]; exact vbox_new _ _ _ _ _ (by simp) (xc_len _) (by omega))
  have z1 := Lib.hid (show W1.heap.size = w.heap.size + 1 + 1 + 1 by rw [hW1]; simp)
  have H1 := Lib.hid (h.below b1.out hB)
  obtain ⟨pos, hpos⟩ := isF_ex (fun j => (l[j]?.map fun x => decide (x.c = t)).getD false) n
  have e := find_of h.len hpos
  have FM := Lib.hid (first_eq (b1 := w.heap.size) (b2 := w.heap.size + 1) (w := W1) hn hpos (fun k m hk => by
    have hk' : k < l.length := by rw [h.len]; exact hk
    have hg : l[k]? = some l[k] := List.getElem?_eq_getElem hk'
    refine clos_eq c t _ _ (H1.out.keep fun _ _ => rfl) hg c1 c2 ?_
    simp [hg]))
  have hpn := hpos.le
  have HW1 := Lib.hid hW1
  have HL := Lib.hid h.len
  clear hW1 h hpos
  have zk := zPk
  have zs := zX_size
  have zn := zX_ne
  have G1 := V1
  have G2 := V1
  rcases Nat.lt_or_ge pos n with hlt | hge
  · obtain ⟨b, off, x', rfl, hb, HX, _, hr⟩ := H1.out.at_ hlt
    obtain rfl : x' = x := by rw [← hx]; unfold lastX; rw [e, HX.out]; rfl
    have HR := Lib.hid hr
    have h1 : ¬ ((pos : Int) = (n : Int)) := by omega
    have h2 : (pos : Int) < (n : Int) := by omega
    clear e hx hr HX H1
    go_enter Try.func25, Try.ntmps25
    go_upto_region 1 with fail
    rw [← HW1.out]
    clear zk zs zn
    go_wp2_with (first
        | (go_at_call 29; refine FM.out.mono ?_; intro e5 w5 q5; obtain ⟨rfl, b5⟩ := q5.belowQ; have d1 := (b5.cell (p := ⟨w.heap.size, 0, none⟩) (by have := z1.out; show w.heap.size < W1.heap.size; omega)).trans c1; have b5 := Lib.hid b5; clear q5)
        | (have g := G1; clear g; refine wpList_load_mid (op := ⟨some 18, .load 53 (.tmp 17), _, _, _, _⟩) rfl 53 (.tmp 17) rfl (b) (off + pos * 77) rfl (xc x') _ (rangeAt_same HR.out (b5.out.block _ (by have := z1.out; omega))) Try.underlying53 rfl (p_size x') ?_; clear G1)
        | (have g := G2; clear g; refine wpList_store_as (op := ⟨none, .store 53 (.tmp 4) (.tmp 18), _, _, _, _⟩) rfl 53 (.tmp 4) (.tmp 18) rfl (w.heap.size + 1 + 1) 0 (xc x').toArray rfl rfl (vthere (V1.out.below b5.out (by have := z1.out; omega)) (xc_len _)) (p_sizeA x') (x_oneA x') ?_; intro w9 hw9; clear G2))
    obtain ⟨V9, b9⟩ := vstored (V1.out.below b5.out (by have := z1.out; omega)) (xc_len x') hw9 (by omega) (b1.out.trans (b5.out.mono b1.out.size))
    exact bodyPost_ret (v := .agg (xc x').toArray) (results_mid (p := 4) (ty := 53) rfl _ _ (w.heap.size + 1 + 1) 0 (xc x') _ rfl V9.range Try.underlying53 rfl (p_size x')) rfl ⟨rfl, b9⟩
  · have hpe : pos = n := by omega
    have h1 : (pos : Int) = (n : Int) := by omega
    obtain rfl : x0 = x := by
      have hnone : l[pos]? = none := by rw [List.getElem?_eq_none_iff, HL.out]; exact hge
      rw [← hx]; unfold lastX; rw [e, hnone]; rfl
    subst hpe
    clear e hx H1 h1
    go_enter Try.func25, Try.ntmps25
    go_upto_region 1 with fail
    rw [← HW1.out]
    go_wp2_with (first
        | (go_at_call 29; refine FM.out.mono ?_; intro e5 w5 q5; obtain ⟨rfl, b5⟩ := q5.belowQ; have d1 := (b5.cell (p := ⟨w.heap.size, 0, none⟩) (by have := z1.out; show w.heap.size < W1.heap.size; omega)).trans c1; have b5 := Lib.hid b5; clear q5)
        | (have g := G2; clear g; refine wpList_store_as (op := ⟨none, .store 53 (.tmp 4) (.tmp 14), _, _, _, _⟩) rfl 53 (.tmp 4) (.tmp 14) rfl (w.heap.size + 1 + 1) 0 (xc x0).toArray rfl rfl (vthere (V1.out.below b5.out (by have := z1.out; omega)) (xc_len _)) (p_sizeA x0) (x_oneA x0) ?_; intro w9 hw9; clear G2))
    obtain ⟨V9, b9⟩ := vstored (V1.out.below b5.out (by have := z1.out; omega)) (xc_len x0) hw9 (by omega) (b1.out.trans (b5.out.mono b1.out.size))
    exact bodyPost_ret (v := .agg (xc x0).toArray) (results_mid (p := 4) (ty := 53) rfl _ _ (w.heap.size + 1 + 1) 0 (xc x0) _ rfl V9.range Try.underlying53 rfl (p_size x0)) rfl ⟨rfl, b9⟩
theorem xc_at1 (x : LX) : (xc x).toArray[1]? = some (.int .i64 x.id) := rfl
theorem fld_id (x : LX) (W : World) : (Instr.field 53 (.agg (xc x).toArray) 1).run Try.prog W = .ok (.int .i64 x.id) W := by
  simp [Instr.field, asAgg, run_underlying Try.underlying53, part_int (xc_at1 x)]
set_option maxRecDepth 100000 in
theorem of_any {w : World} {B n : Nat} {A : Option Addr} {l : List LX} (c : Nat) (t : Int) (x : LX) (h : Las w B A n l) (hB : B ≤ w.heap.size) (hn : n ≤ 9223372036854775807) (hx : lastX l t = x) :
    Calls Try.prog 14 #[.slice A n c, .int .i64 t] w (fun e w' => e = .returned (.int .i64 x.id) ∧ Below w.heap.size w w') := by
  have LM := Lib.hid (lastof_any c t x h hB hn hx)
  have hf := fld_id x
  clear h hx
  go_enter Try.func14, Try.ntmps14
  go_wp2_with (go_at_call 25; refine LM.out.mono ?_; rintro e5 w5 ⟨rfl, b5⟩; have B5 := Lib.hid b5; clear b5)
  go_ret
  exact ⟨rfl, B5.out⟩
set_option maxRecDepth 100000 in
set_option maxHeartbeats 2000000 in
theorem rmay_any {w : World} {B n : Nat} {A : Option Addr} {l : List LX} (c : Nat) (q : Bool) (h : Las w B A n l) (hn : n ≤ 9223372036854775807) (hq : mayG LX.c LX.id l = q) :
    Calls Try.prog 16 #[.slice A n c] w (Quiet (.bool q) w) := by
  obtain ⟨pos, hpos⟩ := isF_ex (wrongG LX.c LX.id l) n
  have HE := Lib.hid (show q = decide (pos = n) by rw [← hq, may_first (pos := pos) (by rw [h.len]; exact hpos), h.len])
  have HG := Lib.hid h
  have HP := Lib.hid hpos
  have hpn := hpos.le
  clear h hq hpos
  go_enter Try.func16, Try.ntmps16
  go_wp2
  go_loopw [3] (fun i wr => ∃ k : Nat, k ≤ pos ∧ i = .int .i64 k ∧ Hid (∃ m, wr = w.drewN m)) (fun i _ => n - (intOf i).toNat)
  case atStart => exact ⟨0, by omega, rfl, Lib.hid ⟨0, rfl⟩⟩
  case round =>
    obtain ⟨k, hk, rfl, HW⟩ := hrel
    by_cases hlt : k < n
    · have HG2 : Las wr B A n l := by obtain ⟨m, hm⟩ := HW.out; rw [hm]; exact HG.out.keep fun _ _ => rfl
      obtain ⟨b, off, x, rfl, hb, HX, _, hr⟩ := HG2.at_ hlt
      obtain ⟨c0, c1, _⟩ := rng_x hr
      have hkI : (k : Int) < (n : Int) := by omega
      obtain ⟨a, ha⟩ : ∃ a, askB x.c x.id = a := ⟨_, rfl⟩
      have HA := Lib.hid (fits_any x.c x.id a ha)
      obtain ⟨wq, hwq⟩ : ∃ z, wrongG LX.c LX.id l k = z := ⟨_, rfl⟩
      have HK : Hid ((wq = false → k < pos) ∧ (wq = true → k = pos ∧ q = false)) := Lib.hid (by
        constructor
        · intro hf
          rcases Nat.lt_or_ge k pos with h1 | h1
          · exact h1
          · have e : k = pos := by omega
            subst e
            rw [HP.out.yes hlt] at hwq; rw [hf] at hwq; cases hwq
        · intro ht
          have e : k = pos := by
            rcases Nat.lt_or_ge k pos with h1 | h1
            · rw [HP.out.no k h1, ht] at hwq; cases hwq
            · omega
          subst e
          exact ⟨rfl, by rw [HE.out]; exact decide_eq_false (by omega)⟩)
      rcases Nat.eq_zero_or_pos k with h0 | h0
      · have e : wq = !a := by subst h0; rw [← hwq, wrong_zero HX.out, ha]
        subst e
        have g1 : decide (0 < k) = false := by simp [h0]
        have g2 : ¬ (0 < (k : Int)) := by omega
        clear hr HX HG2 ha h0 hwq
        cases a
        · have HQ := Lib.hid (HK.out.2 rfl)
          go_wp2
          go_quiet ((go_at_call 27; exact quiet_at (HA.out)))
          go_wp2
          go_ret
          exact ⟨by rw [HQ.out.2]; rfl, (by obtain ⟨m, hm⟩ := HW.out; exact ⟨_, by rw [hm, World.drewN_drewN]⟩)⟩
        · have HQ := HK.out.1 rfl
          go_wp2
          go_quiet ((go_at_call 27; exact quiet_at (HA.out)))
          go_wp2
          go_roundw
          case rel => exact ⟨k + 1, by omega, by go_num, Lib.hid (by obtain ⟨m, hm⟩ := HW.out; exact ⟨_, by rw [hm, World.drewN_drewN]⟩)⟩
          case measure => simp [intOf]; omega
      · obtain ⟨b', off', y, hA', _, HY, _, hry⟩ := HG2.at_ (k := k - 1) (by omega)
        injection hA' with hA'
        injection hA' with e1 e2
        subst e1 e2
        obtain ⟨d0, _, _⟩ := rng_x hry
        have e : (!a || decide (x.c ≤ y.c)) = wq := by rw [← hwq, wrong_more HX.out h0 HY.out, ha]
        clear hr HX HG2 ha hry HY hwq
        have hk1 : (0 : Int) < (k : Int) := by omega
        obtain ⟨k, rfl⟩ : ∃ j, k = j + 1 := ⟨k - 1, by omega⟩
        rw [Nat.add_sub_cancel] at d0
        have hw1 : IntKind.i64.wrap (((k + 1 : Nat) : Int) - 1) = (k : Int) := by rw [IntKind.wrap_i64]; omega
        have hk2 : (k : Int) < (n : Int) := by omega
        cases a
        · have e : wq = true := by rw [← e]; rfl
          have HQ := Lib.hid (HK.out.2 e)
          clear e
          go_wp2
          go_quiet ((go_at_call 27; exact quiet_at (HA.out)))
          go_wp2
          go_ret
          exact ⟨by rw [HQ.out.2]; rfl, (by obtain ⟨m, hm⟩ := HW.out; exact ⟨_, by rw [hm, World.drewN_drewN]⟩)⟩
        · have e : decide (x.c ≤ y.c) = wq := by rw [← e]; rfl
          by_cases hc : x.c ≤ y.c
          · have HQ := Lib.hid (HK.out.2 (by rw [← e]; exact decide_eq_true hc))
            clear e
            go_wp2
            go_quiet ((go_at_call 27; exact quiet_at (HA.out)))
            go_wp2
            go_ret
            exact ⟨by rw [HQ.out.2]; rfl, (by obtain ⟨m, hm⟩ := HW.out; exact ⟨_, by rw [hm, World.drewN_drewN]⟩)⟩
          · have HQ := HK.out.1 (by rw [← e]; exact decide_eq_false hc)
            clear e
            have hcd : decide (x.c ≤ y.c) = false := decide_eq_false hc
            go_wp2
            go_quiet ((go_at_call 27; exact quiet_at (HA.out)))
            go_wp2
            go_roundw
            case rel => exact ⟨k + 1 + 1, by omega, by go_num, Lib.hid (by obtain ⟨m, hm⟩ := HW.out; exact ⟨_, by rw [hm, World.drewN_drewN]⟩)⟩
            case measure => simp [intOf]; omega
    · have e : pos = n := by omega
      have e2 : q = true := by rw [HE.out]; exact decide_eq_true e
      subst e2
      go_wp2
      go_ret
      exact ⟨rfl, HW.out⟩
set_option maxRecDepth 100000 in
set_option maxHeartbeats 2000000 in
theorem find_any {w : World} {B n : Nat} {A : Option Addr} {l : List LX} (c : Nat) (t : Int) (o : Option LX) (h : Las w B A n l) (hB : B ≤ w.heap.size) (hn : n ≤ 9223372036854775807) (ho : findG LX.c l t = o) :
    Calls Try.prog 13 #[.slice A n c, .int .i64 t] w (fun e w' => e = .returned (.tuple #[.agg (xc (o.getD x0)).toArray, .bool o.isSome]) ∧ Below w.heap.size w w') := by
  obtain ⟨W1, hW1⟩ : ∃ W, W = w.alloc (.cells zX 40) := ⟨_, rfl⟩
  have b1 := Lib.hid (show Below w.heap.size w W1 by rw [hW1]; exact below_one _ _)
  have V1 := Lib.hid (show VBox W1 w.heap.size 77 (xc x0) by rw [hW1]; exact vbox_new _ _ _ _ _ rfl (xc_len _) (by omega))
  have H1 := Lib.hid (h.below b1.out hB)
  obtain ⟨pos, hpos⟩ := isF_ex (fun j => (l[j]?.map fun x => decide (x.c = t)).getD false) n
  have HE := Lib.hid (show l[pos]? = o by rw [← ho]; exact (find_of h.len hpos).symm)
  have hpn := hpos.le
  have HP := Lib.hid hpos
  have HW1 := Lib.hid hW1
  have HL := Lib.hid h.len
  clear hW1 h hpos ho
  have zk := zDk
  have zs := zX_size
  have zn := zX_ne
  go_enter Try.func13, Try.ntmps13
  go_upto_region 1 with fail
  rw [← HW1.out]
  go_wp2
  go_loopw [6] (fun i wr => ∃ k : Nat, k ≤ pos ∧ i = .int .i64 k ∧ wr = W1) (fun i _ => n - (intOf i).toNat)
  case atStart => exact ⟨0, by omega, rfl, rfl⟩
  case round =>
    obtain ⟨k, hk, rfl, rfl⟩ := hrel
    by_cases hlt : k < n
    · obtain ⟨b, off, x, rfl, hb, HX, _, hr⟩ := H1.out.at_ hlt
      obtain ⟨c0, _, _⟩ := rng_x hr
      have hkI : (k : Int) < (n : Int) := by omega
      have HR := Lib.hid hr
      clear hr
      rcases Nat.lt_or_ge k pos with h1 | h1
      · have hne : (x.c == t) = false := by
          have := HP.out.no k h1
          rw [HX.out] at this
          simpa using this
        clear HX
        go_wp2
        go_roundw
        case rel => exact ⟨k + 1, by omega, by go_num, by trivial⟩
        case measure => simp [intOf]; omega
      · have e : k = pos := by omega
        subst e
        have hne : (x.c == t) = true := by
          have := HP.out.yes hlt
          rw [HX.out] at this
          simpa using this
        obtain rfl : some x = o := by rw [← HE.out, HX.out]
        clear HX
        have G1 := V1
        have G2 := V1
        go_wp2_with (first
          | (have g := G1; clear g; refine wpList_load_mid (op := ⟨some 23, .load 40 (.tmp 22), _, _, _, _⟩) rfl 40 (.tmp 22) rfl (b) (off + k * 77) rfl (xc x) _ (HR.out) Try.underlying40 rfl (d_size x) ?_; clear G1)
          | (have g := G2; clear g; refine wpList_store_as (op := ⟨none, .store 40 (.tmp 4) (.tmp 23), _, _, _, _⟩) rfl 40 (.tmp 4) (.tmp 23) rfl (w.heap.size) 0 (xc x).toArray rfl rfl (vthere V1.out (xc_len _)) (d_sizeA x) (x_oneA x) ?_; intro w9 hw9; clear G2))
        obtain ⟨V9, b9⟩ := vstored V1.out (xc_len x) hw9 (Nat.le_refl _) b1.out
        exact bodyPost_ret (v := .tuple #[.agg (xc x).toArray, .bool true]) (results_mid_tmp (p := 4) (u := 5) (ty := 40) rfl _ _ w.heap.size 0 (xc x) _ rfl V9.range Try.underlying40 rfl (d_size x)) rfl ⟨rfl, b9⟩
    · have e : k = n := by omega
      subst e
      obtain rfl : none = o := by rw [← HE.out, eq_comm, List.getElem?_eq_none_iff, HL.out]; omega
      have G1 := V1
      have G2 := V1
      go_wp2_with (first
        | (have g := G2; clear g; refine wpList_store_as (op := ⟨none, .store 40 (.tmp 4) (.tmp 24), _, _, _, _⟩) rfl 40 (.tmp 4) (.tmp 24) rfl (w.heap.size) 0 (xc x0).toArray rfl rfl (vthere V1.out (xc_len _)) (d_sizeA x0) (x_oneA x0) ?_; intro w9 hw9; clear G2))
      obtain ⟨V9, b9⟩ := vstored V1.out (xc_len x0) hw9 (Nat.le_refl _) b1.out
      exact bodyPost_ret (v := .tuple #[.agg (xc x0).toArray, .bool false]) (results_mid_tmp (p := 4) (u := 5) (ty := 40) rfl _ _ w.heap.size 0 (xc x0) _ rfl V9.range Try.underlying40 rfl (d_size x0)) rfl ⟨rfl, b9⟩
end Go.Proofs.Ytlapdocikhjkcaa
