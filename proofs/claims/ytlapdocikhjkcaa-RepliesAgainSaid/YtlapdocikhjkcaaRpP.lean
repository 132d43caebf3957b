/- Note: the document's. -/
import Derived.Test.YtlapdocikhjkcaaRpN
import Derived.Test.YtlapdocikhjkcaaRpJ
import Derived.Test.YtlapdocikhjkcaaRpX
namespace Go.Proofs.Ytlapdocikhjkcaa
open Go.ChangeShapes Go.WideShapes Go.ChangeAt Go.RowKit
set_option linter.unusedVariables false
set_option linter.unusedSimpArgs false
open Plain Sha Au Rp
/-- The document's table so far. -/
def docP (x : LX) (l : List LX) : Nat → List LX
  | 0 => []
  | k + 1 => docP x l k ++ docG (C := LX.c) x l k
theorem docP_four {x : LX} {l : List LX} (hx : askB x.c x.id = true) (h : mayG LX.c LX.id l = true) : docP x l 4 = insG LX.c x l := by
  rw [may_rise] at h
  have ha := askB_iff.1 hx
  rw [← doc_ins (I := LX.id) ha.2.1 4 0 (l := l) h rfl (by omega)]
  simp [docP, docF]
theorem docP_yes {x : LX} {l : List LX} {k : Nat} (h : (k : Int) = x.c) : docP x l (k + 1) = docP x l k ++ [x] := by
  simp only [docP, docG]
  rw [if_pos h]
theorem docP_no {x : LX} {l : List LX} {k : Nat} {o : Option LX} (h : ¬ (k : Int) = x.c) (ho : findG LX.c l k = o) : docP x l (k + 1) = docP x l k ++ o.toList := by
  simp only [docP, docG]
  rw [if_neg h, ho]
/-- What a call hands back that makes a table of the document's. -/
def MadeD (w : World) (L : List LX) (e : Ending) (w' : World) : Prop :=
  ∃ D m d, e = .returned (.tuple #[.slice D m d, .int .i64 0]) ∧ w'.ownsRow w.heap.size 40 77 (.slice D m d) m (xvs L) ∧ Below w.heap.size w w'
set_option maxRecDepth 100000 in
set_option maxHeartbeats 8000000 in
theorem rnote_bad1 {w : World} {B n : Nat} {A : Option Addr} {l : List LX} {r : RX} (c : Nat) (t id : Int) (h : Las w B A n l) (hB : B ≤ w.heap.size) (hr : ROk w B r) (hn : n ≤ 9223372036854775807) (hm : mayG LX.c LX.id l = false) :
    Calls Try.prog 21 #[.slice A n c, .int .i64 t, .int .i64 id, .agg (rc r).toArray] w (fun e w' => e = .returned (.tuple #[.slice none 0 0, .int .i64 2]) ∧ Below w.heap.size w w') := by
  obtain ⟨W1, hW1⟩ : ∃ W, W = w.alloc (.cells (rc r).toArray 33) := ⟨_, rfl⟩
  have b1 := Lib.hid (show Below w.heap.size w W1 by rw [hW1]; exact below_one _ _)
  have V1 := Lib.hid (show VBox W1 w.heap.size 75 (rc r) by rw [hW1]; exact vbox_new _ _ _ _ _ rfl (rc_len _) (by omega))
  have z1 := Lib.hid (show W1.heap.size = w.heap.size + 1 by rw [hW1]; simp)
  have HW1 := Lib.hid hW1
  have HG := Lib.hid (fun (V : World) (hV : Below W1.heap.size W1 V) => (h.below b1.out hB).below hV (Nat.le_trans hB b1.out.size))
  have HBS := Lib.hid (Nat.le_trans hB b1.out.size)
  have HL := Lib.hid h.len
  have MM := Lib.hid (rmay_any (w := W1) c false (HG.out W1 (Below.refl _ _)) hn hm)
  clear hW1 h hr
  go_enter Try.func21, Try.ntmps21
  go_upto_region 1 with fail
  rw [← HW1.out]
  go_wp2_with (go_at_call 16; refine MM.out.mono ?_; intro e2 w2 q2; obtain ⟨rfl, b2⟩ := q2.belowQ; have B2 := Lib.hid b2; clear b2 q2)
  go_ret2
  exact ⟨rfl, b1.out.trans (B2.out.mono b1.out.size)⟩
set_option maxRecDepth 100000 in
set_option maxHeartbeats 8000000 in
theorem rnote_bad2 {w : World} {B n : Nat} {A : Option Addr} {l : List LX} {r : RX} (c : Nat) (t id : Int) (h : Las w B A n l) (hB : B ≤ w.heap.size) (hr : ROk w B r) (hn : n ≤ 9223372036854775807) (hm : mayG LX.c LX.id l = true) (hk : askB t id = false) :
    Calls Try.prog 21 #[.slice A n c, .int .i64 t, .int .i64 id, .agg (rc r).toArray] w (fun e w' => e = .returned (.tuple #[.slice none 0 0, .int .i64 2]) ∧ Below w.heap.size w w') := by
  obtain ⟨W1, hW1⟩ : ∃ W, W = w.alloc (.cells (rc r).toArray 33) := ⟨_, rfl⟩
  have b1 := Lib.hid (show Below w.heap.size w W1 by rw [hW1]; exact below_one _ _)
  have V1 := Lib.hid (show VBox W1 w.heap.size 75 (rc r) by rw [hW1]; exact vbox_new _ _ _ _ _ rfl (rc_len _) (by omega))
  have z1 := Lib.hid (show W1.heap.size = w.heap.size + 1 by rw [hW1]; simp)
  have HW1 := Lib.hid hW1
  have HG := Lib.hid (fun (V : World) (hV : Below W1.heap.size W1 V) => (h.below b1.out hB).below hV (Nat.le_trans hB b1.out.size))
  have HBS := Lib.hid (Nat.le_trans hB b1.out.size)
  have HL := Lib.hid h.len
  have MM := Lib.hid (rmay_any (w := W1) c true (HG.out W1 (Below.refl _ _)) hn hm)
  clear hW1 h hr
  go_enter Try.func21, Try.ntmps21
  go_upto_region 1 with fail
  rw [← HW1.out]
  go_wp2_with (first
        | (go_at_call 16; refine MM.out.mono ?_; intro e2 w2 q2; obtain ⟨rfl, b2⟩ := q2.belowQ; have B2 := Lib.hid b2; clear b2 q2)
        | (go_at_call 27; refine (fits_any t id false hk _).mono ?_; intro e3 w3 q3; obtain ⟨rfl, b3⟩ := q3.belowQ; have B3 := Lib.hid (B2.out.trans (b3.mono B2.out.size)); clear b3 q3))
  go_ret2
  exact ⟨rfl, b1.out.trans (B3.out.mono b1.out.size)⟩
set_option maxRecDepth 100000 in
set_option maxHeartbeats 8000000 in
theorem rnote_stale {w : World} {B n : Nat} {A : Option Addr} {l : List LX} {r : RX} (c : Nat) (t id : Int) (o : Option LX) (x : LX) (h : Las w B A n l) (hB : B ≤ w.heap.size) (hr : ROk w B r) (hn : n ≤ 9223372036854775807) (hm : mayG LX.c LX.id l = true) (hk : askB t id = true) (hx : findG LX.c l t = o) (ho : o = some x) (hs : id ≤ x.id) :
    Calls Try.prog 21 #[.slice A n c, .int .i64 t, .int .i64 id, .agg (rc r).toArray] w (fun e w' => e = .returned (.tuple #[.slice none 0 0, .int .i64 140]) ∧ Below w.heap.size w w') := by
  obtain ⟨W1, hW1⟩ : ∃ W, W = w.alloc (.cells (rc r).toArray 33) := ⟨_, rfl⟩
  have b1 := Lib.hid (show Below w.heap.size w W1 by rw [hW1]; exact below_one _ _)
  have V1 := Lib.hid (show VBox W1 w.heap.size 75 (rc r) by rw [hW1]; exact vbox_new _ _ _ _ _ rfl (rc_len _) (by omega))
  have z1 := Lib.hid (show W1.heap.size = w.heap.size + 1 by rw [hW1]; simp)
  have HW1 := Lib.hid hW1
  have HG := Lib.hid (fun (V : World) (hV : Below W1.heap.size W1 V) => (h.below b1.out hB).below hV (Nat.le_trans hB b1.out.size))
  have HBS := Lib.hid (Nat.le_trans hB b1.out.size)
  have HL := Lib.hid h.len
  have MM := Lib.hid (rmay_any (w := W1) c true (HG.out W1 (Below.refl _ _)) hn hm)
  have LM := Lib.hid (fun (V : World) (hV : Below W1.heap.size W1 V) => find_any (w := V) c t o (HG.out V hV) (Nat.le_trans HBS.out hV.size) hn hx)
  subst ho
  clear hW1 h hr hx
  go_enter Try.func21, Try.ntmps21
  go_upto_region 1 with fail
  rw [← HW1.out]
  go_upto_region 3 with (first
    | (go_at_call 16; refine MM.out.mono ?_; intro e2 w2 q2; obtain ⟨rfl, b2⟩ := q2.belowQ; have B2 := Lib.hid b2; clear b2 q2)
    | (go_at_call 27; refine (fits_any t id true hk _).mono ?_; intro e3 w3 q3; obtain ⟨rfl, b3⟩ := q3.belowQ; have B3 := Lib.hid (B2.out.trans (b3.mono B2.out.size)); clear b3 q3))
  have G1 := V1
  have G2 := V1
  have zk := zDk
  have zs := zX_size
  have zn := zX_ne
  go_upto_region 4 with (first
    | (have g := G1; clear g; go_at_call 13; refine (LM.out _ B3.out).mono ?_; rintro e4 w4 ⟨rfl, b4⟩; have B4 := Lib.hid (B3.out.trans (b4.mono B3.out.size)); have T4 := Lib.hid (pthere_new w4 x 40 _ rfl); clear b4 G1)
    | (have g := G2; clear g; refine wpList_store_as (op := ⟨none, .store 40 (.tmp 10) (.tmp 29), _, _, _, _⟩) rfl 40 (.tmp 10) (.tmp 29) rfl (w4.heap.size) 0 (xc x).toArray rfl rfl (T4.out) (d_sizeA x) (x_oneA x) ?_; intro w5 hw5; clear G2))
  obtain ⟨V5, b5⟩ := pbox_stored rfl hw5
  obtain ⟨_, i5, r5⟩ := rng_x V5.range
  simp only [Nat.zero_add] at i5
  have B5 := Lib.hid (B4.out.trans (b5.mono B4.out.size))
  clear hw5 b5 r5 V5 zk zs zn
  go_wp2
  go_ret2
  exact ⟨rfl, b1.out.trans (B5.out.mono b1.out.size)⟩
set_option maxRecDepth 100000 in
set_option maxHeartbeats 8000000 in
theorem rnote_ok {w : World} {B n : Nat} {A : Option Addr} {l : List LX} {r : RX} (c : Nat) (t id : Int) (o : Option LX) (h : Las w B A n l) (hB : B ≤ w.heap.size) (hr : ROk w B r) (hn : n ≤ 9223372036854775807) (hm : mayG LX.c LX.id l = true) (hk : askB t id = true) (hx : findG LX.c l t = o) (x : LX) (ho : o = some x) (hs : ¬ id ≤ x.id) :
    Calls Try.prog 21 #[.slice A n c, .int .i64 t, .int .i64 id, .agg (rc r).toArray] w (MadeD w (insG LX.c ⟨t, id, r⟩ l)) := by
  obtain ⟨W1, hW1⟩ : ∃ W, W = w.alloc (.cells (rc r).toArray 33) := ⟨_, rfl⟩
  have b1 := Lib.hid (show Below w.heap.size w W1 by rw [hW1]; exact below_one _ _)
  have V1 := Lib.hid (show VBox W1 w.heap.size 75 (rc r) by rw [hW1]; exact vbox_new _ _ _ _ _ rfl (rc_len _) (by omega))
  have z1 := Lib.hid (show W1.heap.size = w.heap.size + 1 by rw [hW1]; simp)
  have HW1 := Lib.hid hW1
  have HG := Lib.hid (fun (V : World) (hV : Below W1.heap.size W1 V) => (h.below b1.out hB).below hV (Nat.le_trans hB b1.out.size))
  have HBS := Lib.hid (Nat.le_trans hB b1.out.size)
  have HL := Lib.hid h.len
  have MM := Lib.hid (rmay_any (w := W1) c true (HG.out W1 (Below.refl _ _)) hn hm)
  have LM := Lib.hid (fun (V : World) (hV : Below W1.heap.size W1 V) => find_any (w := V) c t o (HG.out V hV) (Nat.le_trans HBS.out hV.size) hn hx)
  subst ho
  have hP4 := docP_four (x := (⟨t, id, r⟩ : LX)) hk hm
  obtain ⟨y, hy⟩ : ∃ y : LX, y = ⟨t, id, r⟩ := ⟨_, rfl⟩
  rw [← hy] at hP4 ⊢
  have HYC : Hid (y.c = t) := Lib.hid (by rw [hy])
  have HY := Lib.hid hy
  have HP4 := Lib.hid hP4
  clear hP4 hy
  have hn4 : n ≤ 4 := by rw [← h.len]; exact may_len hm
  clear hW1 h hr hx
  go_enter Try.func21, Try.ntmps21
  go_upto_region 1 with fail
  rw [← HW1.out]
  go_upto_region 3 with (first
    | (go_at_call 16; refine MM.out.mono ?_; intro e2 w2 q2; obtain ⟨rfl, b2⟩ := q2.belowQ; have B2 := Lib.hid b2; clear b2 q2)
    | (go_at_call 27; refine (fits_any t id true hk _).mono ?_; intro e3 w3 q3; obtain ⟨rfl, b3⟩ := q3.belowQ; have B3 := Lib.hid (B2.out.trans (b3.mono B2.out.size)); clear b3 q3))
  have G1 := V1
  have G2 := V1
  have zk := zDk
  have zs := zX_size
  have zn := zX_ne
  go_upto_region 4 with (first
    | (have g := G1; clear g; go_at_call 13; refine (LM.out _ B3.out).mono ?_; rintro e4 w4 ⟨rfl, b4⟩; have B4 := Lib.hid (B3.out.trans (b4.mono B3.out.size)); have T4 := Lib.hid (pthere_new w4 x 40 _ rfl); clear b4 G1)
    | (have g := G2; clear g; refine wpList_store_as (op := ⟨none, .store 40 (.tmp 10) (.tmp 29), _, _, _, _⟩) rfl 40 (.tmp 10) (.tmp 29) rfl (w4.heap.size) 0 (xc x).toArray rfl rfl (T4.out) (d_sizeA x) (x_oneA x) ?_; intro w5 hw5; clear G2))
  obtain ⟨V5, b5⟩ := pbox_stored rfl hw5
  obtain ⟨_, i5, r5⟩ := rng_x V5.range
  simp only [Nat.zero_add] at i5
  have B5 := Lib.hid (B4.out.trans (b5.mono B4.out.size))
  clear hw5 b5 r5 V5 zk zs zn
  have V5 := Lib.hid (V1.out.grow B5.out)
  have HB5 := Lib.hid (b1.out.trans (B5.out.mono b1.out.size))
  clear B2 B3 B4 MM LM
  go_upto_region 7 with fail
  try clear i5
  go_wp2
  go_loopw [12, 13] (fun v i wr => ∃ k : Nat, k ≤ 4 ∧ i = .int .i64 k ∧ ∃ q : Nat, q ≤ k ∧ Hid (wr.ownsRow w5.heap.size 40 77 v q (xvs (docP y l k))) ∧ Hid (Below w5.heap.size w5 wr)) (fun _ i _ => 4 - (intOf i).toNat)
  case atStart => exact ⟨0, by omega, rfl, 0, by omega, Lib.hid (World.ownsRow_nil _ _ _ _), Lib.hid (Below.refl _ _)⟩
  case round =>
    obtain ⟨k, hk4, rfl, q, hq, HO, HW⟩ := hrel
    by_cases hlt : k < 4
    · obtain ⟨ok, hok⟩ : ∃ o, findG LX.c l k = o := ⟨_, rfl⟩
      have HOK := Lib.hid hok
      have FM := Lib.hid (find_any (w := wr) c (k : Int) ok (HG.out wr (B5.out.trans (HW.out.mono B5.out.size))) (Nat.le_trans HBS.out (Nat.le_trans B5.out.size HW.out.size)) hn hok)
      have hkI : (k : Int) < 4 := by omega
      have zk := zDk
      have zs := zX_size
      have zn := zX_ne
      clear hok
      have G1 := HO
      have G2 := HO
      go_upto_region 11 with (first
            | (have g0 := G1; clear g0; go_at_call 13; refine FM.out.mono ?_; rintro e7 w7 ⟨rfl, b7⟩; have B7 := Lib.hid b7; have T7 := Lib.hid (pthere_new w7 (ok.getD x0) 40 _ rfl); clear b7 G1)
            | (have g := G2; clear g; refine wpList_store_as (op := ⟨none, .store 40 (.tmp 14) (.tmp 46), _, _, _, _⟩) rfl 40 (.tmp 14) (.tmp 46) rfl (w7.heap.size) 0 (xc (ok.getD x0)).toArray rfl rfl (T7.out) (d_sizeA (ok.getD x0)) (x_oneA (ok.getD x0)) ?_; intro w8 hw8; clear G2))
      obtain ⟨Va, ba⟩ := pbox_stored rfl hw8
      have VA := Lib.hid Va.range
      have BA := Lib.hid (B7.out.trans (ba.mono B7.out.size))
      have OA := Lib.hid (own_below HO.out BA.out (Nat.le_refl _))
      have hs8 : w5.heap.size ≤ w8.heap.size := Nat.le_trans HW.out.size BA.out.size
      have V8 := Lib.hid ((V5.out.grow HW.out).grow BA.out)
      clear hw8 Va ba zk zs zn
      by_cases hkt : (k : Int) = t
      · have HD : Hid (docP y l (k + 1) = docP y l k ++ [y]) := Lib.hid (docP_yes (by rw [HYC.out]; exact hkt))
        have hkb : ((k : Int) == t) = true := by simpa using hkt
        clear hkt
        have G1 := HO
        have G2 := HO
        have G3 := HO
        go_wp2_with (first
              | (have g := G1; clear g; refine wpList_load_mid (op := ⟨some 54, .load 33 (.tmp 7), _, _, _, _⟩) rfl 33 (.tmp 7) rfl (w.heap.size) (0) rfl (rc r) _ (V8.out.range) Try.underlying33 rfl (r_size r) ?_; clear G1)
              | (have g := G2; clear g; refine wpList_exec (op := ⟨some 55, .build 40 #[(0, .tmp 52), (1, .tmp 53), (2, .tmp 54)], _, _, _, _⟩) rfl (.agg (xc ⟨t, id, r⟩).toArray) (by exact exec_D rfl rfl rfl rfl rfl) ?_; clear G2)
              | (have g := G3; clear g; refine wpList_slice_D (o := ⟨some 56, .buildSlice 22 1 #[(0, .tmp 55)], _, _, _, _⟩) rfl (.tmp 55) rfl y (by rw [HY.out]; rfl) ?_; intro w9 hw9; have S9 := Lib.hid (show Below w5.heap.size w8 w9 by rw [hw9.out]; exact (Below.refl _ _).alloc hs8 _); have O9 := Lib.hid (show w9.ownsRow w5.heap.size 40 77 u12 q (xvs (docP y l k)) by rw [hw9.out]; exact own_below OA.out (below_one _ _) (Nat.le_refl _)); have L9 := Lib.hid (show Lies w9 77 (some ⟨w8.heap.size, 0, none⟩) 1 (xvs [y]) ∧ Sourced (some ⟨w8.heap.size, 0, none⟩) 1 by rw [hw9.out]; exact one_lies w8 y _ _ rfl); have s9 := S9.out.size; clear hw9 G3)
              | (at_builtin; refine wpList_appA _ rfl (.tmp 51) (.tmp 56) 22 rfl (w5.heap.size) 40 77 192 Try.underlying22 d_info (by omega) u12 (q) (xvs (docP y l k)) rfl (O9.out) (some ⟨w8.heap.size, 0, none⟩) 1 1 (xvs [y]) rfl (L9.out).1 (L9.out).2 (xvs_one _) (by unfold maxLen; omega) (by omega) (by omega) ?_; intro vb wb ob gb _; have ob := Lib.hid ob; have BB := Lib.hid (show Below w5.heap.size wr wb from (((BA.out.mono HW.out.size).trans S9.out).grown gb (by have := S9.out.size; omega) (fun p hp => (OA.out.lt p hp).1))); clear gb))
        go_roundw
        case rel => exact ⟨k + 1, by omega, by go_num, q + 1, by omega, Lib.hid (by rw [HD.out, xvs_app]; exact ob.out), Lib.hid (HW.out.trans BB.out)⟩
        case measure => simp [intOf]; omega
      · have HD : Hid (docP y l (k + 1) = docP y l k ++ ok.toList) := Lib.hid (docP_no (by rw [HYC.out]; exact hkt) HOK.out)
        have hkb : ((k : Int) == t) = false := by simpa using hkt
        clear hkt
        cases ok with
        | none =>
          go_wp2
          go_roundw
          case rel => exact ⟨k + 1, by omega, by go_num, q, by omega, Lib.hid (by rw [HD.out]; simpa using OA.out), Lib.hid (HW.out.trans (BA.out.mono HW.out.size))⟩
          case measure => simp [intOf]; omega
        | some z =>
          have VZ : Hid (w8.rangeAt w7.heap.size 0 (xc z)) := VA
          clear VA
          have G1 := HO
          have G2 := HO
          have G3 := HO
          go_wp2_with (first
                | (have g := G1; clear g; refine wpList_load_mid (op := ⟨some 60, .load 40 (.tmp 14), _, _, _, _⟩) rfl 40 (.tmp 14) rfl (w7.heap.size) (0) rfl (xc z) _ (VZ.out) Try.underlying40 rfl (d_size z) ?_; clear G1)
                | (have g := G3; clear g; refine wpList_slice_D (o := ⟨some 61, .buildSlice 22 1 #[(0, .tmp 60)], _, _, _, _⟩) rfl (.tmp 60) rfl z rfl ?_; intro w9 hw9; have S9 := Lib.hid (show Below w5.heap.size w8 w9 by rw [hw9.out]; exact (Below.refl _ _).alloc hs8 _); have O9 := Lib.hid (show w9.ownsRow w5.heap.size 40 77 u12 q (xvs (docP y l k)) by rw [hw9.out]; exact own_below OA.out (below_one _ _) (Nat.le_refl _)); have L9 := Lib.hid (show Lies w9 77 (some ⟨w8.heap.size, 0, none⟩) 1 (xvs [z]) ∧ Sourced (some ⟨w8.heap.size, 0, none⟩) 1 by rw [hw9.out]; exact one_lies w8 z _ _ rfl); have s9 := S9.out.size; clear hw9 G3)
                | (at_builtin; refine wpList_appA _ rfl (.tmp 59) (.tmp 61) 22 rfl (w5.heap.size) 40 77 192 Try.underlying22 d_info (by omega) u12 (q) (xvs (docP y l k)) rfl (O9.out) (some ⟨w8.heap.size, 0, none⟩) 1 1 (xvs [z]) rfl (L9.out).1 (L9.out).2 (xvs_one _) (by unfold maxLen; omega) (by omega) (by omega) ?_; intro vb wb ob gb _; have ob := Lib.hid ob; have BB := Lib.hid (show Below w5.heap.size wr wb from (((BA.out.mono HW.out.size).trans S9.out).grown gb (by have := S9.out.size; omega) (fun p hp => (OA.out.lt p hp).1))); clear gb))
          go_roundw
          case rel => exact ⟨k + 1, by omega, by go_num, q + 1, by omega, Lib.hid (by rw [HD.out]; show wb.ownsRow _ _ _ _ _ (xvs (docP y l k ++ [z])); rw [xvs_app]; exact ob.out), Lib.hid (HW.out.trans BB.out)⟩
          case measure => simp [intOf]; omega
    · obtain rfl : k = 4 := by omega
      have hkI : ¬ ((4 : Nat) : Int) < 4 := by omega
      have HO4 : Hid (wr.ownsRow w5.heap.size 40 77 u12 q (xvs (insG LX.c y l))) := Lib.hid (by rw [← HP4.out]; exact HO.out)
      clear HO
      obtain ⟨D, d, hv, _, _⟩ := own_shapeA HO4.out
      subst hv
      go_wp2
      go_ret2
      exact ⟨D, q, d, rfl, own_from HO4.out HB5.out.size, HB5.out.trans (HW.out.mono HB5.out.size)⟩
set_option maxRecDepth 100000 in
set_option maxHeartbeats 8000000 in
theorem rnote_new {w : World} {B n : Nat} {A : Option Addr} {l : List LX} {r : RX} (c : Nat) (t id : Int) (o : Option LX) (h : Las w B A n l) (hB : B ≤ w.heap.size) (hr : ROk w B r) (hn : n ≤ 9223372036854775807) (hm : mayG LX.c LX.id l = true) (hk : askB t id = true) (hx : findG LX.c l t = o) (ho : o = none) :
    Calls Try.prog 21 #[.slice A n c, .int .i64 t, .int .i64 id, .agg (rc r).toArray] w (MadeD w (insG LX.c ⟨t, id, r⟩ l)) := by
  obtain ⟨W1, hW1⟩ : ∃ W, W = w.alloc (.cells (rc r).toArray 33) := ⟨_, rfl⟩
  have b1 := Lib.hid (show Below w.heap.size w W1 by rw [hW1]; exact below_one _ _)
  have V1 := Lib.hid (show VBox W1 w.heap.size 75 (rc r) by rw [hW1]; exact vbox_new _ _ _ _ _ rfl (rc_len _) (by omega))
  have z1 := Lib.hid (show W1.heap.size = w.heap.size + 1 by rw [hW1]; simp)
  have HW1 := Lib.hid hW1
  have HG := Lib.hid (fun (V : World) (hV : Below W1.heap.size W1 V) => (h.below b1.out hB).below hV (Nat.le_trans hB b1.out.size))
  have HBS := Lib.hid (Nat.le_trans hB b1.out.size)
  have HL := Lib.hid h.len
  have MM := Lib.hid (rmay_any (w := W1) c true (HG.out W1 (Below.refl _ _)) hn hm)
  have LM := Lib.hid (fun (V : World) (hV : Below W1.heap.size W1 V) => find_any (w := V) c t o (HG.out V hV) (Nat.le_trans HBS.out hV.size) hn hx)
  subst ho
  have hP4 := docP_four (x := (⟨t, id, r⟩ : LX)) hk hm
  obtain ⟨y, hy⟩ : ∃ y : LX, y = ⟨t, id, r⟩ := ⟨_, rfl⟩
  rw [← hy] at hP4 ⊢
  have HYC : Hid (y.c = t) := Lib.hid (by rw [hy])
  have HY := Lib.hid hy
  have HP4 := Lib.hid hP4
  clear hP4 hy
  have hn4 : n ≤ 4 := by rw [← h.len]; exact may_len hm
  clear hW1 h hr hx
  go_enter Try.func21, Try.ntmps21
  go_upto_region 1 with fail
  rw [← HW1.out]
  go_upto_region 3 with (first
    | (go_at_call 16; refine MM.out.mono ?_; intro e2 w2 q2; obtain ⟨rfl, b2⟩ := q2.belowQ; have B2 := Lib.hid b2; clear b2 q2)
    | (go_at_call 27; refine (fits_any t id true hk _).mono ?_; intro e3 w3 q3; obtain ⟨rfl, b3⟩ := q3.belowQ; have B3 := Lib.hid (B2.out.trans (b3.mono B2.out.size)); clear b3 q3))
  have G1 := V1
  have G2 := V1
  have zk := zDk
  have zs := zX_size
  have zn := zX_ne
  go_upto_region 4 with (first
    | (have g := G1; clear g; go_at_call 13; refine (LM.out _ B3.out).mono ?_; rintro e4 w4 ⟨rfl, b4⟩; have B4 := Lib.hid (B3.out.trans (b4.mono B3.out.size)); have T4 := Lib.hid (pthere_new w4 x0 40 _ rfl); clear b4 G1)
    | (have g := G2; clear g; refine wpList_store_as (op := ⟨none, .store 40 (.tmp 10) (.tmp 29), _, _, _, _⟩) rfl 40 (.tmp 10) (.tmp 29) rfl (w4.heap.size) 0 (xc x0).toArray rfl rfl (T4.out) (d_sizeA x0) (x_oneA x0) ?_; intro w5 hw5; clear G2))
  obtain ⟨V5, b5⟩ := pbox_stored rfl hw5
  obtain ⟨_, i5, r5⟩ := rng_x V5.range
  simp only [Nat.zero_add] at i5
  have B5 := Lib.hid (B4.out.trans (b5.mono B4.out.size))
  clear hw5 b5 r5 V5 zk zs zn
  have V5 := Lib.hid (V1.out.grow B5.out)
  have HB5 := Lib.hid (b1.out.trans (B5.out.mono b1.out.size))
  clear B2 B3 B4 MM LM
  go_upto_region 7 with fail
  try clear i5
  go_wp2
  go_loopw [12, 13] (fun v i wr => ∃ k : Nat, k ≤ 4 ∧ i = .int .i64 k ∧ ∃ q : Nat, q ≤ k ∧ Hid (wr.ownsRow w5.heap.size 40 77 v q (xvs (docP y l k))) ∧ Hid (Below w5.heap.size w5 wr)) (fun _ i _ => 4 - (intOf i).toNat)
  case atStart => exact ⟨0, by omega, rfl, 0, by omega, Lib.hid (World.ownsRow_nil _ _ _ _), Lib.hid (Below.refl _ _)⟩
  case round =>
    obtain ⟨k, hk4, rfl, q, hq, HO, HW⟩ := hrel
    by_cases hlt : k < 4
    · obtain ⟨ok, hok⟩ : ∃ o, findG LX.c l k = o := ⟨_, rfl⟩
      have HOK := Lib.hid hok
      have FM := Lib.hid (find_any (w := wr) c (k : Int) ok (HG.out wr (B5.out.trans (HW.out.mono B5.out.size))) (Nat.le_trans HBS.out (Nat.le_trans B5.out.size HW.out.size)) hn hok)
      have hkI : (k : Int) < 4 := by omega
      have zk := zDk
      have zs := zX_size
      have zn := zX_ne
      clear hok
      have G1 := HO
      have G2 := HO
      go_upto_region 11 with (first
            | (have g0 := G1; clear g0; go_at_call 13; refine FM.out.mono ?_; rintro e7 w7 ⟨rfl, b7⟩; have B7 := Lib.hid b7; have T7 := Lib.hid (pthere_new w7 (ok.getD x0) 40 _ rfl); clear b7 G1)
            | (have g := G2; clear g; refine wpList_store_as (op := ⟨none, .store 40 (.tmp 14) (.tmp 46), _, _, _, _⟩) rfl 40 (.tmp 14) (.tmp 46) rfl (w7.heap.size) 0 (xc (ok.getD x0)).toArray rfl rfl (T7.out) (d_sizeA (ok.getD x0)) (x_oneA (ok.getD x0)) ?_; intro w8 hw8; clear G2))
      obtain ⟨Va, ba⟩ := pbox_stored rfl hw8
      have VA := Lib.hid Va.range
      have BA := Lib.hid (B7.out.trans (ba.mono B7.out.size))
      have OA := Lib.hid (own_below HO.out BA.out (Nat.le_refl _))
      have hs8 : w5.heap.size ≤ w8.heap.size := Nat.le_trans HW.out.size BA.out.size
      have V8 := Lib.hid ((V5.out.grow HW.out).grow BA.out)
      clear hw8 Va ba zk zs zn
      by_cases hkt : (k : Int) = t
      · have HD : Hid (docP y l (k + 1) = docP y l k ++ [y]) := Lib.hid (docP_yes (by rw [HYC.out]; exact hkt))
        have hkb : ((k : Int) == t) = true := by simpa using hkt
        clear hkt
        have G1 := HO
        have G2 := HO
        have G3 := HO
        go_wp2_with (first
              | (have g := G1; clear g; refine wpList_load_mid (op := ⟨some 54, .load 33 (.tmp 7), _, _, _, _⟩) rfl 33 (.tmp 7) rfl (w.heap.size) (0) rfl (rc r) _ (V8.out.range) Try.underlying33 rfl (r_size r) ?_; clear G1)
              | (have g := G2; clear g; refine wpList_exec (op := ⟨some 55, .build 40 #[(0, .tmp 52), (1, .tmp 53), (2, .tmp 54)], _, _, _, _⟩) rfl (.agg (xc ⟨t, id, r⟩).toArray) (by exact exec_D rfl rfl rfl rfl rfl) ?_; clear G2)
              | (have g := G3; clear g; refine wpList_slice_D (o := ⟨some 56, .buildSlice 22 1 #[(0, .tmp 55)], _, _, _, _⟩) rfl (.tmp 55) rfl y (by rw [HY.out]; rfl) ?_; intro w9 hw9; have S9 := Lib.hid (show Below w5.heap.size w8 w9 by rw [hw9.out]; exact (Below.refl _ _).alloc hs8 _); have O9 := Lib.hid (show w9.ownsRow w5.heap.size 40 77 u12 q (xvs (docP y l k)) by rw [hw9.out]; exact own_below OA.out (below_one _ _) (Nat.le_refl _)); have L9 := Lib.hid (show Lies w9 77 (some ⟨w8.heap.size, 0, none⟩) 1 (xvs [y]) ∧ Sourced (some ⟨w8.heap.size, 0, none⟩) 1 by rw [hw9.out]; exact one_lies w8 y _ _ rfl); have s9 := S9.out.size; clear hw9 G3)
              | (at_builtin; refine wpList_appA _ rfl (.tmp 51) (.tmp 56) 22 rfl (w5.heap.size) 40 77 192 Try.underlying22 d_info (by omega) u12 (q) (xvs (docP y l k)) rfl (O9.out) (some ⟨w8.heap.size, 0, none⟩) 1 1 (xvs [y]) rfl (L9.out).1 (L9.out).2 (xvs_one _) (by unfold maxLen; omega) (by omega) (by omega) ?_; intro vb wb ob gb _; have ob := Lib.hid ob; have BB := Lib.hid (show Below w5.heap.size wr wb from (((BA.out.mono HW.out.size).trans S9.out).grown gb (by have := S9.out.size; omega) (fun p hp => (OA.out.lt p hp).1))); clear gb))
        go_roundw
        case rel => exact ⟨k + 1, by omega, by go_num, q + 1, by omega, Lib.hid (by rw [HD.out, xvs_app]; exact ob.out), Lib.hid (HW.out.trans BB.out)⟩
        case measure => simp [intOf]; omega
      · have HD : Hid (docP y l (k + 1) = docP y l k ++ ok.toList) := Lib.hid (docP_no (by rw [HYC.out]; exact hkt) HOK.out)
        have hkb : ((k : Int) == t) = false := by simpa using hkt
        clear hkt
        cases ok with
        | none =>
          go_wp2
          go_roundw
          case rel => exact ⟨k + 1, by omega, by go_num, q, by omega, Lib.hid (by rw [HD.out]; simpa using OA.out), Lib.hid (HW.out.trans (BA.out.mono HW.out.size))⟩
          case measure => simp [intOf]; omega
        | some z =>
          have VZ : Hid (w8.rangeAt w7.heap.size 0 (xc z)) := VA
          clear VA
          have G1 := HO
          have G2 := HO
          have G3 := HO
          go_wp2_with (first
                | (have g := G1; clear g; refine wpList_load_mid (op := ⟨some 60, .load 40 (.tmp 14), _, _, _, _⟩) rfl 40 (.tmp 14) rfl (w7.heap.size) (0) rfl (xc z) _ (VZ.out) Try.underlying40 rfl (d_size z) ?_; clear G1)
                | (have g := G3; clear g; refine wpList_slice_D (o := ⟨some 61, .buildSlice 22 1 #[(0, .tmp 60)], _, _, _, _⟩) rfl (.tmp 60) rfl z rfl ?_; intro w9 hw9; have S9 := Lib.hid (show Below w5.heap.size w8 w9 by rw [hw9.out]; exact (Below.refl _ _).alloc hs8 _); have O9 := Lib.hid (show w9.ownsRow w5.heap.size 40 77 u12 q (xvs (docP y l k)) by rw [hw9.out]; exact own_below OA.out (below_one _ _) (Nat.le_refl _)); have L9 := Lib.hid (show Lies w9 77 (some ⟨w8.heap.size, 0, none⟩) 1 (xvs [z]) ∧ Sourced (some ⟨w8.heap.size, 0, none⟩) 1 by rw [hw9.out]; exact one_lies w8 z _ _ rfl); have s9 := S9.out.size; clear hw9 G3)
                | (at_builtin; refine wpList_appA _ rfl (.tmp 59) (.tmp 61) 22 rfl (w5.heap.size) 40 77 192 Try.underlying22 d_info (by omega) u12 (q) (xvs (docP y l k)) rfl (O9.out) (some ⟨w8.heap.size, 0, none⟩) 1 1 (xvs [z]) rfl (L9.out).1 (L9.out).2 (xvs_one _) (by unfold maxLen; omega) (by omega) (by omega) ?_; intro vb wb ob gb _; have ob := Lib.hid ob; have BB := Lib.hid (show Below w5.heap.size wr wb from (((BA.out.mono HW.out.size).trans S9.out).grown gb (by have := S9.out.size; omega) (fun p hp => (OA.out.lt p hp).1))); clear gb))
          go_roundw
          case rel => exact ⟨k + 1, by omega, by go_num, q + 1, by omega, Lib.hid (by rw [HD.out]; show wb.ownsRow _ _ _ _ _ (xvs (docP y l k ++ [z])); rw [xvs_app]; exact ob.out), Lib.hid (HW.out.trans BB.out)⟩
          case measure => simp [intOf]; omega
    · obtain rfl : k = 4 := by omega
      have hkI : ¬ ((4 : Nat) : Int) < 4 := by omega
      have HO4 : Hid (wr.ownsRow w5.heap.size 40 77 u12 q (xvs (insG LX.c y l))) := Lib.hid (by rw [← HP4.out]; exact HO.out)
      clear HO
      obtain ⟨D, d, hv, _, _⟩ := own_shapeA HO4.out
      subst hv
      go_wp2
      go_ret2
      exact ⟨D, q, d, rfl, own_from HO4.out HB5.out.size, HB5.out.trans (HW.out.mono HB5.out.size)⟩
end Go.Proofs.Ytlapdocikhjkcaa
