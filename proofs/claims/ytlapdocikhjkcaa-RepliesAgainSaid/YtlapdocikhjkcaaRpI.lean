/- What a client is told again: the program's Ask. -/
import Derived.Test.YtlapdocikhjkcaaRpG
namespace Go.Proofs.Ytlapdocikhjkcaa
open Go.ChangeShapes Go.WideShapes Go.ChangeAt Go.RowKit
set_option linter.unusedVariables false
set_option linter.unusedSimpArgs false
open Plain Sha Au Rp
set_option maxRecDepth 100000 in
set_option maxHeartbeats 4000000 in
theorem ask_bad1 {w : World} {B n : Nat} {A : Option Addr} {l : List LX} (c : Nat) (t id : Int) (h : Las w B A n l) (hB : B ≤ w.heap.size) (hn : n ≤ 9223372036854775807) (hm : mayG LX.c LX.id l = false) :
    Calls Try.prog 10 #[.slice A n c, .int .i64 t, .int .i64 id] w (fun e w' => e = .returned (.tuple #[.agg (rc r0).toArray, .bool false, .int .i64 2]) ∧ Below w.heap.size w w') := by
  obtain ⟨W1, hW1⟩ : ∃ W, W = w.alloc (.cells zR 33) := ⟨_, rfl⟩
  have b1 := Lib.hid (show Below w.heap.size w W1 by rw [hW1]; exact below_one _ _)
  have V1 := Lib.hid (show VBox W1 w.heap.size 75 (rc r0) by rw [hW1]; exact vbox_new _ _ _ _ _ rfl (rc_len _) (by omega))
  have z1 := Lib.hid (show W1.heap.size = w.heap.size + 1 by rw [hW1]; simp)
  have HW1 := Lib.hid hW1
  have HG := Lib.hid (fun (V : World) (hV : Below W1.heap.size W1 V) => (h.below b1.out hB).below hV (Nat.le_trans hB b1.out.size))
  have HBS := Lib.hid (Nat.le_trans hB b1.out.size)
  clear hW1
  have MM := Lib.hid (pmay_any (w := W1) c false (HG.out W1 (Below.refl _ _)) HBS.out hn hm)
  have G1 := V1
  clear h
  have zk := zRk
  have zs := zR_size
  have zn := zR_ne
  go_enter Try.func10, Try.ntmps10
  go_upto_region 1 with fail
  rw [← HW1.out]
  go_wp2_with (first
        | (go_at_call 15; refine MM.out.mono ?_; rintro e2 w2 ⟨rfl, b2⟩; have B2 := Lib.hid b2; clear b2)
        | (have g := G1; clear g; refine wpList_store_as (op := ⟨none, .store 33 (.tmp 6) (.tmp 19), _, _, _, _⟩) rfl 33 (.tmp 6) (.tmp 19) rfl (w.heap.size) 0 (rc r0).toArray rfl rfl (vthere (V1.out.grow B2.out) (rc_len _)) (r_sizeA r0) (r_oneA r0) ?_; intro w9 hw9; clear G1))
  obtain ⟨V9, b9⟩ := vstored (V1.out.grow B2.out) (rc_len r0) hw9 (Nat.le_refl _) (b1.out.trans (B2.out.mono b1.out.size))
  exact bodyPost_ret (v := .tuple #[.agg (rc r0).toArray, .bool false, .int .i64 2]) (results_mid_tmp2 (p := 6) (u := 7) (v := 8) (ty := 33) rfl _ _ w.heap.size 0 (rc r0) _ rfl (V9.range) Try.underlying33 rfl (r_size _)) rfl ⟨rfl, b9⟩
set_option maxRecDepth 100000 in
set_option maxHeartbeats 4000000 in
theorem ask_bad2 {w : World} {B n : Nat} {A : Option Addr} {l : List LX} (c : Nat) (t id : Int) (h : Las w B A n l) (hB : B ≤ w.heap.size) (hn : n ≤ 9223372036854775807) (hm : mayG LX.c LX.id l = true) (hk : askB t id = false) :
    Calls Try.prog 10 #[.slice A n c, .int .i64 t, .int .i64 id] w (fun e w' => e = .returned (.tuple #[.agg (rc r0).toArray, .bool false, .int .i64 2]) ∧ Below w.heap.size w w') := by
  obtain ⟨W1, hW1⟩ : ∃ W, W = w.alloc (.cells zR 33) := ⟨_, rfl⟩
  have b1 := Lib.hid (show Below w.heap.size w W1 by rw [hW1]; exact below_one _ _)
  have V1 := Lib.hid (show VBox W1 w.heap.size 75 (rc r0) by rw [hW1]; exact vbox_new _ _ _ _ _ rfl (rc_len _) (by omega))
  have z1 := Lib.hid (show W1.heap.size = w.heap.size + 1 by rw [hW1]; simp)
  have HW1 := Lib.hid hW1
  have HG := Lib.hid (fun (V : World) (hV : Below W1.heap.size W1 V) => (h.below b1.out hB).below hV (Nat.le_trans hB b1.out.size))
  have HBS := Lib.hid (Nat.le_trans hB b1.out.size)
  clear hW1
  have MM := Lib.hid (pmay_any (w := W1) c true (HG.out W1 (Below.refl _ _)) HBS.out hn hm)
  have G1 := V1
  clear h
  have zk := zRk
  have zs := zR_size
  have zn := zR_ne
  go_enter Try.func10, Try.ntmps10
  go_upto_region 1 with fail
  rw [← HW1.out]
  go_wp2_with (first
        | (go_at_call 15; refine MM.out.mono ?_; rintro e2 w2 ⟨rfl, b2⟩; have B2 := Lib.hid b2; clear b2)
        | (go_at_call 24; refine (asked_any t id false hk _).mono ?_; intro e3 w3 q3; obtain ⟨rfl, b3⟩ := q3.belowQ; have B3 := Lib.hid (B2.out.trans (b3.mono B2.out.size)); clear b3 q3)
        | (have g := G1; clear g; refine wpList_store_as (op := ⟨none, .store 33 (.tmp 6) (.tmp 19), _, _, _, _⟩) rfl 33 (.tmp 6) (.tmp 19) rfl (w.heap.size) 0 (rc r0).toArray rfl rfl (vthere (V1.out.grow B3.out) (rc_len _)) (r_sizeA r0) (r_oneA r0) ?_; intro w9 hw9; clear G1))
  obtain ⟨V9, b9⟩ := vstored (V1.out.grow B3.out) (rc_len r0) hw9 (Nat.le_refl _) (b1.out.trans (B3.out.mono b1.out.size))
  exact bodyPost_ret (v := .tuple #[.agg (rc r0).toArray, .bool false, .int .i64 2]) (results_mid_tmp2 (p := 6) (u := 7) (v := 8) (ty := 33) rfl _ _ w.heap.size 0 (rc r0) _ rfl (V9.range) Try.underlying33 rfl (r_size _)) rfl ⟨rfl, b9⟩
set_option maxRecDepth 100000 in
set_option maxHeartbeats 4000000 in
theorem ask_stale {w : World} {B n : Nat} {A : Option Addr} {l : List LX} (c : Nat) (t id : Int) (x : LX) (h : Las w B A n l) (hB : B ≤ w.heap.size) (hn : n ≤ 9223372036854775807) (hm : mayG LX.c LX.id l = true) (hk : askB t id = true) (hx : lastX l t = x) (hs : id < x.id) :
    Calls Try.prog 10 #[.slice A n c, .int .i64 t, .int .i64 id] w (fun e w' => e = .returned (.tuple #[.agg (rc r0).toArray, .bool false, .int .i64 140]) ∧ Below w.heap.size w w') := by
  obtain ⟨W1, hW1⟩ : ∃ W, W = w.alloc (.cells zR 33) := ⟨_, rfl⟩
  have b1 := Lib.hid (show Below w.heap.size w W1 by rw [hW1]; exact below_one _ _)
  have V1 := Lib.hid (show VBox W1 w.heap.size 75 (rc r0) by rw [hW1]; exact vbox_new _ _ _ _ _ rfl (rc_len _) (by omega))
  have z1 := Lib.hid (show W1.heap.size = w.heap.size + 1 by rw [hW1]; simp)
  have HW1 := Lib.hid hW1
  have HG := Lib.hid (fun (V : World) (hV : Below W1.heap.size W1 V) => (h.below b1.out hB).below hV (Nat.le_trans hB b1.out.size))
  have HBS := Lib.hid (Nat.le_trans hB b1.out.size)
  clear hW1
  have MM := Lib.hid (pmay_any (w := W1) c true (HG.out W1 (Below.refl _ _)) HBS.out hn hm)
  have LM := Lib.hid (fun (V : World) (hV : Below W1.heap.size W1 V) => lastof_any (w := V) c t x (HG.out V hV) (Nat.le_trans HBS.out hV.size) hn hx)
  clear h hx
  have zk := zRk
  have zs := zR_size
  have zn := zR_ne
  go_enter Try.func10, Try.ntmps10
  go_upto_region 1 with fail
  rw [← HW1.out]
  clear zk zs zn
  go_upto_region 3 with (first
    | (go_at_call 15; refine MM.out.mono ?_; rintro e2 w2 ⟨rfl, b2⟩; have B2 := Lib.hid b2; clear b2)
    | (go_at_call 24; refine (asked_any t id true hk _).mono ?_; intro e3 w3 q3; obtain ⟨rfl, b3⟩ := q3.belowQ; have B3 := Lib.hid (B2.out.trans (b3.mono B2.out.size)); clear b3 q3))
  have G1 := V1
  have G2 := V1
  have zk := zPk
  have zs := zX_size
  have zn := zX_ne
  go_upto_region 4 with (first
    | (have g := G1; clear g; go_at_call 25; refine (LM.out _ B3.out).mono ?_; rintro e4 w4 ⟨rfl, b4⟩; have B4 := Lib.hid (B3.out.trans (b4.mono B3.out.size)); have T4 := Lib.hid (pthere_new w4 x 53 _ rfl); clear b4 G1)
    | (have g := G2; clear g; refine wpList_store_as (op := ⟨none, .store 53 (.tmp 9) (.tmp 22), _, _, _, _⟩) rfl 53 (.tmp 9) (.tmp 22) rfl (w4.heap.size) 0 (xc x).toArray rfl rfl (T4.out) (p_sizeA x) (x_oneA x) ?_; intro w5 hw5; clear G2))
  obtain ⟨V5, b5⟩ := pbox_stored rfl hw5
  obtain ⟨_, i5, r5⟩ := rng_x V5.range
  simp only [Nat.zero_add] at i5 r5
  have R5 := Lib.hid r5
  have V5 := Lib.hid V5
  have B5 := Lib.hid (B4.out.trans (b5.mono B4.out.size))
  have V1e := Lib.hid (V1.out.grow B5.out)
  clear hw5 b5 r5 zk zs zn
  have G1 := V1
  have zk := zRk
  have zs := zR_size
  have zn := zR_ne
  go_wp2_with (have g := G1; clear g; refine wpList_store_as (op := ⟨none, .store 33 (.tmp 6) (.tmp 28), _, _, _, _⟩) rfl 33 (.tmp 6) (.tmp 28) rfl (w.heap.size) 0 (rc r0).toArray rfl rfl (vthere V1e.out (rc_len _)) (r_sizeA r0) (r_oneA r0) ?_; intro w9 hw9; clear G1)
  obtain ⟨V9, b9⟩ := vstored V1e.out (rc_len r0) hw9 (Nat.le_refl _) (b1.out.trans (B5.out.mono b1.out.size))
  exact bodyPost_ret (v := .tuple #[.agg (rc r0).toArray, .bool false, .int .i64 140]) (results_mid_tmp2 (p := 6) (u := 7) (v := 8) (ty := 33) rfl _ _ w.heap.size 0 (rc r0) _ rfl (V9.range) Try.underlying33 rfl (r_size _)) rfl ⟨rfl, b9⟩
set_option maxRecDepth 100000 in
set_option maxHeartbeats 4000000 in
theorem ask_next {w : World} {B n : Nat} {A : Option Addr} {l : List LX} (c : Nat) (t id : Int) (x : LX) (h : Las w B A n l) (hB : B ≤ w.heap.size) (hn : n ≤ 9223372036854775807) (hm : mayG LX.c LX.id l = true) (hk : askB t id = true) (hx : lastX l t = x) (hs : x.id < id) :
    Calls Try.prog 10 #[.slice A n c, .int .i64 t, .int .i64 id] w (fun e w' => e = .returned (.tuple #[.agg (rc r0).toArray, .bool false, .int .i64 0]) ∧ Below w.heap.size w w') := by
  obtain ⟨W1, hW1⟩ : ∃ W, W = w.alloc (.cells zR 33) := ⟨_, rfl⟩
  have b1 := Lib.hid (show Below w.heap.size w W1 by rw [hW1]; exact below_one _ _)
  have V1 := Lib.hid (show VBox W1 w.heap.size 75 (rc r0) by rw [hW1]; exact vbox_new _ _ _ _ _ rfl (rc_len _) (by omega))
  have z1 := Lib.hid (show W1.heap.size = w.heap.size + 1 by rw [hW1]; simp)
  have HW1 := Lib.hid hW1
  have HG := Lib.hid (fun (V : World) (hV : Below W1.heap.size W1 V) => (h.below b1.out hB).below hV (Nat.le_trans hB b1.out.size))
  have HBS := Lib.hid (Nat.le_trans hB b1.out.size)
  clear hW1
  have MM := Lib.hid (pmay_any (w := W1) c true (HG.out W1 (Below.refl _ _)) HBS.out hn hm)
  have LM := Lib.hid (fun (V : World) (hV : Below W1.heap.size W1 V) => lastof_any (w := V) c t x (HG.out V hV) (Nat.le_trans HBS.out hV.size) hn hx)
  have hs2 : ¬ (id < x.id) := by omega
  clear h hx
  have zk := zRk
  have zs := zR_size
  have zn := zR_ne
  go_enter Try.func10, Try.ntmps10
  go_upto_region 1 with fail
  rw [← HW1.out]
  clear zk zs zn
  go_upto_region 3 with (first
    | (go_at_call 15; refine MM.out.mono ?_; rintro e2 w2 ⟨rfl, b2⟩; have B2 := Lib.hid b2; clear b2)
    | (go_at_call 24; refine (asked_any t id true hk _).mono ?_; intro e3 w3 q3; obtain ⟨rfl, b3⟩ := q3.belowQ; have B3 := Lib.hid (B2.out.trans (b3.mono B2.out.size)); clear b3 q3))
  have G1 := V1
  have G2 := V1
  have zk := zPk
  have zs := zX_size
  have zn := zX_ne
  go_upto_region 4 with (first
    | (have g := G1; clear g; go_at_call 25; refine (LM.out _ B3.out).mono ?_; rintro e4 w4 ⟨rfl, b4⟩; have B4 := Lib.hid (B3.out.trans (b4.mono B3.out.size)); have T4 := Lib.hid (pthere_new w4 x 53 _ rfl); clear b4 G1)
    | (have g := G2; clear g; refine wpList_store_as (op := ⟨none, .store 53 (.tmp 9) (.tmp 22), _, _, _, _⟩) rfl 53 (.tmp 9) (.tmp 22) rfl (w4.heap.size) 0 (xc x).toArray rfl rfl (T4.out) (p_sizeA x) (x_oneA x) ?_; intro w5 hw5; clear G2))
  obtain ⟨V5, b5⟩ := pbox_stored rfl hw5
  obtain ⟨_, i5, r5⟩ := rng_x V5.range
  simp only [Nat.zero_add] at i5 r5
  have R5 := Lib.hid r5
  have V5 := Lib.hid V5
  have B5 := Lib.hid (B4.out.trans (b5.mono B4.out.size))
  have V1e := Lib.hid (V1.out.grow B5.out)
  clear hw5 b5 r5 zk zs zn
  have G1 := V1
  have zk := zRk
  have zs := zR_size
  have zn := zR_ne
  go_wp2_with (have g := G1; clear g; refine wpList_store_as (op := ⟨none, .store 33 (.tmp 6) (.tmp 34), _, _, _, _⟩) rfl 33 (.tmp 6) (.tmp 34) rfl (w.heap.size) 0 (rc r0).toArray rfl rfl (vthere V1e.out (rc_len _)) (r_sizeA r0) (r_oneA r0) ?_; intro w9 hw9; clear G1)
  obtain ⟨V9, b9⟩ := vstored V1e.out (rc_len r0) hw9 (Nat.le_refl _) (b1.out.trans (B5.out.mono b1.out.size))
  exact bodyPost_ret (v := .tuple #[.agg (rc r0).toArray, .bool false, .int .i64 0]) (results_mid_tmp2 (p := 6) (u := 7) (v := 8) (ty := 33) rfl _ _ w.heap.size 0 (rc r0) _ rfl (V9.range) Try.underlying33 rfl (r_size _)) rfl ⟨rfl, b9⟩
set_option maxRecDepth 100000 in
set_option maxHeartbeats 4000000 in
theorem ask_again {w : World} {B n : Nat} {A : Option Addr} {l : List LX} (c : Nat) (t id : Int) (x : LX) (h : Las w B A n l) (hB : B ≤ w.heap.size) (hn : n ≤ 9223372036854775807) (hm : mayG LX.c LX.id l = true) (hk : askB t id = true) (hx : lastX l t = x) (hs : x.id = id) (ho : ROk w w.heap.size x.r) (hkn : x.r.kn ≤ 100000) :
    Calls Try.prog 10 #[.slice A n c, .int .i64 t, .int .i64 id] w (fun e w' => ∃ D d, e = .returned (.tuple #[.agg (rc (CopyX x.r D d)).toArray, .bool true, .int .i64 0]) ∧ w'.ownsRow w.heap.size 9 1 (.slice D x.r.kn d) x.r.kn (svs x.r.ks) ∧ Below w.heap.size w w') := by
  obtain ⟨W1, hW1⟩ : ∃ W, W = w.alloc (.cells zR 33) := ⟨_, rfl⟩
  have b1 := Lib.hid (show Below w.heap.size w W1 by rw [hW1]; exact below_one _ _)
  have V1 := Lib.hid (show VBox W1 w.heap.size 75 (rc r0) by rw [hW1]; exact vbox_new _ _ _ _ _ rfl (rc_len _) (by omega))
  have z1 := Lib.hid (show W1.heap.size = w.heap.size + 1 by rw [hW1]; simp)
  have HW1 := Lib.hid hW1
  have HG := Lib.hid (fun (V : World) (hV : Below W1.heap.size W1 V) => (h.below b1.out hB).below hV (Nat.le_trans hB b1.out.size))
  have HBS := Lib.hid (Nat.le_trans hB b1.out.size)
  clear hW1
  have MM := Lib.hid (pmay_any (w := W1) c true (HG.out W1 (Below.refl _ _)) HBS.out hn hm)
  have LM := Lib.hid (fun (V : World) (hV : Below W1.heap.size W1 V) => lastof_any (w := V) c t x (HG.out V hV) (Nat.le_trans HBS.out hV.size) hn hx)
  have hs1 : ¬ (id < x.id) := by omega
  have hs2 : ¬ (x.id < id) := by omega
  have HO := Lib.hid (fun (V : World) (hV : Below W1.heap.size W1 V) => (ho.below b1.out (Nat.le_refl _)).below hV b1.out.size)
  clear hs ho
  clear h hx
  have zk := zRk
  have zs := zR_size
  have zn := zR_ne
  go_enter Try.func10, Try.ntmps10
  go_upto_region 1 with fail
  rw [← HW1.out]
  clear zk zs zn
  go_upto_region 3 with (first
    | (go_at_call 15; refine MM.out.mono ?_; rintro e2 w2 ⟨rfl, b2⟩; have B2 := Lib.hid b2; clear b2)
    | (go_at_call 24; refine (asked_any t id true hk _).mono ?_; intro e3 w3 q3; obtain ⟨rfl, b3⟩ := q3.belowQ; have B3 := Lib.hid (B2.out.trans (b3.mono B2.out.size)); clear b3 q3))
  have G1 := V1
  have G2 := V1
  have zk := zPk
  have zs := zX_size
  have zn := zX_ne
  go_upto_region 4 with (first
    | (have g := G1; clear g; go_at_call 25; refine (LM.out _ B3.out).mono ?_; rintro e4 w4 ⟨rfl, b4⟩; have B4 := Lib.hid (B3.out.trans (b4.mono B3.out.size)); have T4 := Lib.hid (pthere_new w4 x 53 _ rfl); clear b4 G1)
    | (have g := G2; clear g; refine wpList_store_as (op := ⟨none, .store 53 (.tmp 9) (.tmp 22), _, _, _, _⟩) rfl 53 (.tmp 9) (.tmp 22) rfl (w4.heap.size) 0 (xc x).toArray rfl rfl (T4.out) (p_sizeA x) (x_oneA x) ?_; intro w5 hw5; clear G2))
  obtain ⟨V5, b5⟩ := pbox_stored rfl hw5
  obtain ⟨_, i5, r5⟩ := rng_x V5.range
  simp only [Nat.zero_add] at i5 r5
  have R5 := Lib.hid r5
  have V5 := Lib.hid V5
  have B5 := Lib.hid (B4.out.trans (b5.mono B4.out.size))
  have V1e := Lib.hid (V1.out.grow B5.out)
  clear hw5 b5 r5 zk zs zn
  have CM := Lib.hid (copied_any (w := w5) (HO.out w5 B5.out) (Nat.le_trans b1.out.size B5.out.size) hkn)
  have G1 := V1
  have G2 := V1
  have G3 := V1
  go_wp2_with (first
        | (have g := G1; clear g; refine wpList_load_mid (op := ⟨some 36, .load 33 (.tmp 35), _, _, _, _⟩) rfl 33 (.tmp 35) rfl (w4.heap.size) (2) rfl (rc x.r) _ (R5.out) Try.underlying33 rfl (r_size x.r) ?_; clear G1)
        | (have g := G2; clear g; go_at_call 26; refine CM.out.mono ?_; rintro e6 w6 ⟨D, d, rfl, o6, b6⟩; have O6 := Lib.hid o6; have B6 := Lib.hid (B5.out.trans (b6.mono B5.out.size)); have V6 := Lib.hid (V1e.out.grow b6); clear o6 b6 G2)
        | (have g := G3; clear g; refine wpList_store_as (op := ⟨none, .store 33 (.tmp 6) (.tmp 37), _, _, _, _⟩) rfl 33 (.tmp 6) (.tmp 37) rfl (w.heap.size) 0 (rc (CopyX x.r D d)).toArray rfl rfl (vthere V6.out (rc_len _)) (r_sizeA (CopyX x.r D d)) (r_oneA (CopyX x.r D d)) ?_; intro w9 hw9; clear G3))
  obtain ⟨V9, b9⟩ := vstored V6.out (rc_len (CopyX x.r D d)) hw9 (Nat.le_refl _) (b1.out.trans (B6.out.mono b1.out.size))
  have O9 : w9.ownsRow w5.heap.size 9 1 (.slice D x.r.kn d) x.r.kn (svs x.r.ks) := own_keepB O6.out (fun g h1 h2 => by rw [hw9.out]; exact heap_setCells w.heap.size g (by have := z1.out; have := B5.out.size; omega) _ _ _)
  exact bodyPost_ret (v := .tuple #[.agg (rc (CopyX x.r D d)).toArray, .bool true, .int .i64 0]) (results_mid_tmp2 (p := 6) (u := 7) (v := 8) (ty := 33) rfl _ _ w.heap.size 0 (rc (CopyX x.r D d)) _ rfl (V9.range) Try.underlying33 rfl (r_size _)) rfl ⟨D, d, rfl, own_from O9 (Nat.le_trans b1.out.size B5.out.size), b9⟩
end Go.Proofs.Ytlapdocikhjkcaa
