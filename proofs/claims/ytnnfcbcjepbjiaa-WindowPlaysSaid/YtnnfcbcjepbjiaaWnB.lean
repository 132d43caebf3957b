/- A number is taken: the program's with, its loop. Printed by gen_wna.py. -/
import Derived.Test.YtnnfcbcjepbjiaaWnA
namespace Go.Proofs.Ytnnfcbcjepbjiaa
open Go.ChangeShapes Go.WideShapes Go.ChangeAt Go.RowKit
set_option linter.unusedVariables false
set_option linter.unusedSimpArgs false
open Plain Sha Wn
theorem build_anew (k : Int) (W : World) : (Instr.build 40 #[(0, .bool true), (1, .int .i64 k)]).run Try.prog W = .ok (.agg (wc (anewZ k)).toArray) W :=
  run_build W 40 _ _ (by kernel_rfl)
theorem wpList_exec {P : Program} {ops : Array Oper} {rest : List Oper} {op : Oper} {a : Act} {w : World} {Q : Exit → Act → World → Prop} (hgd : op.guard = none) (v : Value)
    (hrun : (execOp a.eval op).run P w = .ok (.value v) w) (h : wpList P ops Q rest (a.put op.dst v) w) : wpList P ops Q (op :: rest) a w :=
  wpList_plain hgd fun K hK => by
    unfold Oper.wp
    simp only [hrun]
    exact hK _ _ h
theorem exec_anew {P : Program} {a : Act} {op : Oper} {x0 x1 : Operand} {k : Int} {w : World} (hP : P = Try.prog) (ho : op.op = .build 40 #[(0, x0), (1, x1)]) (h0 : a.eval x0 = .bool true) (h1 : a.eval x1 = .int .i64 k) : (execOp a.eval op).run P w = .ok (.value (.agg (wc (anewZ k)).toArray)) w := by
  subst hP
  have hb := build_anew k w
  unfold execOp
  simp only [ho]
  simp [h0, h1, hb]
theorem mod64 (z : Int) (h0 : 0 ≤ z) : ∃ q : Nat, q < 64 ∧ (q : Int) = z % 64 ∧ wrap64 (z.tmod 64) = (q : Int) := by
  refine ⟨(z % 64).toNat, by omega, by omega, ?_⟩
  rw [Int.tmod_eq_emod_of_nonneg h0]
  unfold wrap64
  omega
theorem wrap_in {z : Int} (h : -9223372036854775808 ≤ z ∧ z ≤ 9223372036854775807) : wrap64 z = z := by unfold wrap64; omega
/-- What stands behind the loop's first rounds. -/
structure Cleared (w : World) (g : Nat) (y : WZ) (j : Nat) (wr : World) : Prop where
  b : Below g w wr
  x : ∃ F hF, F = clr y.F y.top j ∧ WBox wr g { y with F := F, hF := hF }
  t : wr.there (g + 1) 0 67
set_option maxRecDepth 100000 in
set_option maxHeartbeats 4000000 in
theorem with_more {w : World} (x : WZ) (n : Int) (h : ¬ n ≤ x.top - 64) (hn : 1 ≤ n ∧ n ≤ 9223372036854775807) (hx : 0 ≤ x.top ∧ x.top ≤ 9223372036854775807) :
    Calls Try.prog 18 #[.agg (wc x).toArray, .int .i64 x.boot, .int .i64 n] w (fun e w' => e = .returned (.agg (wc (addZ x n)).toArray) ∧ Below w.heap.size w w') := by
  obtain ⟨M, hM⟩ : ∃ M : Nat, M = (min (n - x.top) 64).toNat := ⟨_, rfl⟩
  have HM := Lib.hid hM
  obtain ⟨W1, hW1⟩ : ∃ W, W = (w.alloc (.cells (wc x).toArray 40)).alloc (.cells zWc 40) := ⟨_, rfl⟩
  have b1 : Below w.heap.size w W1 := by rw [hW1]; exact ((Below.refl _ _).alloc (Nat.le_refl _) _).alloc (by simp) _
  have x1 : WBox W1 w.heap.size x := by
    rw [hW1]
    exact (wbox_new w x 40 _ rfl).grow ((Below.refl _ _).alloc (Nat.le_refl _) _)
  have t1 : Hid (W1.there (w.heap.size + 1) 0 67) := Lib.hid (by rw [hW1]; exact (wbox_new _ w0 _ _ (by simp)).there)
  have B1 := Lib.hid b1
  have HW1 := Lib.hid hW1
  have X1 := Lib.hid x1
  have c1 := x1.c1
  have c2 := x1.c2
  clear hW1 b1 x1
  have zk := zWk
  have zs := zWc_size
  have zn := zWc_ne
  go_enter Try.func18, Try.ntmps18
  go_upto_region 1 with fail
  rw [← HW1.out]
  clear zk zs zn
  have e0 : ¬ x.boot < x.boot := by omega
  have B2 := B1
  have X2 := X1
  have T2 := t1
  have hy0 : 0 ≤ x.top := by omega
  go_wp2_with (fail)
  go_loopw [31] (fun i wr => ∃ j : Nat, j ≤ M ∧ i = .int .i64 j ∧ Hid (Cleared w w.heap.size x j wr)) (fun i _ => M - (intOf i).toNat)
  case atStart => exact ⟨0, by omega, rfl, Lib.hid ⟨B2.out, ⟨x.F, x.hF, rfl, X2.out⟩, T2.out⟩⟩
  case round =>
    obtain ⟨j, hj, rfl, HC⟩ := hrel
    by_cases hlt : j < M
    · obtain ⟨F, hF, eF, xb⟩ := HC.out.x
      have hq0 : 0 ≤ (x.top + 1 + (j : Int)) % 64 := by omega
      have hq1 : (x.top + 1 + (j : Int)) % 64 < 64 := by omega
      have d2 := xb.c2
      have df := xb.flag ((x.top + 1 + (j : Int)) % 64).toNat (by omega)
      have dz := xb.free (3 + ((x.top + 1 + (j : Int)) % 64).toNat) (by omega)
      have HX := Lib.hid xb
      have HF := Lib.hid eF
      have hb := HC.out.b
      have ht := HC.out.t
      have HB := Lib.hid hb
      have HT := Lib.hid ht
      have d2 : wr.cell? ⟨w.heap.size, 2, none⟩ = some (.int .i64 x.top) := d2
      have df : wr.cell? ⟨w.heap.size, 3 + ((x.top + 1 + (j : Int)) % 64).toNat, none⟩ = some (.bool (F.getD ((x.top + 1 + (j : Int)) % 64).toNat false)) := df
      have hltI : (j : Int) < min (n - x.top) 64 := by omega
      have E1 : wrap64 (x.top + 1) = x.top + 1 := wrap_in (by omega)
      have E2 : wrap64 (x.top + 1 + (j : Int)) = x.top + 1 + (j : Int) := wrap_in (by omega)
      clear xb eF hb ht
      go_wp2_with (fail)
      refine ⟨⟨j + 1, by omega, by congr 1, Lib.hid ⟨HB.out.setCell (p := ⟨w.heap.size, 3 + ((x.top + 1 + (j : Int)) % 64).toNat, none⟩) (Nat.le_refl _) _, ⟨F.set ((x.top + 1 + (j : Int)) % 64).toNat false, by rw [List.length_set]; exact hF, ?_, ?_⟩, ?_⟩⟩, ?_⟩
      · rw [HF.out, clr]
      · exact HX.out.setF _ false (by omega) _ _ rfl
      · intro i hi
        rw [World.frozen?_setCell, World.cell?_setCell_other _ _ _ _ (fun e => by injection e with e1; omega)]
        exact HT.out i hi
      · simp only [intOf]; omega
    · have hgeI : ¬ (j : Int) < min (n - x.top) 64 := by omega
      obtain rfl : j = M := by omega
      obtain ⟨F, hF, eF, xb⟩ := HC.out.x
      have hq0 : 0 ≤ n % 64 := by omega
      have hq1 : n % 64 < 64 := by omega
      have d2 := xb.c2
      have d2 : wr.cell? ⟨w.heap.size, 2, none⟩ = some (.int .i64 x.top) := d2
      have dz := xb.free 2 (by omega)
      have df := xb.flag (n % 64).toNat (by omega)
      have df : wr.cell? ⟨w.heap.size, 3 + (n % 64).toNat, none⟩ = some (.bool (F.getD (n % 64).toNat false)) := df
      have dz2 := xb.free (3 + (n % 64).toNat) (by omega)
      have hb := HC.out.b
      have x3 := (xb.setTop (max x.top n)).setF (n % 64).toNat true (by omega) ((clr x.F x.top j).set (n % 64).toNat true) (by rw [List.length_set, clr_len, x.hF]) (by
        show (clr x.F x.top j).set (n % 64).toNat true = F.set (n % 64).toNat true
        rw [eF])
      have b3 : Below w.heap.size w ((wr.setCell ⟨w.heap.size, 2, none⟩ (.int .i64 (max x.top n))).setCell ⟨w.heap.size, 3 + (n % 64).toNat, none⟩ (.bool true)) := (hb.setCell (p := ⟨w.heap.size, 2, none⟩) (Nat.le_refl _) _).setCell (p := ⟨w.heap.size, 3 + (n % 64).toNat, none⟩) (Nat.le_refl _) _
      have ht := HC.out.t
      have t3 : ((wr.setCell ⟨w.heap.size, 2, none⟩ (.int .i64 (max x.top n))).setCell ⟨w.heap.size, 3 + (n % 64).toNat, none⟩ (.bool true)).there (w.heap.size + 1) 0 (wc (addZ x n)).toArray.size := by
        rw [show (wc (addZ x n)).toArray.size = 67 by rw [List.size_toArray, wc_len]]
        intro i hi
        rw [World.frozen?_setCell, World.cell?_setCell_other _ _ _ _ (fun e => by injection e with e1; omega), World.frozen?_setCell, World.cell?_setCell_other _ _ _ _ (fun e => by injection e with e1; omega)]
        exact ht i hi
      have ez : ({ x with top := max x.top n, F := (clr x.F x.top j).set (n % 64).toNat true, hF := by rw [List.length_set, clr_len, x.hF] } : WZ) = addZ x n := WZ.ext' rfl rfl rfl (by unfold addZ; show (clr x.F x.top j).set _ true = _; rw [HM.out])
      have X4 := Lib.hid (show WBox _ w.heap.size (addZ x n) from ez ▸ x3)
      have T4 := Lib.hid t3
      have B4 := Lib.hid b3
      clear xb eF x3 b3 t3 ez hb ht
      go_wp2_with (first
      | (show wpList _ _ _ (⟨some 52, .load 40 (.tmp 3), _, _, _, _⟩ :: _) _ _; refine wpList_load_mid rfl 40 (.tmp 3) rfl (w.heap.size) 0 rfl (wc (addZ x n)) _ (X4.out.range) Try.underlying40 rfl (wn_size (addZ x n)) ?_)
      | (show wpList _ _ _ (⟨none, .store 40 (.tmp 6) (.tmp 52), _, _, _, _⟩ :: _) _ _; refine wpList_store_as rfl 40 (.tmp 6) (.tmp 52) rfl (w.heap.size + 1) 0 (wc (addZ x n)).toArray rfl rfl (T4.out) (wn_sizeA _) (wn_one _) ?_; intro w5 hw5))
      have R2 : w5.rangeAt (w.heap.size + 1) 0 (wc (addZ x n)) := by rw [hw5.out]; exact World.rangeAt_setCells_same _ _ _ _ T4.out
      have b5 : Below w.heap.size w w5 := by rw [hw5.out]; exact below_setCells (by omega) _ _ _ B4.out
      exact bodyPost_ret (v := .agg (wc (addZ x n)).toArray) (results_mid (p := 6) (ty := 40) rfl _ _ (w.heap.size + 1) 0 (wc (addZ x n)) _ rfl R2 Try.underlying40 rfl (wn_size _)) rfl ⟨rfl, b5⟩
set_option maxRecDepth 100000 in
set_option maxHeartbeats 4000000 in
theorem with_anew {w : World} (x : WZ) (k n : Int) (h : x.boot < k) (hn : 1 ≤ n ∧ n ≤ 9223372036854775807) :
    Calls Try.prog 18 #[.agg (wc x).toArray, .int .i64 k, .int .i64 n] w (fun e w' => e = .returned (.agg (wc (addZ (anewZ k) n)).toArray) ∧ Below w.heap.size w w') := by
  obtain ⟨W1, hW1⟩ : ∃ W, W = (w.alloc (.cells (wc x).toArray 40)).alloc (.cells zWc 40) := ⟨_, rfl⟩
  have b1 : Below w.heap.size w W1 := by rw [hW1]; exact ((Below.refl _ _).alloc (Nat.le_refl _) _).alloc (by simp) _
  have x1 : WBox W1 w.heap.size x := by
    rw [hW1]
    exact (wbox_new w x 40 _ rfl).grow ((Below.refl _ _).alloc (Nat.le_refl _) _)
  have t1 : Hid (W1.there (w.heap.size + 1) 0 67) := Lib.hid (by rw [hW1]; exact (wbox_new _ w0 _ _ (by simp)).there)
  have B1 := Lib.hid b1
  have HW1 := Lib.hid hW1
  have X1 := Lib.hid x1
  have c1 := x1.c1
  have c2 := x1.c2
  clear hW1 b1 x1
  have zk := zWk
  have zs := zWc_size
  have zn := zWc_ne
  go_enter Try.func18, Try.ntmps18
  go_upto_region 1 with fail
  rw [← HW1.out]
  clear zk zs zn
  have HT0 : Hid (W1.there w.heap.size 0 (wc (anewZ k)).toArray.size) := Lib.hid (X1.out.thereA _)
  go_upto_region 3 with (first
      | (show wpList _ _ _ (⟨some 13, .build 40 _, _, _, _, _⟩ :: _) _ _; refine wpList_exec rfl (.agg (wc (anewZ k)).toArray) (by exact exec_anew rfl rfl rfl rfl) ?_)
      | (show wpList _ _ _ (⟨none, .store 40 (.tmp 3) (.tmp 13), _, _, _, _⟩ :: _) _ _; refine wpList_store_as rfl 40 (.tmp 3) (.tmp 13) rfl (w.heap.size) 0 (wc (anewZ k)).toArray rfl rfl (HT0.out) (wn_sizeA _) (wn_one _) ?_; intro w2 hw2))
  have X2 : Hid (WBox w2 w.heap.size (anewZ k)) := Lib.hid (by rw [hw2.out]; exact X1.out.store _)
  have B2 : Hid (Below w.heap.size w w2) := Lib.hid (by rw [hw2.out]; exact below_setCells (Nat.le_refl _) _ _ _ B1.out)
  have T2 : Hid (w2.there (w.heap.size + 1) 0 67) := Lib.hid (by rw [hw2.out]; exact there_same t1.out (heap_setCells _ _ (by omega) _ _ _))
  clear c1 c2 HW1 X1 B1 t1 HT0 hw2
  obtain ⟨y, hy⟩ : ∃ y, anewZ k = y := ⟨_, rfl⟩
  have ky : k = y.boot := by rw [← hy]; rfl
  have ty : 0 ≤ y.top ∧ y.top ≤ 0 := by rw [← hy]; exact ⟨Int.le_refl _, Int.le_refl _⟩
  have HY := Lib.hid hy
  rw [hy] at X2
  obtain ⟨M, hM⟩ : ∃ M : Nat, M = (min (n - y.top) 64).toNat := ⟨_, rfl⟩
  have HM := Lib.hid hM
  have c1 := X2.out.c1
  have c2 := X2.out.c2
  clear hy
  subst ky
  have e1 : ¬ y.boot < y.boot := by omega
  have e2 : ¬ n ≤ y.top - 64 := by omega
  have hy0 : 0 ≤ y.top := by omega
  go_wp2_with (fail)
  go_loopw [31] (fun i wr => ∃ j : Nat, j ≤ M ∧ i = .int .i64 j ∧ Hid (Cleared w w.heap.size y j wr)) (fun i _ => M - (intOf i).toNat)
  case atStart => exact ⟨0, by omega, rfl, Lib.hid ⟨B2.out, ⟨y.F, y.hF, rfl, X2.out⟩, T2.out⟩⟩
  case round =>
    obtain ⟨j, hj, rfl, HC⟩ := hrel
    by_cases hlt : j < M
    · obtain ⟨F, hF, eF, xb⟩ := HC.out.x
      have hq0 : 0 ≤ (y.top + 1 + (j : Int)) % 64 := by omega
      have hq1 : (y.top + 1 + (j : Int)) % 64 < 64 := by omega
      have d2 := xb.c2
      have df := xb.flag ((y.top + 1 + (j : Int)) % 64).toNat (by omega)
      have dz := xb.free (3 + ((y.top + 1 + (j : Int)) % 64).toNat) (by omega)
      have HX := Lib.hid xb
      have HF := Lib.hid eF
      have hb := HC.out.b
      have ht := HC.out.t
      have HB := Lib.hid hb
      have HT := Lib.hid ht
      have d2 : wr.cell? ⟨w.heap.size, 2, none⟩ = some (.int .i64 y.top) := d2
      have df : wr.cell? ⟨w.heap.size, 3 + ((y.top + 1 + (j : Int)) % 64).toNat, none⟩ = some (.bool (F.getD ((y.top + 1 + (j : Int)) % 64).toNat false)) := df
      have hltI : (j : Int) < min (n - y.top) 64 := by omega
      have E1 : wrap64 (y.top + 1) = y.top + 1 := wrap_in (by omega)
      have E2 : wrap64 (y.top + 1 + (j : Int)) = y.top + 1 + (j : Int) := wrap_in (by omega)
      clear xb eF hb ht
      go_wp2_with (fail)
      refine ⟨⟨j + 1, by omega, by congr 1, Lib.hid ⟨HB.out.setCell (p := ⟨w.heap.size, 3 + ((y.top + 1 + (j : Int)) % 64).toNat, none⟩) (Nat.le_refl _) _, ⟨F.set ((y.top + 1 + (j : Int)) % 64).toNat false, by rw [List.length_set]; exact hF, ?_, ?_⟩, ?_⟩⟩, ?_⟩
      · rw [HF.out, clr]
      · exact HX.out.setF _ false (by omega) _ _ rfl
      · intro i hi
        rw [World.frozen?_setCell, World.cell?_setCell_other _ _ _ _ (fun e => by injection e with e1; omega)]
        exact HT.out i hi
      · simp only [intOf]; omega
    · have hgeI : ¬ (j : Int) < min (n - y.top) 64 := by omega
      obtain rfl : j = M := by omega
      obtain ⟨F, hF, eF, xb⟩ := HC.out.x
      have hq0 : 0 ≤ n % 64 := by omega
      have hq1 : n % 64 < 64 := by omega
      have d2 := xb.c2
      have d2 : wr.cell? ⟨w.heap.size, 2, none⟩ = some (.int .i64 y.top) := d2
      have dz := xb.free 2 (by omega)
      have df := xb.flag (n % 64).toNat (by omega)
      have df : wr.cell? ⟨w.heap.size, 3 + (n % 64).toNat, none⟩ = some (.bool (F.getD (n % 64).toNat false)) := df
      have dz2 := xb.free (3 + (n % 64).toNat) (by omega)
      have hb := HC.out.b
      have x3 := (xb.setTop (max y.top n)).setF (n % 64).toNat true (by omega) ((clr y.F y.top j).set (n % 64).toNat true) (by rw [List.length_set, clr_len, y.hF]) (by
        show (clr y.F y.top j).set (n % 64).toNat true = F.set (n % 64).toNat true
        rw [eF])
      have b3 : Below w.heap.size w ((wr.setCell ⟨w.heap.size, 2, none⟩ (.int .i64 (max y.top n))).setCell ⟨w.heap.size, 3 + (n % 64).toNat, none⟩ (.bool true)) := (hb.setCell (p := ⟨w.heap.size, 2, none⟩) (Nat.le_refl _) _).setCell (p := ⟨w.heap.size, 3 + (n % 64).toNat, none⟩) (Nat.le_refl _) _
      have ht := HC.out.t
      have t3 : ((wr.setCell ⟨w.heap.size, 2, none⟩ (.int .i64 (max y.top n))).setCell ⟨w.heap.size, 3 + (n % 64).toNat, none⟩ (.bool true)).there (w.heap.size + 1) 0 (wc (addZ y n)).toArray.size := by
        rw [show (wc (addZ y n)).toArray.size = 67 by rw [List.size_toArray, wc_len]]
        intro i hi
        rw [World.frozen?_setCell, World.cell?_setCell_other _ _ _ _ (fun e => by injection e with e1; omega), World.frozen?_setCell, World.cell?_setCell_other _ _ _ _ (fun e => by injection e with e1; omega)]
        exact ht i hi
      have ez : ({ y with top := max y.top n, F := (clr y.F y.top j).set (n % 64).toNat true, hF := by rw [List.length_set, clr_len, y.hF] } : WZ) = addZ y n := WZ.ext' rfl rfl rfl (by unfold addZ; show (clr y.F y.top j).set _ true = _; rw [HM.out])
      have X4 := Lib.hid (show WBox _ w.heap.size (addZ y n) from ez ▸ x3)
      have T4 := Lib.hid t3
      have B4 := Lib.hid b3
      clear xb eF x3 b3 t3 ez hb ht
      go_wp2_with (first
      | (show wpList _ _ _ (⟨some 52, .load 40 (.tmp 3), _, _, _, _⟩ :: _) _ _; refine wpList_load_mid rfl 40 (.tmp 3) rfl (w.heap.size) 0 rfl (wc (addZ y n)) _ (X4.out.range) Try.underlying40 rfl (wn_size (addZ y n)) ?_)
      | (show wpList _ _ _ (⟨none, .store 40 (.tmp 6) (.tmp 52), _, _, _, _⟩ :: _) _ _; refine wpList_store_as rfl 40 (.tmp 6) (.tmp 52) rfl (w.heap.size + 1) 0 (wc (addZ y n)).toArray rfl rfl (T4.out) (wn_sizeA _) (wn_one _) ?_; intro w5 hw5))
      have R2 : w5.rangeAt (w.heap.size + 1) 0 (wc (addZ y n)) := by rw [hw5.out]; exact World.rangeAt_setCells_same _ _ _ _ T4.out
      have b5 : Below w.heap.size w w5 := by rw [hw5.out]; exact below_setCells (by omega) _ _ _ B4.out
      exact bodyPost_ret (v := .agg (wc (addZ y n)).toArray) (results_mid (p := 6) (ty := 40) rfl _ _ (w.heap.size + 1) 0 (wc (addZ y n)) _ rfl R2 Try.underlying40 rfl (wn_size _)) rfl ⟨by rw [HY.out], b5⟩
end Go.Proofs.Ytnnfcbcjepbjiaa
