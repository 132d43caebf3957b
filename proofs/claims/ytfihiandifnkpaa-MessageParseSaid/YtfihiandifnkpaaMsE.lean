/- The array of the Kinds. Printed by gen_mse.py. -/
import Derived.Test.YtfihiandifnkpaaMsD
namespace Go.Proofs.Ytfihiandifnkpaa
open Go.ChangeShapes Go.WideShapes Go.ChangeAt Go.RowKit
set_option linter.unusedVariables false
set_option maxRecDepth 100000
set_option linter.unusedSimpArgs false
open Plain Sha Ms
namespace Ms
def fv (f : FuncId) : Value := .func (.func f) #[] #[]
def kc0 : List Value := [.nilFunc, .nilFunc, .nilFunc, .nilFunc]
def kc1 : List Value := [fv 90, fv 91, fv 92, fv 93]
def kc2 : List Value := [fv 94, fv 95, fv 96, fv 97]
def kc3 : List Value := [fv 98, fv 99, fv 100, fv 101]
def kc4 : List Value := [fv 102, fv 103, fv 104, fv 105]
def kc5 : List Value := [fv 106, fv 107, fv 108, fv 109]
def kcs : List Value := kc0 ++ kc1 ++ kc2 ++ kc3 ++ kc4 ++ kc5 ++ kc1
def zK : Array Value := (kc0 ++ kc0 ++ kc0 ++ kc0 ++ kc0 ++ kc0 ++ kc0).toArray
/-- The cells of a Kind. -/
def kcell (k : Int) : List Value := if k = 1 ∨ k = 6 then kc1 else if k = 2 then kc2 else if k = 3 then kc3 else if k = 4 then kc4 else if k = 5 then kc5 else kc0
end Ms
theorem zK_size : zK.size = 28 := rfl
theorem zK_ne : ¬ zK = #[] := fun h => by have := zK_size; rw [h] at this; simp at this
theorem zKk (w : World) : (zeroValue 101).run Try.prog w = .ok (.agg zK) w := by
  obtain ⟨i, hi, hz, hs, hb⟩ := info_parts (show (Try.prog.info? 101).map (fun i => (i.zero, i.size, i.bytes)) = some (some (.agg zK), 28, 224) by kernel_rfl)
  simp [zeroValue, run_typeInfo w hi, hz]
theorem kcs_size : (Try.prog.info? 101).map (·.size) = some kcs.length := by show _ = some 28; kernel_rfl
theorem kcs_sizeA : (Try.prog.info? 101).map (·.size) = some kcs.toArray.size := by rw [List.size_toArray]; exact kcs_size
theorem kcs_oneA : kcs.toArray.all (·.oneCell') = true := by rw [List.all_toArray]; rfl
theorem kcell_len (k : Int) : (kcell k).length = 4 := by
  unfold kcell
  repeat' split
  all_goals rfl
theorem kcell_size (k : Int) : (Try.prog.info? 71).map (·.size) = some (kcell k).length := by rw [kcell_len]; kernel_rfl
theorem kcell_sizeA (k : Int) : (Try.prog.info? 71).map (·.size) = some (kcell k).toArray.size := by rw [List.size_toArray]; exact kcell_size k
theorem kcell_oneA (k : Int) : (kcell k).toArray.all (·.oneCell') = true := by
  rw [List.all_toArray]
  unfold kcell
  repeat' split
  all_goals rfl
theorem build_kinds (W : World) : (Instr.build 101 #[(1, .agg kc1.toArray), (2, .agg kc2.toArray), (3, .agg kc3.toArray), (4, .agg kc4.toArray), (5, .agg kc5.toArray), (6, .agg kc1.toArray)]).run Try.prog W = .ok (.agg kcs.toArray) W := run_build W 101 _ _ (by kernel_rfl)
theorem exec_kinds {P : Program} {a : Act} {op : Oper} {x1 x2 x3 x4 x5 x6 : Operand} {w : World} (hP : P = Try.prog) (ho : op.op = .build 101 #[(1, x1), (2, x2), (3, x3), (4, x4), (5, x5), (6, x6)]) (h1 : a.eval x1 = .agg kc1.toArray) (h2 : a.eval x2 = .agg kc2.toArray) (h3 : a.eval x3 = .agg kc3.toArray) (h4 : a.eval x4 = .agg kc4.toArray) (h5 : a.eval x5 = .agg kc5.toArray) (h6 : a.eval x6 = .agg kc1.toArray) : (execOp a.eval op).run P w = .ok (.value (.agg kcs.toArray)) w := by
  subst hP
  have hb := build_kinds w
  unfold execOp
  simp only [ho]
  simp only [List.map_toArray, List.map_cons, List.map_nil, h1, h2, h3, h4, h5, h6]
  simp [hb]
set_option maxHeartbeats 4000000 in
theorem kinds_any (w : World) : Calls Try.prog 73 #[] w (fun e w' => e = .returned (.agg kcs.toArray) ∧ Below w.heap.size w w') := by
  obtain ⟨W1, hW1⟩ : ∃ W, W = w.alloc (.cells zK 101) := ⟨_, rfl⟩
  obtain ⟨g, hg⟩ : ∃ g, w.heap.size = g := ⟨_, rfl⟩
  have b1 := Lib.hid (show Below w.heap.size w W1 by rw [hW1]; exact below_one _ _)
  have V1 := Lib.hid (show VBox W1 g 28 (kc0 ++ kc0 ++ kc0 ++ kc0 ++ kc0 ++ kc0 ++ kc0) by rw [hW1]; exact vbox_new _ _ _ _ _ hg rfl (by omega))
  have z1 := Lib.hid (show W1.heap.size = g + 1 by rw [hW1]; simp [hg])
  have HW1 := Lib.hid hW1
  have Hg := Lib.hid hg
  clear hW1 hg
  have zk := zKk
  have zs := zK_size
  have zn := zK_ne
  go_enter Try.func73, Try.ntmps73
  go_upto_region 1 with fail
  rw [← HW1.out, Hg.out]
  clear zk zs zn
  have hst := fun (f : Fn) (p : Addr) (W : World) => run_store Try.prog W p (.func f #[] #[]) .plain rfl
  obtain ⟨W2, hW2⟩ : ∃ W, W = W1.alloc (.cells #[fv 90, fv 91, fv 92, fv 93] 71) := ⟨_, rfl⟩
  have b2 := Lib.hid (show Below W1.heap.size W1 W2 by rw [hW2]; exact below_one _ _)
  have V3 := Lib.hid (show VBox W2 (g + 1) 4 kc1 by rw [hW2]; exact vbox_new _ kc1 _ _ _ z1.out rfl (by omega))
  have HW2 := Lib.hid hW2
  have V1b := Lib.hid (V1.out.grow b2.out)
  have VT := Lib.hid (vthere V1b.out (us := kcs) rfl)
  have B2 := Lib.hid (b1.out.trans (b2.out.mono b1.out.size))
  clear hW2
  go_upto_region 2 with fail
  have HW3 := HW2.out
  unfold fv at HW3
  rw [← HW3, z1.out]
  clear HW3 hst
  have x0 := V3.out.at1 (i := 0) rfl
  have x1 := V3.out.at1 (i := 1) rfl
  have x2 := V3.out.at1 (i := 2) rfl
  have x3 := V3.out.at1 (i := 3) rfl
  go_wp2_with (first
      | (with_reducible show wpList _ _ _ (⟨some 3, .load 71 (.tmp 1), _, _, _, _⟩ :: _) _ _; refine wpList_load_mid (op := ⟨some 3, .load 71 (.tmp 1), _, _, _, _⟩) rfl 71 (.tmp 1) rfl (g + 1) 0 rfl kc1 _ (V3.out.range) Try.underlying71 rfl (kcell_size 1) ?_)
      | (with_reducible show wpList _ _ _ (⟨some 8, .load 71 (.tmp 1), _, _, _, _⟩ :: _) _ _; refine wpList_load_mid (op := ⟨some 8, .load 71 (.tmp 1), _, _, _, _⟩) rfl 71 (.tmp 1) rfl (g + 1) 0 rfl kc1 _ (V3.out.range) Try.underlying71 rfl (kcell_size 1) ?_)
      | (with_reducible show wpList _ _ _ (⟨some 9, .build 101 #[(1, .tmp 3), (2, .tmp 4), (3, .tmp 5), (4, .tmp 6), (5, .tmp 7), (6, .tmp 8)], _, _, _, _⟩ :: _) _ _; refine wpList_exec (op := ⟨some 9, .build 101 #[(1, .tmp 3), (2, .tmp 4), (3, .tmp 5), (4, .tmp 6), (5, .tmp 7), (6, .tmp 8)], _, _, _, _⟩) rfl (.agg kcs.toArray) (by exact exec_kinds rfl rfl rfl rfl rfl rfl rfl rfl) ?_)
      | (with_reducible show wpList _ _ _ (⟨none, .store 101 (.tmp 0) (.tmp 9), _, _, _, _⟩ :: _) _ _; refine wpList_store_as (op := ⟨none, .store 101 (.tmp 0) (.tmp 9), _, _, _, _⟩) rfl 101 (.tmp 0) (.tmp 9) rfl (g) 0 kcs.toArray rfl rfl (VT.out) kcs_sizeA kcs_oneA ?_; intro w9 hw9))
  obtain ⟨V9, b9⟩ := vstored V1b.out rfl hw9 (by rw [Hg.out]; exact Nat.le_refl _) B2.out
  exact bodyPost_ret (v := .agg kcs.toArray) (results_mid (p := 0) (ty := 101) rfl _ _ g 0 kcs _ rfl V9.range Try.underlying101 rfl kcs_size) rfl ⟨rfl, b9⟩
theorem size_kinds : (Try.prog.info? 101).map (·.size) = some 28 := by kernel_rfl
theorem part_kinds : (Try.prog.info? 71).map (·.size) = some 4 := by kernel_rfl
theorem cut_kinds (k : Nat) (h1 : 1 ≤ k) (h2 : k ≤ 6) (w : World) : (Instr.index 101 (.agg kcs.toArray) (.int .u8 (k : Int))).run Try.prog w = .ok (.agg (kcell k).toArray) w := by
  have h0 : (0 : Int) ≤ (k : Int) ∧ (k : Int) < 7 := by omega
  have : k = 1 ∨ k = 2 ∨ k = 3 ∨ k = 4 ∨ k = 5 ∨ k = 6 := by omega
  rcases this with rfl | rfl | rfl | rfl | rfl | rfl
  all_goals
    simp only [Instr.index, asIntOf, Sem.run_bind, Sem.run_pure, Result.andThen_ok, run_underlying Try.underlying101]
    simp [size_kinds, part_kinds]
    rfl
end Go.Proofs.Ytfihiandifnkpaa
