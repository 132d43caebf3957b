/- What each Op asks for: the array, made. -/
import Derived.Test.YtcgclaailhhbpaaRqB
namespace Go.Proofs.Ytcgclaailhhbpaa
open Go.ChangeShapes Go.WideShapes Go.ChangeAt Go.RowKit
set_option linter.unusedVariables false
set_option linter.unusedSimpArgs false
set_option maxRecDepth 100000
open Plain Sha Au Rp Rq
theorem length_at (w : World) (lo hi : Int) (g : Nat) (hg : w.heap.size = g) : Calls Try.prog 66 #[.int .i64 lo, .int .i64 hi] w (fun e w' => e = .returned (.func (.func 89) #[] #[.pointer (some ⟨g, 0, none⟩), .pointer (some ⟨g + 1, 0, none⟩)]) ∧ two w' g lo hi ∧ Below w.heap.size w w' ∧ w'.heap.size = g + 2) := by
  subst hg; exact length_any w lo hi
theorem from_at (w : World) (lo hi : Int) (g : Nat) (hg : w.heap.size = g) : Calls Try.prog 67 #[.int .i64 lo, .int .i64 hi] w (fun e w' => e = .returned (.func (.func 90) #[] #[.pointer (some ⟨g, 0, none⟩), .pointer (some ⟨g + 1, 0, none⟩)]) ∧ two w' g lo hi ∧ Below w.heap.size w w' ∧ w'.heap.size = g + 2) := by
  subst hg; exact from_any w lo hi
theorem build_asks (h : Nat) (W : World) : (Instr.build 77 #[(1, .agg (ak (cS h) .nilFunc .nilFunc .nilFunc .nilFunc .nilFunc .nilFunc .nilFunc).toArray), (2, .agg (ak (cS h) (cS (h + 2)) .nilFunc .nilFunc .nilFunc .nilFunc .nilFunc .nilFunc).toArray), (3, .agg (ak (cS h) (cS (h + 2)) (cS (h + 2)) .nilFunc .nilFunc .nilFunc .nilFunc .nilFunc).toArray), (4, .agg (ak (cS h) .nilFunc .nilFunc .nilFunc .nilFunc .nilFunc .nilFunc .nilFunc).toArray), (5, .agg (ak (cS (h + 10)) .nilFunc .nilFunc (cI (h + 12)) .nilFunc .nilFunc .nilFunc .nilFunc).toArray), (6, .agg (ak .nilFunc .nilFunc .nilFunc .nilFunc (cI (h + 4)) (cI (h + 8)) (cI (h + 8)) .nilFunc).toArray), (7, .agg (ak .nilFunc .nilFunc .nilFunc .nilFunc (cI (h + 4)) (cI (h + 8)) (cI (h + 8)) .nilFunc).toArray), (8, .agg (ak .nilFunc .nilFunc .nilFunc .nilFunc (cI (h + 6)) .nilFunc .nilFunc (.func (.func 68) #[] #[])).toArray), (9, .agg (ak .nilFunc .nilFunc .nilFunc (cI (h + 8)) (cI (h + 6)) .nilFunc .nilFunc .nilFunc).toArray), (10, .agg (ak .nilFunc .nilFunc .nilFunc (cI (h + 8)) .nilFunc .nilFunc .nilFunc .nilFunc).toArray)]).run Try.prog W = .ok (.agg (askC h).toArray) W :=
  run_build W 77 _ _ (by kernel_rfl)
theorem exec_asks {P : Program} {a : Act} {op : Oper} {x1 x2 x3 x4 x5 x6 x7 x8 x9 x10 : Operand} {h : Nat} {w : World} (hP : P = Try.prog) (ho : op.op = .build 77 #[(1, x1), (2, x2), (3, x3), (4, x4), (5, x5), (6, x6), (7, x7), (8, x8), (9, x9), (10, x10)]) (h1 : a.eval x1 = .agg (ak (cS h) .nilFunc .nilFunc .nilFunc .nilFunc .nilFunc .nilFunc .nilFunc).toArray) (h2 : a.eval x2 = .agg (ak (cS h) (cS (h + 2)) .nilFunc .nilFunc .nilFunc .nilFunc .nilFunc .nilFunc).toArray) (h3 : a.eval x3 = .agg (ak (cS h) (cS (h + 2)) (cS (h + 2)) .nilFunc .nilFunc .nilFunc .nilFunc .nilFunc).toArray) (h4 : a.eval x4 = .agg (ak (cS h) .nilFunc .nilFunc .nilFunc .nilFunc .nilFunc .nilFunc .nilFunc).toArray) (h5 : a.eval x5 = .agg (ak (cS (h + 10)) .nilFunc .nilFunc (cI (h + 12)) .nilFunc .nilFunc .nilFunc .nilFunc).toArray) (h6 : a.eval x6 = .agg (ak .nilFunc .nilFunc .nilFunc .nilFunc (cI (h + 4)) (cI (h + 8)) (cI (h + 8)) .nilFunc).toArray) (h7 : a.eval x7 = .agg (ak .nilFunc .nilFunc .nilFunc .nilFunc (cI (h + 4)) (cI (h + 8)) (cI (h + 8)) .nilFunc).toArray) (h8 : a.eval x8 = .agg (ak .nilFunc .nilFunc .nilFunc .nilFunc (cI (h + 6)) .nilFunc .nilFunc (.func (.func 68) #[] #[])).toArray) (h9 : a.eval x9 = .agg (ak .nilFunc .nilFunc .nilFunc (cI (h + 8)) (cI (h + 6)) .nilFunc .nilFunc .nilFunc).toArray) (h10 : a.eval x10 = .agg (ak .nilFunc .nilFunc .nilFunc (cI (h + 8)) .nilFunc .nilFunc .nilFunc .nilFunc).toArray) : (execOp a.eval op).run P w = .ok (.value (.agg (askC h).toArray)) w := by
  subst hP
  have hb := build_asks h w
  unfold execOp
  simp only [ho]
  simp only [List.map_toArray, List.map_cons, List.map_nil, h1, h2, h3, h4, h5, h6, h7, h8, h9, h10]
  simp [hb]
set_option maxHeartbeats 4000000 in
theorem asked_any (w : World) : Calls Try.prog 39 #[] w (fun e w' => e = .returned (.agg (askC (w.heap.size + 1)).toArray) ∧ AskAt w' (w.heap.size + 1) ∧ Below w.heap.size w w') := by
  obtain ⟨h, hh⟩ : ∃ h, w.heap.size = h := ⟨_, rfl⟩
  obtain ⟨W1, hW1⟩ : ∃ W, W = w.alloc (.cells zA 77) := ⟨_, rfl⟩
  have b1 := Lib.hid (show Below w.heap.size w W1 by rw [hW1]; exact below_one _ _)
  have V1 := Lib.hid (show VBox W1 h 88 (n8 ++ n8 ++ n8 ++ n8 ++ n8 ++ n8 ++ n8 ++ n8 ++ n8 ++ n8 ++ n8) by rw [hW1]; exact vbox_new _ _ _ _ _ hh rfl (by omega))
  have z1 := Lib.hid (show W1.heap.size = h + 1 by rw [hW1]; simp [hh])
  have HW1 := Lib.hid hW1
  have HH := Lib.hid hh
  clear hW1
  have zk := zAk
  have zs := zA_size
  have zn := zA_ne
  rw [hh]
  clear hh
  go_enter Try.func39, Try.ntmps39
  go_upto_region 1 with fail
  rw [← HW1.out, HH.out]
  clear zk zs zn
  go_wp2_with fail
  refine (length_at W1 1 24 (h + 1) z1.out).mono ?_
  rintro e w2 ⟨rfl, t1, b2, z2⟩
  have T1 := Lib.hid t1
  have B2 := Lib.hid b2
  have Z2 := Lib.hid z2
  clear t1 b2 z2
  go_wp2_with fail
  refine (length_at w2 0 64 (h + 1 + 2) Z2.out).mono ?_
  rintro e w3 ⟨rfl, t2, b3, z3⟩
  have T2 := Lib.hid t2
  have B3 := Lib.hid b3
  have Z3 := Lib.hid z3
  clear t2 b3 z3
  go_wp2_with fail
  refine (from_at w3 1 8 (h + 1 + 4) Z3.out).mono ?_
  rintro e w4 ⟨rfl, t3, b4, z4⟩
  have T3 := Lib.hid t3
  have B4 := Lib.hid b4
  have Z4 := Lib.hid z4
  clear t3 b4 z4
  go_wp2_with fail
  refine (from_at w4 0 8 (h + 1 + 6) Z4.out).mono ?_
  rintro e w5 ⟨rfl, t4, b5, z5⟩
  have T4 := Lib.hid t4
  have B5 := Lib.hid b5
  have Z5 := Lib.hid z5
  clear t4 b5 z5
  go_wp2_with fail
  refine (from_at w5 0 65536 (h + 1 + 8) Z5.out).mono ?_
  rintro e w6 ⟨rfl, t5, b6, z6⟩
  have T5 := Lib.hid t5
  have B6 := Lib.hid b6
  have Z6 := Lib.hid z6
  clear t5 b6 z6
  go_wp2_with fail
  refine (length_at w6 0 24 (h + 1 + 10) Z6.out).mono ?_
  rintro e w7 ⟨rfl, t6, b7, z7⟩
  have T6 := Lib.hid t6
  have B7 := Lib.hid b7
  have Z7 := Lib.hid z7
  clear t6 b7 z7
  go_wp2_with fail
  refine (from_at w7 1 16 (h + 1 + 12) Z7.out).mono ?_
  rintro e w8 ⟨rfl, t7, b8, z8⟩
  have T7 := Lib.hid t7
  have B8 := Lib.hid b8
  have Z8 := Lib.hid z8
  clear t7 b8 z8
  have V8 := Lib.hid (((((((V1.out.grow B2.out).grow B3.out).grow B4.out).grow B5.out).grow B6.out).grow B7.out).grow B8.out)
  have vth : w8.there h 0 (askC (h + 1)).toArray.size := by rw [List.size_toArray, askC_len]; exact V8.out.there
  go_wp2_with (first
      | (show wpList _ _ _ (⟨some 40, .build 77 #[(1, .tmp 12), (2, .tmp 15), (3, .tmp 19), (4, .tmp 21), (5, .tmp 24), (6, .tmp 28), (7, .tmp 32), (8, .tmp 34), (9, .tmp 37), (10, .tmp 39)], _, _, _, _⟩ :: _) _ _; refine wpList_exec (op := ⟨some 40, .build 77 #[(1, .tmp 12), (2, .tmp 15), (3, .tmp 19), (4, .tmp 21), (5, .tmp 24), (6, .tmp 28), (7, .tmp 32), (8, .tmp 34), (9, .tmp 37), (10, .tmp 39)], _, _, _, _⟩) rfl (.agg (askC (h + 1)).toArray) (by exact exec_asks rfl rfl rfl rfl rfl rfl rfl rfl rfl rfl rfl rfl) ?_)
      | (show wpList _ _ _ (⟨none, .store 77 (.tmp 0) (.tmp 40), _, _, _, _⟩ :: _) _ _; refine wpList_store_as (op := ⟨none, .store 77 (.tmp 0) (.tmp 40), _, _, _, _⟩) rfl 77 (.tmp 0) (.tmp 40) rfl h 0 (askC (h + 1)).toArray rfl rfl (vth) (a_sizeA _) (a_oneA _) ?_; intro w9 hw9))
  have B28 := Lib.hid (B2.out.trans ((B3.out.trans ((B4.out.trans ((B5.out.trans ((B6.out.trans ((B7.out.trans (B8.out.mono B7.out.size)).mono B6.out.size)).mono B5.out.size)).mono B4.out.size)).mono B3.out.size)).mono B2.out.size))
  have B9 := Lib.hid (show Below w.heap.size w w9 by rw [hw9.out]; exact below_setCells (by rw [HH.out]; exact Nat.le_refl _) _ _ _ (b1.out.trans (B28.out.mono b1.out.size)))
  have V9 := Lib.hid (V8.out.store (us := askC (h + 1)) rfl hw9)
  have s8 : ∀ g lo hi, two w8 (h + 1 + g) lo hi → two w9 (h + 1 + g) lo hi := fun g lo hi ht => by
    rw [hw9.out]
    exact ⟨(World.cell?_setCells_out h _ _ _ ⟨h + 1 + g, 0, none⟩ (fun hb _ => absurd hb (by show ¬ (h + 1 + g = h); omega))).trans ht.1, (World.cell?_setCells_out h _ _ _ ⟨h + 1 + g + 1, 0, none⟩ (fun hb _ => absurd hb (by show ¬ (h + 1 + g + 1 = h); omega))).trans ht.2⟩
  exact bodyPost_ret (v := .agg (askC (h + 1)).toArray) (results_mid (p := 0) (ty := 77) rfl _ _ h 0 (askC (h + 1)) _ rfl V9.out.range Try.underlying77 rfl (a_size _)) rfl ⟨rfl, ⟨s8 0 _ _ ((((((T1.out.grow B3.out).grow B4.out).grow B5.out).grow B6.out).grow B7.out).grow B8.out), s8 2 _ _ (((((T2.out.grow B4.out).grow B5.out).grow B6.out).grow B7.out).grow B8.out), s8 4 _ _ ((((T3.out.grow B5.out).grow B6.out).grow B7.out).grow B8.out), s8 6 _ _ (((T4.out.grow B6.out).grow B7.out).grow B8.out), s8 8 _ _ ((T5.out.grow B7.out).grow B8.out), s8 10 _ _ (T6.out.grow B8.out), s8 12 _ _ T7.out⟩, by rw [← HH.out]; exact B9.out⟩
end Go.Proofs.Ytcgclaailhhbpaa
