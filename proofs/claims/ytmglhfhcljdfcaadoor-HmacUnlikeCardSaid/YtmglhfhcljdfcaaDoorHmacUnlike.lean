/- Unlike bytes, small keys, numbers have unlike tags: here of one byte each. -/
import Derived.Test.YtmglhfhcljdfcaaDoorHmacDerived
import Derived.Test.YtmglhfhcljdfcaaDoorHUnl
namespace Go.Proofs.YtmglhfhcljdfcaaDoor
open Go.ChangeShapes Go.WideShapes Go.ChangeAt Go.RowKit
set_option linter.unusedVariables false
open Plain Sha
def xS : ByteArray := { data := #[120] }
theorem strZ_x : strZ xS = [120] := by decide
theorem form_x (n : Int) (h0 : 0 ≤ n) (h1 : n ≤ 255) : formZ xS [n] = [120, 0] ++ putZ n 8 := by
  unfold formZ numsB numsB numB
  rw [strZ_x, show n % 18446744073709551616 = n by omega]
  simp
theorem eq_one (a b : Int) (ha : 0 ≤ a ∧ a ≤ 255) (hb : 0 ≤ b ∧ b ≤ 255) : eqB (hmacZ [107] [a]) (hmacZ [107] [b]) = (a == b) := by
  rw [Bool.eq_iff_iff, eqB, decide_eq_true_eq, beq_iff_eq]
  constructor
  · intro h
    have := unlike1 a.toNat b.toNat (by omega) (by omega) (by rwa [show ((a.toNat : Nat) : Int) = a by omega, show ((b.toNat : Nat) : Int) = b by omega])
    omega
  · intro h; rw [h]
theorem eq_two (a b : Int) (ha : 0 ≤ a ∧ a ≤ 255) (hb : 0 ≤ b ∧ b ≤ 255) : eqB (hmacZ [a] [107]) (hmacZ [b] [107]) = (a == b) := by
  rw [Bool.eq_iff_iff, eqB, decide_eq_true_eq, beq_iff_eq]
  constructor
  · intro h
    have := unlike2 a.toNat b.toNat (by omega) (by omega) (by rwa [show ((a.toNat : Nat) : Int) = a by omega, show ((b.toNat : Nat) : Int) = b by omega])
    omega
  · intro h; rw [h]
theorem eq_three (a b : Int) (ha : 0 ≤ a ∧ a ≤ 255) (hb : 0 ≤ b ∧ b ≤ 255) : eqB (deriveZ [107] xS [a]) (deriveZ [107] xS [b]) = (a == b) := by
  unfold deriveZ
  rw [Bool.eq_iff_iff, eqB, decide_eq_true_eq, beq_iff_eq, form_x a ha.1 ha.2, form_x b hb.1 hb.2]
  constructor
  · intro h
    have := unlike3 a.toNat b.toNat (by omega) (by omega) (by rwa [show ((a.toNat : Nat) : Int) = a by omega, show ((b.toNat : Nat) : Int) = b by omega])
    omega
  · intro h; rw [h]
theorem one_bytes (a : Int) (h : 0 ≤ a ∧ a ≤ 255) : IsBytes [a] := by
  intro j hj
  obtain rfl : j = 0 := by simpa using hj
  show 0 ≤ a ∧ a < 256
  omega
set_option maxRecDepth 100000 in
set_option maxHeartbeats 8000000 in
theorem hmacUnlike_in (a b n m : Int) (w : World) (ha : 0 ≤ a ∧ a ≤ 255) (hb : 0 ≤ b ∧ b ≤ 255) (hn : 0 ≤ n ∧ n ≤ 255) (hm : 0 ≤ m ∧ m ≤ 255) (ha0 : a ≠ 0) (hb0 : b ≠ 0) (hF : LaidF w) (hK : LaidK w) :
    Calls Tryd.prog 12 #[.int .u8 a, .int .u8 b, .int .i64 n, .int .i64 m] w fun e w' => e = .returned (.bool true) ∧ Below w.heap.size w w' := by
  obtain ⟨T1, hT1⟩ : ∃ T, hmacZ [107] [a] = T := ⟨_, rfl⟩
  obtain ⟨R1, hR1⟩ : ∃ T, hmacZ [107] [b] = T := ⟨_, rfl⟩
  obtain ⟨T2, hT2⟩ : ∃ T, hmacZ [a] [107] = T := ⟨_, rfl⟩
  obtain ⟨R2, hR2⟩ : ∃ T, hmacZ [b] [107] = T := ⟨_, rfl⟩
  obtain ⟨T3, hT3⟩ : ∃ T, deriveZ [107] xS [n] = T := ⟨_, rfl⟩
  obtain ⟨R3, hR3⟩ : ∃ T, deriveZ [107] xS [m] = T := ⟨_, rfl⟩
  have l1 : T1.length = 32 := by rw [← hT1]; exact hmacZ_len _ _
  have l1' : R1.length = 32 := by rw [← hR1]; exact hmacZ_len _ _
  have l2 : T2.length = 32 := by rw [← hT2]; exact hmacZ_len _ _
  have l2' : R2.length = 32 := by rw [← hR2]; exact hmacZ_len _ _
  have L3 : Hid (T3.length = 32) := Lib.hid (by rw [← hT3]; exact deriveZ_len _ _ _)
  have L3' : Hid (R3.length = 32) := Lib.hid (by rw [← hR3]; exact deriveZ_len _ _ _)
  have D3 : Hid (IsBytes T3) := Lib.hid (by rw [← hT3]; exact deriveZ_bytes _ _ _)
  have D3' : Hid (IsBytes R3) := Lib.hid (by rw [← hR3]; exact deriveZ_bytes _ _ _)
  obtain ⟨X, hX⟩ : ∃ X : Bool, (a == b) = X := ⟨_, rfl⟩
  obtain ⟨Y, hY⟩ : ∃ Y : Bool, (n == m) = Y := ⟨_, rfl⟩
  have e1 : eqB T1 R1 = X := by rw [← hT1, ← hR1, eq_one a b ha hb, hX]
  have e2 : eqB T2 R2 = X := by rw [← hT2, ← hR2, eq_two a b ha hb, hX]
  have E3 : Hid (eqB T3 R3 = Y) := Lib.hid (by rw [← hT3, ← hR3, eq_three n m hn hm, hY])
  have hE1 : ∀ w, (binOp .eql 25 (.agg (vals T1).toArray) (.agg (vals R1).toArray)).run Tryd.prog w = .ok (.bool X) w := fun w => by rw [run_tagEq T1 R1 l1 l1' w, e1]
  have hE2 : ∀ w, (binOp .eql 25 (.agg (vals T2).toArray) (.agg (vals R2).toArray)).run Tryd.prog w = .ok (.bool X) w := fun w => by rw [run_tagEq T2 R2 l2 l2' w, e2]
  have hI1 : ∀ w, (Op.equalIn 10000 25 (.agg (vals T1).toArray) (.agg (vals R1).toArray)).run Tryd.prog w = .ok X w := fun w => by rw [run_tagIn T1 R1 l1 l1' w, e1]
  have hI2 : ∀ w, (Op.equalIn 10000 25 (.agg (vals T2).toArray) (.agg (vals R2).toArray)).run Tryd.prog w = .ok X w := fun w => by rw [run_tagIn T2 R2 l2 l2' w, e2]
  have hcv := fun (w : World) (C : Array Value) (n c : Nat) => Go.Lib.run_convert_bytes_const (P := Tryd.prog) w 22 5 C n c Tryd.underlying22 Tryd.underlying5
  have g1 : ¬ n < 0 := by omega
  have g2 : ¬ 255 < n := by omega
  have g3 : ¬ m < 0 := by omega
  have g4 : ¬ 255 < m := by omega
  have g5 : (a == 0) = false := by simpa using ha0
  have g6 : (b == 0) = false := by simpa using hb0
  have HT1 := Lib.hid hT1
  have HR1 := Lib.hid hR1
  have HT2 := Lib.hid hT2
  have HR2 := Lib.hid hR2
  have HT3 := Lib.hid hT3
  have HR3 := Lib.hid hR3
  have BA := Lib.hid (one_bytes a ha)
  have BB := Lib.hid (one_bytes b hb)
  have BK := Lib.hid (one_bytes 107 (by omega))
  have HF := Lib.hid hF
  have HK := Lib.hid hK
  have HFl := Lib.hid hF.lt
  have HKl := Lib.hid hK.lt
  clear hT1 hR1 hT2 hR2 hT3 hR3 e1 e2 l1 l1' l2 l2' hF hK ha0 hb0
  go_enter Tryd.func12, Tryd.ntmps12
  go_wp2_with fail
  refine (hmacAwake_any w HF.out HK.out).mono ?_
  rintro e w1 ⟨rfl, b1⟩
  have q1 := Lib.hid b1
  have s1 := b1.size
  have k1 := Lib.hid (bs_newF w1 [107] 1 rfl BK.out 5 (1, 1 + 1) w1.heap.size rfl)
  clear b1
  have q1' : Hid (Below w.heap.size w (w1.alloc (.cells (vals [107]).toArray 5 (1, 1 + 1)))) := Lib.hid (q1.out.alloc s1 _)
  go_wp2_with fail
  obtain ⟨W1, hW1⟩ : ∃ W1, w1.alloc (.cells (vals [107]).toArray 5 (1, 1 + 1)) = W1 := ⟨_, rfl⟩
  have hs1 : W1.heap.size = w1.heap.size + 1 := by rw [← hW1]; simp
  rw [hW1] at k1 q1'
  refine (show Calls Tryd.prog 23 #[.slice (some ⟨w1.heap.size, 0, none⟩) 1 1, .slice (some ⟨w1.heap.size + 1, 0, none⟩) 1 1] ((w1.alloc (.cells (vals [107]).toArray 5 (1, 1 + 1))).alloc (.cells (vals [a]).toArray 5)) _ from ?_)
  rw [hW1, ← hs1]
  obtain ⟨kb, hkb⟩ : ∃ g, w1.heap.size = g := ⟨_, rfl⟩
  rw [hkb] at k1 hs1
  simp only [hkb]
  have hk1 : kb + 1 ≤ W1.heap.size := by omega
  clear hW1 hkb hs1 q1 s1
  have s1 := q1'.out.size
  refine (hsum_any 1 1 (k1.out.alloc hk1 _) (bs_new W1 [a] 1 rfl BA.out 5 W1.heap.size rfl) (by simp; omega) (by simp) (by omega) (by omega) (HF.out.below (q1'.out.alloc s1 _) HFl.out) (HK.out.below (q1'.out.alloc s1 _) HKl.out)).mono ?_
  rw [HT1.out]
  rintro e w2 ⟨rfl, b2⟩
  have q2 := Lib.hid ((q1'.out.alloc s1 _).trans (b2.mono (by simp; omega)))
  have k2 := Lib.hid ((k1.out.alloc hk1 _).belowM b2 (by simp; omega))
  have hk2 : kb + 1 ≤ w2.heap.size := Nat.le_trans (by simp; omega) b2.size
  clear b2 k1 q1'
  have s2 := q2.out.size
  go_wp2_with fail
  refine (hsum_any 1 1 (k2.out.alloc hk2 _) (bs_new w2 [b] 1 rfl BB.out 5 w2.heap.size rfl) (by simp; omega) (by simp) (by omega) (by omega) (HF.out.below (q2.out.alloc s2 _) HFl.out) (HK.out.below (q2.out.alloc s2 _) HKl.out)).mono ?_
  rw [HR1.out]
  rintro e w3 ⟨rfl, b3⟩
  have q3 := Lib.hid ((q2.out.alloc s2 _).trans (b3.mono (by simp; omega)))
  have k3 := Lib.hid ((k2.out.alloc hk2 _).belowM b3 (by simp; omega))
  have hk3 : kb + 1 ≤ w3.heap.size := Nat.le_trans (by simp; omega) b3.size
  clear b3 k2 q2
  have s3 := q3.out.size
  go_wp2_with fail
  refine (hsum_any 1 1 (bs_new w3 [a] 1 rfl BA.out 5 w3.heap.size rfl) (k3.out.alloc hk3 _) (by simp) (by simp; omega) (by omega) (by omega) (HF.out.below (q3.out.alloc s3 _) HFl.out) (HK.out.below (q3.out.alloc s3 _) HKl.out)).mono ?_
  rw [HT2.out]
  rintro e w4 ⟨rfl, b4⟩
  have q4 := Lib.hid ((q3.out.alloc s3 _).trans (b4.mono (by simp; omega)))
  have k4 := Lib.hid ((k3.out.alloc hk3 _).belowM b4 (by simp; omega))
  have hk4 : kb + 1 ≤ w4.heap.size := Nat.le_trans (by simp; omega) b4.size
  clear b4 k3 q3
  have s4 := q4.out.size
  go_wp2_with fail
  refine (hsum_any 1 1 (bs_new w4 [b] 1 rfl BB.out 5 w4.heap.size rfl) (k4.out.alloc hk4 _) (by simp) (by simp; omega) (by omega) (by omega) (HF.out.below (q4.out.alloc s4 _) HFl.out) (HK.out.below (q4.out.alloc s4 _) HKl.out)).mono ?_
  rw [HR2.out]
  rintro e w5 ⟨rfl, b5⟩
  have q5 := Lib.hid ((q4.out.alloc s4 _).trans (b5.mono (by simp; omega)))
  have k5 := Lib.hid ((k4.out.alloc hk4 _).belowM b5 (by simp; omega))
  have hk5 : kb + 1 ≤ w5.heap.size := Nat.le_trans (by simp; omega) b5.size
  clear b5 k4 q4
  have s5 := q5.out.size
  go_wp2_with fail
  refine (hderive_any 1 1 xS (k5.out.alloc hk5 _) (ns_new w5 [n] 1 rfl (fun x hx => by rw [List.mem_singleton] at hx; subst hx; omega) 3 w5.heap.size rfl) (by simp; omega) (by simp) (by omega) (by decide) (by omega) (HF.out.below (q5.out.alloc s5 _) HFl.out) (HK.out.below (q5.out.alloc s5 _) HKl.out)).mono ?_
  rw [HT3.out]
  rintro e w6 ⟨x, rfl, x6, hx1, hx2, b6⟩
  have q6 := Lib.hid ((q5.out.alloc s5 _).trans (b6.mono (by simp; omega)))
  have k6 := Lib.hid ((k5.out.alloc hk5 _).belowM b6 (by simp; omega))
  have hk6 : kb + 1 ≤ w6.heap.size := Nat.le_trans (by simp; omega) b6.size
  have X6 := Lib.hid x6
  have s6 := q6.out.size
  clear b6 x6 k5 q5
  go_wp2_with fail
  refine (hderive_any 1 1 xS (k6.out.alloc hk6 _) (ns_new w6 [m] 1 rfl (fun x hx => by rw [List.mem_singleton] at hx; subst hx; omega) 3 w6.heap.size rfl) (by simp; omega) (by simp) (by omega) (by decide) (by omega) (HF.out.below (q6.out.alloc s6 _) HFl.out) (HK.out.below (q6.out.alloc s6 _) HKl.out)).mono ?_
  rw [HR3.out]
  rintro e w7 ⟨y, rfl, y7, hy1, hy2, b7⟩
  have q7 := Lib.hid ((q6.out.alloc s6 _).trans (b7.mono (by simp; omega)))
  have z7 : w6.heap.size ≤ w7.heap.size := Nat.le_trans (by simp) b7.size
  have VX := Lib.hid ((X6.out.same ((b7.block x (by simp; omega)).trans (Below.heap_alloc _ _ _ hx2))).bs D3.out (show x < w7.heap.size by omega) (n := 32) L3.out.symm)
  have VY := Lib.hid (y7.bs D3'.out hy2 (n := 32) L3'.out.symm)
  have CS := Lib.hid (same_any 32 32 VX.out VY.out (by unfold maxLen; omega) (by unfold maxLen; omega))
  clear b7 y7 X6 q6 k6
  go_wp2_with fail
  refine CS.out.mono ?_
  rw [E3.out]
  rintro e w8 ⟨rfl, hq⟩
  have q8 : Hid (Below w.heap.size w w8) := Lib.hid (by obtain ⟨m', rfl⟩ := hq; exact below_drewN q7.out m')
  clear hq
  go_wp2
  go_ret
  exact ⟨rfl, q8.out⟩
set_option maxRecDepth 100000 in
set_option maxHeartbeats 2000000 in
theorem hmacUnlike_out (a b n m : Int) (w : World) (hF : LaidF w) (hK : LaidK w) (h : n < 0 ∨ (¬ n < 0 ∧ 255 < n) ∨ (¬ n < 0 ∧ ¬ 255 < n ∧ m < 0) ∨ (¬ n < 0 ∧ ¬ 255 < n ∧ ¬ m < 0 ∧ 255 < m) ∨ (¬ n < 0 ∧ ¬ 255 < n ∧ ¬ m < 0 ∧ ¬ 255 < m ∧ (a == 0) = true) ∨ (¬ n < 0 ∧ ¬ 255 < n ∧ ¬ m < 0 ∧ ¬ 255 < m ∧ (a == 0) = false ∧ (b == 0) = true)) :
    Calls Tryd.prog 12 #[.int .u8 a, .int .u8 b, .int .i64 n, .int .i64 m] w fun e w' => e = .returned (.bool true) ∧ Below w.heap.size w w' := by
  rcases h with h | ⟨h1, h2⟩ | ⟨h1, h2, h3⟩ | ⟨h1, h2, h3, h4⟩ | ⟨h1, h2, h3, h4, h5⟩ | ⟨h1, h2, h3, h4, h5, h6⟩
  all_goals
    go_enter Tryd.func12, Tryd.ntmps12
    go_wp2_with fail
    refine (hmacAwake_any w hF hK).mono ?_
    rintro e w1 ⟨rfl, b1⟩
    go_wp2
    go_ret
    exact ⟨rfl, b1⟩
theorem hmacUnlike_any (a b n m : Int) (wa : (Lit.int .u8 a).wf = true) (wb : (Lit.int .u8 b).wf = true) (wn : (Lit.int .i64 n).wf = true) (wm : (Lit.int .i64 m).wf = true) (w : World) (hF : LaidF w) (hK : LaidK w) :
    Calls Tryd.prog 12 #[.int .u8 a, .int .u8 b, .int .i64 n, .int .i64 m] w fun e w' => e = .returned (.bool true) ∧ Below w.heap.size w w' := by
  by_cases h : n < 0 ∨ (¬ n < 0 ∧ 255 < n) ∨ (¬ n < 0 ∧ ¬ 255 < n ∧ m < 0) ∨ (¬ n < 0 ∧ ¬ 255 < n ∧ ¬ m < 0 ∧ 255 < m) ∨ (¬ n < 0 ∧ ¬ 255 < n ∧ ¬ m < 0 ∧ ¬ 255 < m ∧ (a == 0) = true) ∨ (¬ n < 0 ∧ ¬ 255 < n ∧ ¬ m < 0 ∧ ¬ 255 < m ∧ (a == 0) = false ∧ (b == 0) = true)
  · exact hmacUnlike_out a b n m w hF hK h
  · have := wf_u8 wa
    have := wf_u8 wb
    have e1 : ((a == 0) = true) = (a = 0) := by simp
    have e2 : ((a == 0) = false) = (¬ a = 0) := by simp
    have e3 : ((b == 0) = true) = (b = 0) := by simp
    rw [e1, e2, e3] at h
    exact hmacUnlike_in a b n m w (by omega) (by omega) (by omega) (by omega) (by omega) (by omega) hF hK
end Go.Proofs.YtmglhfhcljdfcaaDoor
