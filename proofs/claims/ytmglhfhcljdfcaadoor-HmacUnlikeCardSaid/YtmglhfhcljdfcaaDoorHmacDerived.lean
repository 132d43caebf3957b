/- A derived key is the HMAC of its label and its numbers. -/
import Derived.Test.YtmglhfhcljdfcaaDoorHAwake
import Derived.Test.YtmglhfhcljdfcaaDoorHDer
import Derived.Test.YtmglhfhcljdfcaaDoorApp
namespace Go.Proofs.YtmglhfhcljdfcaaDoor
open Go.ChangeShapes Go.WideShapes Go.ChangeAt Go.RowKit
set_option linter.unusedVariables false
open Plain Sha
theorem cat4_any {B1 B2 B3 B4 : Nat} {A1 A2 A3 A4 : Option Addr} {n1 n2 n3 n4 : Nat} (c1 c2 c3 c4 : Nat) {zs1 zs2 zs3 zs4 : List Int} {w : World} (t : TypeId) (h1 : Bs w B1 A1 n1 zs1) (h2 : Bs w B2 A2 n2 zs2) (h3 : Bs w B3 A3 n3 zs3) (h4 : Bs w B4 A4 n4 zs4) (hB1 : B1 ≤ w.heap.size) (hB2 : B2 ≤ w.heap.size) (hB3 : B3 ≤ w.heap.size) (hB4 : B4 ≤ w.heap.size) (hn : n1 + n2 + n3 + n4 ≤ 140737488355328) (c g : Nat) (hg : w.heap.size = g) :
    Calls Tryd.prog 28 #[.slice (some ⟨g, 0, none⟩) 4 c] (w.alloc (.cells #[.slice A1 n1 c1, .slice A2 n2 c2, .slice A3 n3 c3, .slice A4 n4 c4] t)) (Made (w.alloc (.cells #[.slice A1 n1 c1, .slice A2 n2 c2, .slice A3 n3 c3, .slice A4 n4 c4] t)) (zs1 ++ zs2 ++ zs3 ++ zs4)) := by
  subst hg
  have := cat_any (B := w.heap.size + 1) (A := some ⟨w.heap.size, 0, none⟩) (m := 4) c (As := fun j => if j = 0 then A1 else if j = 1 then A2 else if j = 2 then A3 else A4) (Ns := fun j => if j = 0 then n1 else if j = 1 then n2 else if j = 2 then n3 else n4) (Cs := fun j => if j = 0 then c1 else if j = 1 then c2 else if j = 2 then c3 else c4) (Zs := fun j => if j = 0 then zs1 else if j = 1 then zs2 else if j = 2 then zs3 else zs4)
    (w := w.alloc (.cells #[.slice A1 n1 c1, .slice A2 n2 c2, .slice A3 n3 c3, .slice A4 n4 c4] t))
    ⟨fun _ => ⟨w.heap.size, 0, rfl, by omega, fun j hj => by
      have hh : (w.alloc (.cells #[.slice A1 n1 c1, .slice A2 n2 c2, .slice A3 n3 c3, .slice A4 n4 c4] t)).cell? ⟨w.heap.size, 0 + j, none⟩ = (#[Value.slice A1 n1 c1, .slice A2 n2 c2, .slice A3 n3 c3, .slice A4 n4 c4])[0 + j]? := cell_of_row _ _ _ _ _ _ (heap_alloc_new w _)
      rw [hh]
      match j, hj with
      | 0, _ => rfl
      | 1, _ => rfl
      | 2, _ => rfl
      | 3, _ => rfl⟩,
     fun j hj => by
      match j, hj with
      | 0, _ => exact ((h1.more hB1).alloc (Nat.le_refl _) _).more (by omega)
      | 1, _ => exact ((h2.more hB2).alloc (Nat.le_refl _) _).more (by omega)
      | 2, _ => exact ((h3.more hB3).alloc (Nat.le_refl _) _).more (by omega)
      | 3, _ => exact ((h4.more hB4).alloc (Nat.le_refl _) _).more (by omega)⟩
    (by simp) (by simp [maxLen]) (by show 0 + n1 + n2 + n3 + n4 ≤ _; omega)
  exact this
def i64s (xs : List Int) : List Value := xs.map (Value.int .i64)
theorem ns_new (w : World) (xs : List Int) (n : Nat) (hn : xs.length = n) (h : ∀ x, x ∈ xs → -9223372036854775808 ≤ x ∧ x ≤ 9223372036854775807) (t : TypeId) (g : Nat) (hg : w.heap.size = g) : Ns (w.alloc (.cells (i64s xs).toArray t)) (g + 1) (some ⟨g, 0, none⟩) n xs := by
  subst hg hn
  refine ⟨rfl, fun j hj => ?_, fun _ => ⟨w.heap.size, 0, rfl, by omega, fun j hj => ?_⟩⟩
  · have := h xs[j] (List.getElem_mem ..)
    simpa [List.getD_eq_getElem?_getD, List.getElem?_eq_getElem hj] using this
  · have hh : (w.alloc (.cells (i64s xs).toArray t)).cell? ⟨w.heap.size, 0 + j, none⟩ = (i64s xs).toArray[0 + j]? := cell_of_row _ _ _ _ _ _ (heap_alloc_new w _)
    rw [hh, Nat.zero_add]
    simp [i64s, List.getElem?_map, List.getD_eq_getElem?_getD, List.getElem?_eq_getElem hj]
theorem form_two (s : ByteArray) (n m : Int) : strZ s ++ [0] ++ numB n ++ numB m = formZ s [n, m] := by
  unfold formZ numsB numsB numsB
  simp only [List.append_assoc, List.append_nil]
set_option maxRecDepth 100000 in
set_option maxHeartbeats 4000000 in
theorem hmacDerived_in {na : Nat} {A0 : Option Addr} (c0 : Nat) {xs : List Int} (a b : ByteArray) (n m : Int) (w : World) (zA : Bs w w.heap.size A0 na xs)
    (ha : na ≤ 200) (hsa : a.size ≤ 50) (hsb : b.size ≤ 50) (hn : -9223372036854775808 ≤ n ∧ n ≤ 9223372036854775807) (hm : -9223372036854775808 ≤ m ∧ m ≤ 9223372036854775807) (hF : LaidF w) (hK : LaidK w) :
    Calls Tryd.prog 11 #[.slice A0 na c0, .string a, .string b, .int .i64 n, .int .i64 m] w fun e w' => e = .returned (.bool true) ∧ Below w.heap.size w w' := by
  obtain ⟨T, hT⟩ : ∃ T, hmacZ xs (formZ a [n, m]) = T := ⟨_, rfl⟩
  have lT : Hid (T.length = 32) := Lib.hid (by rw [← hT]; exact hmacZ_len _ _)
  have bT : Hid (IsBytes T) := Lib.hid (by rw [← hT]; exact hmacZ_bytes _ _)
  have hD : Hid (deriveZ xs a [n, m] = T) := Lib.hid hT
  have g1 : ¬ 200 < (na : Int) := by omega
  have g2 : ¬ 50 < (a.size : Int) := by omega
  have g3 : ¬ 50 < (b.size : Int) := by omega
  have hcv : ∀ W : World, (convert 9 22 (.string a)).run Tryd.prog W = .ok (.slice (some ⟨W.heap.size, 0, none⟩) a.size (grownCap W a.size 0 5)) (Go.Lib.bytesWorld W 5 a) := fun W =>
    Go.Lib.run_convert_string_bytes W 9 22 5 a Tryd.underlying9 Tryd.underlying22 Tryd.underlying5
  have R2 : Hid (∀ x, x ∈ [n, m] → -9223372036854775808 ≤ x ∧ x ≤ 9223372036854775807) := Lib.hid (fun x hx => by
    simp only [List.mem_cons, List.not_mem_nil, or_false] at hx
    rcases hx with rfl | rfl <;> assumption)
  have R1 : Hid (∀ x, x ∈ [m] → -9223372036854775808 ≤ x ∧ x ≤ 9223372036854775807) := Lib.hid (fun x hx => by
    simp only [List.mem_cons, List.not_mem_nil, or_false] at hx
    rcases hx with rfl; assumption)
  have ZA := Lib.hid zA
  have HT := Lib.hid hT
  have HF := Lib.hid hF
  have HK := Lib.hid hK
  have HFl := Lib.hid hF.lt
  have HKl := Lib.hid hK.lt
  have HCV := Lib.hid hcv
  clear hT zA hF hK hcv
  go_enter Tryd.func11, Tryd.ntmps11
  go_wp2_with fail
  refine (hmacAwake_any w HF.out HK.out).mono ?_
  rintro e w1 ⟨rfl, b1⟩
  have q1 := Lib.hid b1
  have s1 := b1.size
  clear b1
  go_wp2_with fail
  refine (hderive_any c0 2 a ((ZA.out.belowM q1.out (Nat.le_refl _)).alloc s1 _) (ns_new w1 [n, m] 2 rfl R2.out 3 w1.heap.size rfl) (by simp; omega) (by simp) (by omega) (by omega) (by omega) (HF.out.below (q1.out.alloc s1 _) HFl.out) (HK.out.below (q1.out.alloc s1 _) HKl.out)).mono ?_
  rw [hD.out]
  rintro e w2 ⟨x, rfl, x2, hx1, hx2, b2⟩
  have q2 := Lib.hid ((q1.out.alloc s1 _).trans (b2.mono (by simp; omega)))
  have X2 := Lib.hid x2
  have s2 := q2.out.size
  clear b2 x2 q1
  go_wp2_with fail
  refine (hderive_any c0 1 b ((ZA.out.belowM q2.out (Nat.le_refl _)).alloc s2 _) (ns_new w2 [m] 1 rfl R1.out 3 w2.heap.size rfl) (by simp; omega) (by simp) (by omega) (by omega) (by omega) (HF.out.below (q2.out.alloc s2 _) HFl.out) (HK.out.below (q2.out.alloc s2 _) HKl.out)).mono ?_
  rintro e w3 ⟨y, rfl, _, _, _, b3⟩
  have q3 := Lib.hid ((q2.out.alloc s2 _).trans (b3.mono (by simp; omega)))
  have X3 := Lib.hid (X2.out.same ((b3.block x (by simp; omega)).trans (Below.heap_alloc _ _ _ hx2)))
  have s3 := q3.out.size
  have s23 : w2.heap.size + 1 ≤ w3.heap.size := Nat.le_trans (by simp) b3.size
  clear b3 X2 q2
  go_wp2_with fail
  refine (hderive_any c0 2 a ((ZA.out.belowM q3.out (Nat.le_refl _)).alloc s3 _) (ns_new w3 [n, m] 2 rfl R2.out 3 w3.heap.size rfl) (by simp; omega) (by simp) (by omega) (by omega) (by omega) (HF.out.below (q3.out.alloc s3 _) HFl.out) (HK.out.below (q3.out.alloc s3 _) HKl.out)).mono ?_
  rw [hD.out]
  rintro e w4 ⟨z, rfl, z4, hz1, hz2, b4⟩
  have q4 := Lib.hid ((q3.out.alloc s3 _).trans (b4.mono (by simp; omega)))
  have X4 := Lib.hid (X3.out.same ((b4.block x (by simp; omega)).trans (Below.heap_alloc _ _ _ (by omega))))
  have Z4 := Lib.hid z4
  have s4 := q4.out.size
  have s34 : w3.heap.size + 1 ≤ w4.heap.size := Nat.le_trans (by simp) b4.size
  clear b4 z4 X3 q3
  have hcv4 := HCV.out w4
  go_wp2_with fail
  clear hcv4
  have B5 := Lib.hid (bytesW_below w4 a)
  have Z5 := Lib.hid (bytesW_bs w4 a)
  have S5 := Lib.hid (Go.Lib.bytesWorld_size w4 5 a)
  obtain ⟨W5, hW5⟩ : ∃ W5, Go.Lib.bytesWorld w4 5 a = W5 := ⟨_, rfl⟩
  rw [hW5] at B5 Z5 S5
  rw [hW5]
  clear hW5
  have s5 : w4.heap.size + 1 ≤ W5.heap.size := by rw [S5.out]; omega
  have B5' : Hid (Below w4.heap.size w4 (W5.alloc (.cells (vals [0]).toArray 5))) := Lib.hid (B5.out.alloc (by omega) _)
  have N5 := Lib.hid (bs_new W5 [0] 1 rfl zero_bytes 5 W5.heap.size rfl)
  have Z5' := Lib.hid (Z5.out.alloc s5 (.cells (vals [0]).toArray 5))
  refine (put64_any (n % 18446744073709551616) (by omega) (by omega) _).mono ?_
  intro e w6 hm6
  obtain ⟨D6, c6, rfl, ho6, b6, _, _⟩ := hm6.n (n := 8) (putZ_len ..)
  have Z6 := Lib.hid (Made.bs ho6 (putZ_bytes _ _))
  have Q6 := Lib.hid (B5'.out.trans (b6.mono (by simp; omega)))
  have E6 := Lib.hid (Z5'.out.belowM b6 (by simp; omega))
  have N6 := Lib.hid (N5.out.belowM b6 (by simp))
  have s6 : W5.heap.size + 1 ≤ w6.heap.size := Nat.le_trans (by simp) b6.size
  clear hm6 ho6 b6 Z5 Z5' N5 B5 B5' S5
  go_wp2_with fail
  refine (put64_any (m % 18446744073709551616) (by omega) (by omega) _).mono ?_
  intro e w7 hm7
  obtain ⟨D7, c7, rfl, ho7, b7, _, _⟩ := hm7.n (n := 8) (putZ_len ..)
  have Z7 := Lib.hid (Made.bs ho7 (putZ_bytes _ _))
  have Q7 := Lib.hid (Q6.out.trans (b7.mono (by omega)))
  have E7 := Lib.hid (E6.out.belowM b7 (by omega))
  have N7 := Lib.hid (N6.out.belowM b7 (by omega))
  have Y7 := Lib.hid (Z6.out.belowM b7 (Nat.le_refl _))
  have s7 := b7.size
  clear hm7 ho7 b7 Z6 E6 N6 Q6
  go_wp2_with fail
  refine (cat4_any (w := w7) _ 1 c6 c7 22 E7.out N7.out Y7.out Z7.out (by omega) (by omega) (by omega) (Nat.le_refl _) (by omega) 4 w7.heap.size rfl).mono ?_
  intro e w8 hm8
  obtain ⟨D8, c8, rfl, ho8, b8, _, _⟩ := hm8.n (n := a.size + 1 + 8 * 2) (by rw [show strZ a ++ [0] ++ putZ (n % 18446744073709551616) 8 ++ putZ (m % 18446744073709551616) 8 = formZ a [n, m] from form_two a n m, formZ_len]; rfl)
  rw [show strZ a ++ [0] ++ putZ (n % 18446744073709551616) 8 ++ putZ (m % 18446744073709551616) 8 = formZ a [n, m] from form_two a n m] at ho8
  have Z8 := Lib.hid (Made.bs ho8 (formZ_bytes _ _))
  have Q8 := Lib.hid ((Q7.out.alloc (by omega) _).trans (b8.mono (by simp; omega)))
  have s8 := Q8.out.size
  clear hm8 ho8 b8 Z7 E7 N7 Y7 Q7
  go_wp2_with fail
  have q8 := Lib.hid (q4.out.trans (Q8.out.mono s4))
  refine (hsum_any c0 c8 (ZA.out.belowM q8.out (Nat.le_refl _)) Z8.out q8.out.size (Nat.le_refl _) (by omega) (by omega) (HF.out.below q8.out HFl.out) (HK.out.below q8.out HKl.out)).mono ?_
  rw [HT.out]
  rintro e w9 ⟨rfl, b9⟩
  have Q9 := Lib.hid (Q8.out.trans (b9.mono s8))
  clear b9 Z8 Q8
  have G := lT
  go_upto_region 9 with (have g := G; clear g; refine wpList_store_as (op := ⟨none, .store 25 (.tmp 13) (.tmp 58), _, _, _, _⟩) rfl 25 (.tmp 13) (.tmp 58) rfl w9.heap.size 0 (vals T).toArray rfl rfl (tag_there w9 T lT.out) (tag_size T lT.out) (all_oneCell_toArray (vals_one T)) ?_; intro w10 hw10; clear G)
  obtain ⟨r10, b10, s10⟩ := stored_tag lT.out hw10
  have Q10 := Lib.hid (Q9.out.trans (b10.mono Q9.out.size))
  have q10 := Lib.hid (q4.out.trans (Q10.out.mono s4))
  have VX := Lib.hid ((X4.out.same (Q10.out.block x (by omega))).bs bT.out (show x < w10.heap.size by have := Q10.out.size; omega) (n := 32) lT.out.symm)
  have VZ := Lib.hid ((Z4.out.same (Q10.out.block z hz2)).bs bT.out (show z < w10.heap.size by have := Q10.out.size; omega) (n := 32) lT.out.symm)
  have VT := Lib.hid (bs_range r10 lT.out bT.out)
  have CS := Lib.hid (same_any 32 32 VX.out VZ.out (by unfold maxLen; omega) (by unfold maxLen; omega))
  have hET : Hid (eqB T T = true) := Lib.hid (by simp [eqB])
  clear hw10 r10 b10 X4 Z4
  go_wp2_with fail
  refine CS.out.mono ?_
  rw [hET.out]
  rintro e w11 ⟨rfl, hq⟩
  have q11 : Hid (Below w.heap.size w w11) := Lib.hid (by obtain ⟨m', rfl⟩ := hq; exact below_drewN q10.out m')
  have VX1 := Lib.hid (show Bs w11 w10.heap.size (some ⟨x, 0, none⟩) 32 T by obtain ⟨m', rfl⟩ := hq; exact VX.out.drewN m')
  have VT1 := Lib.hid (show Bs w11 (w9.heap.size + 1) (some ⟨w9.heap.size, 0, none⟩) 32 T by obtain ⟨m', rfl⟩ := hq; exact VT.out.drewN m')
  have CS2 := Lib.hid (same_any 32 32 VX1.out VT1.out (by unfold maxLen; omega) (by unfold maxLen; omega))
  clear hq VX VZ VT
  go_wp2_with fail
  refine CS2.out.mono ?_
  rw [hET.out]
  rintro e w12 ⟨rfl, hq⟩
  have q12 : Hid (Below w.heap.size w w12) := Lib.hid (by obtain ⟨m', rfl⟩ := hq; exact below_drewN q11.out m')
  clear hq
  go_wp2
  go_ret
  exact ⟨rfl, q12.out⟩
set_option maxRecDepth 100000 in
set_option maxHeartbeats 2000000 in
theorem hmacDerived_out (A0 : Option Addr) (na c0 : Nat) (a b : ByteArray) (n m : Int) (w : World) (hF : LaidF w) (hK : LaidK w) (h : 200 < (na : Int) ∨ (¬ 200 < (na : Int) ∧ 50 < (a.size : Int)) ∨ (¬ 200 < (na : Int) ∧ ¬ 50 < (a.size : Int) ∧ 50 < (b.size : Int))) :
    Calls Tryd.prog 11 #[.slice A0 na c0, .string a, .string b, .int .i64 n, .int .i64 m] w fun e w' => e = .returned (.bool true) ∧ Below w.heap.size w w' := by
  rcases h with h | ⟨h1, h2⟩ | ⟨h1, h2, h3⟩
  all_goals
    go_enter Tryd.func11, Tryd.ntmps11
    go_wp2_with fail
    refine (hmacAwake_any w hF hK).mono ?_
    rintro e w1 ⟨rfl, b1⟩
    go_wp2
    go_ret
    exact ⟨rfl, b1⟩
theorem hmacDerived_any (a0 : Option Addr) (len0 cap0 : Nat) (z0 : List Int) (a b : ByteArray) (n m : Int) (w : World)
    (w0 : IsRow .u8 w a0 len0 cap0 z0) (wa : a.size ≤ maxLen) (wb : b.size ≤ maxLen) (wn : (Lit.int .i64 n).wf = true) (wm : (Lit.int .i64 m).wf = true) (hF : LaidF w) (hK : LaidK w) :
    Calls Tryd.prog 11 #[.slice a0 len0 cap0, .string a, .string b, .int .i64 n, .int .i64 m] w fun e w' => e = .returned (.bool true) ∧ Below w.heap.size w w' := by
  by_cases h : 200 < (len0 : Int) ∨ (¬ 200 < (len0 : Int) ∧ 50 < (a.size : Int)) ∨ (¬ 200 < (len0 : Int) ∧ ¬ 50 < (a.size : Int) ∧ 50 < (b.size : Int))
  · exact hmacDerived_out a0 len0 cap0 a b n m w hF hK h
  · exact hmacDerived_in cap0 a b n m w w0.bs.1 (by omega) (by omega) (by omega) (wf_i64 wn) (wf_i64 wm) hF hK
end Go.Proofs.YtmglhfhcljdfcaaDoor
