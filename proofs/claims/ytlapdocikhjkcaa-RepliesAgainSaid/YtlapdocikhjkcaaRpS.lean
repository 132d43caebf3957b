/- The chapter's examples. -/
import Derived.Test.YtlapdocikhjkcaaRpO
import Derived.Test.YtlapdocikhjkcaaRpNa
import Derived.Test.YtlapdocikhjkcaaRpQ
import Derived.Test.YtlapdocikhjkcaaRpX
namespace Go.Proofs.Ytlapdocikhjkcaa
open Go.ChangeShapes Go.WideShapes Go.ChangeAt Go.RowKit
set_option linter.unusedVariables false
set_option linter.unusedSimpArgs false
open Plain Sha Au Rp
theorem fz_some {l : List LX} {L : List LastZ} {t : Int} {u : LastZ} (hz : l.map LX.z = L) (h : findG LastZ.c L t = some u) : ∃ x, findG LX.c l t = some x ∧ x ∈ l ∧ x.z = u ∧ lastX l t = x := by
  rw [← hz, find_z] at h
  cases hx : findG LX.c l t with
  | none => rw [hx] at h; cases h
  | some x =>
    rw [hx] at h
    injection h with h
    exact ⟨x, rfl, (find_c hx).2, h, by unfold lastX; rw [hx]; rfl⟩
theorem fz_none {l : List LX} {L : List LastZ} {t : Int} (hz : l.map LX.z = L) (h : findG LastZ.c L t = none) : findG LX.c l t = none ∧ lastX l t = x0 := by
  rw [← hz, find_z] at h
  cases hx : findG LX.c l t with
  | none => exact ⟨rfl, by unfold lastX; rw [hx]; rfl⟩
  | some x => rw [hx] at h; cases h
def r7 : RX := ⟨0, ByteArray.empty, none, 0, 0, [], 7, l0⟩
theorem r7_ok (w : World) (B : Nat) : ROk w B r7 := ⟨by unfold InA r7; dsimp only; omega, by unfold InA r7; dsimp only; omega, l0_ok, Nat.le_refl _, by simp [r7, maxLen], Sr.nil⟩
set_option maxRecDepth 100000 in
set_option maxHeartbeats 8000000 in
theorem awake_any (w : World) : Calls Try.prog 19 #[] w (fun e w' => e = .returned (.bool true) ∧ Below w.heap.size w w') := by
  have NM := Lib.hid (note_ok (w := w) (B := 0) (n := 0) (A := none) (l := []) (r := r7) 0 1 5 x0 Las.nil (Nat.zero_le _) (r7_ok _ _) (by omega) (by omega) (by simp [maxLen]) rfl (by decide) rfl (by unfold x0; dsimp only; omega) (fun y hy => by simp at hy) (by simp [r7]))
  have G0 := NM
  go_enter Try.func19, Try.ntmps19
  go_upto_region 2 with (first
      | (have g := G0; clear g; refine wpList_exec (op := ⟨some 22, .build 33 #[(3, .const (.int .i64 7))], _, _, _, _⟩) rfl (.agg (rc r7).toArray) (by kernel_rfl) ?_; clear G0)
      | (go_at_call 20; refine NM.out.mono ?_; rintro e1 w1 ⟨g, m, d, l', rfl, hz, o1, hx1, _, b1⟩; have O1 := Lib.hid o1; have HX1 := Lib.hid hx1; have C1 := Lib.hid b1; clear o1 hx1 b1))
  have HZ := Lib.hid (show l'.map LX.z = [(⟨1, 5, r7.z⟩ : LastZ)] from hz)
  clear hz
  have HM : Hid (mayG LX.c LX.id l' = true) := Lib.hid (by rw [← may_z, HZ.out]; decide)
  obtain ⟨y, _, hyl, hyz, hy1⟩ := fz_some (t := 1) (u := (⟨1, 5, r7.z⟩ : LastZ)) HZ.out rfl
  have hx2 := (fz_none (t := 2) HZ.out rfl).2
  have hid : y.id = 5 := congrArg LastZ.id hyz
  have hyn : y.r.n = 7 := congrArg (fun z => z.r.n) hyz
  have hyk : y.r.ks = [] := congrArg (fun z => z.r.ks) hyz
  have hkn : y.r.kn = 0 := by rw [← (HX1.out y hyl).r.ks.len, hyk]; rfl
  have HT := Lib.hid (fun (V : World) (hV : Below w1.heap.size w1 V) => (las_of_own O1.out HX1.out).below hV (Nat.le_refl _))
  have hm1 : m ≤ 1000 := by have := O1.out.1; rw [xvs_len] at this; have h2 := congrArg List.length HZ.out; simp at h2; omega
  have HMN := Lib.hid (show m ≤ 9223372036854775807 by omega)
  have A1 := Lib.hid (ask_again (w := w1) d 1 5 y (HT.out w1 (Below.refl _ _)) (Nat.le_refl _) HMN.out HM.out (by decide) hy1 hid (HX1.out y hyl).r (by omega))
  have A2 := Lib.hid (fun (V : World) (hV : Below w1.heap.size w1 V) => ask_stale (w := V) d 1 4 y (HT.out V hV) hV.size HMN.out HM.out (by decide) hy1 (by omega))
  have A3 := Lib.hid (fun (V : World) (hV : Below w1.heap.size w1 V) => ask_next (w := V) d 1 6 y (HT.out V hV) hV.size HMN.out HM.out (by decide) hy1 (by omega))
  have A4 := Lib.hid (fun (V : World) (hV : Below w1.heap.size w1 V) => ask_next (w := V) d 2 1 x0 (HT.out V hV) hV.size HMN.out HM.out (by decide) hx2 (by unfold x0; dsimp only; omega))
  have N2 := Lib.hid (fun (V : World) (hV : Below w1.heap.size w1 V) => note_stale (w := V) (r := r0) d 1 5 y (HT.out V hV) hV.size (r0_ok _ _) HMN.out HM.out (by decide) hy1 (by omega))
  have N3 := Lib.hid (fun (V : World) (hV : Below w1.heap.size w1 V) => note_bad2 (w := V) (r := r0) d 5 1 (HT.out V hV) hV.size (r0_ok _ _) HMN.out HM.out (by decide))
  have N4 := Lib.hid (fun (V : World) (hV : Below w1.heap.size w1 V) => note_bad2 (w := V) (r := r0) d 1 0 (HT.out V hV) hV.size (r0_ok _ _) HMN.out HM.out (by decide))
  have HYN := Lib.hid hyn
  clear hyl hyz hy1 hx2 hid hyn hyk hkn hm1 O1 HX1 HZ HM HT
  have zk := zRk
  have zs := zR_size
  have zn := zR_ne
  have G1 := A1
  have G2 := A1
  go_upto_region 3 with (first
      | (have g0 := G1; clear g0; go_at_call 10; refine A1.out.mono ?_; rintro e2 w2 ⟨D2, d2, rfl, o2, b2⟩; have B2 := Lib.hid b2; have T2 := Lib.hid (rthere_new w2 (CopyX y.r D2 d2) 33 _ rfl); clear o2 b2 G1)
      | (have g := G2; clear g; refine wpList_store_as (op := ⟨none, .store 33 (.tmp 3) (.tmp 29), _, _, _, _⟩) rfl 33 (.tmp 3) (.tmp 29) rfl (w2.heap.size) 0 (rc (CopyX y.r D2 d2)).toArray rfl rfl (T2.out) (r_sizeA (CopyX y.r D2 d2)) (r_oneA (CopyX y.r D2 d2)) ?_; intro w3 hw3; clear G2))
  obtain ⟨V3, b3⟩ := rbox_stored rfl hw3
  have C3 := Lib.hid (B2.out.trans (b3.mono B2.out.size))
  have VN : Hid (∀ W, Below w3.heap.size w3 W → W.cell? ⟨w2.heap.size, 3, none⟩ = some (.int .i64 7)) := Lib.hid (fun W hW => by
    have t : W.cell? ⟨w2.heap.size, 0 + 3, none⟩ = some (.int .i64 y.r.n) := (rng_r (V3.grow hW).range).2.2.2.1
    rw [HYN.out] at t
    simpa using t)
  clear V3 b3 hw3
  have G1 := A1
  have G2 := A1
  go_upto_region 4 with (first
      | (have g0 := G1; clear g0; go_at_call 10; refine (A2.out _ C3.out).mono ?_; rintro ew4 w4 ⟨rfl, bx⟩; have D4 := Lib.hid (C3.out.trans (bx.mono C3.out.size)); have F4 := Lib.hid bx; have TT := Lib.hid (rthere_new w4 r0 33 _ rfl); clear bx G1)
      | (have g := G2; clear g; refine wpList_store_as (op := ⟨none, .store 33 (.tmp 6) (.tmp 35), _, _, _, _⟩) rfl 33 (.tmp 6) (.tmp 35) rfl (w4.heap.size) 0 (rc r0).toArray rfl rfl (TT.out) (r_sizeA r0) (r_oneA r0) ?_; intro w5 hw5; clear G2))
  obtain ⟨_, b5⟩ := rbox_stored rfl hw5
  have C5 := Lib.hid (D4.out.trans (b5.mono D4.out.size))
  have E5 := Lib.hid (F4.out.trans (b5.mono F4.out.size))
  clear b5 hw5
  have G1 := A1
  have G2 := A1
  go_upto_region 5 with (first
      | (have g0 := G1; clear g0; go_at_call 10; refine (A3.out _ C5.out).mono ?_; rintro ew6 w6 ⟨rfl, bx⟩; have D6 := Lib.hid (C5.out.trans (bx.mono C5.out.size)); have F6 := Lib.hid (E5.out.trans (bx.mono E5.out.size)); have TT := Lib.hid (rthere_new w6 r0 33 _ rfl); clear bx G1)
      | (have g := G2; clear g; refine wpList_store_as (op := ⟨none, .store 33 (.tmp 9) (.tmp 41), _, _, _, _⟩) rfl 33 (.tmp 9) (.tmp 41) rfl (w6.heap.size) 0 (rc r0).toArray rfl rfl (TT.out) (r_sizeA r0) (r_oneA r0) ?_; intro w7 hw7; clear G2))
  obtain ⟨_, b7⟩ := rbox_stored rfl hw7
  have C7 := Lib.hid (D6.out.trans (b7.mono D6.out.size))
  have E7 := Lib.hid (F6.out.trans (b7.mono F6.out.size))
  clear b7 hw7
  have G1 := A1
  have G2 := A1
  go_upto_region 6 with (first
      | (have g0 := G1; clear g0; go_at_call 10; refine (A4.out _ C7.out).mono ?_; rintro ew8 w8 ⟨rfl, bx⟩; have D8 := Lib.hid (C7.out.trans (bx.mono C7.out.size)); have F8 := Lib.hid (E7.out.trans (bx.mono E7.out.size)); have TT := Lib.hid (rthere_new w8 r0 33 _ rfl); clear bx G1)
      | (have g := G2; clear g; refine wpList_store_as (op := ⟨none, .store 33 (.tmp 12) (.tmp 47), _, _, _, _⟩) rfl 33 (.tmp 12) (.tmp 47) rfl (w8.heap.size) 0 (rc r0).toArray rfl rfl (TT.out) (r_sizeA r0) (r_oneA r0) ?_; intro w9 hw9; clear G2))
  obtain ⟨_, b9⟩ := rbox_stored rfl hw9
  have C9 := Lib.hid (D8.out.trans (b9.mono D8.out.size))
  have E9 := Lib.hid (F8.out.trans (b9.mono F8.out.size))
  clear b9 hw9 zk zs zn
  have G1 := A1
  have G2 := A1
  go_upto_region 7 with (first
      | (have g := G1; clear g; refine wpList_exec (op := ⟨some 52, .build 33 #[], _, _, _, _⟩) rfl (.agg (rc r0).toArray) (by kernel_rfl) ?_; clear G1)
      | (have g0 := G2; clear g0; go_at_call 20; refine (N2.out _ C9.out).mono ?_; rintro ew10 w10 ⟨rfl, bx⟩; have C10 := Lib.hid (C9.out.trans (bx.mono C9.out.size)); have E10 := Lib.hid (E9.out.trans (bx.mono E9.out.size)); clear bx G2))
  have G1 := A1
  have G2 := A1
  go_upto_region 8 with (first
      | (have g := G1; clear g; refine wpList_exec (op := ⟨some 58, .build 33 #[], _, _, _, _⟩) rfl (.agg (rc r0).toArray) (by kernel_rfl) ?_; clear G1)
      | (have g0 := G2; clear g0; go_at_call 20; refine (N3.out _ C10.out).mono ?_; rintro ew11 w11 ⟨rfl, bx⟩; have C11 := Lib.hid (C10.out.trans (bx.mono C10.out.size)); have E11 := Lib.hid (E10.out.trans (bx.mono E10.out.size)); clear bx G2))
  have G1 := A1
  have G2 := A1
  go_upto_region 9 with (first
      | (have g := G1; clear g; refine wpList_exec (op := ⟨some 64, .build 33 #[], _, _, _, _⟩) rfl (.agg (rc r0).toArray) (by kernel_rfl) ?_; clear G1)
      | (have g0 := G2; clear g0; go_at_call 20; refine (N4.out _ C11.out).mono ?_; rintro ew12 w12 ⟨rfl, bx⟩; have C12 := Lib.hid (C11.out.trans (bx.mono C11.out.size)); have E12 := Lib.hid (E11.out.trans (bx.mono E11.out.size)); clear bx G2))
  have vn := VN.out w12 E12.out
  go_wp2
  go_ret
  exact ⟨rfl, C1.out.trans (C12.out.mono C1.out.size)⟩
end Go.Proofs.Ytlapdocikhjkcaa
