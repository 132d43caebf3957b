/- The statement FrameLimits: the walk. -/
import Derived.Test.YtcihbkdpkhhhcaaDoorFSeal
namespace Go.Proofs.YtcihbkdpkhhhcaaDoor
open Go.ChangeShapes Go.WideShapes Go.ChangeAt Go.RowKit
set_option linter.unusedVariables false
open Plain Sha
set_option maxHeartbeats 2000000 in
theorem frameLimits_walk (a0 : Int) (w0 : (Lit.int .i64 a0).wf = true) (w : World) (hF : LaidF w) (hK : LaidK w) :
    Calls Tryd.prog 6 #[.int .i64 a0] w fun e w' => e = .returned (.bool true) ∧ Below w.heap.size w w' := by
  obtain ⟨h0, h1⟩ := wf_i64 w0
  clear w0
  by_cases hneg : a0 < 65530
  · go_enter Tryd.func6, Tryd.ntmps6
    go_wp2
    go_ret
    exact ⟨rfl, Below.refl _ _⟩
  by_cases hbig : 65540 < a0
  · go_enter Tryd.func6, Tryd.ntmps6
    go_wp2
    go_ret
    exact ⟨rfl, Below.refl _ _⟩
  obtain ⟨k, rfl⟩ := Int.eq_ofNat_of_zero_le (show 0 ≤ a0 by omega)
  have hmk := make_u8 k (by omega)
  rw [madeCells_vals] at hmk
  generalize hRk : List.replicate k (0 : Int) = R at *
  have HRB : Hid (IsBytes R) := Lib.hid (by rw [← hRk]; exact rep_bytes _ _ (by omega) (by omega))
  have HRL : Hid (R.length = k) := Lib.hid (by rw [← hRk]; exact List.length_replicate ..)
  have q0 : Below w.heap.size w (w.alloc (.cells (vals R).toArray 5)) := (Below.refl _ _).alloc (Nat.le_refl _) _
  clear hRk
  by_cases hl : k ≤ 65536
  · have C1 := Lib.hid (fseal_any (w := w.alloc (.cells (vals R).toArray 5)) k (bs_new w R k HRL.out HRB.out 5 _ rfl) (by simp) hl (hF.below q0 hF.lt) (hK.below q0 hK.lt))
    have Q0 := Lib.hid q0
    have e1 : ¬ 65536 < (k : Int) := by omega
    have e2 : IntKind.i64.wrap ((k : Int) + 12) = (k : Int) + 12 := by rw [IntKind.wrap_i64]; omega
    clear q0 hl hF hK
    go_enter Tryd.func6, Tryd.ntmps6
    go_wp2_with fail
    refine C1.out.mono ?_
    rintro e w1 ⟨A', c', rfl, _, b1, _, _⟩
    have q1 := Lib.hid (Q0.out.trans (b1.mono Q0.out.size))
    clear b1
    go_wp2
    go_ret
    exact ⟨rfl, q1.out⟩
  · have C1 := Lib.hid (fseal_long (w := w.alloc (.cells (vals R).toArray 5)) (A := some ⟨w.heap.size, 0, none⟩) (n := k) k (by omega))
    have Q0 := Lib.hid q0
    have e1 : 65536 < (k : Int) := by omega
    clear q0 hl hF hK
    go_enter Tryd.func6, Tryd.ntmps6
    go_wp2_with fail
    refine C1.out.mono ?_
    rintro e w1 ⟨rfl, b1⟩
    have q1 := Lib.hid (Q0.out.trans (b1.mono Q0.out.size))
    clear b1
    go_wp2
    go_ret
    exact ⟨rfl, q1.out⟩
end Go.Proofs.YtcihbkdpkhhhcaaDoor
