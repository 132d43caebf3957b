/- The statement RequestReply: the walk. -/
import Derived.Test.YtcgclaailhhbpaaRsD
namespace Go.Proofs.Ytcgclaailhhbpaa
open Go.ChangeShapes Go.WideShapes Go.ChangeAt Go.RowKit
set_option linter.unusedVariables false
set_option maxRecDepth 100000
set_option linter.unusedSimpArgs false
open Plain Sha Au Rp Rq
theorem keysF_bytes : ∀ (l : List ByteArray), IsBytes (keysF l)
  | [] => IsBytes.nil
  | k :: r => (bytesF_bytes (strZ_bytes k)).app (keysF_bytes r)
theorem repF_bytes {w : World} {B : Nat} {x : RX} (h : ROk w B x) : IsBytes (repF x.z) := by
  unfold repF repF3 repF2 repF1
  have hi := fun n => n64_bytes' n
  exact ((((((((((((((hi _).app (bytesF_bytes (strZ_bytes _))).app (hi _)).app (keysF_bytes _)).app (hi _)).app (hi _)).app (hi _)).app (one_byte _ h.g.op.1 h.g.op.2)).app (hi _)).app (hi _)).app (hi _)).app (hi _)).app h.g.H).app h.g.S)
theorem printr_yes {w : World} {B : Nat} {x : RX} (h : ROk w B x) (hB : B ≤ w.heap.size) (hm : mayR x.z = true) {F : List Int} {L : Nat} (hF : repF x.z = F) (hL : F.length = L) : Calls Try.prog 22 #[.agg (rc x).toArray] w (fun e w' => ∃ D d, e = .returned (.tuple #[.slice D L d, .int .i64 0]) ∧ w'.ownsRow w.heap.size 5 1 (.slice D L d) L (vals F) ∧ L ≤ d ∧ d ≤ maxLen ∧ Below w.heap.size w w') := by
  subst hF hL
  refine (printr_any h hB).mono ?_
  rw [hm]
  rintro e w' ⟨u, rfl, ⟨D, d, rfl, ho, h1, h2⟩, hb⟩
  exact ⟨D, d, rfl, ho, h1, h2, hb⟩
theorem printr_no {w : World} {B : Nat} {x : RX} (h : ROk w B x) (hB : B ≤ w.heap.size) (hm : mayR x.z = false) : Calls Try.prog 22 #[.agg (rc x).toArray] w (fun e w' => ∃ D d, e = .returned (.tuple #[.slice D 0 d, .int .i64 2]) ∧ Below w.heap.size w w') := by
  refine (printr_any h hB).mono ?_
  rw [hm]
  rintro e w' ⟨u, rfl, ⟨D, d, rfl, ho, h1, h2⟩, hb⟩
  exact ⟨D, d, rfl, hb⟩
set_option maxHeartbeats 8000000 in
theorem rqreply_in (x : RX) (w : World) (h : ROk w w.heap.size x) (hM : x.kn ≤ 140737488355328) :
    Calls Try.prog 5 #[.agg (rc x).toArray] w (fun e w' => e = .returned (.bool true) ∧ Below w.heap.size w w') := by
  obtain ⟨W1, hW1⟩ : ∃ W, W = w.alloc (.cells (rc x).toArray 46) := ⟨_, rfl⟩
  have b1 := Lib.hid (show Below w.heap.size w W1 by rw [hW1]; exact below_one _ _)
  obtain ⟨g, hg⟩ : ∃ g, w.heap.size = g := ⟨_, rfl⟩
  have HG := Lib.hid hg
  have V1 := Lib.hid (show VBox W1 g 75 (rc x) by rw [hW1]; exact vbox_new _ _ _ _ _ hg (rc_len x) (by omega))
  have HW1 := Lib.hid hW1
  have HH := Lib.hid (h.grow b1.out (Nat.le_refl _))
  have GM := Lib.hid (greatr_any HH.out (Nat.le_refl _))
  obtain ⟨q2, hq2⟩ : ∃ q, mayR x.z = q := ⟨_, rfl⟩
  have HQ := Lib.hid hq2
  clear hW1 hg h hM hq2
  go_enter Try.func5, Try.ntmps5
  go_upto_region 1 with fail
  rw [← HW1.out, HG.out]
  go_upto_region 3 with (first
        | (show wpList _ _ _ (⟨some 5, .load 46 (.tmp 1), _, _, _, _⟩ :: _) _ _; refine wpList_load_mid (op := ⟨some 5, .load 46 (.tmp 1), _, _, _, _⟩) rfl 46 (.tmp 1) rfl (g) 0 rfl (rc x) _ (V1.out.range) Try.underlying46 rfl (r_size x) ?_)
        | (go_at_call 21; refine GM.out.mono ?_; rintro e w2 ⟨q, rfl, hb⟩; have B2 := Lib.hid hb; have BA := Lib.hid (b1.out.trans (hb.mono b1.out.size)); clear hb; cases q))
  rotate_left
  · go_wp2
    go_ret
    exact ⟨rfl, BA.out⟩
  have V2 := Lib.hid (V1.out.grow B2.out)
  have H2 := Lib.hid (HH.out.grow B2.out (Nat.le_refl _))
  cases q2 with
  | false =>
    have PM := Lib.hid (printr_no H2.out (Nat.le_refl _) HQ.out)
    go_upto_region 5 with (first
          | (show wpList _ _ _ (⟨some 8, .load 46 (.tmp 1), _, _, _, _⟩ :: _) _ _; refine wpList_load_mid (op := ⟨some 8, .load 46 (.tmp 1), _, _, _, _⟩) rfl 46 (.tmp 1) rfl (g) 0 rfl (rc x) _ (V2.out.range) Try.underlying46 rfl (r_size x) ?_)
          | (go_at_call 22; refine PM.out.mono ?_; rintro e w3 ⟨D3, d3, rfl, hb⟩; have B3 := Lib.hid hb; have BA3 := Lib.hid (BA.out.trans (hb.mono BA.out.size)); have V3 := Lib.hid (V2.out.grow hb); have H3 := Lib.hid (H2.out.grow hb (Nat.le_refl _)); clear hb)
          | (show wpList _ _ _ (⟨some 12, .load 46 (.tmp 1), _, _, _, _⟩ :: _) _ _; refine wpList_load_mid (op := ⟨some 12, .load 46 (.tmp 1), _, _, _, _⟩) rfl 46 (.tmp 1) rfl (g) 0 rfl (rc x) _ (V3.out.range) Try.underlying46 rfl (r_size x) ?_)
          | (go_at_call 23; refine (rmayreply_any false H3.out (Nat.le_refl _) HQ.out).mono ?_; rintro e w4 ⟨rfl, hb⟩; have B4 := Lib.hid hb; have BA4 := Lib.hid (BA3.out.trans (hb.mono BA3.out.size)); have V4 := Lib.hid (V3.out.grow hb); have H4 := Lib.hid (H3.out.grow hb (Nat.le_refl _)); clear hb))
    go_wp2
    go_ret
    exact ⟨rfl, BA4.out⟩
  | true =>
    obtain ⟨F, hF⟩ : ∃ F, repF x.z = F := ⟨_, rfl⟩
    obtain ⟨L, hL⟩ : ∃ L, F.length = L := ⟨_, rfl⟩
    have HFB : Hid (IsBytes F) := Lib.hid (by rw [← hF]; exact repF_bytes HH.out)
    have HL := Lib.hid hL
    have HF := Lib.hid hF
    have hLs : L ≤ 8909 := by rw [← hL, ← hF]; exact repF_short HQ.out
    have PM := Lib.hid (printr_yes H2.out (Nat.le_refl _) HQ.out HF.out HL.out)
    clear hF hL
    go_upto_region 6 with (first
          | (show wpList _ _ _ (⟨some 8, .load 46 (.tmp 1), _, _, _, _⟩ :: _) _ _; refine wpList_load_mid (op := ⟨some 8, .load 46 (.tmp 1), _, _, _, _⟩) rfl 46 (.tmp 1) rfl (g) 0 rfl (rc x) _ (V2.out.range) Try.underlying46 rfl (r_size x) ?_)
          | (go_at_call 22; refine PM.out.mono ?_; rintro e w3 ⟨D3, d3, rfl, ho, hd1, hd2, hb⟩; have O3 := Lib.hid ho; have B3 := Lib.hid hb; have BA3 := Lib.hid (BA.out.trans (hb.mono BA.out.size)); have V3 := Lib.hid (V2.out.grow hb); have H3 := Lib.hid (H2.out.grow hb (Nat.le_refl _)); clear hb; clear ho)
          | (show wpList _ _ _ (⟨some 12, .load 46 (.tmp 1), _, _, _, _⟩ :: _) _ _; refine wpList_load_mid (op := ⟨some 12, .load 46 (.tmp 1), _, _, _, _⟩) rfl 46 (.tmp 1) rfl (g) 0 rfl (rc x) _ (V3.out.range) Try.underlying46 rfl (r_size x) ?_)
          | (go_at_call 23; refine (rmayreply_any true H3.out (Nat.le_refl _) HQ.out).mono ?_; rintro e w4 ⟨rfl, hb⟩; have B4 := Lib.hid hb; have BA4 := Lib.hid (BA3.out.trans (hb.mono BA3.out.size)); have V4 := Lib.hid (V3.out.grow hb); have H4 := Lib.hid (H3.out.grow hb (Nat.le_refl _)); clear hb))
    have FM := Lib.hid (replyform_any H4.out (Nat.le_refl _) HQ.out)
    have EF : eqB F F = true := eqB_self _
    go_wp2_with (first
          | (show wpList _ _ _ (⟨some 26, .load 46 (.tmp 1), _, _, _, some (2, true)⟩ :: _) _ _; refine wpList_load_guard (op := ⟨some 26, .load 46 (.tmp 1), _, _, _, some (2, true)⟩) (by rfl) 46 (.tmp 1) rfl (g) 0 rfl (rc x) _ (V4.out.range) Try.underlying46 rfl (r_size x) ?_)
          | (go_at_call 24; refine FM.out.mono ?_; rw [HF.out]; intro e w6 hm; obtain ⟨D6, d6, rfl, o6, b6, _, _⟩ := hm.n HL.out; have B6 := Lib.hid b6; have H6 := Lib.hid (Made.bs o6 HFB.out); have H5 := Lib.hid (bs_of_own (own_below O3.out (B4.out.trans (b6.mono B4.out.size)) (Nat.le_refl _)) HFB.out); clear hm o6 b6)
          | (go_at_call 16; refine (refsame_any d3 d6 H5.out H6.out (by unfold maxLen; omega) (by unfold maxLen; omega)).mono ?_; rintro e w7 ⟨rfl, m7, rfl⟩))
    go_ret
    exact ⟨rfl, below_drewN (BA4.out.trans (B6.out.mono BA4.out.size)) _⟩
end Go.Proofs.Ytcgclaailhhbpaa
