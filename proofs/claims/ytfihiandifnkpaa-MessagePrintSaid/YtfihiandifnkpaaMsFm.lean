/- Forms of messages: the document's. Printed by gen_msfm.py. -/
import Derived.Test.YtfihiandifnkpaaMsRm
namespace Go.Proofs.Ytfihiandifnkpaa
open Go.ChangeShapes Go.WideShapes Go.ChangeAt Go.RowKit
set_option linter.unusedVariables false
set_option maxRecDepth 100000
set_option linter.unusedSimpArgs false
open Plain Sha Ms
set_option maxHeartbeats 8000000 in
theorem rform1_any {w : World} {B : Nat} {x : MX} (h : MXOk w B x) (hB : B ≤ w.heap.size) (hk : x.kind = 1 ∨ x.kind = 6) (hs : x.n ≤ 20000) : Calls Try.prog 15 #[.agg (mc x).toArray] w (Made w (formM x.z)) := by
  obtain ⟨W1, hW1⟩ : ∃ W, W = w.alloc (.cells (mc x).toArray 28) := ⟨_, rfl⟩
  have b1 := Lib.hid (show Below w.heap.size w W1 by rw [hW1]; exact below_one _ _)
  obtain ⟨g, hg⟩ : ∃ g, w.heap.size = g := ⟨_, rfl⟩
  have Hg := Lib.hid hg
  have V1 := Lib.hid (show VBox W1 g 12 (mc x) by rw [hW1]; exact vbox_new _ _ _ _ _ hg rfl (by omega))
  have z1 := Lib.hid (show W1.heap.size = g + 1 by rw [hW1]; simp [hg])
  have HW1 := Lib.hid hW1
  clear hW1 hg
  obtain ⟨W2, hW2⟩ : ∃ W, W = W1.alloc (.cells #[.int .u8 x.kind] 5) := ⟨_, rfl⟩
  have B2 := Lib.hid (show Below W1.heap.size W1 W2 by rw [hW2]; exact below_one _ _)
  have O2 := Lib.hid (show W2.ownsRow W1.heap.size 5 1 (.slice (some ⟨g + 1, 0, none⟩) 1 1) 1 (vals [x.kind]) by rw [hW2, ← z1.out]; exact World.ownsRow_lit W1 #[.int .u8 x.kind] 1 (Nat.le_refl _) (by unfold maxLen; omega) rfl)
  have z2 := Lib.hid (show W2.heap.size = g + 1 + 1 by rw [hW2]; simp [z1.out])
  have HW2 := Lib.hid hW2
  have HXO := Lib.hid (fun (W : World) (hW : Below W1.heap.size W1 W) => (⟨(h.below b1.out hB).below hW (Nat.le_trans hB b1.out.size), Nat.le_trans hB (Nat.le_trans b1.out.size hW.size)⟩ : MXOk W B x ∧ B ≤ W.heap.size))
  have HX := Lib.hid h
  have HF : Hid (formM x.z = ([x.kind] ++ (n64 x.client ++ n64 x.id)) ++ bytesF x.body) := Lib.hid (by unfold formM ownF; simp [MX.z, hk])
  have HK := Lib.hid hk
  clear hW2 h hk
  go_enter Try.func15, Try.ntmps15
  go_upto_region 1 with fail
  rw [← HW1.out, Hg.out]
  obtain ⟨q0, q1, q2, q3, q4, q5, q6, q7, q8, q9, q10, q11⟩ := V1.out.m
  go_upto_region 2 with fail
  rw [← HW2.out, z1.out]
  clear q0 q1 q2 q3 q4 q5 q6 q7 q8 q9 q10 q11
  obtain ⟨q0, q1, q2, q3, q4, q5, q6, q7, q8, q9, q10, q11⟩ := (V1.out.grow B2.out).m
  obtain ⟨kd, hkd⟩ : ∃ k, x.kind = k := ⟨_, rfl⟩
  have hk := HK.out
  rw [hkd] at q0 hk
  have hn := hs
  have h0 := HX.out.client
  have h1 := HX.out.id
  have HL : Hid ((bytesF x.body).length = 4 + x.n) := Lib.hid (by rw [bytesF_lenM, HX.out.body.len])
  have HBB : Hid (IsBytes (bytesF x.body)) := Lib.hid (by unfold bytesF; exact (putZ_bytes _ _).app HX.out.body.isBytes)
  have NM := Lib.hid (rnumbers2 W2 (g + 1 + 1) 2 z2.out (x.client) (x.id) h0 h1)
  have bb := Lib.hid (below_one W2 (.cells #[.int .i64 x.client, .int .i64 x.id] 3))
  have B3 := Lib.hid (B2.out.trans (bb.out.mono B2.out.size))
  have O3 := Lib.hid (show (W2.alloc (.cells #[.int .i64 x.client, .int .i64 x.id] 3)).ownsRow W1.heap.size 5 1 (.slice (some ⟨g + 1, 0, none⟩) 1 1) 1 (vals [x.kind]) from own_below O2.out bb.out (Nat.le_refl _))
  clear bb
  have zz := z2.out
  rcases hk with rfl | rfl
  · go_upto_region 6 with (first
          | (go_at_call 44; refine (NM.out).mono ?_; intro e w4 hm; obtain ⟨D4, d4, rfl, hoo, hbb, _, _⟩ := hm.n (show (n64 x.client ++ n64 x.id).length = 16 by simp only [List.length_append, n64_len']); have H4 := Lib.hid (Made.bs hoo ((n64_isB _).app (n64_isB _))); have O4 := Lib.hid (own_below O3.out hbb (Nat.le_refl _)); have B4 := Lib.hid (B3.out.trans (hbb.mono B3.out.size)); clear hm hoo hbb)
          | (at_builtin; refine wpList_app _ rfl (.tmp 13) (.tmp 19) 22 rfl W1.heap.size 5 1 1 Try.underlying22 u8_info (by omega) (.slice (some ⟨g + 1, 0, none⟩) (1) 1) (1) (vals ([x.kind])) rfl O4.out D4 (16) d4 (vals (n64 x.client ++ n64 x.id)) rfl H4.out.lies.1 H4.out.lies.2 (vals_one _) (by unfold maxLen; omega) (by omega) B4.out.size ?_; intro v1 w5 ho1 hg1; rw [← vals_app] at ho1; have B5 := Lib.hid (B4.out.grown hg1 B4.out.size (fun j hj => (O4.out.lt j hj).1)); obtain ⟨A5, c5, rfl, _, _⟩ := own_shape ho1; have O5 := Lib.hid ho1; clear ho1 hg1))
    obtain ⟨s0, s1, s2, s3, _⟩ := (V1.out.grow B5.out).m
    have BY := Lib.hid (refbytesW_any x.c (HXO.out _ B5.out).1.body (HXO.out _ B5.out).2 (show x.n ≤ 65536 by omega))
    clear q0 q1 q2 q3 q4 q5 q6 q7 q8 q9 q10 q11
    go_upto_region 19 with (first
          | (go_at_call 45; refine (BY.out).mono ?_; intro e w6 hm; obtain ⟨D6, d6, rfl, hoo, hbb, _, _⟩ := hm.n (HL.out); have H6 := Lib.hid (Made.bs hoo (HBB.out)); have O6 := Lib.hid (own_below O5.out hbb (Nat.le_refl _)); have B6 := Lib.hid (B5.out.trans (hbb.mono B5.out.size)); clear hm hoo hbb)
          | (at_builtin; refine wpList_app _ rfl (.tmp 21) (.tmp 24) 22 rfl W1.heap.size 5 1 1 Try.underlying22 u8_info (by omega) (.slice A5 (1 + 16) c5) (1 + 16) (vals ([x.kind] ++ (n64 x.client ++ n64 x.id))) rfl O6.out D6 (4 + x.n) d6 (vals (bytesF x.body)) rfl H6.out.lies.1 H6.out.lies.2 (vals_one _) (by unfold maxLen; omega) (by omega) B6.out.size ?_; intro v1 w7 ho1 hg1; rw [← vals_app] at ho1; have B7 := Lib.hid (B6.out.grown hg1 B6.out.size (fun j hj => (O6.out.lt j hj).1)); obtain ⟨A7, c7, rfl, _, _⟩ := own_shape ho1; have O7 := Lib.hid ho1; clear ho1 hg1))
    go_wp2
    go_ret
    exact made_of (n := 1 + 16 + (4 + x.n)) (by rw [HF.out]; simp only [List.length_append, List.length_singleton, n64_len', HL.out]) (by rw [HF.out]; exact own_base O7.out b1.out.size) (b1.out.trans (B7.out.mono b1.out.size))
  · go_upto_region 6 with (first
          | (go_at_call 44; refine (NM.out).mono ?_; intro e w4 hm; obtain ⟨D4, d4, rfl, hoo, hbb, _, _⟩ := hm.n (show (n64 x.client ++ n64 x.id).length = 16 by simp only [List.length_append, n64_len']); have H4 := Lib.hid (Made.bs hoo ((n64_isB _).app (n64_isB _))); have O4 := Lib.hid (own_below O3.out hbb (Nat.le_refl _)); have B4 := Lib.hid (B3.out.trans (hbb.mono B3.out.size)); clear hm hoo hbb)
          | (at_builtin; refine wpList_app _ rfl (.tmp 13) (.tmp 19) 22 rfl W1.heap.size 5 1 1 Try.underlying22 u8_info (by omega) (.slice (some ⟨g + 1, 0, none⟩) (1) 1) (1) (vals ([x.kind])) rfl O4.out D4 (16) d4 (vals (n64 x.client ++ n64 x.id)) rfl H4.out.lies.1 H4.out.lies.2 (vals_one _) (by unfold maxLen; omega) (by omega) B4.out.size ?_; intro v1 w5 ho1 hg1; rw [← vals_app] at ho1; have B5 := Lib.hid (B4.out.grown hg1 B4.out.size (fun j hj => (O4.out.lt j hj).1)); obtain ⟨A5, c5, rfl, _, _⟩ := own_shape ho1; have O5 := Lib.hid ho1; clear ho1 hg1))
    obtain ⟨s0, s1, s2, s3, _⟩ := (V1.out.grow B5.out).m
    have BY := Lib.hid (refbytesW_any x.c (HXO.out _ B5.out).1.body (HXO.out _ B5.out).2 (show x.n ≤ 65536 by omega))
    clear q0 q1 q2 q3 q4 q5 q6 q7 q8 q9 q10 q11
    go_upto_region 19 with (first
          | (go_at_call 45; refine (BY.out).mono ?_; intro e w6 hm; obtain ⟨D6, d6, rfl, hoo, hbb, _, _⟩ := hm.n (HL.out); have H6 := Lib.hid (Made.bs hoo (HBB.out)); have O6 := Lib.hid (own_below O5.out hbb (Nat.le_refl _)); have B6 := Lib.hid (B5.out.trans (hbb.mono B5.out.size)); clear hm hoo hbb)
          | (at_builtin; refine wpList_app _ rfl (.tmp 21) (.tmp 24) 22 rfl W1.heap.size 5 1 1 Try.underlying22 u8_info (by omega) (.slice A5 (1 + 16) c5) (1 + 16) (vals ([x.kind] ++ (n64 x.client ++ n64 x.id))) rfl O6.out D6 (4 + x.n) d6 (vals (bytesF x.body)) rfl H6.out.lies.1 H6.out.lies.2 (vals_one _) (by unfold maxLen; omega) (by omega) B6.out.size ?_; intro v1 w7 ho1 hg1; rw [← vals_app] at ho1; have B7 := Lib.hid (B6.out.grown hg1 B6.out.size (fun j hj => (O6.out.lt j hj).1)); obtain ⟨A7, c7, rfl, _, _⟩ := own_shape ho1; have O7 := Lib.hid ho1; clear ho1 hg1))
    go_wp2
    go_ret
    exact made_of (n := 1 + 16 + (4 + x.n)) (by rw [HF.out]; simp only [List.length_append, List.length_singleton, n64_len', HL.out]) (by rw [HF.out]; exact own_base O7.out b1.out.size) (b1.out.trans (B7.out.mono b1.out.size))
set_option maxHeartbeats 8000000 in
theorem rform3_any {w : World} {B : Nat} {x : MX} (h : MXOk w B x) (hB : B ≤ w.heap.size) (hk : x.kind = 3) : Calls Try.prog 15 #[.agg (mc x).toArray] w (Made w (formM x.z)) := by
  obtain ⟨W1, hW1⟩ : ∃ W, W = w.alloc (.cells (mc x).toArray 28) := ⟨_, rfl⟩
  have b1 := Lib.hid (show Below w.heap.size w W1 by rw [hW1]; exact below_one _ _)
  obtain ⟨g, hg⟩ : ∃ g, w.heap.size = g := ⟨_, rfl⟩
  have Hg := Lib.hid hg
  have V1 := Lib.hid (show VBox W1 g 12 (mc x) by rw [hW1]; exact vbox_new _ _ _ _ _ hg rfl (by omega))
  have z1 := Lib.hid (show W1.heap.size = g + 1 by rw [hW1]; simp [hg])
  have HW1 := Lib.hid hW1
  clear hW1 hg
  obtain ⟨W2, hW2⟩ : ∃ W, W = W1.alloc (.cells #[.int .u8 x.kind] 5) := ⟨_, rfl⟩
  have B2 := Lib.hid (show Below W1.heap.size W1 W2 by rw [hW2]; exact below_one _ _)
  have O2 := Lib.hid (show W2.ownsRow W1.heap.size 5 1 (.slice (some ⟨g + 1, 0, none⟩) 1 1) 1 (vals [x.kind]) by rw [hW2, ← z1.out]; exact World.ownsRow_lit W1 #[.int .u8 x.kind] 1 (Nat.le_refl _) (by unfold maxLen; omega) rfl)
  have z2 := Lib.hid (show W2.heap.size = g + 1 + 1 by rw [hW2]; simp [z1.out])
  have HW2 := Lib.hid hW2
  have HXO := Lib.hid (fun (W : World) (hW : Below W1.heap.size W1 W) => (⟨(h.below b1.out hB).below hW (Nat.le_trans hB b1.out.size), Nat.le_trans hB (Nat.le_trans b1.out.size hW.size)⟩ : MXOk W B x ∧ B ≤ W.heap.size))
  have HX := Lib.hid h
  have HF : Hid (formM x.z = [x.kind] ++ (n64 x.hav ++ n64 x.don)) := Lib.hid (by unfold formM ownF; simp [MX.z, hk])
  have HK := Lib.hid hk
  clear hW2 h hk
  go_enter Try.func15, Try.ntmps15
  go_upto_region 1 with fail
  rw [← HW1.out, Hg.out]
  obtain ⟨q0, q1, q2, q3, q4, q5, q6, q7, q8, q9, q10, q11⟩ := V1.out.m
  go_upto_region 2 with fail
  rw [← HW2.out, z1.out]
  clear q0 q1 q2 q3 q4 q5 q6 q7 q8 q9 q10 q11
  obtain ⟨q0, q1, q2, q3, q4, q5, q6, q7, q8, q9, q10, q11⟩ := (V1.out.grow B2.out).m
  obtain ⟨kd, hkd⟩ : ∃ k, x.kind = k := ⟨_, rfl⟩
  have hk := HK.out
  rw [hkd] at q0 hk
  have h0 := HX.out.hav
  have h1 := HX.out.don
  have NM := Lib.hid (rnumbers2 W2 (g + 1 + 1) 2 z2.out (x.hav) (x.don) h0 h1)
  have bb := Lib.hid (below_one W2 (.cells #[.int .i64 x.hav, .int .i64 x.don] 3))
  have B3 := Lib.hid (B2.out.trans (bb.out.mono B2.out.size))
  have O3 := Lib.hid (show (W2.alloc (.cells #[.int .i64 x.hav, .int .i64 x.don] 3)).ownsRow W1.heap.size 5 1 (.slice (some ⟨g + 1, 0, none⟩) 1 1) 1 (vals [x.kind]) from own_below O2.out bb.out (Nat.le_refl _))
  clear bb
  have zz := z2.out
  subst hk
  go_upto_region 19 with (first
        | (go_at_call 44; refine (NM.out).mono ?_; intro e w4 hm; obtain ⟨D4, d4, rfl, hoo, hbb, _, _⟩ := hm.n (show (n64 x.hav ++ n64 x.don).length = 16 by simp only [List.length_append, n64_len']); have H4 := Lib.hid (Made.bs hoo ((n64_isB _).app (n64_isB _))); have O4 := Lib.hid (own_below O3.out hbb (Nat.le_refl _)); have B4 := Lib.hid (B3.out.trans (hbb.mono B3.out.size)); clear hm hoo hbb)
        | (at_builtin; refine wpList_app _ rfl (.tmp 56) (.tmp 62) 22 rfl W1.heap.size 5 1 1 Try.underlying22 u8_info (by omega) (.slice (some ⟨g + 1, 0, none⟩) (1) 1) (1) (vals ([x.kind])) rfl O4.out D4 (16) d4 (vals (n64 x.hav ++ n64 x.don)) rfl H4.out.lies.1 H4.out.lies.2 (vals_one _) (by unfold maxLen; omega) (by omega) B4.out.size ?_; intro v1 w5 ho1 hg1; rw [← vals_app] at ho1; have B5 := Lib.hid (B4.out.grown hg1 B4.out.size (fun j hj => (O4.out.lt j hj).1)); obtain ⟨A5, c5, rfl, _, _⟩ := own_shape ho1; have O5 := Lib.hid ho1; clear ho1 hg1))
  go_wp2
  go_ret
  exact made_of (n := 1 + 16) (by rw [HF.out]; simp only [List.length_append, List.length_singleton, n64_len']) (by rw [HF.out]; exact own_base O5.out b1.out.size) (b1.out.trans (B5.out.mono b1.out.size))
set_option maxHeartbeats 8000000 in
theorem rform5_any {w : World} {B : Nat} {x : MX} (h : MXOk w B x) (hB : B ≤ w.heap.size) (hk : x.kind = 5) : Calls Try.prog 15 #[.agg (mc x).toArray] w (Made w (formM x.z)) := by
  obtain ⟨W1, hW1⟩ : ∃ W, W = w.alloc (.cells (mc x).toArray 28) := ⟨_, rfl⟩
  have b1 := Lib.hid (show Below w.heap.size w W1 by rw [hW1]; exact below_one _ _)
  obtain ⟨g, hg⟩ : ∃ g, w.heap.size = g := ⟨_, rfl⟩
  have Hg := Lib.hid hg
  have V1 := Lib.hid (show VBox W1 g 12 (mc x) by rw [hW1]; exact vbox_new _ _ _ _ _ hg rfl (by omega))
  have z1 := Lib.hid (show W1.heap.size = g + 1 by rw [hW1]; simp [hg])
  have HW1 := Lib.hid hW1
  clear hW1 hg
  obtain ⟨W2, hW2⟩ : ∃ W, W = W1.alloc (.cells #[.int .u8 x.kind] 5) := ⟨_, rfl⟩
  have B2 := Lib.hid (show Below W1.heap.size W1 W2 by rw [hW2]; exact below_one _ _)
  have O2 := Lib.hid (show W2.ownsRow W1.heap.size 5 1 (.slice (some ⟨g + 1, 0, none⟩) 1 1) 1 (vals [x.kind]) by rw [hW2, ← z1.out]; exact World.ownsRow_lit W1 #[.int .u8 x.kind] 1 (Nat.le_refl _) (by unfold maxLen; omega) rfl)
  have z2 := Lib.hid (show W2.heap.size = g + 1 + 1 by rw [hW2]; simp [z1.out])
  have HW2 := Lib.hid hW2
  have HXO := Lib.hid (fun (W : World) (hW : Below W1.heap.size W1 W) => (⟨(h.below b1.out hB).below hW (Nat.le_trans hB b1.out.size), Nat.le_trans hB (Nat.le_trans b1.out.size hW.size)⟩ : MXOk W B x ∧ B ≤ W.heap.size))
  have HX := Lib.hid h
  have HF : Hid (formM x.z = [x.kind] ++ (n64 x.since)) := Lib.hid (by unfold formM ownF; simp [MX.z, hk])
  have HK := Lib.hid hk
  clear hW2 h hk
  go_enter Try.func15, Try.ntmps15
  go_upto_region 1 with fail
  rw [← HW1.out, Hg.out]
  obtain ⟨q0, q1, q2, q3, q4, q5, q6, q7, q8, q9, q10, q11⟩ := V1.out.m
  go_upto_region 2 with fail
  rw [← HW2.out, z1.out]
  clear q0 q1 q2 q3 q4 q5 q6 q7 q8 q9 q10 q11
  obtain ⟨q0, q1, q2, q3, q4, q5, q6, q7, q8, q9, q10, q11⟩ := (V1.out.grow B2.out).m
  obtain ⟨kd, hkd⟩ : ∃ k, x.kind = k := ⟨_, rfl⟩
  have hk := HK.out
  rw [hkd] at q0 hk
  have h0 := HX.out.since
  have NM := Lib.hid (rnumbers1 W2 (g + 1 + 1) 1 z2.out (x.since) h0)
  have bb := Lib.hid (below_one W2 (.cells #[.int .i64 x.since] 3))
  have B3 := Lib.hid (B2.out.trans (bb.out.mono B2.out.size))
  have O3 := Lib.hid (show (W2.alloc (.cells #[.int .i64 x.since] 3)).ownsRow W1.heap.size 5 1 (.slice (some ⟨g + 1, 0, none⟩) 1 1) 1 (vals [x.kind]) from own_below O2.out bb.out (Nat.le_refl _))
  clear bb
  have zz := z2.out
  subst hk
  go_upto_region 19 with (first
        | (go_at_call 44; refine (NM.out).mono ?_; intro e w4 hm; obtain ⟨D4, d4, rfl, hoo, hbb, _, _⟩ := hm.n (show (n64 x.since).length = 8 by simp only [List.length_append, n64_len']); have H4 := Lib.hid (Made.bs hoo (n64_isB _)); have O4 := Lib.hid (own_below O3.out hbb (Nat.le_refl _)); have B4 := Lib.hid (B3.out.trans (hbb.mono B3.out.size)); clear hm hoo hbb)
        | (at_builtin; refine wpList_app _ rfl (.tmp 73) (.tmp 77) 22 rfl W1.heap.size 5 1 1 Try.underlying22 u8_info (by omega) (.slice (some ⟨g + 1, 0, none⟩) (1) 1) (1) (vals ([x.kind])) rfl O4.out D4 (8) d4 (vals (n64 x.since)) rfl H4.out.lies.1 H4.out.lies.2 (vals_one _) (by unfold maxLen; omega) (by omega) B4.out.size ?_; intro v1 w5 ho1 hg1; rw [← vals_app] at ho1; have B5 := Lib.hid (B4.out.grown hg1 B4.out.size (fun j hj => (O4.out.lt j hj).1)); obtain ⟨A5, c5, rfl, _, _⟩ := own_shape ho1; have O5 := Lib.hid ho1; clear ho1 hg1))
  go_wp2
  go_ret
  exact made_of (n := 1 + 8) (by rw [HF.out]; simp only [List.length_append, List.length_singleton, n64_len']) (by rw [HF.out]; exact own_base O5.out b1.out.size) (b1.out.trans (B5.out.mono b1.out.size))
set_option maxHeartbeats 8000000 in
theorem rform4_any {w : World} {B : Nat} {x : MX} (h : MXOk w B x) (hB : B ≤ w.heap.size) (hk : x.kind = 4) (hs : x.mn ≤ 5) : Calls Try.prog 15 #[.agg (mc x).toArray] w (Made w (formM x.z)) := by
  obtain ⟨W1, hW1⟩ : ∃ W, W = w.alloc (.cells (mc x).toArray 28) := ⟨_, rfl⟩
  have b1 := Lib.hid (show Below w.heap.size w W1 by rw [hW1]; exact below_one _ _)
  obtain ⟨g, hg⟩ : ∃ g, w.heap.size = g := ⟨_, rfl⟩
  have Hg := Lib.hid hg
  have V1 := Lib.hid (show VBox W1 g 12 (mc x) by rw [hW1]; exact vbox_new _ _ _ _ _ hg rfl (by omega))
  have z1 := Lib.hid (show W1.heap.size = g + 1 by rw [hW1]; simp [hg])
  have HW1 := Lib.hid hW1
  clear hW1 hg
  obtain ⟨W2, hW2⟩ : ∃ W, W = W1.alloc (.cells #[.int .u8 x.kind] 5) := ⟨_, rfl⟩
  have B2 := Lib.hid (show Below W1.heap.size W1 W2 by rw [hW2]; exact below_one _ _)
  have O2 := Lib.hid (show W2.ownsRow W1.heap.size 5 1 (.slice (some ⟨g + 1, 0, none⟩) 1 1) 1 (vals [x.kind]) by rw [hW2, ← z1.out]; exact World.ownsRow_lit W1 #[.int .u8 x.kind] 1 (Nat.le_refl _) (by unfold maxLen; omega) rfl)
  have z2 := Lib.hid (show W2.heap.size = g + 1 + 1 by rw [hW2]; simp [z1.out])
  have HW2 := Lib.hid hW2
  have HXO := Lib.hid (fun (W : World) (hW : Below W1.heap.size W1 W) => (⟨(h.below b1.out hB).below hW (Nat.le_trans hB b1.out.size), Nat.le_trans hB (Nat.le_trans b1.out.size hW.size)⟩ : MXOk W B x ∧ B ≤ W.heap.size))
  have HX := Lib.hid h
  have HF : Hid (formM x.z = [x.kind] ++ confF x.ep x.ms) := Lib.hid (by unfold formM ownF; simp [MX.z, hk])
  have HK := Lib.hid hk
  clear hW2 h hk
  go_enter Try.func15, Try.ntmps15
  go_upto_region 1 with fail
  rw [← HW1.out, Hg.out]
  obtain ⟨q0, q1, q2, q3, q4, q5, q6, q7, q8, q9, q10, q11⟩ := V1.out.m
  go_upto_region 2 with fail
  rw [← HW2.out, z1.out]
  clear q0 q1 q2 q3 q4 q5 q6 q7 q8 q9 q10 q11
  obtain ⟨q0, q1, q2, q3, q4, q5, q6, q7, q8, q9, q10, q11⟩ := (V1.out.grow B2.out).m
  obtain ⟨kd, hkd⟩ : ∃ k, x.kind = k := ⟨_, rfl⟩
  have hk := HK.out
  rw [hkd] at q0 hk
  subst hk
  have HL : Hid ((confF x.ep x.ms).length = 16 + x.mn * 17) := Lib.hid (by unfold confF; simp only [List.length_append, n64_len', msF_len, HX.out.ms.row.len])
  have CF := Lib.hid (rconfform_any x.mcp x.ep HX.out.ep (HXO.out _ B2.out).1.ms (HXO.out _ B2.out).2 (by omega))
  go_upto_region 19 with (first
        | (go_at_call 25; refine (CF.out).mono ?_; intro e w4 hm; obtain ⟨D4, d4, rfl, hoo, hbb, _, _⟩ := hm.n (HL.out); have H4 := Lib.hid (Made.bs hoo (confF_isB _ _)); have O4 := Lib.hid (own_below O2.out hbb (Nat.le_refl _)); have B4 := Lib.hid (B2.out.trans (hbb.mono B2.out.size)); clear hm hoo hbb)
        | (at_builtin; refine wpList_app _ rfl (.tmp 66) (.tmp 69) 22 rfl W1.heap.size 5 1 1 Try.underlying22 u8_info (by omega) (.slice (some ⟨g + 1, 0, none⟩) (1) 1) (1) (vals ([x.kind])) rfl O4.out D4 (16 + x.mn * 17) d4 (vals (confF x.ep x.ms)) rfl H4.out.lies.1 H4.out.lies.2 (vals_one _) (by unfold maxLen; omega) (by omega) B4.out.size ?_; intro v1 w5 ho1 hg1; rw [← vals_app] at ho1; have B5 := Lib.hid (B4.out.grown hg1 B4.out.size (fun j hj => (O4.out.lt j hj).1)); obtain ⟨A5, c5, rfl, _, _⟩ := own_shape ho1; have O5 := Lib.hid ho1; clear ho1 hg1))
  go_wp2
  go_ret
  exact made_of (n := 1 + (16 + x.mn * 17)) (by rw [HF.out]; simp only [List.length_append, List.length_singleton, HL.out]) (by rw [HF.out]; exact own_base O5.out b1.out.size) (b1.out.trans (B5.out.mono b1.out.size))
set_option maxHeartbeats 8000000 in
theorem rform2_any {w : World} {B : Nat} {x : MX} (h : MXOk w B x) (hB : B ≤ w.heap.size) (hk : x.kind = 2) (hs : x.en ≤ 4 ∧ ∀ y, y ∈ x.es → y.n ≤ 1024) : Calls Try.prog 15 #[.agg (mc x).toArray] w (Made w (formM x.z)) := by
  obtain ⟨W1, hW1⟩ : ∃ W, W = w.alloc (.cells (mc x).toArray 28) := ⟨_, rfl⟩
  have b1 := Lib.hid (show Below w.heap.size w W1 by rw [hW1]; exact below_one _ _)
  obtain ⟨g, hg⟩ : ∃ g, w.heap.size = g := ⟨_, rfl⟩
  have Hg := Lib.hid hg
  have V1 := Lib.hid (show VBox W1 g 12 (mc x) by rw [hW1]; exact vbox_new _ _ _ _ _ hg rfl (by omega))
  have z1 := Lib.hid (show W1.heap.size = g + 1 by rw [hW1]; simp [hg])
  have HW1 := Lib.hid hW1
  clear hW1 hg
  obtain ⟨W2, hW2⟩ : ∃ W, W = W1.alloc (.cells #[.int .u8 x.kind] 5) := ⟨_, rfl⟩
  have B2 := Lib.hid (show Below W1.heap.size W1 W2 by rw [hW2]; exact below_one _ _)
  have O2 := Lib.hid (show W2.ownsRow W1.heap.size 5 1 (.slice (some ⟨g + 1, 0, none⟩) 1 1) 1 (vals [x.kind]) by rw [hW2, ← z1.out]; exact World.ownsRow_lit W1 #[.int .u8 x.kind] 1 (Nat.le_refl _) (by unfold maxLen; omega) rfl)
  have z2 := Lib.hid (show W2.heap.size = g + 1 + 1 by rw [hW2]; simp [z1.out])
  have HW2 := Lib.hid hW2
  have HXO := Lib.hid (fun (W : World) (hW : Below W1.heap.size W1 W) => (⟨(h.below b1.out hB).below hW (Nat.le_trans hB b1.out.size), Nat.le_trans hB (Nat.le_trans b1.out.size hW.size)⟩ : MXOk W B x ∧ B ≤ W.heap.size))
  have HX := Lib.hid h
  have HF : Hid (formM x.z = ([x.kind] ++ (n64 x.upto ++ n64 x.frm ++ n64 (x.es.length : Int))) ++ esF (x.es.map EX.z)) := Lib.hid (by unfold formM ownF; simp [MX.z, hk])
  have HK := Lib.hid hk
  clear hW2 h hk
  go_enter Try.func15, Try.ntmps15
  go_upto_region 1 with fail
  rw [← HW1.out, Hg.out]
  obtain ⟨q0, q1, q2, q3, q4, q5, q6, q7, q8, q9, q10, q11⟩ := V1.out.m
  go_upto_region 2 with fail
  rw [← HW2.out, z1.out]
  clear q0 q1 q2 q3 q4 q5 q6 q7 q8 q9 q10 q11
  obtain ⟨q0, q1, q2, q3, q4, q5, q6, q7, q8, q9, q10, q11⟩ := (V1.out.grow B2.out).m
  obtain ⟨kd, hkd⟩ : ∃ k, x.kind = k := ⟨_, rfl⟩
  have hk := HK.out
  rw [hkd] at q0 hk
  subst hk
  have h0 := HX.out.upto
  have h1 := HX.out.frm
  have hen := hs.1
  have h2 : InM (x.en : Int) := by unfold InM; omega
  have HLn : Hid (x.es.length = x.en) := Lib.hid HX.out.es.row.len
  have HSM := Lib.hid hs.2
  have NM := Lib.hid (rnumbers3 W2 (g + 1 + 1) 3 z2.out (x.upto) (x.frm) ((x.en : Int)) h0 h1 h2)
  have bb := Lib.hid (below_one W2 (.cells #[.int .i64 x.upto, .int .i64 x.frm, .int .i64 (x.en : Int)] 3))
  have B3 := Lib.hid (B2.out.trans (bb.out.mono B2.out.size))
  have O3 := Lib.hid (show (W2.alloc (.cells #[.int .i64 x.upto, .int .i64 x.frm, .int .i64 (x.en : Int)] 3)).ownsRow W1.heap.size 5 1 (.slice (some ⟨g + 1, 0, none⟩) 1 1) 1 (vals [x.kind]) from own_below O2.out bb.out (Nat.le_refl _))
  clear bb
  have zz := z2.out
  go_upto_region 9 with (first
        | (go_at_call 44; refine (NM.out).mono ?_; intro e w4 hm; obtain ⟨D4, d4, rfl, hoo, hbb, _, _⟩ := hm.n (show (n64 x.upto ++ n64 x.frm ++ n64 (x.en : Int)).length = 24 by simp only [List.length_append, n64_len']); have H4 := Lib.hid (Made.bs hoo (((n64_isB _).app (n64_isB _)).app (n64_isB _))); have O4 := Lib.hid (own_below O3.out hbb (Nat.le_refl _)); have B4 := Lib.hid (B3.out.trans (hbb.mono B3.out.size)); clear hm hoo hbb)
        | (at_builtin; refine wpList_app _ rfl (.tmp 28) (.tmp 37) 22 rfl W1.heap.size 5 1 1 Try.underlying22 u8_info (by omega) (.slice (some ⟨g + 1, 0, none⟩) (1) 1) (1) (vals ([x.kind])) rfl O4.out D4 (24) d4 (vals (n64 x.upto ++ n64 x.frm ++ n64 (x.en : Int))) rfl H4.out.lies.1 H4.out.lies.2 (vals_one _) (by unfold maxLen; omega) (by omega) B4.out.size ?_; intro v1 w5 ho1 hg1; rw [← vals_app] at ho1; have B5 := Lib.hid (B4.out.grown hg1 B4.out.size (fun j hj => (O4.out.lt j hj).1)); obtain ⟨A5, c5, rfl, _, _⟩ := own_shape ho1; have O5 := Lib.hid ho1; clear ho1 hg1))
  obtain ⟨hd, hhd⟩ : ∃ z, [x.kind] ++ (n64 x.upto ++ n64 x.frm ++ n64 (x.en : Int)) = z := ⟨_, rfl⟩
  rw [hhd] at O5
  have HHD := Lib.hid hhd
  have HDL : Hid (hd.length = 25) := Lib.hid (by rw [← hhd]; simp only [List.length_append, List.length_singleton, n64_len'])
  clear hhd NM zz q0 q1 q2 q3 q4 q5 q6 q7 q8 q9 q10 q11
  go_wp2
  go_loopw [3, 4] (fun v3 i wr => ∃ (k N : Nat) (A3 : Option Addr) (c3 : Nat), k ≤ x.en ∧ i = .int .i64 k ∧ Hid ((hd ++ esF ((x.es.map EX.z).take k)).length = N) ∧ N ≤ 25 + k * 1052 ∧ v3 = .slice A3 N c3 ∧ Hid (wr.ownsRow W1.heap.size 5 1 (.slice A3 N c3) N (vals (hd ++ esF ((x.es.map EX.z).take k)))) ∧ Hid (Below W1.heap.size W1 wr)) (fun _ i _ => x.en - (intOf i).toNat)
  case atStart => exact ⟨0, 25, A5, c5, by omega, rfl, Lib.hid (by simp [esF, HDL.out]), by omega, rfl, Lib.hid (by rw [show esF ((x.es.map EX.z).take 0) = [] from rfl, List.append_nil]; exact O5.out), B5⟩
  case round =>
    obtain ⟨k, N, A3, c3, hk, rfl, HN, hN, rfl, OR, BR⟩ := hrel
    obtain ⟨q0, q1, q2, q3, q4, q5, q6, _⟩ := (V1.out.grow BR.out).m
    by_cases hlt : k < x.en
    · have hki : (k : Int) < (x.en : Int) := by omega
      have HE := Lib.hid (HXO.out _ BR.out)
      obtain ⟨bb, off, y, hA, hb, hy, hmm, hr⟩ := HE.out.1.es.row.at_ ec_len hlt
      obtain ⟨c0, c1, c2, c3', c4⟩ := rng_e hr
      rw [hA] at q6
      have hyn : y.n ≤ 1024 := HSM.out y hmm
      have YO := Lib.hid (HE.out.1.es.ok y hmm)
      have RR := Lib.hid (rrest_any YO.out HE.out.2 (by omega))
      have HYL : Hid ((restF y.z).length = 28 + y.n) := Lib.hid (by rw [restF_len]; show 28 + y.body.length = _; rw [YO.out.body.len])
      have HTK : Hid (hd ++ esF ((x.es.map EX.z).take (k + 1)) = (hd ++ esF ((x.es.map EX.z).take k)) ++ restF y.z) := Lib.hid (by
        rw [List.take_add_one, List.getElem?_map, hy.out]
        unfold esF
        rw [List.flatMap_append]
        simp [List.append_assoc])
      have hN2 : N ≤ 65536 := by omega
      clear hr hmm hy hA
      go_wp2_with (first
        | (go_at_call 46; refine (RR.out).mono ?_; intro e w6 hm; obtain ⟨D6, d6, rfl, hoo, hbb, _, _⟩ := hm.n (HYL.out); have H6 := Lib.hid (Made.bs hoo (restF_isB (e := y.z) YO.out.body.isBytes)); have O6 := Lib.hid (own_below OR.out hbb (Nat.le_refl _)); have B6 := Lib.hid (BR.out.trans (hbb.mono BR.out.size)); clear hm hoo hbb)
        | (at_builtin; refine wpList_app _ rfl (.tmp 46) (.tmp 52) 22 rfl W1.heap.size 5 1 1 Try.underlying22 u8_info (by omega) (.slice A3 (N) c3) (N) (vals (hd ++ esF ((x.es.map EX.z).take k))) rfl O6.out D6 (28 + y.n) d6 (vals (restF y.z)) rfl H6.out.lies.1 H6.out.lies.2 (vals_one _) (by unfold maxLen; omega) (by omega) B6.out.size ?_; intro v1 w7 ho1 hg1; rw [← vals_app] at ho1; have B7 := Lib.hid (B6.out.grown hg1 B6.out.size (fun j hj => (O6.out.lt j hj).1)); obtain ⟨A7, c7, rfl, _, _⟩ := own_shape ho1; have O7 := Lib.hid ho1; clear ho1 hg1))
      rw [← HTK.out] at O7
      go_roundw
      case rel => exact ⟨k + 1, N + (28 + y.n), A7, c7, by omega, by go_num, Lib.hid (by rw [HTK.out, List.length_append, HN.out, HYL.out]), by omega, rfl, O7, B7⟩
      case measure => simp [intOf]; omega
    · have hki : ¬ (k : Int) < (x.en : Int) := by omega
      have hkn : k = x.en := by omega
      have e1 : hd ++ esF ((x.es.map EX.z).take k) = formM x.z := by
        rw [HF.out, List.take_of_length_le (by rw [List.length_map, HLn.out]; omega), ← HHD.out, HLn.out]
      rw [e1] at OR HN
      go_wp2
      go_ret
      exact made_of (n := N) HN.out (own_base OR.out b1.out.size) (b1.out.trans (BR.out.mono b1.out.size))
theorem rform_any {w : World} {B : Nat} {x : MX} (h : MXOk w B x) (hB : B ≤ w.heap.size) (hm : mayM x.z = true) : Calls Try.prog 15 #[.agg (mc x).toArray] w (Made w (formM x.z)) := by
  obtain ⟨hk, _, ha⟩ := mayM_parts hm
  have hk2 : x.kind = 1 ∨ x.kind = 6 ∨ x.kind = 2 ∨ x.kind = 3 ∨ x.kind = 4 ∨ x.kind = 5 := by
    have hk : kindB x.kind = true := hk
    unfold kindB at hk
    simp only [Bool.and_eq_true, decide_eq_true_eq] at hk
    omega
  have h16 : (x.kind = 1 ∨ x.kind = 6) → x.n ≤ 20000 := fun e => by
    rw [askM_1 e h.body.len] at ha
    simp only [Bool.and_eq_true, decide_eq_true_eq] at ha
    exact ha.2
  rcases hk2 with e | e | e | e | e | e
  · exact rform1_any h hB (Or.inl e) (h16 (Or.inl e))
  · exact rform1_any h hB (Or.inr e) (h16 (Or.inr e))
  · rw [askM_2 e] at ha
    have a := app_small ha
    refine rform2_any h hB e ⟨by have := a.1; rw [List.length_map, h.es.row.len] at this; exact this, fun y hy => ?_⟩
    have := ent_small (a.2 y.z (List.mem_map.2 ⟨y, hy, rfl⟩))
    rw [← (h.es.ok y hy).body.len]
    exact this
  · exact rform3_any h hB e
  · rw [askM_4 e] at ha
    exact rform4_any h hB e (by have := conf_small ha; rw [h.ms.row.len] at this; exact this)
  · exact rform5_any h hB e
end Go.Proofs.Ytfihiandifnkpaa
