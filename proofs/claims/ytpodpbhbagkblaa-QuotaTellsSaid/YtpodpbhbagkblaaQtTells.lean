/- The statement QuotaTells: the walk. -/
import Derived.Test.YtpodpbhbagkblaaQtL
import Derived.Test.YtpodpbhbagkblaaQtN
import Derived.Test.YtpodpbhbagkblaaQtRD
namespace Go.Proofs.Ytpodpbhbagkblaa
open Go.ChangeShapes Go.WideShapes Go.ChangeAt Go.RowKit
set_option linter.unusedVariables false
set_option linter.unusedSimpArgs false
open Plain Qt
set_option maxRecDepth 100000 in
set_option maxHeartbeats 8000000 in
theorem qtTells_any (A : Option Addr) (n c : Nat) (l : List ShZ) (a : Int) (w : World) (h : Shs w w.heap.size A n l) (hn : n * 24 ≤ 140737488355328) (ha : -9223372036854775808 ≤ a ∧ a ≤ 9223372036854775807) :
    Calls Try.prog 4 #[.slice A n c, .int .i64 a] w (fun e w' => e = .returned (.bool true) ∧ Below w.heap.size w w') := by
  by_cases hg : 20 < n
  · have hI : (20 : Int) < (n : Int) := by omega
    clear h hg
    go_enter Try.func4, Try.ntmps4
    go_wp2
    go_ret
    exact ⟨rfl, Below.refl _ _⟩
  have hI : ¬ (20 : Int) < (n : Int) := by omega
  have hmx : n ≤ maxLen := by unfold maxLen; omega
  have AW := Lib.hid (fun V => qtawake_any (w := V))
  have TM := Lib.hid (to_anyQ (c := c) h (Nat.le_refl _) hn)
  have HG := Lib.hid h
  obtain ⟨o, ho⟩ : ∃ o, ofR l a = o := ⟨_, rfl⟩
  obtain ⟨yt, yk, ys, ok, hoV⟩ : ∃ yt yk ys ok, ofV o = .tuple #[.agg #[.int .i64 yt, .int .i64 yk, .int .i64 ys], .bool ok] := ⟨_, _, _, _, rfl⟩
  obtain ⟨x, y, hL⟩ : ∃ x y, leftR l = (x, y) := ⟨_, _, rfl⟩
  obtain ⟨m, hm⟩ : ∃ m, mayB l = m := ⟨_, rfl⟩
  have OM := Lib.hid (fun (V : World) (D : Option Addr) (d : Nat) (hV : Shs V V.heap.size D n l) => of_anyQ d a o hV (Nat.le_refl _) hmx ho)
  have RO := Lib.hid (fun (V : World) (hV : Below w.heap.size w V) => rof_any c a o (HG.out.grow hV) (Nat.le_refl _) hmx ho)
  have LM := Lib.hid (fun (V : World) (D : Option Addr) (d : Nat) (hV : Shs V V.heap.size D n l) => left_anyQ d x y hV (Nat.le_refl _) hmx hL)
  have RL := Lib.hid (fun (V : World) (hV : Below w.heap.size w V) => rleft_any c x y (HG.out.grow hV) (Nat.le_refl _) hmx hL)
  have MM := Lib.hid (fun (V : World) (D : Option Addr) (d : Nat) (hV : Shs V V.heap.size D n l) => may_anyQ d m hV (Nat.le_refl _) hmx hm)
  have RM := Lib.hid (fun (V : World) (hV : Below w.heap.size w V) => rmay_any c m (HG.out.grow hV) (Nat.le_refl _) hmx hm)
  rw [hoV] at OM RO
  clear h hg ho hoV hL hm ha
  go_enter Try.func4, Try.ntmps4
  go_upto_region 5 with (first
    | (go_at_call 8; refine TM.out.mono ?_; rintro e w1 ⟨D, d, rfl, o1, b1⟩; have B1 := Lib.hid b1; have H1 := Lib.hid (shs_of_own o1 HG.out.ok); clear o1 b1)
    | (go_at_call 15; refine (OM.out _ _ _ H1.out).mono ?_; rintro e w2 ⟨rfl, hb⟩; have B2 := Lib.hid (B1.out.trans (hb.mono B1.out.size)); have H2 := Lib.hid (H1.out.grow hb); clear hb)
    | fail)
  obtain ⟨g3, hg3⟩ : ∃ g, w2.heap.size = g := ⟨_, rfl⟩
  obtain ⟨W3, hW3⟩ : ∃ W, W = w2.alloc (.cells #[.int .i64 yt, .int .i64 yk, .int .i64 ys] 27) := ⟨_, rfl⟩
  rw [hg3, ← hW3]
  have b23 : Below w2.heap.size w2 W3 := by rw [hW3]; exact below_oneQ _ _
  have B3 := Lib.hid (B2.out.trans (b23.mono B2.out.size))
  have H3 := Lib.hid (H2.out.grow b23)
  have X3 := Lib.hid (show QBox W3 g3 yt yk ys by rw [hW3]; exact qbox_new _ _ _ _ _ _ hg3)
  clear hg3 hW3 b23
  go_upto_region 6 with (go_at_call 16; refine (RO.out _ B3.out).mono ?_; rintro e w4 ⟨rfl, hb⟩; have B4 := Lib.hid (B3.out.trans (hb.mono B3.out.size)); have H4 := Lib.hid (H3.out.grow hb); have X4 := Lib.hid (X3.out.grow hb); clear hb)
  obtain ⟨g5, hg5⟩ : ∃ g, w4.heap.size = g := ⟨_, rfl⟩
  obtain ⟨W5, hW5⟩ : ∃ W, W = w4.alloc (.cells #[.int .i64 yt, .int .i64 yk, .int .i64 ys] 24) := ⟨_, rfl⟩
  rw [hg5, ← hW5]
  have b45 : Below w4.heap.size w4 W5 := by rw [hW5]; exact below_oneQ _ _
  have B5 := Lib.hid (B4.out.trans (b45.mono B4.out.size))
  have H5 := Lib.hid (H4.out.grow b45)
  have X5 := Lib.hid (show QBox W5 g5 yt yk ys by rw [hW5]; exact qbox_new _ _ _ _ _ _ hg5)
  have X6 := Lib.hid (X4.out.grow b45)
  have HS := Lib.hid (fun (V : World) (hV : Below W5.heap.size W5 V) => (⟨X6.out.grow hV, X5.out.grow hV, B5.out.trans (hV.mono B5.out.size), H5.out.grow hV⟩ : QBox V g3 yt yk ys ∧ QBox V g5 yt yk ys ∧ Below w.heap.size w V ∧ Shs V V.heap.size D n l))
  clear hg5 hW5 b45 X3 X4 X5 X6 B1 B2 B3 B4 H1 H2 H3 H4 TM OM RO
  go_wp2_with (first
    | (go_at_call 17; refine (LM.out _ _ _ H5.out).mono ?_; rintro e v1 ⟨rfl, hb⟩; have C1 := Lib.hid hb; clear hb)
    | (go_at_call 18; refine (RL.out _ (HS.out _ C1.out).2.2.1).mono ?_; rintro e v2 ⟨rfl, hb⟩; have C2 := Lib.hid (C1.out.trans (hb.mono C1.out.size)); clear hb)
    | (go_at_call 19; refine (MM.out _ _ _ (HS.out _ C2.out).2.2.2).mono ?_; rintro e v3 ⟨rfl, hb⟩; have C3 := Lib.hid (C2.out.trans (hb.mono C2.out.size)); clear hb)
    | (go_at_call 20; refine (RM.out _ (HS.out _ C3.out).2.2.1).mono ?_; rintro e v4 ⟨rfl, hb⟩; have c4 := C3.out.trans (hb.mono C3.out.size); have C4 := Lib.hid c4; obtain ⟨⟨p1, p2, p3⟩, ⟨q1, q2, q3⟩, -, -⟩ := HS.out _ c4; clear hb c4)
    | (go_at_call 14; refine (AW.out _).mono ?_; rintro e v5 ⟨rfl, hb⟩; have C5 := Lib.hid (C4.out.trans (hb.mono C4.out.size)); clear hb)
    | fail)
  go_ret
  exact ⟨rfl, B5.out.trans (C5.out.mono B5.out.size)⟩
end Go.Proofs.Ytpodpbhbagkblaa
