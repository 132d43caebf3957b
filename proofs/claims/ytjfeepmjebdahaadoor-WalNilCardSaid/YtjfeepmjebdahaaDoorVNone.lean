/- A wal that nobody made, or of a disk that is none. -/
import Derived.Test.YtjfeepmjebdahaaDoorB9
import Derived.Test.YtjfeepmjebdahaaDoorDNone
namespace Go.Proofs.YtjfeepmjebdahaaDoor
open Go.ChangeShapes Go.WideShapes Go.ChangeAt Go.RowKit
set_option linter.unusedVariables false
open Plain Sha
theorem told_no {w : World} {v : Value} (h : NoDk w v) : Calls Tryd.prog 17 #[v] w (Told w []) := by
  rcases h with rfl | ⟨b, rfl, h0, h1, h2, h3, h4⟩
  · go_enter Tryd.func17, Tryd.ntmps17
    go_wp2
    go_ret
    exact ⟨none, 0, 0, rfl, rfl, stands_nil _ _, World.ownsRow_nil _ _ _ _, Nat.le_refl _, by simp [maxLen], Below.refl _ _⟩
  · refine (bytes_zero h0 h3 h4).mono fun e w' hm => ?_
    obtain ⟨A, c, rfl, ho, hb, hc, hc'⟩ := hm.n (n := 0) rfl
    exact ⟨A, 0, c, rfl, rfl, stands_own ho IsBytes.nil (fun k hk => ho.lt k hk), ho, hc, hc', hb⟩
def NoWal (w : World) (v : Value) : Prop := v = .pointer none ∨ ∃ b, v = .pointer (some ⟨b, 0, none⟩) ∧ b < w.heap.size ∧ (w.cell? ⟨b, 0, none⟩ = some (.bool false) ∨ (w.cell? ⟨b, 0, none⟩ = some (.bool true) ∧ ∃ pv, w.cell? ⟨b, 1, none⟩ = some (.pointer pv) ∧ NoDk w (.pointer pv)))
theorem NoWal.below {w w' : World} {v : Value} {B : Nat} (h : NoWal w v) (hb : Below B w w') (hB : w.heap.size ≤ B) : NoWal w' v := by
  rcases h with rfl | ⟨b, rfl, h0, h1⟩
  · exact .inl rfl
  · have hc : ∀ i, w'.cell? ⟨b, i, none⟩ = w.cell? ⟨b, i, none⟩ := fun i => hb.cell (p := ⟨b, i, none⟩) (by show b < B; omega)
    refine .inr ⟨b, rfl, Nat.lt_of_lt_of_le h0 hb.size, ?_⟩
    rcases h1 with h1 | ⟨h1, pv, h2, h3⟩
    · exact .inl ((hc 0).trans h1)
    · exact .inr ⟨(hc 0).trans h1, pv, (hc 1).trans h2, h3.below hb hB⟩
set_option maxRecDepth 100000 in
theorem readyN {w : World} {v : Value} (h : NoWal w v) : Calls Tryd.prog 41 #[v] w (Refused w) := by
  rcases h with rfl | ⟨b, rfl, h0, h1 | ⟨h1, pv, h2, h3⟩⟩
  · go_enter Tryd.func41, Tryd.ntmps41
    go_wp2
    go_ret
    exact ⟨rfl, Below.refl _ _⟩
  · go_enter Tryd.func41, Tryd.ntmps41
    go_wp2
    go_ret
    exact ⟨rfl, Below.refl _ _⟩
  · have C1 := Lib.hid (up_no h3)
    have C2 := Lib.hid (sync_no h3)
    clear h3
    go_enter Tryd.func41, Tryd.ntmps41
    go_wp2_with fail
    refine C1.out.mono ?_
    rintro e w' ⟨rfl, rfl⟩
    go_wp2_with fail
    refine C2.out.mono ?_
    rintro e w' ⟨rfl, hb⟩
    have HB := Lib.hid hb
    clear hb
    go_wp2
    go_ret
    exact ⟨rfl, HB.out⟩
set_option maxRecDepth 100000 in
theorem syncN {w : World} {v : Value} (h : NoWal w v) : Calls Tryd.prog 23 #[v] w (Refused w) := by
  have C1 := Lib.hid (readyN h)
  clear h
  go_enter Tryd.func23, Tryd.ntmps23
  go_wp2_with fail
  refine C1.out.mono ?_
  rintro e w' ⟨rfl, hb⟩
  have HB := Lib.hid hb
  clear hb
  go_wp2
  go_ret
  exact ⟨rfl, HB.out⟩
set_option maxRecDepth 100000 in
theorem addN {w : World} {v : Value} (h : NoWal w v) (A : Option Addr) (n c : Nat) : Calls Tryd.prog 22 #[v, .slice A n c] w (Refused w) := by
  have C1 := Lib.hid (readyN h)
  clear h
  go_enter Tryd.func22, Tryd.ntmps22
  go_wp2_with fail
  refine C1.out.mono ?_
  rintro e w' ⟨rfl, hb⟩
  have HB := Lib.hid hb
  clear hb
  go_wp2
  go_ret
  exact ⟨rfl, HB.out⟩
set_option maxRecDepth 100000 in
theorem recoverN {w : World} {v : Value} (h : NoWal w v) : Calls Tryd.prog 21 #[v] w (fun e w' => e = .returned (.tuple #[.slice none 0 0, .int .i64 0, .int .i64 1]) ∧ Below w.heap.size w w') := by
  have bX : Below w.heap.size w (w.alloc (.cells #[.slice none 0 0] 33)) := (Below.refl _ _).alloc (Nat.le_refl _) _
  have C1 := Lib.hid (readyN (h.below bX (Nat.le_refl _)))
  have HB0 : Hid (Boxed (w.alloc (.cells #[.slice none 0 0] 33)) w.heap.size 33 (.slice none 0 0)) := Lib.hid (Boxed.new w _ _)
  have HbX := Lib.hid bX
  have sX : (w.alloc (.cells #[.slice none 0 0] 33)).heap.size = w.heap.size + 1 := by simp
  have HSX := Lib.hid sX
  clear h bX sX
  go_enter Tryd.func21, Tryd.ntmps21
  go_wp2_with fail
  refine C1.out.mono ?_
  rintro e w1 ⟨rfl, hb⟩
  have e1 : Boxed w1 w.heap.size 33 (.slice none 0 0) := (hb.block _ (by rw [HSX.out]; omega)).trans HB0.out
  have HE := Lib.hid e1
  have HB := Lib.hid (HbX.out.trans (hb.mono (by rw [HSX.out]; omega)))
  have c2 := e1.cell
  have f2 := e1.frozen
  clear hb e1
  go_wp2
  have g2 : (w1.setCell ⟨w.heap.size, 0, none⟩ (.slice none 0 0)).cell? ⟨w.heap.size, 0, none⟩ = some (.slice none 0 0) := (HE.out.set _).cell
  exact bodyPost_ret (v := .tuple #[.slice none 0 0, .int .i64 0, .int .i64 1]) (by simp [results, Tryd.f21, go_sem, g2]) rfl ⟨rfl, HB.out.setCell (Nat.le_refl _) _⟩
theorem recs_nil : recsZ [] = [] := by
  have := recs_join (l := []) (q := []) first_nil (fun z hz => by cases hz)
  exact this
theorem last_nil : lastZ [] 0 = 0 := by
  have := last_join (l := []) (q := []) 0 (Nat.le_refl _) (fun z hz => by cases hz)
  exact this
set_option maxRecDepth 100000 in
theorem recordsN {w : World} {v : Value} (h : NoWal w v) (hF : LaidF w) (hK : LaidK w) : Calls Tryd.prog 11 #[v] w (fun e w' => (∃ A c, e = .returned (.slice A 0 c)) ∧ Below w.heap.size w w') := by
  rcases h with rfl | ⟨b, rfl, h0, h1 | ⟨h1, pv, h2, h3⟩⟩
  · go_enter Tryd.func11, Tryd.ntmps11
    go_wp2
    go_ret
    exact ⟨⟨_, _, rfl⟩, Below.refl _ _⟩
  · clear hF hK
    go_enter Tryd.func11, Tryd.ntmps11
    go_wp2
    go_ret
    exact ⟨⟨_, _, rfl⟩, Below.refl _ _⟩
  · refine (walrecs_gen (bs := []) h1 h2 hF hK (by simp) (fun W hb => told_no (h3.below hb (Nat.le_refl _)))).mono fun e w' ⟨hb, v, ps, e1, ho, _, hz⟩ => ?_
    rw [recs_nil, List.map_eq_nil_iff] at hz
    subst hz
    obtain ⟨A, c, rfl, _, _⟩ := own_shape ho
    exact ⟨⟨A, c, e1⟩, hb⟩
set_option maxRecDepth 100000 in
theorem lastingN {w : World} {v : Value} (h : NoWal w v) (hF : LaidF w) (hK : LaidK w) : Calls Tryd.prog 14 #[v] w (fun e w' => e = .returned (.int .i64 0) ∧ Below w.heap.size w w') := by
  rcases h with rfl | ⟨b, rfl, h0, h1 | ⟨h1, pv, h2, h3⟩⟩
  · go_enter Tryd.func14, Tryd.ntmps14
    go_wp2
    go_ret
    exact ⟨rfl, (Below.refl _ _).alloc (Nat.le_refl _) _⟩
  · clear hF hK
    go_enter Tryd.func14, Tryd.ntmps14
    go_wp2
    go_ret
    exact ⟨rfl, (Below.refl _ _).alloc (Nat.le_refl _) _⟩
  · refine (walast_gen (bs := []) (k := 0) h1 h2 hF hK (by simp) (fun W hb => told_no (h3.below hb (Nat.le_refl _))) (fun W hb => synced_no (h3.below hb (Nat.le_refl _)))).mono fun e w' ⟨e1, hb⟩ => ⟨?_, hb⟩
    rw [e1, last_nil]; rfl
end Go.Proofs.YtjfeepmjebdahaaDoor
