/- A share more: the program's Reserve. -/
import Derived.Test.YtpodpbhbagkblaaQtH
namespace Go.Proofs.Ytpodpbhbagkblaa
open Go.ChangeShapes Go.WideShapes Go.ChangeAt Go.RowKit
set_option linter.unusedVariables false
set_option linter.unusedSimpArgs false
open Plain Qt
theorem insert_anyQ {w : World} {base n d vb : Nat} {D : Option Addr} {l : List ShZ} (i : Nat) (x : ShZ) (ho : w.ownsRow base 27 3 (.slice D n d) n (svs l)) (hbase : base ≤ w.heap.size) (hi : i ≤ n) (hn : n ≤ 8)
    (hv : w.heap[vb]? = some (.cells #[.int .i64 x.t, .int .i64 x.k, .int .i64 x.s] 27 (0, 0))) (hne : ∀ g, (Value.slice D n d).ownBlock = some g → vb ≠ g) {L : List ShZ} (hL : l.take i ++ x :: l.drop i = L) :
    Calls Try.prog 29 #[.slice D n d, .int .i64 i, .slice (some ⟨vb, 0, none⟩) 1 1] w (InsQ base (n + 1) L w) := by
  have hl : l.length = n := by have := ho.1; rw [svs_len] at this; omega
  subst hL
  by_cases he : i = n
  · subst he
    rw [List.take_of_length_le (by omega), List.drop_eq_nil_of_le (by omega)]
    exact insert_end x ho hbase hn hv
  · have hi : i < n := by omega
    obtain ⟨g, cap, hD, hg, _⟩ := ho.form (by omega)
    injection hD with e1 e2 e3
    subst e1
    by_cases hc : n + 1 ≤ d
    · exact insert_room x ho hi hn hc (hne g rfl) hv
    · exact insert_grow x ho hbase hi hn (by omega) hv
/-- Shares and a number that a call hands back: the shares are in new memory; nothing that was there has turned. -/
def GivesQ (w : World) (r : List ShZ × Int) (e : Ending) (w' : World) : Prop :=
  ∃ N D d, e = .returned (.tuple #[.slice D N d, .int .i64 r.2]) ∧ w'.ownsRow w.heap.size 27 3 (.slice D N d) N (svs r.1) ∧ Below w.heap.size w w'
theorem givesQ_err {w w' : World} {r : List ShZ × Int} {e : Int} (hr : r = ([], e)) (hb : Below w.heap.size w w') : GivesQ w r (.returned (.tuple #[.slice none 0 0, .int .i64 e])) w' := by
  subst hr
  exact ⟨0, none, 0, rfl, World.ownsRow_nil _ _ _ _, hb⟩
set_option maxRecDepth 100000 in
set_option maxHeartbeats 2000000 in
theorem reserve_bad {w : World} {B n c : Nat} {A : Option Addr} {l : List ShZ} (x : ShZ) (r : List ShZ × Int) (h : Shs w B A n l) (hB : B ≤ w.heap.size) (hn : n ≤ maxLen) (hb : (mayB l && shB x) = false) (hr : resR l x = r) :
    Calls Try.prog 11 #[.slice A n c, .agg #[.int .i64 x.t, .int .i64 x.k, .int .i64 x.s]] w (GivesQ w r) := by
  have E1 : Hid (r = ([], 2)) := Lib.hid (by rw [← hr]; unfold resR; rw [hb]; rfl)
  obtain ⟨t, k, s⟩ := x
  show Calls Try.prog 11 #[.slice A n c, .agg #[.int .i64 t, .int .i64 k, .int .i64 s]] w (GivesQ w r)
  obtain ⟨W1, hW1⟩ : ∃ W, W = w.alloc (.cells #[.int .i64 t, .int .i64 k, .int .i64 s] 27) := ⟨_, rfl⟩
  have b1 := Lib.hid (show Below w.heap.size w W1 by rw [hW1]; exact below_oneQ _ _)
  have X1 := Lib.hid (show QBox W1 w.heap.size t k s by rw [hW1]; exact qbox_new _ _ _ _ _ _ rfl)
  have HW1 := Lib.hid hW1
  obtain ⟨m, hm⟩ : ∃ m, mayB l = m := ⟨_, rfl⟩
  have MM := Lib.hid (may_anyQ c m (h.below b1.out hB) (Nat.le_trans hB b1.out.size) hn hm)
  rw [hm] at hb
  clear hW1 h hr hm
  cases m with
  | false =>
    clear hb
    go_enter Try.func11, Try.ntmps11
    go_upto_region 1 with fail
    rw [← HW1.out]
    go_wp2_with (go_at_call 19; refine MM.out.mono ?_; rintro e w5 ⟨rfl, b5⟩; have B5 := Lib.hid (b1.out.trans (b5.mono b1.out.size)); clear b5)
    go_ret2
    exact givesQ_err E1.out B5.out
  | true =>
    have SM := Lib.hid (isshare_val t k s false (by simpa using hb))
    clear hb
    go_enter Try.func11, Try.ntmps11
    go_upto_region 1 with fail
    rw [← HW1.out]
    go_wp2_with (first
      | (go_at_call 19; refine MM.out.mono ?_; rintro e w5 ⟨rfl, b5⟩; have B5 := Lib.hid (b1.out.trans (b5.mono b1.out.size)); obtain ⟨h4, h5, h6⟩ := X1.out.grow b5; clear b5)
      | (go_at_call 21; refine (SM.out _).mono ?_; rintro e w6 ⟨rfl, b6⟩; have B6 := Lib.hid (B5.out.trans (b6.mono B5.out.size)); clear b6)
      | fail)
    go_ret2
    exact givesQ_err E1.out B6.out
set_option maxRecDepth 100000 in
set_option maxHeartbeats 2000000 in
theorem reserve_has {w : World} {B n c : Nat} {A : Option Addr} {l : List ShZ} (x : ShZ) (r : List ShZ × Int) (h : Shs w B A n l) (hB : B ≤ w.heap.size) (hn : n ≤ maxLen) (hm : mayB l = true) (hx : shB x = true) (y : ShZ) (ho : ofR l x.t = some y) (hr : resR l x = r) :
    Calls Try.prog 11 #[.slice A n c, .agg #[.int .i64 x.t, .int .i64 x.k, .int .i64 x.s]] w (GivesQ w r) := by
  have E1 : Hid (r = ([], 161)) := Lib.hid (by rw [← hr]; unfold resR; rw [hm, hx, ho]; rfl)
  obtain ⟨t, k, s⟩ := x
  show Calls Try.prog 11 #[.slice A n c, .agg #[.int .i64 t, .int .i64 k, .int .i64 s]] w (GivesQ w r)
  obtain ⟨W1, hW1⟩ : ∃ W, W = w.alloc (.cells #[.int .i64 t, .int .i64 k, .int .i64 s] 27) := ⟨_, rfl⟩
  have b1 := Lib.hid (show Below w.heap.size w W1 by rw [hW1]; exact below_oneQ _ _)
  have X1 := Lib.hid (show QBox W1 w.heap.size t k s by rw [hW1]; exact qbox_new _ _ _ _ _ _ rfl)
  have HW1 := Lib.hid hW1
  have MM := Lib.hid (may_anyQ c true (h.below b1.out hB) (Nat.le_trans hB b1.out.size) hn hm)
  have SM := Lib.hid (isshare_val t k s true hx)
  have OM := Lib.hid (fun (V : World) (hV : Below w.heap.size w V) => of_anyQ (w := V) c t (some y) (h.below hV hB) (Nat.le_trans hB hV.size) hn ho)
  have HC := Lib.hid (fun (V : World) (hV : Below W1.heap.size W1 V) => X1.out.grow hV)
  clear hW1 h hr hm hx ho
  unfold ofV at OM
  simp only [Option.getD_some, Option.isSome_some] at OM
  go_enter Try.func11, Try.ntmps11
  go_upto_region 1 with fail
  rw [← HW1.out]
  go_wp2_with (first
    | (go_at_call 19; refine MM.out.mono ?_; rintro e w5 ⟨rfl, b5⟩; have B5 := Lib.hid b5; obtain ⟨h4, h5, h6⟩ := HC.out _ b5; clear b5)
    | (go_at_call 21; refine (SM.out _).mono ?_; rintro e w6 ⟨rfl, b6⟩; have b6' := B5.out.trans (b6.mono B5.out.size); have B6 := Lib.hid b6'; obtain ⟨h7, h8, h9⟩ := HC.out _ b6'; clear b6 b6')
    | (go_at_call 15; refine (OM.out _ (b1.out.trans (B6.out.mono b1.out.size))).mono ?_; rintro e w7 ⟨rfl, b7⟩; have B7 := Lib.hid (b1.out.trans ((B6.out.trans (b7.mono B6.out.size)).mono b1.out.size)); clear b7)
    | fail)
  go_ret2
  exact givesQ_err E1.out (B7.out.alloc B7.out.size _)
end Go.Proofs.Ytpodpbhbagkblaa
