/- The document's own Take. -/
import Derived.Test.YtnnfcbcjepbjiaaWnD
namespace Go.Proofs.Ytnnfcbcjepbjiaa
open Go.ChangeShapes Go.WideShapes Go.ChangeAt Go.RowKit
set_option linter.unusedVariables false
set_option linter.unusedSimpArgs false
open Plain Sha Wn
/-- What the document's Take does to the window at q. -/
def RTook (q : Nat) (b : Int) (S : List Int) (k n : Int) (w : World) (e : Ending) (w' : World) : Prop :=
  e = .returned (.int .i64 (takeZ b S k n).1) ∧ RBox w' q (takeZ b S k n).2.1 (takeZ b S k n).2.2 ∧ Below q w w'
/-- A number is put behind the others, and the new row is stored. -/
theorem rput_cell {w V : World} {q m : Nat} {b : Int} {S : List Int} {n : Int} (X : RBox w q b S) {A : Option Addr} {c : Nat}
    (hg : (w.alloc (.cells (ivs [n]).toArray 3)).grownBy V (Value.slice A m c).ownBlock) (hA : ∀ r, (Value.slice A m c).ownBlock = some r → q + 1 ≤ r) :
    ∃ v0, V.cell? ⟨q, 1, none⟩ = some v0 ∧ V.frozen? ⟨q, 1, none⟩ = false ∧ q < V.heap.size := by
  have hq := X.lt
  have hb : Below (q + 1) w V := ((Below.refl (q + 1) w).alloc (by omega) _).grown hg (by simp; omega) hA
  obtain ⟨A0, c0, h, _⟩ := X.row
  exact ⟨_, (hb.cell (p := ⟨q, 1, none⟩) (by show q < q + 1; omega)).trans h, (hb.frozen (p := ⟨q, 1, none⟩) (by show q < q + 1; omega)).trans X.f1, Nat.lt_of_lt_of_le hq hb.size⟩
theorem rbox_put {w V W : World} {q m : Nat} {b : Int} {S : List Int} {n : Int} {v : Value} (X : RBox w q b S) (hm : S.length = m) {A : Option Addr} {c : Nat} (ho : V.ownsRow (q + 1) 3 1 v (m + 1) (ivs S ++ ivs [n]))
    (hg : (w.alloc (.cells (ivs [n]).toArray 3)).grownBy V (Value.slice A m c).ownBlock) (hA : ∀ r, (Value.slice A m c).ownBlock = some r → q + 1 ≤ r) (hW : W = V.setCell ⟨q, 1, none⟩ v) (hn : m ≤ 1000) :
    RBox W q b (S ++ [n]) ∧ Below q w W := by
  have hq := X.lt
  rw [← iv_app] at ho
  have hb : Below (q + 1) w V := ((Below.refl (q + 1) w).alloc (by omega) _).grown hg (by simp; omega) hA
  obtain ⟨v0, hc1, hf1, _⟩ := rput_cell X hg hA
  have hc0 : V.cell? ⟨q, 0, none⟩ = some (.int .i64 b) := (hb.cell (p := ⟨q, 0, none⟩) (by show q < q + 1; omega)).trans X.c0
  have hf0 : V.frozen? ⟨q, 0, none⟩ = false := (hb.frozen (p := ⟨q, 0, none⟩) (by show q < q + 1; omega)).trans X.f0
  obtain ⟨A', c', rfl, h1, h2⟩ := own_shape ho
  subst hW hm
  refine ⟨⟨?_, ?_, ?_, A', c', ?_, ?_, ?_, h2⟩, (hb.mono (Nat.le_succ q)).setCell (p := ⟨q, 1, none⟩) (Nat.le_refl _) _⟩
  · rw [World.cell?_setCell_other _ _ _ _ (fun e => by injection e with _ e2; exact absurd e2 (by omega))]; exact hc0
  · rw [World.frozen?_setCell]; exact hf0
  · rw [World.frozen?_setCell]; exact hf1
  · rw [List.length_append]; exact World.cell?_setCell_same _ _ _ hc1
  · rw [List.length_append]
    exact own_keepR ho (fun g h3 h4 => Below.heap_setCell V ⟨q, 1, none⟩ _ g (by show g ≠ q; omega))
  · rw [List.length_append]; exact h1
set_option maxRecDepth 100000 in
set_option maxHeartbeats 4000000 in
theorem rtake_any {w : World} {q : Nat} {b : Int} {S : List Int} (X : RBox w q b S) (hI : WIn b S) (hl : S.length ≤ 1000) {k n : Int} (hk' : InI k) (hn' : InI n) :
    Calls Try.prog 16 #[.pointer (some ⟨q, 0, none⟩), .int .i64 k, .int .i64 n] w (RTook q b S k n w) := by
  unfold RTook
  unfold InI at hk' hn'
  have XH := Lib.hid X
  have IH := Lib.hid hI
  obtain ⟨T, hT⟩ : ∃ T, takeZ b S k n = T := ⟨_, rfl⟩
  rw [hT]
  have c0 := X.c0
  have f0 := X.f0
  have f1 := X.f1
  have htz := top_pos S
  have htm := hI.top
  have hblo := hI.lo
  have hbhi := hI.hi
  by_cases hk : k < 0
  · have e : T = (2, b, S) := by rw [← hT]; unfold takeZ; rw [if_pos (Or.inl hk)]
    subst e
    clear hT X hI
    go_enter Try.func16, Try.ntmps16
    go_wp2
    go_ret
    exact ⟨rfl, XH.out, Below.refl _ _⟩
  by_cases hn : n < 1
  · have e : T = (2, b, S) := by rw [← hT]; unfold takeZ; rw [if_pos (Or.inr hn)]
    subst e
    clear hT X hI
    go_enter Try.func16, Try.ntmps16
    go_wp2
    go_ret
    exact ⟨rfl, XH.out, Below.refl _ _⟩
  by_cases hkb : k < b
  · have e : T = (180, b, S) := by rw [← hT]; unfold takeZ; rw [if_neg (by omega), if_pos hkb]
    subst e
    clear hT X hI
    go_enter Try.func16, Try.ntmps16
    go_wp2
    go_ret
    exact ⟨rfl, XH.out, Below.refl _ _⟩
  by_cases hbk : b < k
  · have e : T = (0, k, [n]) := by rw [← hT]; unfold takeZ; rw [if_neg (by omega), if_neg hkb, if_pos hbk]
    subst e
    obtain ⟨A, c, c1, ho, hc, hm⟩ := X.row
    obtain ⟨W1, hW1⟩ : ∃ W, W = (w.setCell ⟨q, 0, none⟩ (.int .i64 k)).setCell ⟨q, 1, none⟩ (.slice none 0 0) := ⟨_, rfl⟩
    have X1 : RBox W1 q k [] := by
      rw [hW1]
      refine ⟨?_, ?_, ?_, none, 0, ?_, World.ownsRow_nil _ _ _ _, Nat.le_refl _, by simp [maxLen]⟩
      · rw [World.cell?_setCell_other _ _ _ _ (fun e => by injection e with _ e2; exact absurd e2 (by omega))]
        exact World.cell?_setCell_same _ _ _ c0
      · rw [World.frozen?_setCell, World.frozen?_setCell]; exact f0
      · rw [World.frozen?_setCell, World.frozen?_setCell]; exact f1
      · refine World.cell?_setCell_same _ _ _ (u := .slice A S.length c) ?_
        rw [World.cell?_setCell_other _ _ _ _ (fun e => by injection e with _ e2; exact absurd e2 (by omega))]
        exact c1
    have b1 : Below q w W1 := by rw [hW1]; exact ((Below.refl q w).setCell (p := ⟨q, 0, none⟩) (Nat.le_refl _) _).setCell (p := ⟨q, 1, none⟩) (Nat.le_refl _) _
    have X1H := Lib.hid X1
    have B1 := Lib.hid b1
    have HW1 := Lib.hid hW1
    obtain ⟨d0, g0, g1⟩ : W1.cell? ⟨q, 1, none⟩ = some (.slice none 0 0) ∧ W1.frozen? ⟨q, 0, none⟩ = false ∧ W1.frozen? ⟨q, 1, none⟩ = false := by
      refine ⟨?_, X1.f0, X1.f1⟩
      rw [hW1]
      refine World.cell?_setCell_same _ _ _ (u := .slice A S.length c) ?_
      rw [World.cell?_setCell_other _ _ _ _ (fun e => by injection e with _ e2; exact absurd e2 (by omega))]
      exact c1
    have hqs := X1.lt
    have XB := X1H
    have HIR : Hid (Ir W1 W1.heap.size none 0 ([] : List Int)) := Lib.hid Ir.nil
    have HO : Hid (W1.ownsRow (q + 1) 3 1 (.slice none 0 0) 0 (ivs ([] : List Int))) := Lib.hid (World.ownsRow_nil _ _ _ _)
    have HBE := B1
    obtain ⟨TT, hTT⟩ : ∃ TT, TT = ((0 : Int), k, [n]) := ⟨_, rfl⟩
    have HNO : Hid (¬ n ∈ ([] : List Int) → TT = (0, k, ([] : List Int) ++ [n])) := Lib.hid (fun _ => hTT)
    have HYES : Hid (n ∈ ([] : List Int) → TT = (180, k, ([] : List Int))) := Lib.hid (fun h => by simp at h)
    rw [← hTT]
    clear hT X hI ho hc hm hW1 X1 b1 hTT
    go_enter Try.func16, Try.ntmps16
    go_upto_region 8 with fail
    rw [← HW1.out]
    clear c0 c1 f0 f1 htz htm
    have hnm : ¬ n ≤ 0 - 64 := by omega
    go_wp2_with (go_at_call 13; refine (rtop_any X1H.out (by simp)).mono ?_; rw [topZ_nil]; rintro e w2 ⟨rfl, hw2⟩; rw [hw2]; clear hw2 w2)
    go_loopw [7] (fun i wr => ∃ j : Nat, j ≤ 0 ∧ i = .int .i64 j ∧ wr = W1 ∧ Hid (∀ x, x ∈ ([] : List Int).take j → x ≠ n)) (fun i _ => 0 - (intOf i).toNat)
    case atStart => exact ⟨0, by omega, rfl, by first | rfl | trivial, Lib.hid (by simp)⟩
    case round =>
      obtain ⟨j, hj, rfl, rfl, HJ⟩ := hrel
      by_cases hlt : j < 0
      · exact absurd hlt (by omega)
      · have hgeI : ¬ (j : Int) < ((0 : Nat) : Int) := by omega
        have hNO : ¬ n ∈ ([] : List Int) := fun h => HJ.out n (by rw [List.take_of_length_le (by have := HIR.out.len; omega)]; exact h) rfl
        have e := HNO.out hNO
        subst e
        have hqs := XB.out.lt
        have hAB : ∀ r, (Value.slice none 0 0).ownBlock = some r → q + 1 ≤ r := fun r hr => (HO.out.lt r hr).1
        have HAB := Lib.hid hAB
        clear hAB hNO
        go_wp2_with (at_builtin; refine wpList_appA _ rfl (.tmp 60) (.tmp 62) 28 rfl (q + 1) 3 1 8 Try.underlying28 int_info (by omega) (.slice none 0 0) 0 (ivs ([] : List Int)) rfl ((HO.out).alloc _) (some ⟨wr.heap.size, 0, none⟩) 1 1 (ivs [n]) rfl ((ir_new wr [n] 1 rfl 3 _ rfl).lies.1) (fun h => by cases h) (iv_one _) (by unfold maxLen; omega) (by omega) (by simp; omega) ?_; intro v1 w1 ho1 hg1 hb1; obtain ⟨A1, c1, rfl, _, _⟩ := own_shape ho1; obtain ⟨p1, hd1, hd2, hd3⟩ := rput_cell XB.out hg1 HAB.out; have P := Lib.hid (rbox_put XB.out HIR.out.len ho1 hg1 HAB.out rfl (by omega)); clear ho1 hg1 hb1)
        go_ret
        exact ⟨rfl, P.out.1, HBE.out.trans P.out.2⟩
  have ekb : k = b := by omega
  subst ekb
  obtain ⟨tp, htp⟩ : ∃ tp, topZ S = tp := ⟨_, rfl⟩
  rw [htp] at htz htm
  by_cases hnt : n ≤ tp - 64
  · have e : T = (180, k, S) := by rw [← hT]; unfold takeZ; rw [if_neg (by omega), if_neg hkb, if_neg hbk, if_pos (Or.inl (by rw [htp]; exact hnt))]
    subst e
    have HTP := Lib.hid htp
    clear hT X hI htp
    go_enter Try.func16, Try.ntmps16
    go_wp2_with (go_at_call 13; refine (rtop_any XH.out hl).mono ?_; rw [HTP.out]; rintro e w2 ⟨rfl, hw2⟩; rw [hw2]; clear hw2 w2)
    go_ret
    exact ⟨rfl, XH.out, Below.refl _ _⟩
  obtain ⟨A, c, c1, ho, hc, hm⟩ := X.row
  obtain ⟨m, hM⟩ : ∃ m, S.length = m := ⟨_, rfl⟩
  have HTP := Lib.hid htp
  have XB := XH
  have HL := Lib.hid hl
  have HIR : Hid (Ir w w.heap.size A m S) := Lib.hid (hM ▸ ir_of_own ho)
  rw [hM] at c1 ho hl
  have HO := Lib.hid ho
  have HBE := Lib.hid (Below.refl q w)
  have HNO : Hid (¬ n ∈ S → T = (0, k, S ++ [n])) := Lib.hid (fun h => by rw [← hT]; unfold takeZ; rw [if_neg (by omega), if_neg hkb, if_neg hbk, if_neg (by rintro (h' | h'); rw [htp] at h'; exact hnt h'; exact h h')])
  have HYES : Hid (n ∈ S → T = (180, k, S)) := Lib.hid (fun h => by rw [← hT]; unfold takeZ; rw [if_neg (by omega), if_neg hkb, if_neg hbk, if_pos (Or.inr h)])
  clear hT X hI htp hM ho hc hm
  go_enter Try.func16, Try.ntmps16
  go_wp2_with (go_at_call 13; refine (rtop_any XH.out HL.out).mono ?_; rw [HTP.out]; rintro e w2 ⟨rfl, hw2⟩; rw [hw2]; clear hw2 w2)
  go_loopw [7] (fun i wr => ∃ j : Nat, j ≤ m ∧ i = .int .i64 j ∧ wr = w ∧ Hid (∀ x, x ∈ S.take j → x ≠ n)) (fun i _ => m - (intOf i).toNat)
  case atStart => exact ⟨0, by omega, rfl, by first | rfl | trivial, Lib.hid (by simp)⟩
  case round =>
    obtain ⟨j, hj, rfl, rfl, HJ⟩ := hrel
    by_cases hlt : j < m
    · have hltI : (j : Int) < ((m : Nat) : Int) := by omega
      obtain ⟨bb, off, rfl, hb, hc⟩ := HIR.out.at_ hlt
      obtain ⟨z, hz⟩ : ∃ z, S.getD j 0 = z := ⟨_, rfl⟩
      have HZ := Lib.hid hz
      have HAT : Hid (S[j]? = some z) := Lib.hid (by
        have hj' : j < S.length := by have := HIR.out.len; omega
        rw [List.getElem?_eq_getElem hj', ← hz, List.getD_eq_getElem?_getD, List.getElem?_eq_getElem hj']; rfl)
      rw [hz] at hc
      clear hz
      by_cases hzn : z = n
      · subst hzn
        have e := HYES.out (List.mem_of_getElem? HAT.out)
        subst e
        go_wp2
        go_ret
        exact ⟨rfl, XB.out, Below.refl _ _⟩
      · go_wp2
        refine ⟨⟨j + 1, by omega, by congr 1, by trivial, Lib.hid (fun x hx => ?_)⟩, by simp only [intOf]; omega⟩
        rw [List.take_add_one, HAT.out] at hx
        rcases List.mem_append.1 hx with hx | hx
        · exact HJ.out x hx
        · simp only [Option.toList_some, List.mem_singleton] at hx
          subst hx; exact hzn
    · have hgeI : ¬ (j : Int) < ((m : Nat) : Int) := by omega
      have hNO : ¬ n ∈ S := fun h => HJ.out n (by rw [List.take_of_length_le (by have := HIR.out.len; omega)]; exact h) rfl
      have e := HNO.out hNO
      subst e
      have hqs := XB.out.lt
      have hAB : ∀ r, (Value.slice A m c).ownBlock = some r → q + 1 ≤ r := fun r hr => (HO.out.lt r hr).1
      have HAB := Lib.hid hAB
      clear hAB hNO
      go_wp2_with (at_builtin; refine wpList_appA _ rfl (.tmp 60) (.tmp 62) 28 rfl (q + 1) 3 1 8 Try.underlying28 int_info (by omega) (.slice A m c) m (ivs S) rfl ((HO.out).alloc _) (some ⟨wr.heap.size, 0, none⟩) 1 1 (ivs [n]) rfl ((ir_new wr [n] 1 rfl 3 _ rfl).lies.1) (fun h => by cases h) (iv_one _) (by unfold maxLen; omega) (by omega) (by simp; omega) ?_; intro v1 w1 ho1 hg1 hb1; obtain ⟨A1, c1, rfl, _, _⟩ := own_shape ho1; obtain ⟨p1, hd1, hd2, hd3⟩ := rput_cell XB.out hg1 HAB.out; have P := Lib.hid (rbox_put XB.out HIR.out.len ho1 hg1 HAB.out rfl (by omega)); clear ho1 hg1 hb1)
      go_ret
      exact ⟨rfl, P.out.1, HBE.out.trans P.out.2⟩
end Go.Proofs.Ytnnfcbcjepbjiaa
