/- May, Boot, Top; the document's own window: New, Top. -/
import Derived.Test.YtnnfcbcjepbjiaaWnC
import Derived.Test.YtnnfcbcjepbjiaaIvM
namespace Go.Proofs.Ytnnfcbcjepbjiaa
open Go.ChangeShapes Go.WideShapes Go.ChangeAt Go.RowKit
set_option linter.unusedVariables false
set_option linter.unusedSimpArgs false
open Plain Sha Wn
set_option maxRecDepth 100000 in
theorem boot_any {w : World} {p : Nat} {b : Int} {S : List Int} (X : WBox w p (win b S)) : Calls Try.prog 11 #[.pointer (some ⟨p, 0, none⟩)] w (fun e w' => e = .returned (.int .i64 b) ∧ w' = w) := by
  have c1 : w.cell? ⟨p, 1, none⟩ = some (.int .i64 b) := X.c1
  clear X
  go_enter Try.func11, Try.ntmps11
  go_wp2
  go_ret
  exact ⟨rfl, rfl⟩
set_option maxRecDepth 100000 in
theorem top_any {w : World} {p : Nat} {b : Int} {S : List Int} (X : WBox w p (win b S)) : Calls Try.prog 12 #[.pointer (some ⟨p, 0, none⟩)] w (fun e w' => e = .returned (.int .i64 (topZ S)) ∧ w' = w) := by
  have c1 : w.cell? ⟨p, 2, none⟩ = some (.int .i64 (topZ S)) := X.c2
  clear X
  go_enter Try.func12, Try.ntmps12
  go_wp2
  go_ret
  exact ⟨rfl, rfl⟩
set_option maxRecDepth 100000 in
set_option maxHeartbeats 1000000 in
theorem may_any {w : World} {p : Nat} {b : Int} {S : List Int} (X : WBox w p (win b S)) (hI : WIn b S) {k n : Int} (hk' : InI k) (hn' : InI n) :
    Calls Try.prog 14 #[.pointer (some ⟨p, 0, none⟩), .int .i64 k, .int .i64 n] w (fun e w' => e = .returned (.bool ((takeZ b S k n).1 == 0)) ∧ Below w.heap.size w w') := by
  have hT := Lib.hid (fun (v : World) (q : Nat) (Y : WBox v q (win b S)) => take_any (w := v) (p := q) Y hI hk' hn')
  obtain ⟨er, her⟩ : ∃ er, (takeZ b S k n).1 = er := ⟨_, rfl⟩
  obtain ⟨y, hy⟩ : ∃ y, win (takeZ b S k n).2.1 (takeZ b S k n).2.2 = y := ⟨_, rfl⟩
  obtain ⟨x, hx⟩ : ∃ x, win b S = x := ⟨_, rfl⟩
  have HT : Hid (∀ (v : World) (q : Nat), WBox v q x → Calls Try.prog 15 #[.pointer (some ⟨q, 0, none⟩), .int .i64 k, .int .i64 n] v (fun e w' => e = .returned (.int .i64 er) ∧ v.grownBy w' (some q))) := Lib.hid (fun v q Y => (hT.out v q (hx ▸ Y)).mono fun e w' h => ⟨her ▸ h.1, h.2.2⟩)
  rw [her]
  rw [hx] at X
  have XH := Lib.hid X
  have TH := Lib.hid (wthere_new w x 40 _ rfl)
  clear hT her hy hx X hI
  have zk := zWk
  have zs := zWc_size
  have zn := zWc_ne
  go_enter Try.func14, Try.ntmps14
  go_upto_region 4 with (first
      | (show wpList _ _ _ (⟨some 12, .load 40 (.tmp 11), _, _, _, _⟩ :: _) _ _; refine wpList_load_mid rfl 40 (.tmp 11) rfl (p) 0 rfl (wc x) _ (XH.out.range) Try.underlying40 rfl (wn_size x) ?_)
      | (show wpList _ _ _ (⟨none, .store 40 (.tmp 7) (.tmp 12), _, _, _, _⟩ :: _) _ _; refine wpList_store_as rfl 40 (.tmp 7) (.tmp 12) rfl (w.heap.size) 0 (wc x).toArray rfl rfl (TH.out) (wn_sizeA _) (wn_one _) ?_; intro v7 hv7))
  obtain ⟨y7, b7, l7⟩ := wbox_stored rfl hv7
  have Y7 := Lib.hid y7
  have B7 := Lib.hid b7
  clear hv7 y7 b7 zk zs zn TH
  go_wp2_with (go_at_call 15; refine (HT.out _ _ Y7.out).mono ?_; rintro e v8 ⟨rfl, hg⟩; have B8 := Lib.hid (B7.out.trans (gw_below hg (Nat.le_refl _) B7.out.size)); clear hg)
  go_ret
  exact ⟨rfl, B8.out⟩
/-- The document's own window, which stands in block q. -/
structure RBox (w : World) (q : Nat) (b : Int) (S : List Int) : Prop where
  c0 : w.cell? ⟨q, 0, none⟩ = some (.int .i64 b)
  f0 : w.frozen? ⟨q, 0, none⟩ = false
  f1 : w.frozen? ⟨q, 1, none⟩ = false
  row : ∃ A c, w.cell? ⟨q, 1, none⟩ = some (.slice A S.length c) ∧ w.ownsRow (q + 1) 3 1 (.slice A S.length c) S.length (ivs S) ∧ S.length ≤ c ∧ c ≤ maxLen
theorem RBox.lt {w : World} {q : Nat} {b : Int} {S : List Int} (h : RBox w q b S) : q < w.heap.size := World.block_lt_of_cell? _ _ h.c0
theorem own_keepR {w w' : World} {base n size : Nat} {t : TypeId} {v : Value} {xs : List Value} (h : w.ownsRow base t size v n xs) (hk : ∀ g, base ≤ g → g < w.heap.size → w'.heap[g]? = w.heap[g]?) : w'.ownsRow base t size v n xs := by
  have hlt := h.lt
  obtain ⟨h1, h2 | ⟨g, cap, cur, rfl, hg, hh, h3⟩⟩ := h
  · exact ⟨h1, .inl h2⟩
  · have := hlt g rfl
    exact ⟨h1, .inr ⟨g, cap, cur, rfl, hg, (hk g this.1 this.2).trans hh, h3⟩⟩
section
variable {w w' : World} {q : Nat} {b : Int} {S : List Int}
theorem RBox.same (h : RBox w q b S) (hk : ∀ g, q ≤ g → g < w.heap.size → w'.heap[g]? = w.heap[g]?) : RBox w' q b S := by
  have e := hk q (Nat.le_refl _) h.lt
  obtain ⟨A, c, h1, h2, h3⟩ := h.row
  exact ⟨(World.cell?_of_block (a := ⟨q, 0, none⟩) e).trans h.c0, (World.frozen?_of_block (a := ⟨q, 0, none⟩) e).trans h.f0, (World.frozen?_of_block (a := ⟨q, 1, none⟩) e).trans h.f1,
    A, c, (World.cell?_of_block (a := ⟨q, 1, none⟩) e).trans h1, own_keepR h2 (fun g h4 h5 => hk g (by omega) h5), h3⟩
theorem RBox.far {p : Nat} (h : RBox w q b S) (hg : w.grownBy w' (some p)) (hp : p < q) : RBox w' q b S := h.same (fun g h1 h2 => hg.block g h2 (fun e => by injection e with e; omega))
theorem RBox.grow (h : RBox w q b S) (hb : Below w.heap.size w w') : RBox w' q b S := h.same (fun g h1 h2 => hb.block g h2)
theorem RBox.drew (h : RBox w q b S) : RBox w.drew q b S := h.same (fun g h1 h2 => rfl)
end
set_option maxRecDepth 100000 in
theorem rnew_any (w : World) : Calls Try.prog 10 #[] w (fun e w' => e = .returned (.pointer (some ⟨w.heap.size, 0, none⟩)) ∧ RBox w' w.heap.size (-1) [] ∧ Below w.heap.size w w' ∧ w'.heap.size = w.heap.size + 1) := by
  have e := heap_alloc_new w (.cells #[.int .i64 (-1), .slice none 0 0] 30)
  have HR : RBox (w.alloc (.cells #[.int .i64 (-1), .slice none 0 0] 30)) w.heap.size (-1) [] :=
    ⟨by rw [cell_of_row _ _ _ _ _ _ e]; rfl, frozen_of_row _ _ _ _ _ e, frozen_of_row _ _ _ _ _ e, none, 0, by rw [cell_of_row _ _ _ _ _ _ e]; rfl, World.ownsRow_nil _ _ _ _, Nat.le_refl _, by simp [maxLen]⟩
  have hb1 : Below w.heap.size w (w.alloc (.cells #[.int .i64 (-1), .slice none 0 0] 30)) := (Below.refl _ _).alloc (Nat.le_refl _) _
  go_enter Try.func10, Try.ntmps10
  go_wp2
  go_ret
  exact ⟨rfl, HR, hb1, by simp⟩
set_option maxRecDepth 100000 in
set_option maxHeartbeats 1000000 in
theorem rtop_any {w : World} {q : Nat} {b : Int} {S : List Int} (X : RBox w q b S) (hn : S.length ≤ 1000) : Calls Try.prog 13 #[.pointer (some ⟨q, 0, none⟩)] w (fun e w' => e = .returned (.int .i64 (topZ S)) ∧ w' = w) := by
  obtain ⟨A, c, c1, ho, hc, hm⟩ := X.row
  have HI := Lib.hid (ir_of_own ho)
  obtain ⟨n, hN⟩ : ∃ n, S.length = n := ⟨_, rfl⟩
  have L := Lib.hid hN
  obtain ⟨y0, hy0⟩ : ∃ y0, topZ S = y0 := ⟨_, rfl⟩
  have HY := Lib.hid hy0
  rw [hN] at HI c1 hn
  rw [hy0]
  clear ho hc hm hN hy0 X
  go_enter Try.func13, Try.ntmps13
  go_wp2
  go_loopw [3, 4] (fun x i wr => ∃ k : Nat, k ≤ n ∧ i = .int .i64 k ∧ wr = w ∧ ∃ y : Int, x = .int .i64 y ∧ Hid (topZ (S.take k) = y)) (fun _ i _ => n - (intOf i).toNat)
  case atStart => exact ⟨0, by omega, rfl, rfl, 0, rfl, Lib.hid rfl⟩
  case round =>
    obtain ⟨k, hk, rfl, rfl, y, rfl, HT⟩ := hrel
    by_cases hlt : k < n
    · have hltI : (k : Int) < (n : Int) := by omega
      obtain ⟨bb, off, rfl, hb, hc⟩ := HI.out.at_ hlt
      have HS : Hid (topZ (S.take (k + 1)) = max y (S.getD k 0)) := Lib.hid (by
        rw [top_take S k (S.getD k 0) (by rw [List.getD_eq_getElem?_getD, List.getElem?_eq_getElem (by rw [L.out]; exact hlt)]; rfl), HT.out])
      generalize S.getD k 0 = z at *
      by_cases h1 : y < z
      · have HM : Hid (max y z = z) := Lib.hid (by omega)
        go_wp2
        exact ⟨⟨k + 1, by omega, by congr 1, by trivial, z, rfl, Lib.hid (by rw [HS.out, HM.out])⟩, by simp only [intOf]; omega⟩
      · have HM : Hid (max y z = y) := Lib.hid (by omega)
        go_wp2
        exact ⟨⟨k + 1, by omega, by congr 1, by trivial, y, rfl, Lib.hid (by rw [HS.out, HM.out])⟩, by simp only [intOf]; omega⟩
    · have hgeI : ¬ (k : Int) < (n : Int) := by omega
      have e : y = y0 := by
        have := HT.out
        rw [List.take_of_length_le (by rw [L.out]; omega), HY.out] at this
        exact this.symm
      subst e
      go_wp2
      go_ret
      exact ⟨rfl, rfl⟩
end Go.Proofs.Ytnnfcbcjepbjiaa
