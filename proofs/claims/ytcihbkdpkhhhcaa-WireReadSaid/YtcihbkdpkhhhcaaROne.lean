/- A field, read by both readers. -/
import Derived.Test.YtcihbkdpkhhhcaaRrt
import Derived.Test.YtcihbkdpkhhhcaaBack
namespace Go.Proofs.Ytcihbkdpkhhhcaa
open Go.ChangeShapes Go.WideShapes Go.ChangeAt Go.RowKit
set_option linter.unusedVariables false
open Plain
/-- Both readers, in one state. -/
structure Duo (w : World) (rb wb : Nat) (Y : Span) (B : Nat) (s : Int × List Int) : Prop where
  r : Rd w rb Y s.1 s.2
  d : Rr w wb B s
  lt : rb < wb
  le : B ≤ rb
section
variable {w w' : World} {rb wb : Nat} {Y : Span} {B : Nat} {s : Int × List Int}
theorem Duo.grown (h : Duo w rb wb Y B s) {q : Option Nat} (g : w.grownBy w' q) (hq : ∀ k, q = some k → wb < k) : Duo w' rb wb Y B s :=
  ⟨h.r.grown g (fun k hk => by have := hq k hk; have := h.lt; exact ⟨by omega, .inl (by omega)⟩), h.d.grown g (fun k hk => by have := hq k hk; have := h.lt; have := h.le; exact ⟨by omega, by omega⟩), h.lt, h.le⟩
theorem Duo.set (h : Duo w rb wb Y B s) {g : Nat} (hg : wb < g) (j : Nat) (v : Value) : Duo (w.setCell ⟨g, j, none⟩ v) rb wb Y B s :=
  h.grown (grown_cell w ⟨g, j, none⟩ v) (fun k hk => by injection hk with hk; subst hk; exact hg)
def OneSays (w : World) (rb wb : Nat) (Y : Span) (B : Nat) (e : Ending) (w' : World) : Prop := e = .returned (.bool true) ∧ ∃ s, Duo w' rb wb Y B s ∧ Below rb w w'
end
theorem one_end {w W w1 w2 : World} {rb wb : Nat} {Y : Span} {B : Nat} {s0 s : Int × List Int} (h : Duo w rb wb Y B s0) (hG : w.grownBy W none) (r1 : Rd w1 rb Y s.1 s.2) (g1 : W.grownBy w1 (some rb)) (r2 : Rr w2 wb B s) (g2 : w1.grownBy w2 (some wb)) :
    Duo w2 rb wb Y B s ∧ Below rb w w2 := by
  have h1 := h.lt
  have h2 := h.r.lt
  have s1 := hG.size
  have s2 := g1.size
  refine ⟨⟨r1.grown g2 (fun k hk => by injection hk with hk; subst hk; exact ⟨by omega, .inl (by omega)⟩), r2, h.lt, h.le⟩, ?_⟩
  exact ((below_of_grown hG (by omega) (fun k hk => by cases hk)).trans (below_of_grown g1 (by omega) (fun k hk => by injection hk with hk; omega))).trans (below_of_grown g2 (by omega) (fun k hk => by injection hk with hk; omega))
theorem own_keepO {w w' : World} {base n size : Nat} {t : TypeId} {v : Value} {xs : List Value} (h : w.ownsRow base t size v n xs) (hk : ∀ g, base ≤ g → g < w.heap.size → w'.heap[g]? = w.heap[g]?) : w'.ownsRow base t size v n xs := by
  have hlt := h.lt
  obtain ⟨h1, h2 | ⟨g, cap, cur, rfl, hg, hh, h3⟩⟩ := h
  · exact ⟨h1, .inl h2⟩
  · have := hlt g rfl
    exact ⟨h1, .inr ⟨g, cap, cur, rfl, hg, (hk g this.1 this.2).trans hh, h3⟩⟩
theorem eqB_sameO (a : List Int) : eqB a a = true := by simp [eqB]
set_option maxRecDepth 100000 in
set_option maxHeartbeats 2000000 in
theorem one_0 {w : World} {rb wb : Nat} {Y : Span} {B : Nat} {why : Int} {rest : List Int} (h : Duo w rb wb Y B (why, rest)) {f : FieldZ} (hk : f.kind = 0) : Calls Try.prog 16 #[.pointer (some ⟨rb, 0, none⟩), .pointer (some ⟨wb, 0, none⟩), .agg (fCells f).toArray] w (OneSays w rb wb Y B) := by
  have hx := boxed_new w f 30
  have G := Lib.hid (grown_alloc w (.cells (fCells f).toArray 30) none)
  have h' := h.grown G.out (fun k hk => by cases hk)
  have HD := Lib.hid h
  have hr := h.r.lt
  have hd := h.d.lt
  have hlt := h.lt
  have hWs : (w.alloc (.cells (fCells f).toArray 30)).heap.size = w.heap.size + 1 := by simp
  obtain ⟨W, hW⟩ : ∃ W, w.alloc (.cells (fCells f).toArray 30) = W := ⟨_, rfl⟩
  rw [hW] at hx G h' hWs
  obtain ⟨kind, n, A, len, cap, zs, T⟩ := f
  simp only at hk
  subst hk
  have c0 := hx.c0
  have C0 := Lib.hid hx.c0
  have CN := Lib.hid hx.c1
  simp only at c0
  have HW := Lib.hid hW
  have C1 := Lib.hid (byte_rd h'.r)
  have C2 : Hid (∀ w1, W.grownBy w1 (some rb) → Calls Try.prog 43 #[.pointer (some ⟨wb, 0, none⟩)] w1 (RReads w1 wb B (.int .u8 (rByte (why, rest)).1) (rByte (why, rest)).2)) := Lib.hid (fun w1 g => byte_rr (h'.d.grown g (fun k hk => by injection hk with hk; subst hk; exact ⟨by omega, h'.le⟩)))
  obtain ⟨x, hxs⟩ : ∃ x, rByte (why, rest) = x := ⟨_, rfl⟩
  rw [hxs] at C1 C2
  obtain ⟨x, s⟩ := x
  simp only at C1 C2
  clear h h' hx hW hxs
  go_enter Try.func16, Try.ntmps16
  go_upto_region 1 with fail
  rw [HW.out]
  go_wp2_with (first
    | (go_at_call 22; refine C1.out.mono ?_; rintro e w1 ⟨rfl, r1, g1⟩; have C3 := Lib.hid (C2.out w1 g1))
    | (go_at_call 43; refine C3.out.mono ?_; rintro e w2 ⟨rfl, r2, g2⟩))
  go_ret
  exact ⟨by simp, s, one_end HD.out G.out r1 g1 r2 g2⟩
set_option maxRecDepth 100000 in
set_option maxHeartbeats 2000000 in
theorem one_1 {w : World} {rb wb : Nat} {Y : Span} {B : Nat} {why : Int} {rest : List Int} (h : Duo w rb wb Y B (why, rest)) {f : FieldZ} (hk : f.kind = 1) : Calls Try.prog 16 #[.pointer (some ⟨rb, 0, none⟩), .pointer (some ⟨wb, 0, none⟩), .agg (fCells f).toArray] w (OneSays w rb wb Y B) := by
  have hx := boxed_new w f 30
  have G := Lib.hid (grown_alloc w (.cells (fCells f).toArray 30) none)
  have h' := h.grown G.out (fun k hk => by cases hk)
  have HD := Lib.hid h
  have hr := h.r.lt
  have hd := h.d.lt
  have hlt := h.lt
  have hWs : (w.alloc (.cells (fCells f).toArray 30)).heap.size = w.heap.size + 1 := by simp
  obtain ⟨W, hW⟩ : ∃ W, w.alloc (.cells (fCells f).toArray 30) = W := ⟨_, rfl⟩
  rw [hW] at hx G h' hWs
  obtain ⟨kind, n, A, len, cap, zs, T⟩ := f
  simp only at hk
  subst hk
  have c0 := hx.c0
  have C0 := Lib.hid hx.c0
  have CN := Lib.hid hx.c1
  simp only at c0
  have HW := Lib.hid hW
  have C1 := Lib.hid (int_rd h'.r)
  have C2 : Hid (∀ w1, W.grownBy w1 (some rb) → Calls Try.prog 44 #[.pointer (some ⟨wb, 0, none⟩)] w1 (RReads w1 wb B (.int .i64 (rInt (why, rest)).1) (rInt (why, rest)).2)) := Lib.hid (fun w1 g => int_rr (h'.d.grown g (fun k hk => by injection hk with hk; subst hk; exact ⟨by omega, h'.le⟩)))
  obtain ⟨x, hxs⟩ : ∃ x, rInt (why, rest) = x := ⟨_, rfl⟩
  rw [hxs] at C1 C2
  obtain ⟨x, s⟩ := x
  simp only at C1 C2
  clear h h' hx hW hxs
  go_enter Try.func16, Try.ntmps16
  go_upto_region 1 with fail
  rw [HW.out]
  go_wp2_with (first
    | (go_at_call 23; refine C1.out.mono ?_; rintro e w1 ⟨rfl, r1, g1⟩; have C3 := Lib.hid (C2.out w1 g1))
    | (go_at_call 44; refine C3.out.mono ?_; rintro e w2 ⟨rfl, r2, g2⟩))
  go_ret
  exact ⟨by simp, s, one_end HD.out G.out r1 g1 r2 g2⟩
set_option maxRecDepth 100000 in
set_option maxHeartbeats 2000000 in
theorem one_2 {w : World} {rb wb : Nat} {Y : Span} {B : Nat} {why : Int} {rest : List Int} (h : Duo w rb wb Y B (why, rest)) {f : FieldZ} (hk : f.kind = 2) : Calls Try.prog 16 #[.pointer (some ⟨rb, 0, none⟩), .pointer (some ⟨wb, 0, none⟩), .agg (fCells f).toArray] w (OneSays w rb wb Y B) := by
  have hx := boxed_new w f 30
  have G := Lib.hid (grown_alloc w (.cells (fCells f).toArray 30) none)
  have h' := h.grown G.out (fun k hk => by cases hk)
  have HD := Lib.hid h
  have hr := h.r.lt
  have hd := h.d.lt
  have hlt := h.lt
  have hWs : (w.alloc (.cells (fCells f).toArray 30)).heap.size = w.heap.size + 1 := by simp
  obtain ⟨W, hW⟩ : ∃ W, w.alloc (.cells (fCells f).toArray 30) = W := ⟨_, rfl⟩
  rw [hW] at hx G h' hWs
  obtain ⟨kind, n, A, len, cap, zs, T⟩ := f
  simp only at hk
  subst hk
  have c0 := hx.c0
  have C0 := Lib.hid hx.c0
  have CN := Lib.hid hx.c1
  simp only at c0
  have HW := Lib.hid hW
  have C1 := Lib.hid (flag_rd h'.r)
  have C2 : Hid (∀ w1, W.grownBy w1 (some rb) → Calls Try.prog 45 #[.pointer (some ⟨wb, 0, none⟩)] w1 (RReads w1 wb B (.bool (rFlag (why, rest)).1) (rFlag (why, rest)).2)) := Lib.hid (fun w1 g => flag_rr (h'.d.grown g (fun k hk => by injection hk with hk; subst hk; exact ⟨by omega, h'.le⟩)))
  obtain ⟨x, hxs⟩ : ∃ x, rFlag (why, rest) = x := ⟨_, rfl⟩
  rw [hxs] at C1 C2
  obtain ⟨x, s⟩ := x
  simp only at C1 C2
  clear h h' hx hW hxs
  go_enter Try.func16, Try.ntmps16
  go_upto_region 1 with fail
  rw [HW.out]
  go_wp2_with (first
    | (go_at_call 24; refine C1.out.mono ?_; rintro e w1 ⟨rfl, r1, g1⟩; have C3 := Lib.hid (C2.out w1 g1))
    | (go_at_call 45; refine C3.out.mono ?_; rintro e w2 ⟨rfl, r2, g2⟩))
  go_ret
  exact ⟨by simp, s, one_end HD.out G.out r1 g1 r2 g2⟩
set_option maxRecDepth 100000 in
set_option maxHeartbeats 2000000 in
theorem one_6 {w : World} {rb wb : Nat} {Y : Span} {B : Nat} {why : Int} {rest : List Int} (h : Duo w rb wb Y B (why, rest)) {f : FieldZ} (hk : f.kind = 6) : Calls Try.prog 16 #[.pointer (some ⟨rb, 0, none⟩), .pointer (some ⟨wb, 0, none⟩), .agg (fCells f).toArray] w (OneSays w rb wb Y B) := by
  have hx := boxed_new w f 30
  have G := Lib.hid (grown_alloc w (.cells (fCells f).toArray 30) none)
  have h' := h.grown G.out (fun k hk => by cases hk)
  have HD := Lib.hid h
  have hr := h.r.lt
  have hd := h.d.lt
  have hlt := h.lt
  have hWs : (w.alloc (.cells (fCells f).toArray 30)).heap.size = w.heap.size + 1 := by simp
  obtain ⟨W, hW⟩ : ∃ W, w.alloc (.cells (fCells f).toArray 30) = W := ⟨_, rfl⟩
  rw [hW] at hx G h' hWs
  obtain ⟨kind, n, A, len, cap, zs, T⟩ := f
  simp only at hk
  subst hk
  have c0 := hx.c0
  have C0 := Lib.hid hx.c0
  have CN := Lib.hid hx.c1
  simp only at c0
  have HW := Lib.hid hW
  have C1 := Lib.hid (count_rd n h'.r)
  have C2 : Hid (∀ w1, W.grownBy w1 (some rb) → Calls Try.prog 48 #[.pointer (some ⟨wb, 0, none⟩), .int .i64 n] w1 (RReads w1 wb B (.int .i64 (rCount n (why, rest)).1) (rCount n (why, rest)).2)) := Lib.hid (fun w1 g => count_rr (h'.d.grown g (fun k hk => by injection hk with hk; subst hk; exact ⟨by omega, h'.le⟩)) n)
  obtain ⟨x, hxs⟩ : ∃ x, rCount n (why, rest) = x := ⟨_, rfl⟩
  rw [hxs] at C1 C2
  obtain ⟨x, s⟩ := x
  simp only at C1 C2
  have c1 : W.cell? ⟨w.heap.size, 1, none⟩ = some (.int .i64 n) := CN.out
  clear h h' hx hW hxs
  go_enter Try.func16, Try.ntmps16
  go_upto_region 1 with fail
  rw [HW.out]
  go_wp2_with (first
    | (go_at_call 28; refine C1.out.mono ?_; rintro e w1 ⟨rfl, r1, g1⟩; have C3 := Lib.hid (C2.out w1 g1); have c1' : w1.cell? ⟨w.heap.size, 1, none⟩ = some (.int .i64 n) := (World.cell?_of_block (a := ⟨w.heap.size, 1, none⟩) (g1.block w.heap.size (by omega) (fun e => by injection e with e; omega))).trans CN.out)
    | (go_at_call 48; refine C3.out.mono ?_; rintro e w2 ⟨rfl, r2, g2⟩))
  go_ret
  exact ⟨by simp, s, one_end HD.out G.out r1 g1 r2 g2⟩
set_option maxRecDepth 100000 in
set_option maxHeartbeats 2000000 in
theorem one_3 {w : World} {rb wb : Nat} {Y : Span} {B : Nat} {why : Int} {rest : List Int} (h : Duo w rb wb Y B (why, rest)) {f : FieldZ} (hk : f.kind = 3) : Calls Try.prog 16 #[.pointer (some ⟨rb, 0, none⟩), .pointer (some ⟨wb, 0, none⟩), .agg (fCells f).toArray] w (OneSays w rb wb Y B) := by
  have hx := boxed_new w f 30
  have G := Lib.hid (grown_alloc w (.cells (fCells f).toArray 30) none)
  have h' := h.grown G.out (fun k hk => by cases hk)
  have HD := Lib.hid h
  have hr := h.r.lt
  have hd := h.d.lt
  have hlt := h.lt
  have hWs : (w.alloc (.cells (fCells f).toArray 30)).heap.size = w.heap.size + 1 := by simp
  obtain ⟨W, hW⟩ : ∃ W, w.alloc (.cells (fCells f).toArray 30) = W := ⟨_, rfl⟩
  rw [hW] at hx G h' hWs
  obtain ⟨kind, n, A, len, cap, zs, T⟩ := f
  simp only at hk
  subst hk
  have c0 := hx.c0
  have C0 := Lib.hid hx.c0
  have CN := Lib.hid hx.c1
  simp only at c0
  have HW := Lib.hid hW
  have HL := rBytes_good why h'.r.isBytes h'.r.small
  have C1 := Lib.hid (bytes_rd h'.r)
  have C2 : Hid (∀ w1, W.grownBy w1 (some rb) → Calls Try.prog 46 #[.pointer (some ⟨wb, 0, none⟩)] w1 (fun e w' => ∃ x, RReads w1 wb B x (rBytes (why, rest)).2 e w' ∧ IsList x w' w1.heap.size (rBytes (why, rest)).1)) := Lib.hid (fun w1 g => bytes_rr (h'.d.grown g (fun k hk => by injection hk with hk; subst hk; exact ⟨by omega, h'.le⟩)))
  obtain ⟨x, hxs⟩ : ∃ x, rBytes (why, rest) = x := ⟨_, rfl⟩
  rw [hxs] at C1 C2 HL
  obtain ⟨L, s⟩ := x
  simp only at C1 C2 HL
  obtain ⟨hLB, hLs⟩ := HL
  have LB := Lib.hid hLB
  obtain ⟨m, hm⟩ : ∃ m, L.length = m := ⟨_, rfl⟩
  have LM := Lib.hid hm
  rw [hm] at hLs
  have HM : Hid (m ≤ maxLen) := Lib.hid (by unfold maxLen; omega)
  clear h h' hx hW hxs hm hLB
  go_enter Try.func16, Try.ntmps16
  go_upto_region 1 with fail
  rw [HW.out]
  go_wp2_with fail
  refine C1.out.mono ?_
  rintro e w1 ⟨x1, ⟨rfl, r1, g1⟩, l1⟩
  obtain ⟨A1, c1, rfl, o1, hc1, hd1⟩ := l1
  rw [LM.out] at o1 hc1 ⊢
  have C3 := Lib.hid (C2.out w1 g1)
  have s1 := g1.size
  have R1 := Lib.hid r1
  have G1 := Lib.hid g1
  have O1 := Lib.hid o1
  clear r1 g1 o1 C1 C2
  go_upto_region 13 with fail
  go_wp2_with fail
  refine C3.out.mono ?_
  rintro e w2 ⟨x2, ⟨rfl, r2, g2⟩, l2⟩
  obtain ⟨A2, c2, rfl, o2, hc2, hd2⟩ := l2
  rw [LM.out] at o2 hc2 ⊢
  have o1' := own_keepO O1.out (w' := w2) (fun q h1 h2 => g2.block q h2 (fun e => by injection e with e; omega))
  have z1 := bs_of_own o1' LB.out
  have z2 := bs_of_own o2 LB.out
  have C4 := Lib.hid (refsame_any c1 c2 z1 z2 HM.out HM.out)
  rw [eqB_sameO] at C4
  have OW : Hid (Own w2 W.heap.size A1 m c1) := Lib.hid (Own.of o1' LB.out)
  have DD := Lib.hid (one_end HD.out G.out R1.out G1.out r2 g2)
  clear r2 g2 o2 o1' z1 z2 C3 O1 R1 G1
  go_wp2_with (go_at_call 13; refine C4.out.mono ?_; rintro e w3 ⟨rfl, m3, rfl⟩)
  have O3 : Hid (Own (w2.drewN m3) W.heap.size A1 m c1) := Lib.hid OW.out
  have D3 : Hid (Duo (w2.drewN m3) rb wb Y B s ∧ Below rb w (w2.drewN m3)) := Lib.hid ⟨DD.out.1.grown (Go.Proofs.Ytcihbkdpkhhhcaa.grown_drewN w2 m3 none) (fun k hk => by cases hk), below_drewN DD.out.2 m3⟩
  obtain ⟨base, hbase⟩ : ∃ base, W.heap.size = base := ⟨_, rfl⟩
  rw [hbase] at O3 hWs
  clear OW DD C4 hbase
  go_loopw [12] (fun i wx => ∃ j : Nat, j ≤ m ∧ i = .int .i64 (j : Int) ∧ Hid (Own wx base A1 m c1) ∧ Hid (Duo wx rb wb Y B s ∧ Below rb w wx)) (fun i _ => m - (intOf i).toNat)
  case atStart => exact ⟨0, by omega, rfl, O3, D3⟩
  case round =>
    clear O3 D3
    obtain ⟨j, hj, rfl, O4, D4⟩ := hrel
    by_cases hltj : j < m
    · obtain ⟨g2, u, rfl, hg1, hg2, hu0, hu1, hcc, hff, HSS⟩ := O4.out.at_ hltj
      have hjI : (j : Int) < (m : Int) := by omega
      have HX : Hid (∀ v, Duo (wr.setCell ⟨g2, j, none⟩ v) rb wb Y B s ∧ Below rb w (wr.setCell ⟨g2, j, none⟩ v)) := Lib.hid (fun v => ⟨D4.out.1.set (by omega) j v, D4.out.2.setCell (by show rb ≤ g2; omega) v⟩)
      go_wp2
      go_roundw
      case rel => exact ⟨j + 1, by omega, by go_num, Lib.hid (HSS.out _ (by omega) (by omega)), Lib.hid (HX.out _)⟩
      case measure => simp [intOf]; omega
    · obtain rfl : j = m := by omega
      go_wp2
      go_ret
      exact ⟨rfl, s, D4.out⟩
set_option maxRecDepth 100000 in
set_option maxHeartbeats 2000000 in
theorem one_4 {w : World} {rb wb : Nat} {Y : Span} {B : Nat} {why : Int} {rest : List Int} (h : Duo w rb wb Y B (why, rest)) {f : FieldZ} (hk : f.kind = 4) : Calls Try.prog 16 #[.pointer (some ⟨rb, 0, none⟩), .pointer (some ⟨wb, 0, none⟩), .agg (fCells f).toArray] w (OneSays w rb wb Y B) := by
  have hx := boxed_new w f 30
  have G := Lib.hid (grown_alloc w (.cells (fCells f).toArray 30) none)
  have h' := h.grown G.out (fun k hk => by cases hk)
  have HD := Lib.hid h
  have hr := h.r.lt
  have hd := h.d.lt
  have hlt := h.lt
  have hWs : (w.alloc (.cells (fCells f).toArray 30)).heap.size = w.heap.size + 1 := by simp
  obtain ⟨W, hW⟩ : ∃ W, w.alloc (.cells (fCells f).toArray 30) = W := ⟨_, rfl⟩
  rw [hW] at hx G h' hWs
  obtain ⟨kind, n, A, len, cap, zs, T⟩ := f
  simp only at hk
  subst hk
  have c0 := hx.c0
  have C0 := Lib.hid hx.c0
  have CN := Lib.hid hx.c1
  simp only at c0
  have HW := Lib.hid hW
  have HL := rBytes_good why h'.r.isBytes h'.r.small
  have C1 := Lib.hid (text_rd h'.r)
  have C2 : Hid (∀ w1, W.grownBy w1 (some rb) → Calls Try.prog 46 #[.pointer (some ⟨wb, 0, none⟩)] w1 (fun e w' => ∃ x, RReads w1 wb B x (rBytes (why, rest)).2 e w' ∧ IsList x w' w1.heap.size (rBytes (why, rest)).1)) := Lib.hid (fun w1 g => bytes_rr (h'.d.grown g (fun k hk => by injection hk with hk; subst hk; exact ⟨by omega, h'.le⟩)))
  obtain ⟨x, hxs⟩ : ∃ x, rBytes (why, rest) = x := ⟨_, rfl⟩
  rw [hxs] at C1 C2 HL
  obtain ⟨L, s⟩ := x
  simp only at C1 C2 HL
  have LB := Lib.hid HL.1
  clear h h' hx hW hxs HL
  go_enter Try.func16, Try.ntmps16
  go_upto_region 1 with fail
  rw [HW.out]
  go_wp2_with (first
    | (go_at_call 26; refine C1.out.mono ?_; rintro e w1 ⟨rfl, r1, g1⟩; have C3 := Lib.hid (C2.out w1 g1))
    | (go_at_call 46; refine C3.out.mono ?_; rintro e w2 ⟨x2, ⟨rfl, r2, g2⟩, l2⟩; obtain ⟨A2, c2, rfl, o2, hc2, hd2⟩ := l2; have v2 := run_str c2 (bs_of_own o2 LB.out)))
  go_ret
  exact ⟨by simp, s, one_end HD.out G.out r1 g1 r2 g2⟩
set_option maxRecDepth 100000 in
set_option maxHeartbeats 2000000 in
theorem one_5 {w : World} {rb wb : Nat} {Y : Span} {B : Nat} {why : Int} {rest : List Int} (h : Duo w rb wb Y B (why, rest)) {f : FieldZ} (hk : f.kind = 5) : Calls Try.prog 16 #[.pointer (some ⟨rb, 0, none⟩), .pointer (some ⟨wb, 0, none⟩), .agg (fCells f).toArray] w (OneSays w rb wb Y B) := by
  have hx := boxed_new w f 30
  have G := Lib.hid (grown_alloc w (.cells (fCells f).toArray 30) none)
  have h' := h.grown G.out (fun k hk => by cases hk)
  have HD := Lib.hid h
  have hr := h.r.lt
  have hd := h.d.lt
  have hlt := h.lt
  have hWs : (w.alloc (.cells (fCells f).toArray 30)).heap.size = w.heap.size + 1 := by simp
  obtain ⟨W, hW⟩ : ∃ W, w.alloc (.cells (fCells f).toArray 30) = W := ⟨_, rfl⟩
  rw [hW] at hx G h' hWs
  obtain ⟨kind, n, A, len, cap, zs, T⟩ := f
  simp only at hk
  subst hk
  have c0 := hx.c0
  have C0 := Lib.hid hx.c0
  have CN := Lib.hid hx.c1
  simp only at c0
  have HW := Lib.hid hW
  have C1 := Lib.hid (tag_rd h'.r)
  have HL := Lib.hid (rTag_len (why, rest))
  have C2 : Hid (∀ w1, Rr w1 wb B (why, rest) → Calls Try.prog 47 #[.pointer (some ⟨wb, 0, none⟩)] w1 (RReads w1 wb B (.agg (vals (rTag (why, rest)).1).toArray) (rTag (why, rest)).2)) := Lib.hid (fun w1 g => tag_rr g)
  obtain ⟨x, hxs⟩ : ∃ x, rTag (why, rest) = x := ⟨_, rfl⟩
  rw [hxs] at C1 C2 HL
  obtain ⟨T5, s⟩ := x
  simp only at C1 C2 HL
  have HD' := Lib.hid h'
  have hq := run_tagEq T5 T5 HL.out HL.out
  rw [eqB_sameO] at hq
  clear h h' hx hW hxs
  go_enter Try.func16, Try.ntmps16
  go_upto_region 1 with fail
  rw [HW.out]
  go_upto_region 23 with fail
  go_wp2_with fail
  refine C1.out.mono ?_
  rintro e w1 ⟨rfl, r1, g1⟩
  have R1 := Lib.hid r1
  have G1 := Lib.hid g1
  have s1 := g1.size
  have Q1 : Hid (Rr w1 wb B (why, rest)) := Lib.hid (HD'.out.d.grown g1 (fun k hk => by injection hk with hk; subst hk; exact ⟨by omega, HD'.out.le⟩))
  clear r1 g1 C1
  have G5 := HL
  go_upto_region 24 with (have g := G5; clear g; refine wpList_store_as (op := ⟨none, .store 28 (.tmp 14) (.tmp 75), _, _, _, _⟩) rfl 28 (.tmp 14) (.tmp 75) rfl w1.heap.size 0 (vals T5).toArray rfl rfl (tag_there w1 T5 HL.out) (tag_size T5 HL.out) (all_oneCell_toArray (vals_one T5)) ?_; intro w2 hw2; clear G5)
  obtain ⟨t2, b2, s2⟩ := stored_tag HL.out hw2
  have T2 := Lib.hid t2
  have B2 := Lib.hid b2
  have C3 := Lib.hid (C2.out w2.drew (((Q1.out.below b2 (by omega)).keep rfl (fun _ _ => rfl))))
  have hi := tag_size T5 HL.out
  have hu := Try.underlying28
  clear t2 b2 hw2 Q1
  go_region_held3 (fun w' => w'.rangeAt w1.heap.size 0 (vals T5))
    (first
      | (exact T2.out)
      | (exact d3))
    ((first
      | (go_at_call 47; refine C3.out.mono ?_; rintro e w3 ⟨rfl, r3, g3⟩; have d3 : w3.rangeAt w1.heap.size 0 (vals T5) := rangeAt_same T2.out (g3.block w1.heap.size (by show w1.heap.size < w2.heap.size; omega) (fun e => by injection e with e; omega)))))
  go_wp2
  go_ret
  refine ⟨by simp, s, one_end HD.out G.out (w1 := w2.drew) (R1.out.below (B' := w1.heap.size) (B2.out.drew) (by omega)) ?_ r3 g3⟩
  exact grown_trans G1.out (grown_of_below B2.out.drew _)
set_option maxRecDepth 100000 in
set_option maxHeartbeats 2000000 in
theorem one_9 {w : World} {rb wb : Nat} {Y : Span} {B : Nat} {why : Int} {rest : List Int} (h : Duo w rb wb Y B (why, rest)) {f : FieldZ} (hk : f.kind ≠ 0 ∧ f.kind ≠ 1 ∧ f.kind ≠ 2 ∧ f.kind ≠ 3 ∧ f.kind ≠ 4 ∧ f.kind ≠ 5 ∧ f.kind ≠ 6) : Calls Try.prog 16 #[.pointer (some ⟨rb, 0, none⟩), .pointer (some ⟨wb, 0, none⟩), .agg (fCells f).toArray] w (OneSays w rb wb Y B) := by
  have hx := boxed_new w f 30
  have G := Lib.hid (grown_alloc w (.cells (fCells f).toArray 30) none)
  have h' := h.grown G.out (fun k hk => by cases hk)
  have HD := Lib.hid h
  have hr := h.r.lt
  have hd := h.d.lt
  have hlt := h.lt
  have hWs : (w.alloc (.cells (fCells f).toArray 30)).heap.size = w.heap.size + 1 := by simp
  obtain ⟨W, hW⟩ : ∃ W, w.alloc (.cells (fCells f).toArray 30) = W := ⟨_, rfl⟩
  rw [hW] at hx G h' hWs
  obtain ⟨kind, n, A, len, cap, zs, T⟩ := f
  simp only at hk
  obtain ⟨k0, k1, k2, k3, k4, k5, k6⟩ := hk
  have j0 : (kind == 0) = false := by simpa using k0
  have j1 : (kind == 1) = false := by simpa using k1
  have j2 : (kind == 2) = false := by simpa using k2
  have j3 : (kind == 3) = false := by simpa using k3
  have j4 : (kind == 4) = false := by simpa using k4
  have j5 : (kind == 5) = false := by simpa using k5
  have j6 : (kind == 6) = false := by simpa using k6
  have c0 := hx.c0
  have C0 := Lib.hid hx.c0
  have CN := Lib.hid hx.c1
  simp only at c0
  have HW := Lib.hid hW
  have HN := Lib.hid h'
  clear h h' hx hW
  go_enter Try.func16, Try.ntmps16
  go_upto_region 1 with fail
  rw [HW.out]
  go_wp2
  go_ret
  exact ⟨rfl, _, HN.out, below_of_grown G.out (by omega) (fun k hk => by cases hk)⟩
theorem one_any {w : World} {rb wb : Nat} {Y : Span} {B : Nat} {why : Int} {rest : List Int} (h : Duo w rb wb Y B (why, rest)) (f : FieldZ) : Calls Try.prog 16 #[.pointer (some ⟨rb, 0, none⟩), .pointer (some ⟨wb, 0, none⟩), .agg (fCells f).toArray] w (OneSays w rb wb Y B) := by
  by_cases k0 : f.kind = 0
  · exact one_0 h k0
  by_cases k1 : f.kind = 1
  · exact one_1 h k1
  by_cases k2 : f.kind = 2
  · exact one_2 h k2
  by_cases k3 : f.kind = 3
  · exact one_3 h k3
  by_cases k4 : f.kind = 4
  · exact one_4 h k4
  by_cases k5 : f.kind = 5
  · exact one_5 h k5
  by_cases k6 : f.kind = 6
  · exact one_6 h k6
  exact one_9 h ⟨k0, k1, k2, k3, k4, k5, k6⟩
end Go.Proofs.Ytcihbkdpkhhhcaa
