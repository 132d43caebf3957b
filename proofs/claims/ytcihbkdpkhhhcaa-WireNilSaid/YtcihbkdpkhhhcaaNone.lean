/- A writer, a reader that nobody made. -/
import Derived.Test.YtcihbkdpkhhhcaaField
import Derived.Test.YtcihbkdpkhhhcaaTagRd
namespace Go.Proofs.Ytcihbkdpkhhhcaa
open Go.ChangeShapes Go.WideShapes Go.ChangeAt Go.RowKit
set_option linter.unusedVariables false
open Plain
/-- A reader that nobody made. -/
def NoRd (w : World) (p : Value) : Prop := p = .pointer none ∨ ∃ b, p = .pointer (some ⟨b, 0, none⟩) ∧ w.cell? ⟨b, 0, none⟩ = some (.bool false) ∧ w.cell? ⟨b, 2, none⟩ = some (.slice none 0 0)
def NoWr (w : World) (p : Value) : Prop := p = .pointer none ∨ ∃ b, p = .pointer (some ⟨b, 0, none⟩) ∧ w.cell? ⟨b, 0, none⟩ = some (.bool false)
section
variable {w w' : World} {p : Value}
theorem NoRd.grown (h : NoRd w p) (hg : w.grownBy w' none) : NoRd w' p := by
  rcases h with h | ⟨b, h1, h2, h3⟩
  · exact .inl h
  · have e := hg.block b (World.block_lt_of_cell? _ _ h2) (by simp)
    exact .inr ⟨b, h1, (World.cell?_of_block (a := ⟨b, 0, none⟩) e).trans h2, (World.cell?_of_block (a := ⟨b, 2, none⟩) e).trans h3⟩
theorem NoWr.grown (h : NoWr w p) (hg : w.grownBy w' none) : NoWr w' p := by
  rcases h with h | ⟨b, h1, h2⟩
  · exact .inl h
  · have e := hg.block b (World.block_lt_of_cell? _ _ h2) (by simp)
    exact .inr ⟨b, h1, (World.cell?_of_block (a := ⟨b, 0, none⟩) e).trans h2⟩
/-- What a call tells; all that was there stands. -/
def Idle (v : Value) (w : World) (e : Ending) (w' : World) : Prop := e = .returned v ∧ w.grownBy w' none
theorem err_no (h : NoRd w p) : Calls Try.prog 19 #[p] w (Says (.int .i64 1) w) := by
  rcases h with rfl | ⟨b, rfl, h2, h3⟩
  · go_enter Try.func19, Try.ntmps19
    go_wp2
    go_ret
    exact ⟨rfl, rfl⟩
  · go_enter Try.func19, Try.ntmps19
    go_wp2
    go_ret
    exact ⟨rfl, rfl⟩
theorem left_no (h : NoRd w p) : Calls Try.prog 17 #[p] w (Says (.int .i64 0) w) := by
  rcases h with rfl | ⟨b, rfl, h2, h3⟩
  · go_enter Try.func17, Try.ntmps17
    go_wp2
    go_ret
    exact ⟨rfl, rfl⟩
  · go_enter Try.func17, Try.ntmps17
    go_wp2
    go_ret
    exact ⟨rfl, rfl⟩
theorem end_no (h : NoRd w p) : Calls Try.prog 20 #[p] w (Says (.int .i64 1) w) := by
  have HE := Lib.hid (err_no h)
  clear h
  go_enter Try.func20, Try.ntmps20
  go_wp2_with (go_at_call 19; refine HE.out.mono ?_; rintro e w' ⟨rfl, rfl⟩)
  go_ret
  exact ⟨rfl, rfl⟩
theorem byte_no (h : NoRd w p) : Calls Try.prog 22 #[p] w (Says (.int .u8 0) w) := by
  have HC := Lib.hid (take_u8_none p (.func (.func 50) #[] #[]) 1 1 (by omega) w (err_no h))
  clear h
  go_enter Try.func22, Try.ntmps22
  go_wp2_with (go_at_call 49; refine HC.out.mono ?_; rintro e w' ⟨rfl, rfl⟩)
  go_ret
  exact ⟨rfl, rfl⟩
theorem int_no (h : NoRd w p) : Calls Try.prog 23 #[p] w (Says (.int .i64 0) w) := by
  have HC := Lib.hid (take_i_none p (.func (.func 52) #[] #[]) 1 8 (by omega) w (err_no h))
  clear h
  go_enter Try.func23, Try.ntmps23
  go_wp2_with (go_at_call 51; refine HC.out.mono ?_; rintro e w' ⟨rfl, rfl⟩)
  go_ret
  exact ⟨rfl, rfl⟩
theorem flag_no (h : NoRd w p) : Calls Try.prog 24 #[p] w (Says (.bool false) w) := by
  have HC := Lib.hid (take_b_none p (.func (.func 55) #[] #[]) 1 1 (by omega) w (err_no h))
  clear h
  go_enter Try.func24, Try.ntmps24
  go_wp2_with (go_at_call 54; refine HC.out.mono ?_; rintro e w' ⟨rfl, rfl⟩)
  go_ret
  exact ⟨rfl, rfl⟩
theorem length_no (h : NoRd w p) : Calls Try.prog 57 #[p] w (Says (.int .i64 0) w) := by
  have HC := Lib.hid (take_i_none p (.func (.func 72) #[] #[]) 1 4 (by omega) w (err_no h))
  clear h
  go_enter Try.func57, Try.ntmps57
  go_wp2_with (go_at_call 51; refine HC.out.mono ?_; rintro e w' ⟨rfl, rfl⟩)
  go_ret
  exact ⟨rfl, rfl⟩
theorem bytes_no (h : NoRd w p) : Calls Try.prog 25 #[p] w (Says (.slice none 0 0) w) := by
  have HC := Lib.hid (take_l_none p (.func (.func 58) #[] #[]) 1 0 (by omega) w (err_no h))
  have HL := Lib.hid (length_no h)
  clear h
  go_enter Try.func25, Try.ntmps25
  go_wp2_with (first | (go_at_call 57; refine HL.out.mono ?_; rintro e w' ⟨rfl, rfl⟩) | (go_at_call 56; refine HC.out.mono ?_; rintro e w' ⟨rfl, rfl⟩))
  go_ret
  exact ⟨rfl, rfl⟩
theorem text_no (h : NoRd w p) : Calls Try.prog 26 #[p] w (Says (.string { data := #[] }) w) := by
  have HC := Lib.hid (take_s_none p (.func (.func 60) #[] #[]) 1 0 (by omega) w (err_no h))
  have HL := Lib.hid (length_no h)
  clear h
  go_enter Try.func26, Try.ntmps26
  go_wp2_with (first | (go_at_call 57; refine HL.out.mono ?_; rintro e w' ⟨rfl, rfl⟩) | (go_at_call 59; refine HC.out.mono ?_; rintro e w' ⟨rfl, rfl⟩))
  go_ret
  exact ⟨rfl, rfl⟩
theorem count_no (h : NoRd w p) (most : Int) : Calls Try.prog 28 #[p, .int .i64 most] w (Idle (.int .i64 0) w) := by
  obtain ⟨pa, hp⟩ : ∃ pa, p = .pointer pa := by
    rcases h with rfl | ⟨b, rfl, _⟩
    · exact ⟨_, rfl⟩
    · exact ⟨_, rfl⟩
  subst hp
  obtain ⟨W, hW⟩ : ∃ W, (w.alloc (.cells #[.pointer pa] 38)).alloc (.cells #[.int .i64 most] 3) = W := ⟨_, rfl⟩
  have gW : w.grownBy W none := by rw [← hW]; exact grown_trans (grown_alloc _ _ _) (grown_alloc _ _ _)
  have HC := Lib.hid (fun F => take_i_none (.pointer pa) F 1 8 (by omega) W (err_no (h.grown gW)))
  have HW := Lib.hid hW
  have G := Lib.hid gW
  clear hW gW h
  go_enter Try.func28, Try.ntmps28
  go_wp2_with (go_at_call 51; rw [HW.out]; refine (HC.out _).mono ?_; rintro e w' ⟨rfl, rfl⟩)
  go_ret
  exact ⟨rfl, G.out⟩
set_option maxRecDepth 100000 in
set_option maxHeartbeats 1000000 in
theorem tag_no (h : NoRd w p) : Calls Try.prog 27 #[p] w (Idle (.agg (vals ZT).toArray) w) := by
  obtain ⟨W0, hW0⟩ : ∃ W0, w.alloc (.cells (vals ZT).toArray 28) = W0 := ⟨_, rfl⟩
  have R0 : Row8 W0 w.heap.size 0 ZT := by rw [← hW0]; exact Row8.new w ZT _
  have g0 : w.grownBy W0 none := by rw [← hW0]; exact grown_alloc _ _ _
  have s0 : W0.heap.size = w.heap.size + 1 := by rw [← hW0]; simp
  have HC := Lib.hid (fun F => take_t_none p F 1 32 (by omega) W0 (fun w' g => err_no ((h.grown g0).grown g)))
  have HW0 := Lib.hid hW0
  have HR0 := Lib.hid R0
  have HG0 := Lib.hid g0
  clear h hW0 R0 g0
  go_enter Try.func27, Try.ntmps27
  go_wp2_with fail
  refine (show Calls Try.prog _ _ (w.alloc (.cells (vals ZT).toArray 28)) _ from ?_)
  rw [HW0.out]
  refine (HC.out _).mono ?_
  rintro e w2 ⟨rfl, g2⟩
  have R2 : Row8 w2 w.heap.size 0 ZT := HR0.out.same (g2.block _ (by omega) (by simp))
  obtain ⟨a3, g3⟩ := tag_stored (T := ZT) R2 rfl (grown_trans HG0.out g2) (Nat.le_refl _)
  have T3 : Hid (w2.there w.heap.size 0 (vals ZT).toArray.size) := Lib.hid R2.there
  have HI := Lib.hid zt_size
  have A3 := Lib.hid a3
  have G3 := Lib.hid g3
  clear R2 a3 g3 g2
  have G := HI
  go_wp2_with (have g := G; clear g; refine wpList_store_as (op := ⟨none, .store 28 (.tmp 2) (.tmp 4), _, _, _, _⟩) rfl 28 (.tmp 2) (.tmp 4) rfl w.heap.size 0 (vals ZT).toArray rfl rfl T3.out HI.out (all_oneCell_toArray (vals_one ZT)) ?_; intro w5 hw5; clear G)
  have e2 := hw5.out
  have r2 : w5.rangeAt w.heap.size 0 (vals ZT) := by rw [e2]; exact A3.out
  exact bodyPost_ret (v := .agg (vals ZT).toArray) (results_mid (p := 2) (ty := 28) rfl _ _ w.heap.size 0 (vals ZT) _ rfl r2 Try.underlying28 rfl HI.out) rfl ⟨rfl, by rw [e2]; exact G3.out⟩
/-! Writers. -/
theorem put_no (h : NoWr w p) (l : Value) : Calls Try.prog 64 #[p, l] w (Says p w) := by
  rcases h with rfl | ⟨b, rfl, h2⟩
  · go_enter Try.func64, Try.ntmps64
    go_wp2
    go_ret
    exact ⟨rfl, rfl⟩
  · go_enter Try.func64, Try.ntmps64
    go_wp2
    go_ret
    exact ⟨rfl, rfl⟩
theorem done_no (h : NoWr w p) : Calls Try.prog 12 #[p] w (Says (.tuple #[.slice none 0 0, .int .i64 1]) w) := by
  rcases h with rfl | ⟨b, rfl, h2⟩
  · go_enter Try.func12, Try.ntmps12
    go_wp2
    go_ret2
    exact ⟨rfl, rfl⟩
  · go_enter Try.func12, Try.ntmps12
    go_wp2
    go_ret2
    exact ⟨rfl, rfl⟩
theorem byteW_no (h : NoWr w p) (x : Int) : Calls Try.prog 30 #[p, .int .u8 x] w (Idle p w) := by
  obtain ⟨W, hW⟩ : ∃ W, (w.alloc (.cells #[.int .u8 x] 5)).alloc (.cells #[.slice (some ⟨w.heap.size, 0, none⟩) 1 1] 26) = W := ⟨_, rfl⟩
  have G : Hid (w.grownBy W none) := Lib.hid (by rw [← hW]; exact grown_trans (grown_alloc _ _ _) (grown_alloc _ _ _))
  have HC := Lib.hid (fun l => put_no (h.grown G.out) l)
  have HW := Lib.hid hW
  clear h hW
  go_enter Try.func30, Try.ntmps30
  go_wp2_with (go_at_call 64; rw [HW.out]; refine (HC.out _).mono ?_; rintro e w' ⟨rfl, rfl⟩)
  go_ret
  exact ⟨rfl, G.out⟩
theorem flagW_no (h : NoWr w p) (x : Bool) : Calls Try.prog 32 #[p, .bool x] w (Idle p w) := by
  have H1 := Lib.hid (byteW_no h 1)
  have H0 := Lib.hid (byteW_no h 0)
  clear h
  cases x
  · go_enter Try.func32, Try.ntmps32
    go_wp2_with (go_at_call 30; refine H0.out.mono ?_; rintro e w' ⟨rfl, k⟩)
    go_ret
    exact ⟨rfl, k⟩
  · go_enter Try.func32, Try.ntmps32
    go_wp2_with (go_at_call 30; refine H1.out.mono ?_; rintro e w' ⟨rfl, k⟩)
    go_ret
    exact ⟨rfl, k⟩
theorem intW_no (h : NoWr w p) (n : Int) : Calls Try.prog 31 #[p, .int .i64 n] w (Idle p w) := by
  have HP := Lib.hid (put64_any (n % 18446744073709551616) (by omega) (by omega) w)
  have H := Lib.hid h
  clear h
  go_enter Try.func31, Try.ntmps31
  go_wp2_with (go_at_call 65; refine HP.out.mono ?_; intro e w1 hm; obtain ⟨A, c, rfl, ho, hb, _, _⟩ := hm.n (putZ_len ..); clear hm)
  have g1 := grown_trans (grown_of_below hb none) (grown_alloc w1 (.cells #[.slice A 8 c] 26) none)
  refine (put_no (H.out.grown g1) _).mono ?_
  rintro e w' ⟨rfl, rfl⟩
  go_wp2
  go_ret
  exact ⟨rfl, g1⟩
theorem bytesW_no (h : NoWr w p) (A0 : Option Addr) (n c0 : Nat) (hn : n ≤ 140737488355328) : Calls Try.prog 33 #[p, .slice A0 n c0] w (Idle p w) := by
  have HP := Lib.hid (put32_any ((n : Int) % 4294967296) (by omega) (by omega) w)
  have H := Lib.hid h
  clear h
  go_enter Try.func33, Try.ntmps33
  go_wp2_with (go_at_call 66; refine HP.out.mono ?_; intro e w1 hm; obtain ⟨A, c, rfl, ho, hb, _, _⟩ := hm.n (putZ_len ..); clear hm)
  have g1 := grown_trans (grown_of_below hb none) (grown_alloc w1 (.cells #[.slice A 4 c, .slice A0 n c0] 26) none)
  refine (put_no (H.out.grown g1) _).mono ?_
  rintro e w' ⟨rfl, rfl⟩
  go_wp2
  go_ret
  exact ⟨rfl, g1⟩
theorem textW_no (h : NoWr w p) (s : ByteArray) (hs : s.size ≤ 140737488355328) : Calls Try.prog 34 #[p, .string s] w (Idle p w) := by
  have hc := run_toBytes w s
  have gb := grown_of_below (bytesW_below w s) none
  have HC := Lib.hid (fun A c => bytesW_no (h.grown gb) A s.size c hs)
  have G := Lib.hid gb
  clear h gb
  go_enter Try.func34, Try.ntmps34
  go_wp2_with (go_at_call 33; refine (HC.out _ _).mono ?_; rintro e w' ⟨rfl, k⟩)
  go_ret
  exact ⟨rfl, grown_trans G.out k⟩
theorem tagW_no (h : NoWr w p) (T : List Int) (hl : T.length = 32) : Calls Try.prog 35 #[p, .agg (vals T).toArray] w (Idle p w) := by
  obtain ⟨W, hW⟩ : ∃ W, (w.alloc (.cells (vals T).toArray 28)).alloc (.cells #[.slice (some ⟨w.heap.size, 0, none⟩) 32 32] 26) = W := ⟨_, rfl⟩
  have G : Hid (w.grownBy W none) := Lib.hid (by rw [← hW]; exact grown_trans (grown_alloc _ _ _) (grown_alloc _ _ _))
  have HC := Lib.hid (fun l => put_no (h.grown G.out) l)
  have HW := Lib.hid hW
  clear h hW
  go_enter Try.func35, Try.ntmps35
  go_wp2_with (go_at_call 64; rw [HW.out]; refine (HC.out _).mono ?_; rintro e w' ⟨rfl, rfl⟩)
  go_ret
  exact ⟨rfl, G.out⟩
end
set_option maxRecDepth 100000 in
set_option maxHeartbeats 1000000 in
theorem writeN_0 {w : World} {p : Value} (h : NoWr w p) {f : FieldZ} (hk : f.kind = 0) {B : Nat} (hf : FieldOk w B f) (hB : B ≤ w.heap.size) : Calls Try.prog 10 #[p, .agg (fCells f).toArray] w (Idle (.tuple #[]) w) := by
  have hx := boxed_new w f 30
  have G := Lib.hid (grown_alloc w (.cells (fCells f).toArray 30) none)
  have h' := h.grown G.out
  have hf' := hf.grown G.out hB
  obtain ⟨W, hW⟩ : ∃ W, w.alloc (.cells (fCells f).toArray 30) = W := ⟨_, rfl⟩
  rw [hW] at hx G h' hf'
  obtain ⟨kind, n, A, len, cap, zs, T⟩ := f
  simp only at hk
  subst hk
  have c0 := hx.c0
  have c1 := hx.c1
  have c2 := hx.c2
  have CT := Lib.hid hx.tag
  have hbs := hf'.bs
  have hsm := hf'.small
  simp only at c0 c1 c2 hbs hsm
  have HC := Lib.hid (byteW_no h' (n % 256))
  have HW := Lib.hid hW
  clear h h' hf hf' hx hW
  go_enter Try.func10, Try.ntmps10
  go_upto_region 1 with fail
  rw [HW.out]
  go_wp2_with (go_at_call 30; refine HC.out.mono ?_; rintro e w' ⟨rfl, k⟩)
  go_end0
  exact ⟨rfl, grown_trans G.out k⟩
set_option maxRecDepth 100000 in
set_option maxHeartbeats 1000000 in
theorem writeN_1 {w : World} {p : Value} (h : NoWr w p) {f : FieldZ} (hk : f.kind = 1) {B : Nat} (hf : FieldOk w B f) (hB : B ≤ w.heap.size) : Calls Try.prog 10 #[p, .agg (fCells f).toArray] w (Idle (.tuple #[]) w) := by
  have hx := boxed_new w f 30
  have G := Lib.hid (grown_alloc w (.cells (fCells f).toArray 30) none)
  have h' := h.grown G.out
  have hf' := hf.grown G.out hB
  obtain ⟨W, hW⟩ : ∃ W, w.alloc (.cells (fCells f).toArray 30) = W := ⟨_, rfl⟩
  rw [hW] at hx G h' hf'
  obtain ⟨kind, n, A, len, cap, zs, T⟩ := f
  simp only at hk
  subst hk
  have c0 := hx.c0
  have c1 := hx.c1
  have c2 := hx.c2
  have CT := Lib.hid hx.tag
  have hbs := hf'.bs
  have hsm := hf'.small
  simp only at c0 c1 c2 hbs hsm
  have HC := Lib.hid (intW_no h' n)
  have HW := Lib.hid hW
  clear h h' hf hf' hx hW
  go_enter Try.func10, Try.ntmps10
  go_upto_region 1 with fail
  rw [HW.out]
  go_wp2_with (go_at_call 31; refine HC.out.mono ?_; rintro e w' ⟨rfl, k⟩)
  go_end0
  exact ⟨rfl, grown_trans G.out k⟩
set_option maxRecDepth 100000 in
set_option maxHeartbeats 1000000 in
theorem writeN_2 {w : World} {p : Value} (h : NoWr w p) {f : FieldZ} (hk : f.kind = 2) {B : Nat} (hf : FieldOk w B f) (hB : B ≤ w.heap.size) : Calls Try.prog 10 #[p, .agg (fCells f).toArray] w (Idle (.tuple #[]) w) := by
  have hx := boxed_new w f 30
  have G := Lib.hid (grown_alloc w (.cells (fCells f).toArray 30) none)
  have h' := h.grown G.out
  have hf' := hf.grown G.out hB
  obtain ⟨W, hW⟩ : ∃ W, w.alloc (.cells (fCells f).toArray 30) = W := ⟨_, rfl⟩
  rw [hW] at hx G h' hf'
  obtain ⟨kind, n, A, len, cap, zs, T⟩ := f
  simp only at hk
  subst hk
  have c0 := hx.c0
  have c1 := hx.c1
  have c2 := hx.c2
  have CT := Lib.hid hx.tag
  have hbs := hf'.bs
  have hsm := hf'.small
  simp only at c0 c1 c2 hbs hsm
  have HC := Lib.hid (flagW_no h' (oddB n))
  have HO : Hid (oddB n = !(n.tmod 2 == 0)) := Lib.hid rfl
  have HW := Lib.hid hW
  clear h h' hf hf' hx hW
  go_enter Try.func10, Try.ntmps10
  go_upto_region 1 with fail
  rw [HW.out]
  go_wp2_with (go_at_call 32; refine HC.out.mono ?_; rintro e w' ⟨rfl, k⟩)
  go_end0
  exact ⟨rfl, grown_trans G.out k⟩
set_option maxRecDepth 100000 in
set_option maxHeartbeats 1000000 in
theorem writeN_3 {w : World} {p : Value} (h : NoWr w p) {f : FieldZ} (hk : f.kind = 3) {B : Nat} (hf : FieldOk w B f) (hB : B ≤ w.heap.size) : Calls Try.prog 10 #[p, .agg (fCells f).toArray] w (Idle (.tuple #[]) w) := by
  have hx := boxed_new w f 30
  have G := Lib.hid (grown_alloc w (.cells (fCells f).toArray 30) none)
  have h' := h.grown G.out
  have hf' := hf.grown G.out hB
  obtain ⟨W, hW⟩ : ∃ W, w.alloc (.cells (fCells f).toArray 30) = W := ⟨_, rfl⟩
  rw [hW] at hx G h' hf'
  obtain ⟨kind, n, A, len, cap, zs, T⟩ := f
  simp only at hk
  subst hk
  have c0 := hx.c0
  have c1 := hx.c1
  have c2 := hx.c2
  have CT := Lib.hid hx.tag
  have hbs := hf'.bs
  have hsm := hf'.small
  simp only at c0 c1 c2 hbs hsm
  have HC := Lib.hid (bytesW_no h' A len cap hsm)
  have HW := Lib.hid hW
  clear h h' hf hf' hx hW
  go_enter Try.func10, Try.ntmps10
  go_upto_region 1 with fail
  rw [HW.out]
  go_wp2_with (go_at_call 33; refine HC.out.mono ?_; rintro e w' ⟨rfl, k⟩)
  go_end0
  exact ⟨rfl, grown_trans G.out k⟩
set_option maxRecDepth 100000 in
set_option maxHeartbeats 1000000 in
theorem writeN_4 {w : World} {p : Value} (h : NoWr w p) {f : FieldZ} (hk : f.kind = 4) {B : Nat} (hf : FieldOk w B f) (hB : B ≤ w.heap.size) : Calls Try.prog 10 #[p, .agg (fCells f).toArray] w (Idle (.tuple #[]) w) := by
  have hx := boxed_new w f 30
  have G := Lib.hid (grown_alloc w (.cells (fCells f).toArray 30) none)
  have h' := h.grown G.out
  have hf' := hf.grown G.out hB
  obtain ⟨W, hW⟩ : ∃ W, w.alloc (.cells (fCells f).toArray 30) = W := ⟨_, rfl⟩
  rw [hW] at hx G h' hf'
  obtain ⟨kind, n, A, len, cap, zs, T⟩ := f
  simp only at hk
  subst hk
  have c0 := hx.c0
  have c1 := hx.c1
  have c2 := hx.c2
  have CT := Lib.hid hx.tag
  have hbs := hf'.bs
  have hsm := hf'.small
  simp only at c0 c1 c2 hbs hsm
  have hcv := run_str cap hbs
  have HC := Lib.hid (textW_no h' (strOfNums zs) (by rw [strOfNums_size, hbs.len]; exact hsm))
  have HW := Lib.hid hW
  clear h h' hf hf' hx hW
  go_enter Try.func10, Try.ntmps10
  go_upto_region 1 with fail
  rw [HW.out]
  go_wp2_with (go_at_call 34; refine HC.out.mono ?_; rintro e w' ⟨rfl, k⟩)
  go_end0
  exact ⟨rfl, grown_trans G.out k⟩
set_option maxRecDepth 100000 in
set_option maxHeartbeats 1000000 in
theorem writeN_5 {w : World} {p : Value} (h : NoWr w p) {f : FieldZ} (hk : f.kind = 5) {B : Nat} (hf : FieldOk w B f) (hB : B ≤ w.heap.size) : Calls Try.prog 10 #[p, .agg (fCells f).toArray] w (Idle (.tuple #[]) w) := by
  have hx := boxed_new w f 30
  have G := Lib.hid (grown_alloc w (.cells (fCells f).toArray 30) none)
  have h' := h.grown G.out
  have hf' := hf.grown G.out hB
  obtain ⟨W, hW⟩ : ∃ W, w.alloc (.cells (fCells f).toArray 30) = W := ⟨_, rfl⟩
  rw [hW] at hx G h' hf'
  obtain ⟨kind, n, A, len, cap, zs, T⟩ := f
  simp only at hk
  subst hk
  have c0 := hx.c0
  have c1 := hx.c1
  have c2 := hx.c2
  have CT := Lib.hid hx.tag
  have hbs := hf'.bs
  have hsm := hf'.small
  simp only at c0 c1 c2 hbs hsm
  have HC := Lib.hid (tagW_no h' T hf'.tag)
  have HI : Hid ((Try.prog.info? 28).map (·.size) = some (vals T).length) := Lib.hid (tag_size T hf'.tag)
  have HW := Lib.hid hW
  clear h h' hf hf' hx hW
  go_enter Try.func10, Try.ntmps10
  go_upto_region 1 with fail
  rw [HW.out]
  have G2 := HI
  go_wp2_with (first
    | (go_at_call 35; refine HC.out.mono ?_; rintro e w' ⟨rfl, k⟩)
    | (have g2 := G2; clear g2; refine wpList_load_mid (op := ⟨some 44, .load 28 (.tmp 43), _, _, _, _⟩) rfl 28 (.tmp 43) rfl w.heap.size 3 rfl (vals T) _ CT.out Try.underlying28 rfl HI.out ?_; clear G2))
  go_end0
  exact ⟨rfl, grown_trans G.out k⟩
set_option maxRecDepth 100000 in
set_option maxHeartbeats 1000000 in
theorem writeN_9 {w : World} {p : Value} (h : NoWr w p) {f : FieldZ} (hk : f.kind ≠ 0 ∧ f.kind ≠ 1 ∧ f.kind ≠ 2 ∧ f.kind ≠ 3 ∧ f.kind ≠ 4 ∧ f.kind ≠ 5) {B : Nat} (hf : FieldOk w B f) (hB : B ≤ w.heap.size) : Calls Try.prog 10 #[p, .agg (fCells f).toArray] w (Idle (.tuple #[]) w) := by
  have hx := boxed_new w f 30
  have G := Lib.hid (grown_alloc w (.cells (fCells f).toArray 30) none)
  have h' := h.grown G.out
  have hf' := hf.grown G.out hB
  obtain ⟨W, hW⟩ : ∃ W, w.alloc (.cells (fCells f).toArray 30) = W := ⟨_, rfl⟩
  rw [hW] at hx G h' hf'
  obtain ⟨kind, n, A, len, cap, zs, T⟩ := f
  simp only at hk
  obtain ⟨k0, k1, k2, k3, k4, k5⟩ := hk
  have j0 : (kind == 0) = false := by simpa using k0
  have j1 : (kind == 1) = false := by simpa using k1
  have j2 : (kind == 2) = false := by simpa using k2
  have j3 : (kind == 3) = false := by simpa using k3
  have j4 : (kind == 4) = false := by simpa using k4
  have j5 : (kind == 5) = false := by simpa using k5
  have c0 := hx.c0
  have c1 := hx.c1
  have c2 := hx.c2
  have CT := Lib.hid hx.tag
  have hbs := hf'.bs
  have hsm := hf'.small
  simp only at c0 c1 c2 hbs hsm

  have HW := Lib.hid hW
  clear h h' hf hf' hx hW
  go_enter Try.func10, Try.ntmps10
  go_upto_region 1 with fail
  rw [HW.out]
  go_wp2
  go_end0
  exact ⟨rfl, G.out⟩
theorem writeN_any {w : World} {p : Value} (h : NoWr w p) (f : FieldZ) {B : Nat} (hf : FieldOk w B f) (hB : B ≤ w.heap.size) : Calls Try.prog 10 #[p, .agg (fCells f).toArray] w (Idle (.tuple #[]) w) := by
  by_cases k0 : f.kind = 0
  · exact writeN_0 h k0 hf hB
  by_cases k1 : f.kind = 1
  · exact writeN_1 h k1 hf hB
  by_cases k2 : f.kind = 2
  · exact writeN_2 h k2 hf hB
  by_cases k3 : f.kind = 3
  · exact writeN_3 h k3 hf hB
  by_cases k4 : f.kind = 4
  · exact writeN_4 h k4 hf hB
  by_cases k5 : f.kind = 5
  · exact writeN_5 h k5 hf hB
  exact writeN_9 h ⟨k0, k1, k2, k3, k4, k5⟩ hf hB
end Go.Proofs.Ytcihbkdpkhhhcaa
