/- Fields as values; a field is written. -/
import Derived.Test.YtcihbkdpkhhhcaaTagRW
import Derived.Test.YtcihbkdpkhhhcaaMore
namespace Go.Proofs.Ytcihbkdpkhhhcaa
open Go.ChangeShapes Go.WideShapes Go.ChangeAt Go.RowKit
set_option linter.unusedVariables false
open Plain
/-- A field as it is handed in: its kind, its number, its bytes and where they stand, its tag. -/
structure FieldZ where
  kind : Int
  n : Int
  A : Option Addr
  len : Nat
  cap : Nat
  zs : List Int
  tag : List Int
def fHead (f : FieldZ) : List Value := [.int .i64 f.kind, .int .i64 f.n, .slice f.A f.len f.cap]
def fCells (f : FieldZ) : List Value := fHead f ++ vals f.tag
structure FieldOk (w : World) (B : Nat) (f : FieldZ) : Prop where
  kind : -9223372036854775808 ≤ f.kind ∧ f.kind ≤ 9223372036854775807
  n : -9223372036854775808 ≤ f.n ∧ f.n ≤ 9223372036854775807
  bs : Bs w B f.A f.len f.zs
  cap : f.len ≤ f.cap
  max : f.cap ≤ maxLen
  small : f.len ≤ 140737488355328
  tag : f.tag.length = 32
  bytes : IsBytes f.tag
theorem FieldOk.below {w w' : World} {B : Nat} {f : FieldZ} (h : FieldOk w B f) (hb : Below B w w') : FieldOk w' B f := ⟨h.kind, h.n, h.bs.below hb, h.cap, h.max, h.small, h.tag, h.bytes⟩
theorem FieldOk.grown {w w' : World} {B : Nat} {f : FieldZ} (h : FieldOk w B f) (hb : w.grownBy w' none) (hB : B ≤ w.heap.size) : FieldOk w' B f := h.below (below_of_grown hb hB (fun k hk => by cases hk))
theorem fCells_len {f : FieldZ} (h : f.tag.length = 32) : (fCells f).length = 35 := by unfold fCells fHead; rw [List.length_append, vals_len, h]; rfl
/-- Is a number odd, as the program asks? -/
def oddB (n : Int) : Bool := !(n.tmod 2 == 0)
/-- What a field comes to. -/
def fieldB (f : FieldZ) : List Int :=
  if f.kind = 0 then [f.n % 256] else if f.kind = 1 then n64 f.n else if f.kind = 2 then [if oddB f.n then 1 else 0] else if f.kind = 3 then bytesF f.zs else if f.kind = 4 then bytesF f.zs else if f.kind = 5 then f.tag else []
/-- A field in a block of its own. -/
structure Boxed (w : World) (g : Nat) (f : FieldZ) : Prop where
  c0 : w.cell? ⟨g, 0, none⟩ = some (.int .i64 f.kind)
  c1 : w.cell? ⟨g, 1, none⟩ = some (.int .i64 f.n)
  c2 : w.cell? ⟨g, 2, none⟩ = some (.slice f.A f.len f.cap)
  tag : w.rangeAt g 3 (vals f.tag)
theorem boxed_of {w : World} {g : Nat} {f : FieldZ} {t : TypeId} (h : w.heap[g]? = some (.cells (fCells f).toArray t)) : Boxed w g f := by
  refine ⟨by rw [cell_of_row _ _ _ _ _ _ h]; rfl, by rw [cell_of_row _ _ _ _ _ _ h]; rfl, by rw [cell_of_row _ _ _ _ _ _ h]; rfl, fun j v hv => ?_⟩
  rw [cell_of_row _ _ _ _ _ _ h]
  rw [List.getElem?_toArray]
  unfold fCells fHead
  rw [List.getElem?_append_right (by simp)]
  simpa using hv
theorem boxed_new (w : World) (f : FieldZ) (t : TypeId) : Boxed (w.alloc (.cells (fCells f).toArray t)) w.heap.size f := boxed_of (heap_alloc_new w _)
theorem Boxed.same {w w' : World} {g : Nat} {f : FieldZ} (h : Boxed w g f) (e : w'.heap[g]? = w.heap[g]?) : Boxed w' g f :=
  ⟨(World.cell?_of_block (a := ⟨g, 0, none⟩) e).trans h.c0, (World.cell?_of_block (a := ⟨g, 1, none⟩) e).trans h.c1, (World.cell?_of_block (a := ⟨g, 2, none⟩) e).trans h.c2, rangeAt_same h.tag e⟩
theorem tag_info {T : List Int} (h : T.length = 32) : (Try.prog.info? 28).map (·.size) = some (vals T).length := tag_size T h
theorem wPut_nil {w : World} {b : Nat} {g : Option Nat} {st : Option (List Int)} (h : Wr w b g st) : wPut st [] = st := by
  cases st with
  | none => rfl
  | some fs =>
    obtain ⟨A, n, c, _, _, _, h4, h5⟩ := h.form
    have h6 : fs.length = n := h4
    rw [wPut_yes _ _ (by simp; omega), List.append_nil]
/-- A call that writes a field, and tells nothing. -/
def Wrs (w : World) (b : Nat) (g : Option Nat) (st : Option (List Int)) (e : Ending) (w' : World) : Prop := e = .returned (.tuple #[]) ∧ ∃ g', Wr w' b g' st ∧ Wrote w w' b g ∧ Fresh w g g'
theorem Wrs.from {w w1 w' : World} {b : Nat} {g : Option Nat} {st : Option (List Int)} (h : w.grownBy w1 none) (k : ∃ g', Wr w' b g' st ∧ Wrote w1 w' b g ∧ Fresh w1 g g') : ∃ g', Wr w' b g' st ∧ Wrote w w' b g ∧ Fresh w g g' := by
  obtain ⟨g', k2, k3, k4⟩ := k
  exact ⟨g', k2, (Wrote.of_grown h (.inl rfl)).trans k3 (.inl rfl), Fresh.trans (.inl rfl) k4 h.size⟩
set_option maxRecDepth 100000 in
set_option maxHeartbeats 1000000 in
theorem write_0 {w : World} {b : Nat} {g : Option Nat} {st : Option (List Int)} (h : Wr w b g st) {f : FieldZ} (hk : f.kind = 0) {B : Nat} (hf : FieldOk w B f) (hB : B ≤ w.heap.size) (ha : Apart b g f.A f.len) : Calls Try.prog 10 #[.pointer (some ⟨b, 0, none⟩), .agg (fCells f).toArray] w (Wrs w b g (wPut st ([f.n % 256]))) := by
  have hx := boxed_new w f 30
  have G := Lib.hid (grown_alloc w (.cells (fCells f).toArray 30) none)
  have h' : Wr (w.alloc (.cells (fCells f).toArray 30)) b g st := h.grown G.out (by simp) (by simp)
  have hf' := hf.grown G.out hB
  obtain ⟨W, hW⟩ : ∃ W, w.alloc (.cells (fCells f).toArray 30) = W := ⟨_, rfl⟩
  rw [hW] at hx G h' hf'
  have hBW : B ≤ W.heap.size := Nat.le_trans hB G.out.size
  obtain ⟨kind, n, A, len, cap, zs, T⟩ := f
  simp only at hk
  subst hk
  have c0 := hx.c0
  have c1 := hx.c1
  have c2 := hx.c2
  have CT := Lib.hid hx.tag
  have hn := hf'.n
  have hbs := hf'.bs
  have HT := Lib.hid hf'.tag
  have HTB := Lib.hid hf'.bytes
  have hsm := hf'.small
  simp only at c0 c1 c2 hn hbs hsm ha
  have HC := Lib.hid (byte_wr h' (n % 256) (by omega) (by omega))
  have HW := Lib.hid hW
  clear h h' hf hf' hx hW
  go_enter Try.func10, Try.ntmps10
  go_upto_region 1 with fail
  rw [HW.out]
  go_wp2_with (go_at_call 30; refine HC.out.mono ?_; rintro e w' ⟨rfl, k⟩)
  go_end0
  exact ⟨rfl, Wrs.from G.out k⟩
set_option maxRecDepth 100000 in
set_option maxHeartbeats 1000000 in
theorem write_1 {w : World} {b : Nat} {g : Option Nat} {st : Option (List Int)} (h : Wr w b g st) {f : FieldZ} (hk : f.kind = 1) {B : Nat} (hf : FieldOk w B f) (hB : B ≤ w.heap.size) (ha : Apart b g f.A f.len) : Calls Try.prog 10 #[.pointer (some ⟨b, 0, none⟩), .agg (fCells f).toArray] w (Wrs w b g (wPut st (n64 f.n))) := by
  have hx := boxed_new w f 30
  have G := Lib.hid (grown_alloc w (.cells (fCells f).toArray 30) none)
  have h' : Wr (w.alloc (.cells (fCells f).toArray 30)) b g st := h.grown G.out (by simp) (by simp)
  have hf' := hf.grown G.out hB
  obtain ⟨W, hW⟩ : ∃ W, w.alloc (.cells (fCells f).toArray 30) = W := ⟨_, rfl⟩
  rw [hW] at hx G h' hf'
  have hBW : B ≤ W.heap.size := Nat.le_trans hB G.out.size
  obtain ⟨kind, n, A, len, cap, zs, T⟩ := f
  simp only at hk
  subst hk
  have c0 := hx.c0
  have c1 := hx.c1
  have c2 := hx.c2
  have CT := Lib.hid hx.tag
  have hn := hf'.n
  have hbs := hf'.bs
  have HT := Lib.hid hf'.tag
  have HTB := Lib.hid hf'.bytes
  have hsm := hf'.small
  simp only at c0 c1 c2 hn hbs hsm ha
  have HC := Lib.hid (int_wr h' n hn.1 hn.2)
  have HW := Lib.hid hW
  clear h h' hf hf' hx hW
  go_enter Try.func10, Try.ntmps10
  go_upto_region 1 with fail
  rw [HW.out]
  go_wp2_with (go_at_call 31; refine HC.out.mono ?_; rintro e w' ⟨rfl, k⟩)
  go_end0
  exact ⟨rfl, Wrs.from G.out k⟩
set_option maxRecDepth 100000 in
set_option maxHeartbeats 1000000 in
theorem write_2 {w : World} {b : Nat} {g : Option Nat} {st : Option (List Int)} (h : Wr w b g st) {f : FieldZ} (hk : f.kind = 2) {B : Nat} (hf : FieldOk w B f) (hB : B ≤ w.heap.size) (ha : Apart b g f.A f.len) : Calls Try.prog 10 #[.pointer (some ⟨b, 0, none⟩), .agg (fCells f).toArray] w (Wrs w b g (wPut st ([if oddB f.n then 1 else 0]))) := by
  have hx := boxed_new w f 30
  have G := Lib.hid (grown_alloc w (.cells (fCells f).toArray 30) none)
  have h' : Wr (w.alloc (.cells (fCells f).toArray 30)) b g st := h.grown G.out (by simp) (by simp)
  have hf' := hf.grown G.out hB
  obtain ⟨W, hW⟩ : ∃ W, w.alloc (.cells (fCells f).toArray 30) = W := ⟨_, rfl⟩
  rw [hW] at hx G h' hf'
  have hBW : B ≤ W.heap.size := Nat.le_trans hB G.out.size
  obtain ⟨kind, n, A, len, cap, zs, T⟩ := f
  simp only at hk
  subst hk
  have c0 := hx.c0
  have c1 := hx.c1
  have c2 := hx.c2
  have CT := Lib.hid hx.tag
  have hn := hf'.n
  have hbs := hf'.bs
  have HT := Lib.hid hf'.tag
  have HTB := Lib.hid hf'.bytes
  have hsm := hf'.small
  simp only at c0 c1 c2 hn hbs hsm ha
  have HC := Lib.hid (flag_wr h' (oddB n))
  have HO : Hid (oddB n = !(n.tmod 2 == 0)) := Lib.hid rfl
  simp only
  generalize (if oddB n = true then (1 : Int) else 0) = L at *
  have HW := Lib.hid hW
  clear h h' hf hf' hx hW
  go_enter Try.func10, Try.ntmps10
  go_upto_region 1 with fail
  rw [HW.out]
  go_wp2_with (go_at_call 32; refine HC.out.mono ?_; rintro e w' ⟨rfl, k⟩)
  go_end0
  exact ⟨rfl, Wrs.from G.out k⟩
set_option maxRecDepth 100000 in
set_option maxHeartbeats 1000000 in
theorem write_3 {w : World} {b : Nat} {g : Option Nat} {st : Option (List Int)} (h : Wr w b g st) {f : FieldZ} (hk : f.kind = 3) {B : Nat} (hf : FieldOk w B f) (hB : B ≤ w.heap.size) (ha : Apart b g f.A f.len) : Calls Try.prog 10 #[.pointer (some ⟨b, 0, none⟩), .agg (fCells f).toArray] w (Wrs w b g (wPut st (bytesF f.zs))) := by
  have hx := boxed_new w f 30
  have G := Lib.hid (grown_alloc w (.cells (fCells f).toArray 30) none)
  have h' : Wr (w.alloc (.cells (fCells f).toArray 30)) b g st := h.grown G.out (by simp) (by simp)
  have hf' := hf.grown G.out hB
  obtain ⟨W, hW⟩ : ∃ W, w.alloc (.cells (fCells f).toArray 30) = W := ⟨_, rfl⟩
  rw [hW] at hx G h' hf'
  have hBW : B ≤ W.heap.size := Nat.le_trans hB G.out.size
  obtain ⟨kind, n, A, len, cap, zs, T⟩ := f
  simp only at hk
  subst hk
  have c0 := hx.c0
  have c1 := hx.c1
  have c2 := hx.c2
  have CT := Lib.hid hx.tag
  have hn := hf'.n
  have hbs := hf'.bs
  have HT := Lib.hid hf'.tag
  have HTB := Lib.hid hf'.bytes
  have hsm := hf'.small
  simp only at c0 c1 c2 hn hbs hsm ha
  have HC := Lib.hid (bytes_wr h' cap hbs hBW hsm ha)
  have HW := Lib.hid hW
  clear h h' hf hf' hx hW
  go_enter Try.func10, Try.ntmps10
  go_upto_region 1 with fail
  rw [HW.out]
  go_wp2_with (go_at_call 33; refine HC.out.mono ?_; rintro e w' ⟨rfl, k⟩)
  go_end0
  exact ⟨rfl, Wrs.from G.out k⟩
set_option maxRecDepth 100000 in
set_option maxHeartbeats 1000000 in
theorem write_4 {w : World} {b : Nat} {g : Option Nat} {st : Option (List Int)} (h : Wr w b g st) {f : FieldZ} (hk : f.kind = 4) {B : Nat} (hf : FieldOk w B f) (hB : B ≤ w.heap.size) (ha : Apart b g f.A f.len) : Calls Try.prog 10 #[.pointer (some ⟨b, 0, none⟩), .agg (fCells f).toArray] w (Wrs w b g (wPut st (bytesF f.zs))) := by
  have hx := boxed_new w f 30
  have G := Lib.hid (grown_alloc w (.cells (fCells f).toArray 30) none)
  have h' : Wr (w.alloc (.cells (fCells f).toArray 30)) b g st := h.grown G.out (by simp) (by simp)
  have hf' := hf.grown G.out hB
  obtain ⟨W, hW⟩ : ∃ W, w.alloc (.cells (fCells f).toArray 30) = W := ⟨_, rfl⟩
  rw [hW] at hx G h' hf'
  have hBW : B ≤ W.heap.size := Nat.le_trans hB G.out.size
  obtain ⟨kind, n, A, len, cap, zs, T⟩ := f
  simp only at hk
  subst hk
  have c0 := hx.c0
  have c1 := hx.c1
  have c2 := hx.c2
  have CT := Lib.hid hx.tag
  have hn := hf'.n
  have hbs := hf'.bs
  have HT := Lib.hid hf'.tag
  have HTB := Lib.hid hf'.bytes
  have hsm := hf'.small
  simp only at c0 c1 c2 hn hbs hsm ha
  have hcv := run_str cap hbs
  have HC : Hid (Calls Try.prog 34 #[.pointer (some ⟨b, 0, none⟩), .string (strOfNums zs)] W (Puts W b g (wPut st (bytesF zs)))) := Lib.hid (by
    have := text_wr h' (strOfNums zs) (by rw [strOfNums_size, hbs.len]; exact hsm)
    rwa [strZ_of hbs.isBytes] at this)
  have HW := Lib.hid hW
  clear h h' hf hf' hx hW
  go_enter Try.func10, Try.ntmps10
  go_upto_region 1 with fail
  rw [HW.out]
  go_wp2_with (go_at_call 34; refine HC.out.mono ?_; rintro e w' ⟨rfl, k⟩)
  go_end0
  exact ⟨rfl, Wrs.from G.out k⟩
set_option maxRecDepth 100000 in
set_option maxHeartbeats 1000000 in
theorem write_5 {w : World} {b : Nat} {g : Option Nat} {st : Option (List Int)} (h : Wr w b g st) {f : FieldZ} (hk : f.kind = 5) {B : Nat} (hf : FieldOk w B f) (hB : B ≤ w.heap.size) (ha : Apart b g f.A f.len) : Calls Try.prog 10 #[.pointer (some ⟨b, 0, none⟩), .agg (fCells f).toArray] w (Wrs w b g (wPut st (f.tag))) := by
  have hx := boxed_new w f 30
  have G := Lib.hid (grown_alloc w (.cells (fCells f).toArray 30) none)
  have h' : Wr (w.alloc (.cells (fCells f).toArray 30)) b g st := h.grown G.out (by simp) (by simp)
  have hf' := hf.grown G.out hB
  obtain ⟨W, hW⟩ : ∃ W, w.alloc (.cells (fCells f).toArray 30) = W := ⟨_, rfl⟩
  rw [hW] at hx G h' hf'
  have hBW : B ≤ W.heap.size := Nat.le_trans hB G.out.size
  obtain ⟨kind, n, A, len, cap, zs, T⟩ := f
  simp only at hk
  subst hk
  have c0 := hx.c0
  have c1 := hx.c1
  have c2 := hx.c2
  have CT := Lib.hid hx.tag
  have hn := hf'.n
  have hbs := hf'.bs
  have HT := Lib.hid hf'.tag
  have HTB := Lib.hid hf'.bytes
  have hsm := hf'.small
  simp only at c0 c1 c2 hn hbs hsm ha
  have HC := Lib.hid (tag_wr h' T hf'.tag hf'.bytes)
  have HI : Hid ((Try.prog.info? 28).map (·.size) = some (vals T).length) := Lib.hid (tag_size T hf'.tag)
  have HW := Lib.hid hW
  clear h h' hf hf' hx hW
  go_enter Try.func10, Try.ntmps10
  go_upto_region 1 with fail
  rw [HW.out]
  have G2 := HI
  go_wp2_with (first
    | (go_at_call 35; refine HC.out.mono ?_; rintro e w' ⟨rfl, k⟩)
    | (have g2 := G2; clear g2; refine wpList_load_mid (op := ⟨some 44, .load 28 (.tmp 43), _, _, _, _⟩) rfl 28 (.tmp 43) rfl w.heap.size 3 rfl (vals T) _ CT.out Try.underlying28 rfl HI.out ?_; clear G2))
  go_end0
  exact ⟨rfl, Wrs.from G.out k⟩
set_option maxRecDepth 100000 in
set_option maxHeartbeats 1000000 in
theorem write_9 {w : World} {b : Nat} {g : Option Nat} {st : Option (List Int)} (h : Wr w b g st) {f : FieldZ} (hk : f.kind ≠ 0 ∧ f.kind ≠ 1 ∧ f.kind ≠ 2 ∧ f.kind ≠ 3 ∧ f.kind ≠ 4 ∧ f.kind ≠ 5) {B : Nat} (hf : FieldOk w B f) (hB : B ≤ w.heap.size) (ha : Apart b g f.A f.len) : Calls Try.prog 10 #[.pointer (some ⟨b, 0, none⟩), .agg (fCells f).toArray] w (Wrs w b g (wPut st ([]))) := by
  have hx := boxed_new w f 30
  have G := Lib.hid (grown_alloc w (.cells (fCells f).toArray 30) none)
  have h' : Wr (w.alloc (.cells (fCells f).toArray 30)) b g st := h.grown G.out (by simp) (by simp)
  have hf' := hf.grown G.out hB
  rw [wPut_nil h]
  obtain ⟨W, hW⟩ : ∃ W, w.alloc (.cells (fCells f).toArray 30) = W := ⟨_, rfl⟩
  rw [hW] at hx G h' hf'
  have hBW : B ≤ W.heap.size := Nat.le_trans hB G.out.size
  obtain ⟨kind, n, A, len, cap, zs, T⟩ := f
  simp only at hk
  obtain ⟨k0, k1, k2, k3, k4, k5⟩ := hk
  have j0 : (kind == 0) = false := by simpa using k0
  have j1 : (kind == 1) = false := by simpa using k1
  have j2 : (kind == 2) = false := by simpa using k2
  have j3 : (kind == 3) = false := by simpa using k3
  have j4 : (kind == 4) = false := by simpa using k4
  have j5 : (kind == 5) = false := by simpa using k5
  have c0 := hx.c0
  have c1 := hx.c1
  have c2 := hx.c2
  have CT := Lib.hid hx.tag
  have hn := hf'.n
  have hbs := hf'.bs
  have HT := Lib.hid hf'.tag
  have HTB := Lib.hid hf'.bytes
  have hsm := hf'.small
  simp only at c0 c1 c2 hn hbs hsm ha
  have HN : Hid (∃ g', Wr W b g' st ∧ Wrote W W b g ∧ Fresh W g g') := Lib.hid ⟨g, h', Wrote.refl _ _ _, .inl rfl⟩
  have HW := Lib.hid hW
  clear h h' hf hf' hx hW
  go_enter Try.func10, Try.ntmps10
  go_upto_region 1 with fail
  rw [HW.out]
  go_wp2
  have k := HN.out
  go_end0
  exact ⟨rfl, Wrs.from G.out k⟩
theorem write_any {w : World} {b : Nat} {g : Option Nat} {st : Option (List Int)} (h : Wr w b g st) (f : FieldZ) {B : Nat} (hf : FieldOk w B f) (hB : B ≤ w.heap.size) (ha : Apart b g f.A f.len) : Calls Try.prog 10 #[.pointer (some ⟨b, 0, none⟩), .agg (fCells f).toArray] w (Wrs w b g (wPut st (fieldB f))) := by
  unfold fieldB
  split
  · exact write_0 h ‹_› hf hB ha
  split
  · exact write_1 h ‹_› hf hB ha
  split
  · exact write_2 h ‹_› hf hB ha
  split
  · exact write_3 h ‹_› hf hB ha
  split
  · exact write_4 h ‹_› hf hB ha
  split
  · exact write_5 h ‹_› hf hB ha
  · exact write_9 h ⟨‹_›, ‹_›, ‹_›, ‹_›, ‹_›, ‹_›⟩ hf hB ha
end Go.Proofs.Ytcihbkdpkhhhcaa
