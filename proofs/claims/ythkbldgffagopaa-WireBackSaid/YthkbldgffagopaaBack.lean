/- A field is read back. -/
import Derived.Test.YthkbldgffagopaaFields
namespace Go.Proofs.Ythkbldgffagopaa
open Go.ChangeShapes Go.WideShapes Go.ChangeAt Go.RowKit
set_option linter.unusedVariables false
open Plain
theorem Rd.drew {w : World} {b : Nat} {B : Span} {why : Int} {zs : List Int} (h : Rd w b B why zs) : Rd w.drew b B why zs := h.keep rfl (fun _ _ _ => rfl)
theorem rBytes_bytes {s : Int × List Int} (h : IsBytes s.2) : IsBytes (rBytes s).1 := by
  have h2 : IsBytes (rLen s).2.2 := by
    unfold rLen tk
    split
    · exact IsBytes.drop h
    · exact IsBytes.nil
  unfold rBytes tk
  split
  · exact IsBytes.take h2
  · exact IsBytes.nil
/-- Is a field told as it was written, and the reader behind it. -/
def backR (f : FieldZ) (s : Int × List Int) : Bool × Int × List Int :=
  if f.kind = 0 then ((rByte s).1 == f.n % 256, (rByte s).2) else if f.kind = 1 then ((rInt s).1 == f.n, (rInt s).2) else if f.kind = 2 then ((rFlag s).1 == oddB f.n, (rFlag s).2)
  else if f.kind = 3 then (eqB (rBytes s).1 f.zs, (rBytes s).2) else if f.kind = 4 then (eqB (rBytes s).1 f.zs, (rBytes s).2) else if f.kind = 5 then (eqB (rTag s).1 f.tag, (rTag s).2) else (true, s)
set_option maxRecDepth 100000 in
set_option maxHeartbeats 2000000 in
theorem back_0 {w : World} {b : Nat} {Z : Span} {why : Int} {rs : List Int} (h : Rd w b Z why rs) {f : FieldZ} (hk : f.kind = 0) {B : Nat} (hf : FieldOk w B f) (hB : B ≤ w.heap.size) (hbB : B ≤ b) : Calls Try.prog 35 #[.pointer (some ⟨b, 0, none⟩), .agg (fCells f).toArray] w (Reads w b Z (.bool ((rByte (why, rs)).1 == f.n % 256)) ((rByte (why, rs)).2)) := by
  have hx := boxed_new w f 30
  have G := Lib.hid (grown_alloc w (.cells (fCells f).toArray 30) none)
  have h' := h.grown G.out (fun k hk => by cases hk)
  have hf' := hf.grown G.out hB
  have hlt := h.lt
  have hWs : (w.alloc (.cells (fCells f).toArray 30)).heap.size = w.heap.size + 1 := by simp
  obtain ⟨W, hW⟩ : ∃ W, w.alloc (.cells (fCells f).toArray 30) = W := ⟨_, rfl⟩
  rw [hW] at hx G h' hf' hWs
  obtain ⟨kind, n, A, len, cap, zs, T⟩ := f
  simp only at hk
  subst hk
  have C0 := Lib.hid hx.c0
  have C1 := Lib.hid hx.c1
  have C2 := Lib.hid hx.c2
  have CT := Lib.hid hx.tag
  have hn := hf'.n
  have HBS := Lib.hid hf'.bs
  have HT := Lib.hid hf'.tag
  have HTB := Lib.hid hf'.bytes
  have hsm := hf'.small
  have hcap := hf'.cap
  have hmax := hf'.max
  have hne : w.heap.size ≠ b := by omega
  simp only at hn hsm hcap hmax ⊢
  have HC := Lib.hid (byte_rd h'.drew)
  have HP : Hid (rByte (why, rs) = rByte (why, rs)) := Lib.hid rfl
  generalize rByte (why, rs) = x at *
  obtain ⟨x, s⟩ := x
  simp only at HC ⊢
  have HW := Lib.hid hW
  have c0 := hx.c0
  simp only at c0
  clear h h' hf hf' hx hW
  go_enter Try.func35, Try.ntmps35
  go_upto_region 1 with fail
  rw [HW.out]
  go_wp2
  go_region_held3 (fun w' => w'.cell? ⟨w.heap.size, 1, none⟩ = some (.int .i64 n))
    (first
      | (exact C1.out)
      | (exact d1))
    ((first
      | (go_at_call 27; refine HC.out.mono ?_; rintro e w1 ⟨rfl, r1, g1⟩; have d1 : w1.cell? ⟨w.heap.size, 1, none⟩ = some (.int .i64 n) := (World.cell?_of_block (a := ⟨w.heap.size, 1, none⟩) (g1.block w.heap.size (by show w.heap.size < W.heap.size; omega) (fun e => by injection e with e; exact hne e))).trans C1.out)))
  go_wp2
  go_ret
  exact ⟨rfl, r1, grown_trans (grown_more G.out) (grown_trans (grown_drewN W 1 _) g1)⟩
set_option maxRecDepth 100000 in
set_option maxHeartbeats 2000000 in
theorem back_1 {w : World} {b : Nat} {Z : Span} {why : Int} {rs : List Int} (h : Rd w b Z why rs) {f : FieldZ} (hk : f.kind = 1) {B : Nat} (hf : FieldOk w B f) (hB : B ≤ w.heap.size) (hbB : B ≤ b) : Calls Try.prog 35 #[.pointer (some ⟨b, 0, none⟩), .agg (fCells f).toArray] w (Reads w b Z (.bool ((rInt (why, rs)).1 == f.n)) ((rInt (why, rs)).2)) := by
  have hx := boxed_new w f 30
  have G := Lib.hid (grown_alloc w (.cells (fCells f).toArray 30) none)
  have h' := h.grown G.out (fun k hk => by cases hk)
  have hf' := hf.grown G.out hB
  have hlt := h.lt
  have hWs : (w.alloc (.cells (fCells f).toArray 30)).heap.size = w.heap.size + 1 := by simp
  obtain ⟨W, hW⟩ : ∃ W, w.alloc (.cells (fCells f).toArray 30) = W := ⟨_, rfl⟩
  rw [hW] at hx G h' hf' hWs
  obtain ⟨kind, n, A, len, cap, zs, T⟩ := f
  simp only at hk
  subst hk
  have C0 := Lib.hid hx.c0
  have C1 := Lib.hid hx.c1
  have C2 := Lib.hid hx.c2
  have CT := Lib.hid hx.tag
  have hn := hf'.n
  have HBS := Lib.hid hf'.bs
  have HT := Lib.hid hf'.tag
  have HTB := Lib.hid hf'.bytes
  have hsm := hf'.small
  have hcap := hf'.cap
  have hmax := hf'.max
  have hne : w.heap.size ≠ b := by omega
  simp only at hn hsm hcap hmax ⊢
  have HC := Lib.hid (int_rd h'.drew)
  have HP : Hid (rInt (why, rs) = rInt (why, rs)) := Lib.hid rfl
  generalize rInt (why, rs) = x at *
  obtain ⟨x, s⟩ := x
  simp only at HC ⊢
  have HW := Lib.hid hW
  have c0 := hx.c0
  simp only at c0
  clear h h' hf hf' hx hW
  go_enter Try.func35, Try.ntmps35
  go_upto_region 1 with fail
  rw [HW.out]
  go_wp2
  go_region_held3 (fun w' => w'.cell? ⟨w.heap.size, 1, none⟩ = some (.int .i64 n))
    (first
      | (exact C1.out)
      | (exact d1))
    ((first
      | (go_at_call 28; refine HC.out.mono ?_; rintro e w1 ⟨rfl, r1, g1⟩; have d1 : w1.cell? ⟨w.heap.size, 1, none⟩ = some (.int .i64 n) := (World.cell?_of_block (a := ⟨w.heap.size, 1, none⟩) (g1.block w.heap.size (by show w.heap.size < W.heap.size; omega) (fun e => by injection e with e; exact hne e))).trans C1.out)))
  go_wp2
  go_ret
  exact ⟨rfl, r1, grown_trans (grown_more G.out) (grown_trans (grown_drewN W 1 _) g1)⟩
set_option maxRecDepth 100000 in
set_option maxHeartbeats 2000000 in
theorem back_2 {w : World} {b : Nat} {Z : Span} {why : Int} {rs : List Int} (h : Rd w b Z why rs) {f : FieldZ} (hk : f.kind = 2) {B : Nat} (hf : FieldOk w B f) (hB : B ≤ w.heap.size) (hbB : B ≤ b) : Calls Try.prog 35 #[.pointer (some ⟨b, 0, none⟩), .agg (fCells f).toArray] w (Reads w b Z (.bool ((rFlag (why, rs)).1 == oddB f.n)) ((rFlag (why, rs)).2)) := by
  have hx := boxed_new w f 30
  have G := Lib.hid (grown_alloc w (.cells (fCells f).toArray 30) none)
  have h' := h.grown G.out (fun k hk => by cases hk)
  have hf' := hf.grown G.out hB
  have hlt := h.lt
  have hWs : (w.alloc (.cells (fCells f).toArray 30)).heap.size = w.heap.size + 1 := by simp
  obtain ⟨W, hW⟩ : ∃ W, w.alloc (.cells (fCells f).toArray 30) = W := ⟨_, rfl⟩
  rw [hW] at hx G h' hf' hWs
  obtain ⟨kind, n, A, len, cap, zs, T⟩ := f
  simp only at hk
  subst hk
  have C0 := Lib.hid hx.c0
  have C1 := Lib.hid hx.c1
  have C2 := Lib.hid hx.c2
  have CT := Lib.hid hx.tag
  have hn := hf'.n
  have HBS := Lib.hid hf'.bs
  have HT := Lib.hid hf'.tag
  have HTB := Lib.hid hf'.bytes
  have hsm := hf'.small
  have hcap := hf'.cap
  have hmax := hf'.max
  have hne : w.heap.size ≠ b := by omega
  simp only at hn hsm hcap hmax ⊢
  have HC := Lib.hid (flag_rd h'.drew)
  have HP : Hid (rFlag (why, rs) = rFlag (why, rs)) := Lib.hid rfl
  generalize rFlag (why, rs) = x at *
  obtain ⟨x, s⟩ := x
  simp only at HC ⊢
  have HW := Lib.hid hW
  have c0 := hx.c0
  simp only at c0
  clear h h' hf hf' hx hW
  go_enter Try.func35, Try.ntmps35
  go_upto_region 1 with fail
  rw [HW.out]
  go_wp2
  go_region_held3 (fun w' => w'.cell? ⟨w.heap.size, 1, none⟩ = some (.int .i64 n))
    (first
      | (exact C1.out)
      | (exact d1))
    ((first
      | (go_at_call 29; refine HC.out.mono ?_; rintro e w1 ⟨rfl, r1, g1⟩; have d1 : w1.cell? ⟨w.heap.size, 1, none⟩ = some (.int .i64 n) := (World.cell?_of_block (a := ⟨w.heap.size, 1, none⟩) (g1.block w.heap.size (by show w.heap.size < W.heap.size; omega) (fun e => by injection e with e; exact hne e))).trans C1.out)))
  go_wp2
  go_ret
  exact ⟨rfl, r1, grown_trans (grown_more G.out) (grown_trans (grown_drewN W 1 _) g1)⟩
set_option maxRecDepth 100000 in
set_option maxHeartbeats 2000000 in
theorem back_3 {w : World} {b : Nat} {Z : Span} {why : Int} {rs : List Int} (h : Rd w b Z why rs) {f : FieldZ} (hk : f.kind = 3) {B : Nat} (hf : FieldOk w B f) (hB : B ≤ w.heap.size) (hbB : B ≤ b) : Calls Try.prog 35 #[.pointer (some ⟨b, 0, none⟩), .agg (fCells f).toArray] w (Reads w b Z (.bool (eqB (rBytes (why, rs)).1 f.zs)) ((rBytes (why, rs)).2)) := by
  have hx := boxed_new w f 30
  have G := Lib.hid (grown_alloc w (.cells (fCells f).toArray 30) none)
  have h' := h.grown G.out (fun k hk => by cases hk)
  have hf' := hf.grown G.out hB
  have hlt := h.lt
  have hWs : (w.alloc (.cells (fCells f).toArray 30)).heap.size = w.heap.size + 1 := by simp
  obtain ⟨W, hW⟩ : ∃ W, w.alloc (.cells (fCells f).toArray 30) = W := ⟨_, rfl⟩
  rw [hW] at hx G h' hf' hWs
  obtain ⟨kind, n, A, len, cap, zs, T⟩ := f
  simp only at hk
  subst hk
  have C0 := Lib.hid hx.c0
  have C1 := Lib.hid hx.c1
  have C2 := Lib.hid hx.c2
  have CT := Lib.hid hx.tag
  have hn := hf'.n
  have HBS := Lib.hid hf'.bs
  have HT := Lib.hid hf'.tag
  have HTB := Lib.hid hf'.bytes
  have hsm := hf'.small
  have hcap := hf'.cap
  have hmax := hf'.max
  have hne : w.heap.size ≠ b := by omega
  simp only at hn hsm hcap hmax ⊢
  have HC := Lib.hid (bytes_rd h'.drew)
  have HXB := Lib.hid (rBytes_bytes (s := (why, rs)) h'.isBytes)
  generalize rBytes (why, rs) = x at *
  obtain ⟨x, s⟩ := x
  simp only at HC HXB ⊢
  have HW := Lib.hid hW
  have c0 := hx.c0
  simp only at c0
  clear h h' hf hf' hx hW
  go_enter Try.func35, Try.ntmps35
  go_upto_region 1 with fail
  rw [HW.out]
  go_wp2
  go_region_held3 (fun w' => w'.cell? ⟨w.heap.size, 2, none⟩ = some (.slice A len cap))
    (first
      | (exact C2.out)
      | (exact d1)
      | (exact d2))
    ((first
      | (go_at_call 30; refine HC.out.mono ?_; rintro e w1 ⟨x5, ⟨rfl, r1, g1⟩, hx5⟩; have d1 : w1.cell? ⟨w.heap.size, 2, none⟩ = some (.slice A len cap) := (World.cell?_of_block (a := ⟨w.heap.size, 2, none⟩) (g1.block w.heap.size (by show w.heap.size < W.heap.size; omega) (fun e => by injection e with e; exact hne e))).trans C2.out; obtain ⟨A5, c5, rfl, z5, _, hm5⟩ := hx5.bs HXB.out; have zf : Bs w1 B A len zs := HBS.out.drew.belowM (below_of_grown g1 (B := B) (by show B ≤ W.heap.size; omega) (fun k hk => by injection hk with hk; omega)) (Nat.le_refl _))
      | (go_at_call 41; refine (same_any c5 cap z5 zf (by have := z5.len; omega) (by omega)).mono ?_; rintro e w2 ⟨rfl, hq⟩; have d2 : w2.cell? ⟨w.heap.size, 2, none⟩ = some (.slice A len cap) := (by obtain ⟨m, rfl⟩ := hq; exact d1); have g2 : w1.grownBy w2 none := (by obtain ⟨m, rfl⟩ := hq; exact grown_drewN _ _ _))))
  go_wp2
  go_ret
  exact ⟨rfl, r1.grown g2 (fun k hk => by cases hk), grown_trans (grown_more G.out) (grown_trans (grown_drewN W 1 _) (grown_trans g1 (grown_more g2)))⟩
set_option maxRecDepth 100000 in
set_option maxHeartbeats 2000000 in
theorem back_4 {w : World} {b : Nat} {Z : Span} {why : Int} {rs : List Int} (h : Rd w b Z why rs) {f : FieldZ} (hk : f.kind = 4) {B : Nat} (hf : FieldOk w B f) (hB : B ≤ w.heap.size) (hbB : B ≤ b) : Calls Try.prog 35 #[.pointer (some ⟨b, 0, none⟩), .agg (fCells f).toArray] w (Reads w b Z (.bool (eqB (rBytes (why, rs)).1 f.zs)) ((rBytes (why, rs)).2)) := by
  have hx := boxed_new w f 30
  have G := Lib.hid (grown_alloc w (.cells (fCells f).toArray 30) none)
  have h' := h.grown G.out (fun k hk => by cases hk)
  have hf' := hf.grown G.out hB
  have hlt := h.lt
  have hWs : (w.alloc (.cells (fCells f).toArray 30)).heap.size = w.heap.size + 1 := by simp
  obtain ⟨W, hW⟩ : ∃ W, w.alloc (.cells (fCells f).toArray 30) = W := ⟨_, rfl⟩
  rw [hW] at hx G h' hf' hWs
  obtain ⟨kind, n, A, len, cap, zs, T⟩ := f
  simp only at hk
  subst hk
  have C0 := Lib.hid hx.c0
  have C1 := Lib.hid hx.c1
  have C2 := Lib.hid hx.c2
  have CT := Lib.hid hx.tag
  have hn := hf'.n
  have HBS := Lib.hid hf'.bs
  have HT := Lib.hid hf'.tag
  have HTB := Lib.hid hf'.bytes
  have hsm := hf'.small
  have hcap := hf'.cap
  have hmax := hf'.max
  have hne : w.heap.size ≠ b := by omega
  simp only at hn hsm hcap hmax ⊢
  have HC := Lib.hid (text_rd h'.drew)
  have HXB := Lib.hid (rBytes_bytes (s := (why, rs)) h'.isBytes)
  generalize rBytes (why, rs) = x at *
  obtain ⟨x, s⟩ := x
  simp only at HC HXB ⊢
  have HV0 : Hid (∀ W', Below B W W' → (convert 26 9 (.slice A len cap)).run Try.prog W' = .ok (.string (strOfNums zs)) W') := Lib.hid (fun W' hb => run_str cap (HBS.out.below hb))
  have HW := Lib.hid hW
  have c0 := hx.c0
  simp only at c0
  clear h h' hf hf' hx hW
  go_enter Try.func35, Try.ntmps35
  go_upto_region 1 with fail
  rw [HW.out]
  go_wp2
  go_region_held3 (fun w' => w'.cell? ⟨w.heap.size, 2, none⟩ = some (.slice A len cap) ∧ (convert 26 9 (.slice A len cap)).run Try.prog w' = .ok (.string (strOfNums zs)) w')
    (first
      | (exact ⟨C2.out, HV0.out _ (Below.refl _ _).drew⟩)
      | (exact ⟨d1, v1⟩))
    ((first
      | (go_at_call 31; refine HC.out.mono ?_; rintro e w1 ⟨rfl, r1, g1⟩; have d1 : w1.cell? ⟨w.heap.size, 2, none⟩ = some (.slice A len cap) := (World.cell?_of_block (a := ⟨w.heap.size, 2, none⟩) (g1.block w.heap.size (by show w.heap.size < W.heap.size; omega) (fun e => by injection e with e; exact hne e))).trans C2.out; have v1 := HV0.out w1 ((Below.refl _ _).drew.trans (below_of_grown g1 (B := B) (by show B ≤ W.heap.size; omega) (fun k hk => by injection hk with hk; omega))))))
  go_wp2
  go_ret
  exact ⟨by rw [← strOf_eq HXB.out HBS.out.isBytes]; rfl, r1, grown_trans (grown_more G.out) (grown_trans (grown_drewN W 1 _) g1)⟩
set_option maxRecDepth 100000 in
set_option maxHeartbeats 2000000 in
theorem back_5 {w : World} {b : Nat} {Z : Span} {why : Int} {rs : List Int} (h : Rd w b Z why rs) {f : FieldZ} (hk : f.kind = 5) {B : Nat} (hf : FieldOk w B f) (hB : B ≤ w.heap.size) (hbB : B ≤ b) : Calls Try.prog 35 #[.pointer (some ⟨b, 0, none⟩), .agg (fCells f).toArray] w (Reads w b Z (.bool (eqB (rTag (why, rs)).1 f.tag)) ((rTag (why, rs)).2)) := by
  have hx := boxed_new w f 30
  have G := Lib.hid (grown_alloc w (.cells (fCells f).toArray 30) none)
  have h' := h.grown G.out (fun k hk => by cases hk)
  have hf' := hf.grown G.out hB
  have hlt := h.lt
  have hWs : (w.alloc (.cells (fCells f).toArray 30)).heap.size = w.heap.size + 1 := by simp
  obtain ⟨W, hW⟩ : ∃ W, w.alloc (.cells (fCells f).toArray 30) = W := ⟨_, rfl⟩
  rw [hW] at hx G h' hf' hWs
  obtain ⟨kind, n, A, len, cap, zs, T⟩ := f
  simp only at hk
  subst hk
  have C0 := Lib.hid hx.c0
  have C1 := Lib.hid hx.c1
  have C2 := Lib.hid hx.c2
  have CT := Lib.hid hx.tag
  have hn := hf'.n
  have HBS := Lib.hid hf'.bs
  have HT := Lib.hid hf'.tag
  have HTB := Lib.hid hf'.bytes
  have hsm := hf'.small
  have hcap := hf'.cap
  have hmax := hf'.max
  have hne : w.heap.size ≠ b := by omega
  simp only at hn hsm hcap hmax ⊢
  have HC := Lib.hid (tag_rd h'.drew)
  have HL := Lib.hid (rTag_len (why, rs))
  generalize rTag (why, rs) = x at *
  obtain ⟨x, s⟩ := x
  simp only at HC HL ⊢
  have hq := run_tagEq x T HL.out HT.out
  have HI := Lib.hid (tag_size T HT.out)
  have HW := Lib.hid hW
  have c0 := hx.c0
  simp only at c0
  clear h h' hf hf' hx hW
  go_enter Try.func35, Try.ntmps35
  go_upto_region 1 with fail
  rw [HW.out]
  go_wp2
  have hi := HI.out
  have hu := Try.underlying28
  go_region_held3 (fun w' => w'.rangeAt w.heap.size 3 (vals T))
    (first
      | (exact CT.out)
      | (exact d1))
    ((first
      | (go_at_call 32; refine HC.out.mono ?_; rintro e w1 ⟨rfl, r1, g1⟩; have d1 : w1.rangeAt w.heap.size 3 (vals T) := rangeAt_same CT.out (g1.block w.heap.size (by show w.heap.size < W.heap.size; omega) (fun e => by injection e with e; exact hne e)))))
  go_wp2
  go_ret
  exact ⟨rfl, r1, grown_trans (grown_more G.out) (grown_trans (grown_drewN W 1 _) g1)⟩
set_option maxRecDepth 100000 in
set_option maxHeartbeats 2000000 in
theorem back_9 {w : World} {b : Nat} {Z : Span} {why : Int} {rs : List Int} (h : Rd w b Z why rs) {f : FieldZ} (hk : f.kind ≠ 0 ∧ f.kind ≠ 1 ∧ f.kind ≠ 2 ∧ f.kind ≠ 3 ∧ f.kind ≠ 4 ∧ f.kind ≠ 5) {B : Nat} (hf : FieldOk w B f) (hB : B ≤ w.heap.size) (hbB : B ≤ b) : Calls Try.prog 35 #[.pointer (some ⟨b, 0, none⟩), .agg (fCells f).toArray] w (Reads w b Z (.bool (true)) ((why, rs))) := by
  have hx := boxed_new w f 30
  have G := Lib.hid (grown_alloc w (.cells (fCells f).toArray 30) none)
  have h' := h.grown G.out (fun k hk => by cases hk)
  have hf' := hf.grown G.out hB
  have hlt := h.lt
  have hWs : (w.alloc (.cells (fCells f).toArray 30)).heap.size = w.heap.size + 1 := by simp
  obtain ⟨W, hW⟩ : ∃ W, w.alloc (.cells (fCells f).toArray 30) = W := ⟨_, rfl⟩
  rw [hW] at hx G h' hf' hWs
  obtain ⟨kind, n, A, len, cap, zs, T⟩ := f
  simp only at hk
  obtain ⟨k0, k1, k2, k3, k4, k5⟩ := hk
  have j0 : (kind == 0) = false := by simpa using k0
  have j1 : (kind == 1) = false := by simpa using k1
  have j2 : (kind == 2) = false := by simpa using k2
  have j3 : (kind == 3) = false := by simpa using k3
  have j4 : (kind == 4) = false := by simpa using k4
  have j5 : (kind == 5) = false := by simpa using k5
  have C0 := Lib.hid hx.c0
  have C1 := Lib.hid hx.c1
  have C2 := Lib.hid hx.c2
  have CT := Lib.hid hx.tag
  have hn := hf'.n
  have HBS := Lib.hid hf'.bs
  have HT := Lib.hid hf'.tag
  have HTB := Lib.hid hf'.bytes
  have hsm := hf'.small
  have hcap := hf'.cap
  have hmax := hf'.max
  have hne : w.heap.size ≠ b := by omega
  simp only at hn hsm hcap hmax ⊢
  have HN := Lib.hid h'
  have HW := Lib.hid hW
  have c0 := hx.c0
  simp only at c0
  clear h h' hf hf' hx hW
  go_enter Try.func35, Try.ntmps35
  go_upto_region 1 with fail
  rw [HW.out]
  go_wp2
  go_ret
  exact ⟨rfl, HN.out, grown_more G.out⟩
theorem back_any {w : World} {b : Nat} {Z : Span} {why : Int} {rs : List Int} (h : Rd w b Z why rs) (f : FieldZ) {B : Nat} (hf : FieldOk w B f) (hB : B ≤ w.heap.size) (hbB : B ≤ b) : Calls Try.prog 35 #[.pointer (some ⟨b, 0, none⟩), .agg (fCells f).toArray] w (Reads w b Z (.bool (backR f (why, rs)).1) (backR f (why, rs)).2) := by
  unfold backR
  split
  · exact back_0 h ‹_› hf hB hbB
  split
  · exact back_1 h ‹_› hf hB hbB
  split
  · exact back_2 h ‹_› hf hB hbB
  split
  · exact back_3 h ‹_› hf hB hbB
  split
  · exact back_4 h ‹_› hf hB hbB
  split
  · exact back_5 h ‹_› hf hB hbB
  · exact back_9 h ⟨‹_›, ‹_›, ‹_›, ‹_›, ‹_›, ‹_›⟩ hf hB hbB
end Go.Proofs.Ythkbldgffagopaa
