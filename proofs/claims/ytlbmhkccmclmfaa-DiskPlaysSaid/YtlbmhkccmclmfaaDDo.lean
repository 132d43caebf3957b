/- An act of a disk; whether bytes are a beginning of others; how great a state grows. -/
import Derived.Test.YtlbmhkccmclmfaaDAwake
import Derived.Test.YtlbmhkccmclmfaaActs06
namespace Go.Proofs.Ytlbmhkccmclmfaa
open Go.ChangeShapes Go.WideShapes Go.ChangeAt Go.RowKit
set_option linter.unusedVariables false
def dDo (s : DiskZ) (a : ActZ) : Int × DiskZ :=
  if a.kind = 0 ∨ a.kind = 1 ∨ a.kind = 2 then dWrite s a.zs else if a.kind = 3 then dSync s else if a.kind = 4 then dCrash s a.n a.m else if a.kind = 5 ∨ a.kind = 6 then dStart s else if a.kind = 7 then dCut s a.n else (0, s)
/-- How great a state is. -/
structure SizeB (s : DiskZ) (n : Nat) : Prop where
  bytes : (allZ s).length ≤ n
  writes : s.ws.length ≤ n
theorem SizeB.small {s : DiskZ} {n : Nat} (h : SizeB s n) (hn : n ≤ 1000000) : Small s := ⟨Nat.le_trans h.bytes hn, Nat.le_trans h.writes hn⟩
theorem SizeB.more {s : DiskZ} {n m : Nat} (h : SizeB s n) (hn : n ≤ m) : SizeB s m := ⟨Nat.le_trans h.bytes hn, Nat.le_trans h.writes hn⟩
theorem allZ_flat (u : Bool) (zs : List Int) : allZ ⟨u, zs, []⟩ = zs := by simp [allZ]
theorem dWrite_size {s : DiskZ} {n : Nat} (h : SizeB s n) (zs : List Int) : SizeB (dWrite s zs).2 (n + zs.length + 1) := by
  unfold dWrite
  split
  · have h1 := h.bytes
    have h2 := h.writes
    refine ⟨?_, by simp; omega⟩
    simp only [allZ, List.length_append] at h1
    simp only [allZ, List.flatten_append, List.flatten_singleton, List.length_append]
    omega
  · exact h.more (by omega)
theorem dSync_size {s : DiskZ} {n : Nat} (h : SizeB s n) : SizeB (dSync s).2 n := by
  unfold dSync
  split
  · exact ⟨by rw [allZ_flat]; exact h.bytes, by simp⟩
  · exact h
theorem dStart_size {s : DiskZ} {n : Nat} (h : SizeB s n) : SizeB (dStart s).2 n := by
  unfold dStart
  split
  · exact h
  · exact ⟨h.bytes, h.writes⟩
theorem dCrash_size {s : DiskZ} {n : Nat} (h : SizeB s n) (k t : Int) : SizeB (dCrash s k t).2 n := by
  unfold dCrash
  split
  · split
    · exact h
    · refine ⟨?_, by simp⟩
      have h1 := h.bytes
      have h2 := (leftZ_len s.ws k t).1
      rw [allZ_flat, List.length_append]
      simp only [allZ, List.length_append] at h1
      omega
  · exact h
theorem dCut_size {s : DiskZ} {n : Nat} (h : SizeB s n) (k : Int) : SizeB (dCut s k).2 n := by
  unfold dCut
  split
  · split
    · exact h
    · refine ⟨?_, by simp⟩
      rw [allZ_flat, List.length_take]
      have h1 := h.bytes
      omega
  · exact h
theorem dDo_size {s : DiskZ} {n : Nat} (h : SizeB s n) (a : ActZ) : SizeB (dDo s a).2 (n + a.zs.length + 1) := by
  unfold dDo
  repeat' split
  · exact dWrite_size h _
  · exact (dSync_size h).more (by omega)
  · exact (dCrash_size h _ _).more (by omega)
  · exact (dStart_size h).more (by omega)
  · exact (dCut_size h _).more (by omega)
  · exact h.more (by omega)
/-- A disk that a law made, with the blocks that it lies in. -/
structure AtK (w0 w : World) (b : Nat) (K : Nat → Prop) (s : DiskZ) : Prop where
  dk : Dk w b K s
  new : ∀ k, K k → w0.heap.size ≤ k
  bel : Below w0.heap.size w0 w
theorem AtK.did {w0 w w' : World} {b : Nat} {K : Nat → Prop} {s : DiskZ} {r : Int × DiskZ} {e : Ending} (h : AtK w0 w b K s) (hd : Did w b K r e w') : e = .returned (.int .i64 r.1) ∧ ∃ K', AtK w0 w' b K' r.2 ∧ Moved K w w' ∧ Newer w K K' := by
  obtain ⟨rfl, K', h4, h5, h6⟩ := hd
  exact ⟨rfl, K', ⟨h4, fun k hk => (h6 k hk).elim (h.new k) (fun e => Nat.le_trans h.bel.size e), h.bel.trans (h5.below h.bel.size h.new)⟩, h5, h6⟩
theorem AtK.below {w0 w w' : World} {b : Nat} {K : Nat → Prop} {s : DiskZ} (h : AtK w0 w b K s) (hb : Below w.heap.size w w') : AtK w0 w' b K s :=
  ⟨h.dk.below hb (Nat.le_refl _), h.new, h.bel.trans (hb.mono h.bel.size)⟩
theorem AtK.quiet {w0 w w' : World} {b : Nat} {K : Nat → Prop} {s : DiskZ} (h : AtK w0 w b K s) (hq : ∃ n, w' = w.drewN n) : AtK w0 w' b K s := by
  obtain ⟨n, rfl⟩ := hq
  exact h.below ⟨rfl, rfl, rfl, Nat.le_refl _, fun _ _ => rfl⟩
theorem atk_new (w0 w : World) (hb : Below w0.heap.size w0 w) : Calls Try.prog 9 #[] w (fun e w' => e = .returned (.pointer (some ⟨w.heap.size, 0, none⟩)) ∧ ∃ K, AtK w0 w' w.heap.size K ⟨true, [], []⟩ ∧ Below w.heap.size w w') :=
  (newdisk_any w).mono fun e w' ⟨h1, h2, h3, h4⟩ => ⟨h1, _, ⟨h4, fun k hk => (by have := hb.size; omega), hb.trans (h2.mono hb.size)⟩, h2⟩
/-- What Bytes tells: a list in new blocks. -/
def Told (w : World) (zs : List Int) (e : Ending) (w' : World) : Prop := ∃ A n c, e = .returned (.slice A n c) ∧ zs.length = n ∧ Stands w' (fun k => w.heap.size ≤ k ∧ k < w'.heap.size) ⟨A, n, c, zs⟩ ∧ w'.ownsRow w.heap.size 5 1 (.slice A n c) n (vals zs) ∧ n ≤ c ∧ c ≤ maxLen ∧ Below w.heap.size w w'
theorem told_any {w : World} {b : Nat} {K : Nat → Prop} {s : DiskZ} (h : Dk w b K s) (hs : Small s) : Calls Try.prog 10 #[.pointer (some ⟨b, 0, none⟩)] w (Told w (allZ s)) := by
  have hb := allZ_bytes h
  refine (bytes_any h hs).mono fun e w' ⟨A, c, h4, h5, h6, h7, h8⟩ => ⟨A, _, c, h4, rfl, stands_own h5 hb (fun k hk => h5.lt k hk), h5, h7, h8, h6⟩
/-- Is a list a beginning of another? -/
def prefB (a b : List Int) : Bool := decide (a = b.take a.length)
theorem prefB_app (a b : List Int) : prefB a (a ++ b) = true := by unfold prefB; rw [List.take_left]; exact decide_eq_true rfl
theorem prefB_self (a : List Int) : prefB a a = true := by unfold prefB; rw [List.take_length]; exact decide_eq_true rfl
theorem prefB_take (a : List Int) (k : Nat) : prefB (a.take k) a = true := by
  unfold prefB
  rw [List.length_take]
  refine decide_eq_true ?_
  rw [List.take_eq_take_iff]
  omega
set_option maxHeartbeats 1000000 in
theorem begins_any {B1 B2 : Nat} {A1 A2 : Option Addr} {n1 n2 : Nat} (c1 c2 : Nat) {z1 z2 : List Int} {w : World} (h1 : Bs w B1 A1 n1 z1) (h2 : Bs w B2 A2 n2 z2) (hn1 : n1 ≤ maxLen) (hn2 : n2 ≤ maxLen) (hc : n2 ≤ c2) (hc2 : c2 ≤ maxLen) :
    Calls Try.prog 23 #[.slice A1 n1 c1, .slice A2 n2 c2] w (Quiet (.bool (prefB z1 z2)) w) := by
  have hl1 := h1.len
  have hl2 := h2.len
  unfold maxLen at hn1 hn2 hc2
  by_cases hle : n1 ≤ n2
  · have hb := h2.cut (k := 0) (m := n1) (by omega) A2 (fun b off e _ => by rw [e]; simp)
    rw [List.drop_zero] at hb
    have HS := Lib.hid (fun c => same_any c1 c h1 hb (by unfold maxLen; omega) (by unfold maxLen; omega))
    have HZ : Hid (prefB z1 z2 = eqB z1 (z2.take n1)) := Lib.hid (by unfold prefB eqB; rw [hl1])
    have C := cut_h A2 n2 c2 n1 n1 rfl (by omega)
    have h1I : (n1 : Int) ≤ n2 := by omega
    have h2I : (n1 : Int) ≤ c2 := by omega
    clear h1 h2 hl1 hl2 hb
    go_enter Try.func23, Try.ntmps23
    go_wp2_with (go_at_call 24; refine (HS.out _).mono ?_; rintro e w' ⟨rfl, hq⟩)
    go_ret
    rw [HZ.out]
    exact ⟨rfl, hq⟩
  · have HZ : Hid (prefB z1 z2 = false) := Lib.hid (by
      unfold prefB
      refine decide_eq_false (fun e => ?_)
      have := congrArg List.length e
      rw [List.length_take] at this
      omega)
    have h1I : ¬ (n1 : Int) ≤ n2 := by omega
    have hd : decide ((n1 : Int) ≤ n2) = false := decide_eq_false h1I
    clear h1 h2 hl1 hl2 hle
    go_enter Try.func23, Try.ntmps23
    go_wp2
    go_ret
    rw [HZ.out]
    exact ⟨rfl, 0, rfl⟩
set_option maxHeartbeats 1000000 in
theorem do_w0 {w : World} {b : Nat} {K : Nat → Prop} {s : DiskZ} {B : Nat} (a : ActZ) (h : Dk w b K s) (hs : Small s) (ha : ActOk w B a) (hB : B ≤ w.heap.size) (hl : a.len ≤ 1000000) (hk : a.kind = 0) :
    Calls Try.prog 22 #[.pointer (some ⟨b, 0, none⟩), .agg (aCells a).toArray] w (Did w b K (dWrite s a.zs)) := by
  obtain ⟨kind, n, m, A, len, cap, zs⟩ := a
  obtain rfl : kind = 0 := hk
  obtain ⟨_, hn, hm, hbs, hcap, hmax, _⟩ := ha
  simp only at hn hm hbs hcap hmax hl
  obtain ⟨W, hW⟩ : ∃ W, w.alloc (.cells (aCells ⟨0, n, m, A, len, cap, zs⟩).toArray 37) = W := ⟨_, rfl⟩
  have hh : W.heap[w.heap.size]? = some (.cells (aCells ⟨0, n, m, A, len, cap, zs⟩).toArray 37 (0, 0)) := by rw [← hW]; exact heap_alloc_new w _
  have c0 : W.cell? ⟨w.heap.size, 0, none⟩ = some (.int .i64 0) := by rw [cell_of_row _ _ _ _ _ _ hh]; rfl
  have c1 : W.cell? ⟨w.heap.size, 1, none⟩ = some (.int .i64 n) := by rw [cell_of_row _ _ _ _ _ _ hh]; rfl
  have c2 : W.cell? ⟨w.heap.size, 2, none⟩ = some (.int .i64 m) := by rw [cell_of_row _ _ _ _ _ _ hh]; rfl
  have c3 : W.cell? ⟨w.heap.size, 3, none⟩ = some (.slice A len cap) := by rw [cell_of_row _ _ _ _ _ _ hh]; rfl
  have bW : Below w.heap.size w W := by rw [← hW]; exact (Below.refl _ _).alloc (Nat.le_refl _) _
  have HC := Lib.hid (write_any cap (h.below bW (Nat.le_refl _)) (hbs.belowM bW hB) (Nat.le_trans hB bW.size) hl hs)
  have BW := Lib.hid (Moved.of_below K bW)
  have HW := Lib.hid hW
  clear hW hh bW hbs h hs
  go_enter Try.func22, Try.ntmps22
  go_upto_region 1 with fail
  simp only [HW.out]
  go_wp2_with fail
  refine HC.out.mono ?_
  rintro e w2 ⟨rfl, hp⟩
  have HP := Lib.hid (did_under (w := w) BW.out ⟨rfl, hp⟩)
  clear hp
  go_wp2
  go_ret
  exact HP.out
set_option maxHeartbeats 1000000 in
theorem do_w1 {w : World} {b : Nat} {K : Nat → Prop} {s : DiskZ} {B : Nat} (a : ActZ) (h : Dk w b K s) (hs : Small s) (ha : ActOk w B a) (hB : B ≤ w.heap.size) (hl : a.len ≤ 1000000) (hk : a.kind = 1) :
    Calls Try.prog 22 #[.pointer (some ⟨b, 0, none⟩), .agg (aCells a).toArray] w (Did w b K (dWrite s a.zs)) := by
  obtain ⟨kind, n, m, A, len, cap, zs⟩ := a
  obtain rfl : kind = 1 := hk
  obtain ⟨_, hn, hm, hbs, hcap, hmax, _⟩ := ha
  simp only at hn hm hbs hcap hmax hl
  obtain ⟨W, hW⟩ : ∃ W, w.alloc (.cells (aCells ⟨1, n, m, A, len, cap, zs⟩).toArray 37) = W := ⟨_, rfl⟩
  have hh : W.heap[w.heap.size]? = some (.cells (aCells ⟨1, n, m, A, len, cap, zs⟩).toArray 37 (0, 0)) := by rw [← hW]; exact heap_alloc_new w _
  have c0 : W.cell? ⟨w.heap.size, 0, none⟩ = some (.int .i64 1) := by rw [cell_of_row _ _ _ _ _ _ hh]; rfl
  have c1 : W.cell? ⟨w.heap.size, 1, none⟩ = some (.int .i64 n) := by rw [cell_of_row _ _ _ _ _ _ hh]; rfl
  have c2 : W.cell? ⟨w.heap.size, 2, none⟩ = some (.int .i64 m) := by rw [cell_of_row _ _ _ _ _ _ hh]; rfl
  have c3 : W.cell? ⟨w.heap.size, 3, none⟩ = some (.slice A len cap) := by rw [cell_of_row _ _ _ _ _ _ hh]; rfl
  have bW : Below w.heap.size w W := by rw [← hW]; exact (Below.refl _ _).alloc (Nat.le_refl _) _
  have HC := Lib.hid (write_any cap (h.below bW (Nat.le_refl _)) (hbs.belowM bW hB) (Nat.le_trans hB bW.size) hl hs)
  have BW := Lib.hid (Moved.of_below K bW)
  have HW := Lib.hid hW
  clear hW hh bW hbs h hs
  go_enter Try.func22, Try.ntmps22
  go_upto_region 1 with fail
  simp only [HW.out]
  go_wp2_with fail
  refine HC.out.mono ?_
  rintro e w2 ⟨rfl, hp⟩
  have HP := Lib.hid (did_under (w := w) BW.out ⟨rfl, hp⟩)
  clear hp
  go_wp2
  go_ret
  exact HP.out
set_option maxHeartbeats 1000000 in
theorem do_w2 {w : World} {b : Nat} {K : Nat → Prop} {s : DiskZ} {B : Nat} (a : ActZ) (h : Dk w b K s) (hs : Small s) (ha : ActOk w B a) (hB : B ≤ w.heap.size) (hl : a.len ≤ 1000000) (hk : a.kind = 2) :
    Calls Try.prog 22 #[.pointer (some ⟨b, 0, none⟩), .agg (aCells a).toArray] w (Did w b K (dWrite s a.zs)) := by
  obtain ⟨kind, n, m, A, len, cap, zs⟩ := a
  obtain rfl : kind = 2 := hk
  obtain ⟨_, hn, hm, hbs, hcap, hmax, _⟩ := ha
  simp only at hn hm hbs hcap hmax hl
  obtain ⟨W, hW⟩ : ∃ W, w.alloc (.cells (aCells ⟨2, n, m, A, len, cap, zs⟩).toArray 37) = W := ⟨_, rfl⟩
  have hh : W.heap[w.heap.size]? = some (.cells (aCells ⟨2, n, m, A, len, cap, zs⟩).toArray 37 (0, 0)) := by rw [← hW]; exact heap_alloc_new w _
  have c0 : W.cell? ⟨w.heap.size, 0, none⟩ = some (.int .i64 2) := by rw [cell_of_row _ _ _ _ _ _ hh]; rfl
  have c1 : W.cell? ⟨w.heap.size, 1, none⟩ = some (.int .i64 n) := by rw [cell_of_row _ _ _ _ _ _ hh]; rfl
  have c2 : W.cell? ⟨w.heap.size, 2, none⟩ = some (.int .i64 m) := by rw [cell_of_row _ _ _ _ _ _ hh]; rfl
  have c3 : W.cell? ⟨w.heap.size, 3, none⟩ = some (.slice A len cap) := by rw [cell_of_row _ _ _ _ _ _ hh]; rfl
  have bW : Below w.heap.size w W := by rw [← hW]; exact (Below.refl _ _).alloc (Nat.le_refl _) _
  have HC := Lib.hid (write_any cap (h.below bW (Nat.le_refl _)) (hbs.belowM bW hB) (Nat.le_trans hB bW.size) hl hs)
  have BW := Lib.hid (Moved.of_below K bW)
  have HW := Lib.hid hW
  clear hW hh bW hbs h hs
  go_enter Try.func22, Try.ntmps22
  go_upto_region 1 with fail
  simp only [HW.out]
  go_wp2_with fail
  refine HC.out.mono ?_
  rintro e w2 ⟨rfl, hp⟩
  have HP := Lib.hid (did_under (w := w) BW.out ⟨rfl, hp⟩)
  clear hp
  go_wp2
  go_ret
  exact HP.out
set_option maxHeartbeats 1000000 in
theorem do_s3 {w : World} {b : Nat} {K : Nat → Prop} {s : DiskZ} {B : Nat} (a : ActZ) (h : Dk w b K s) (hs : Small s) (ha : ActOk w B a) (hB : B ≤ w.heap.size) (hl : a.len ≤ 1000000) (hk : a.kind = 3) :
    Calls Try.prog 22 #[.pointer (some ⟨b, 0, none⟩), .agg (aCells a).toArray] w (Did w b K (dSync s)) := by
  obtain ⟨kind, n, m, A, len, cap, zs⟩ := a
  obtain rfl : kind = 3 := hk
  obtain ⟨_, hn, hm, hbs, hcap, hmax, _⟩ := ha
  simp only at hn hm hbs hcap hmax hl
  obtain ⟨W, hW⟩ : ∃ W, w.alloc (.cells (aCells ⟨3, n, m, A, len, cap, zs⟩).toArray 37) = W := ⟨_, rfl⟩
  have hh : W.heap[w.heap.size]? = some (.cells (aCells ⟨3, n, m, A, len, cap, zs⟩).toArray 37 (0, 0)) := by rw [← hW]; exact heap_alloc_new w _
  have c0 : W.cell? ⟨w.heap.size, 0, none⟩ = some (.int .i64 3) := by rw [cell_of_row _ _ _ _ _ _ hh]; rfl
  have c1 : W.cell? ⟨w.heap.size, 1, none⟩ = some (.int .i64 n) := by rw [cell_of_row _ _ _ _ _ _ hh]; rfl
  have c2 : W.cell? ⟨w.heap.size, 2, none⟩ = some (.int .i64 m) := by rw [cell_of_row _ _ _ _ _ _ hh]; rfl
  have c3 : W.cell? ⟨w.heap.size, 3, none⟩ = some (.slice A len cap) := by rw [cell_of_row _ _ _ _ _ _ hh]; rfl
  have bW : Below w.heap.size w W := by rw [← hW]; exact (Below.refl _ _).alloc (Nat.le_refl _) _
  have HC := Lib.hid (sync_any (h.below bW (Nat.le_refl _)) hs)
  have BW := Lib.hid (Moved.of_below K bW)
  have HW := Lib.hid hW
  clear hW hh bW hbs h hs
  go_enter Try.func22, Try.ntmps22
  go_upto_region 1 with fail
  simp only [HW.out]
  go_wp2_with fail
  refine HC.out.mono ?_
  rintro e w2 ⟨rfl, hp⟩
  have HP := Lib.hid (did_under (w := w) BW.out ⟨rfl, hp⟩)
  clear hp
  go_wp2
  go_ret
  exact HP.out
set_option maxHeartbeats 1000000 in
theorem do_c4 {w : World} {b : Nat} {K : Nat → Prop} {s : DiskZ} {B : Nat} (a : ActZ) (h : Dk w b K s) (hs : Small s) (ha : ActOk w B a) (hB : B ≤ w.heap.size) (hl : a.len ≤ 1000000) (hk : a.kind = 4) :
    Calls Try.prog 22 #[.pointer (some ⟨b, 0, none⟩), .agg (aCells a).toArray] w (Did w b K (dCrash s a.n a.m)) := by
  obtain ⟨kind, n, m, A, len, cap, zs⟩ := a
  obtain rfl : kind = 4 := hk
  obtain ⟨_, hn, hm, hbs, hcap, hmax, _⟩ := ha
  simp only at hn hm hbs hcap hmax hl
  obtain ⟨W, hW⟩ : ∃ W, w.alloc (.cells (aCells ⟨4, n, m, A, len, cap, zs⟩).toArray 37) = W := ⟨_, rfl⟩
  have hh : W.heap[w.heap.size]? = some (.cells (aCells ⟨4, n, m, A, len, cap, zs⟩).toArray 37 (0, 0)) := by rw [← hW]; exact heap_alloc_new w _
  have c0 : W.cell? ⟨w.heap.size, 0, none⟩ = some (.int .i64 4) := by rw [cell_of_row _ _ _ _ _ _ hh]; rfl
  have c1 : W.cell? ⟨w.heap.size, 1, none⟩ = some (.int .i64 n) := by rw [cell_of_row _ _ _ _ _ _ hh]; rfl
  have c2 : W.cell? ⟨w.heap.size, 2, none⟩ = some (.int .i64 m) := by rw [cell_of_row _ _ _ _ _ _ hh]; rfl
  have c3 : W.cell? ⟨w.heap.size, 3, none⟩ = some (.slice A len cap) := by rw [cell_of_row _ _ _ _ _ _ hh]; rfl
  have bW : Below w.heap.size w W := by rw [← hW]; exact (Below.refl _ _).alloc (Nat.le_refl _) _
  have HC := Lib.hid (crash_any n m (h.below bW (Nat.le_refl _)) hs hn hm)
  have BW := Lib.hid (Moved.of_below K bW)
  have HW := Lib.hid hW
  clear hW hh bW hbs h hs
  go_enter Try.func22, Try.ntmps22
  go_upto_region 1 with fail
  simp only [HW.out]
  go_wp2_with fail
  refine HC.out.mono ?_
  rintro e w2 ⟨rfl, hp⟩
  have HP := Lib.hid (did_under (w := w) BW.out ⟨rfl, hp⟩)
  clear hp
  go_wp2
  go_ret
  exact HP.out
set_option maxHeartbeats 1000000 in
theorem do_s5 {w : World} {b : Nat} {K : Nat → Prop} {s : DiskZ} {B : Nat} (a : ActZ) (h : Dk w b K s) (hs : Small s) (ha : ActOk w B a) (hB : B ≤ w.heap.size) (hl : a.len ≤ 1000000) (hk : a.kind = 5) :
    Calls Try.prog 22 #[.pointer (some ⟨b, 0, none⟩), .agg (aCells a).toArray] w (Did w b K (dStart s)) := by
  obtain ⟨kind, n, m, A, len, cap, zs⟩ := a
  obtain rfl : kind = 5 := hk
  obtain ⟨_, hn, hm, hbs, hcap, hmax, _⟩ := ha
  simp only at hn hm hbs hcap hmax hl
  obtain ⟨W, hW⟩ : ∃ W, w.alloc (.cells (aCells ⟨5, n, m, A, len, cap, zs⟩).toArray 37) = W := ⟨_, rfl⟩
  have hh : W.heap[w.heap.size]? = some (.cells (aCells ⟨5, n, m, A, len, cap, zs⟩).toArray 37 (0, 0)) := by rw [← hW]; exact heap_alloc_new w _
  have c0 : W.cell? ⟨w.heap.size, 0, none⟩ = some (.int .i64 5) := by rw [cell_of_row _ _ _ _ _ _ hh]; rfl
  have c1 : W.cell? ⟨w.heap.size, 1, none⟩ = some (.int .i64 n) := by rw [cell_of_row _ _ _ _ _ _ hh]; rfl
  have c2 : W.cell? ⟨w.heap.size, 2, none⟩ = some (.int .i64 m) := by rw [cell_of_row _ _ _ _ _ _ hh]; rfl
  have c3 : W.cell? ⟨w.heap.size, 3, none⟩ = some (.slice A len cap) := by rw [cell_of_row _ _ _ _ _ _ hh]; rfl
  have bW : Below w.heap.size w W := by rw [← hW]; exact (Below.refl _ _).alloc (Nat.le_refl _) _
  have HC := Lib.hid (start_any (h.below bW (Nat.le_refl _)))
  have BW := Lib.hid (Moved.of_below K bW)
  have HW := Lib.hid hW
  clear hW hh bW hbs h hs
  go_enter Try.func22, Try.ntmps22
  go_upto_region 1 with fail
  simp only [HW.out]
  go_wp2_with fail
  refine HC.out.mono ?_
  rintro e w2 ⟨rfl, hp⟩
  have HP := Lib.hid (did_under (w := w) BW.out ⟨rfl, hp⟩)
  clear hp
  go_wp2
  go_ret
  exact HP.out
set_option maxHeartbeats 1000000 in
theorem do_s6 {w : World} {b : Nat} {K : Nat → Prop} {s : DiskZ} {B : Nat} (a : ActZ) (h : Dk w b K s) (hs : Small s) (ha : ActOk w B a) (hB : B ≤ w.heap.size) (hl : a.len ≤ 1000000) (hk : a.kind = 6) :
    Calls Try.prog 22 #[.pointer (some ⟨b, 0, none⟩), .agg (aCells a).toArray] w (Did w b K (dStart s)) := by
  obtain ⟨kind, n, m, A, len, cap, zs⟩ := a
  obtain rfl : kind = 6 := hk
  obtain ⟨_, hn, hm, hbs, hcap, hmax, _⟩ := ha
  simp only at hn hm hbs hcap hmax hl
  obtain ⟨W, hW⟩ : ∃ W, w.alloc (.cells (aCells ⟨6, n, m, A, len, cap, zs⟩).toArray 37) = W := ⟨_, rfl⟩
  have hh : W.heap[w.heap.size]? = some (.cells (aCells ⟨6, n, m, A, len, cap, zs⟩).toArray 37 (0, 0)) := by rw [← hW]; exact heap_alloc_new w _
  have c0 : W.cell? ⟨w.heap.size, 0, none⟩ = some (.int .i64 6) := by rw [cell_of_row _ _ _ _ _ _ hh]; rfl
  have c1 : W.cell? ⟨w.heap.size, 1, none⟩ = some (.int .i64 n) := by rw [cell_of_row _ _ _ _ _ _ hh]; rfl
  have c2 : W.cell? ⟨w.heap.size, 2, none⟩ = some (.int .i64 m) := by rw [cell_of_row _ _ _ _ _ _ hh]; rfl
  have c3 : W.cell? ⟨w.heap.size, 3, none⟩ = some (.slice A len cap) := by rw [cell_of_row _ _ _ _ _ _ hh]; rfl
  have bW : Below w.heap.size w W := by rw [← hW]; exact (Below.refl _ _).alloc (Nat.le_refl _) _
  have HC := Lib.hid (start_any (h.below bW (Nat.le_refl _)))
  have BW := Lib.hid (Moved.of_below K bW)
  have HW := Lib.hid hW
  clear hW hh bW hbs h hs
  go_enter Try.func22, Try.ntmps22
  go_upto_region 1 with fail
  simp only [HW.out]
  go_wp2_with fail
  refine HC.out.mono ?_
  rintro e w2 ⟨rfl, hp⟩
  have HP := Lib.hid (did_under (w := w) BW.out ⟨rfl, hp⟩)
  clear hp
  go_wp2
  go_ret
  exact HP.out
set_option maxHeartbeats 1000000 in
theorem do_c7 {w : World} {b : Nat} {K : Nat → Prop} {s : DiskZ} {B : Nat} (a : ActZ) (h : Dk w b K s) (hs : Small s) (ha : ActOk w B a) (hB : B ≤ w.heap.size) (hl : a.len ≤ 1000000) (hk : a.kind = 7) :
    Calls Try.prog 22 #[.pointer (some ⟨b, 0, none⟩), .agg (aCells a).toArray] w (Did w b K (dCut s a.n)) := by
  obtain ⟨kind, n, m, A, len, cap, zs⟩ := a
  obtain rfl : kind = 7 := hk
  obtain ⟨_, hn, hm, hbs, hcap, hmax, _⟩ := ha
  simp only at hn hm hbs hcap hmax hl
  obtain ⟨W, hW⟩ : ∃ W, w.alloc (.cells (aCells ⟨7, n, m, A, len, cap, zs⟩).toArray 37) = W := ⟨_, rfl⟩
  have hh : W.heap[w.heap.size]? = some (.cells (aCells ⟨7, n, m, A, len, cap, zs⟩).toArray 37 (0, 0)) := by rw [← hW]; exact heap_alloc_new w _
  have c0 : W.cell? ⟨w.heap.size, 0, none⟩ = some (.int .i64 7) := by rw [cell_of_row _ _ _ _ _ _ hh]; rfl
  have c1 : W.cell? ⟨w.heap.size, 1, none⟩ = some (.int .i64 n) := by rw [cell_of_row _ _ _ _ _ _ hh]; rfl
  have c2 : W.cell? ⟨w.heap.size, 2, none⟩ = some (.int .i64 m) := by rw [cell_of_row _ _ _ _ _ _ hh]; rfl
  have c3 : W.cell? ⟨w.heap.size, 3, none⟩ = some (.slice A len cap) := by rw [cell_of_row _ _ _ _ _ _ hh]; rfl
  have bW : Below w.heap.size w W := by rw [← hW]; exact (Below.refl _ _).alloc (Nat.le_refl _) _
  have HC := Lib.hid (cut_any n (h.below bW (Nat.le_refl _)) hs)
  have BW := Lib.hid (Moved.of_below K bW)
  have HW := Lib.hid hW
  clear hW hh bW hbs h hs
  go_enter Try.func22, Try.ntmps22
  go_upto_region 1 with fail
  simp only [HW.out]
  go_wp2_with fail
  refine HC.out.mono ?_
  rintro e w2 ⟨rfl, hp⟩
  have HP := Lib.hid (did_under (w := w) BW.out ⟨rfl, hp⟩)
  clear hp
  go_wp2
  go_ret
  exact HP.out
set_option maxHeartbeats 1000000 in
theorem do_none {w : World} {b : Nat} {K : Nat → Prop} {s : DiskZ} (a : ActZ) (h : Dk w b K s) (hk : a.kind < 0 ∨ 7 < a.kind) :
    Calls Try.prog 22 #[.pointer (some ⟨b, 0, none⟩), .agg (aCells a).toArray] w (Did w b K (0, s)) := by
  obtain ⟨kind, n, m, A, len, cap, zs⟩ := a
  simp only at hk
  obtain ⟨W, hW⟩ : ∃ W, w.alloc (.cells (aCells ⟨kind, n, m, A, len, cap, zs⟩).toArray 37) = W := ⟨_, rfl⟩
  have hh : W.heap[w.heap.size]? = some (.cells (aCells ⟨kind, n, m, A, len, cap, zs⟩).toArray 37 (0, 0)) := by rw [← hW]; exact heap_alloc_new w _
  have c0 : W.cell? ⟨w.heap.size, 0, none⟩ = some (.int .i64 kind) := by rw [cell_of_row _ _ _ _ _ _ hh]; rfl
  have bW : Below w.heap.size w W := by rw [← hW]; exact (Below.refl _ _).alloc (Nat.le_refl _) _
  have HD : Hid (Did w b K (0, s) (.returned (.int .i64 0)) W) := Lib.hid ⟨rfl, K, h.below bW (Nat.le_refl _), Moved.of_below K bW, Newer.refl _ _⟩
  have HW := Lib.hid hW
  have k0 : (kind == 0) = false := by simp; omega
  have k1 : (kind == 1) = false := by simp; omega
  have k2 : (kind == 2) = false := by simp; omega
  have k3 : (kind == 3) = false := by simp; omega
  have k4 : (kind == 4) = false := by simp; omega
  have k5 : (kind == 5) = false := by simp; omega
  have k6 : (kind == 6) = false := by simp; omega
  have k7 : (kind == 7) = false := by simp; omega
  clear hW hh bW h hk
  go_enter Try.func22, Try.ntmps22
  go_upto_region 1 with fail
  simp only [HW.out]
  go_wp2
  go_ret
  exact HD.out
theorem do_any {w : World} {b : Nat} {K : Nat → Prop} {s : DiskZ} {B : Nat} (a : ActZ) (h : Dk w b K s) (hs : Small s) (ha : ActOk w B a) (hB : B ≤ w.heap.size) (hl : a.len ≤ 1000000) :
    Calls Try.prog 22 #[.pointer (some ⟨b, 0, none⟩), .agg (aCells a).toArray] w (Did w b K (dDo s a)) := by
  by_cases hk : a.kind < 0 ∨ 7 < a.kind
  · have : dDo s a = (0, s) := by
      unfold dDo
      rw [if_neg (by omega), if_neg (by omega), if_neg (by omega), if_neg (by omega), if_neg (by omega)]
    rw [this]
    exact do_none a h hk
  · rcases (show a.kind = 0 ∨ a.kind = 1 ∨ a.kind = 2 ∨ a.kind = 3 ∨ a.kind = 4 ∨ a.kind = 5 ∨ a.kind = 6 ∨ a.kind = 7 by omega) with e | e | e | e | e | e | e | e
    all_goals unfold dDo
    · rw [if_pos (by omega)]; exact do_w0 a h hs ha hB hl e
    · rw [if_pos (by omega)]; exact do_w1 a h hs ha hB hl e
    · rw [if_pos (by omega)]; exact do_w2 a h hs ha hB hl e
    · rw [if_neg (by omega), if_pos (by omega)]; exact do_s3 a h hs ha hB hl e
    · rw [if_neg (by omega), if_neg (by omega), if_pos (by omega)]; exact do_c4 a h hs ha hB hl e
    · rw [if_neg (by omega), if_neg (by omega), if_neg (by omega), if_pos (by omega)]; exact do_s5 a h hs ha hB hl e
    · rw [if_neg (by omega), if_neg (by omega), if_neg (by omega), if_pos (by omega)]; exact do_s6 a h hs ha hB hl e
    · rw [if_neg (by omega), if_neg (by omega), if_neg (by omega), if_neg (by omega), if_pos (by omega)]; exact do_c7 a h hs ha hB hl e
end Go.Proofs.Ytlbmhkccmclmfaa
