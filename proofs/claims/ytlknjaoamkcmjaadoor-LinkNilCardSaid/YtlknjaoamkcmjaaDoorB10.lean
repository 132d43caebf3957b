/- Texts of the proof, one behind the other: Rr Rrs Rrc Rrt WBack WForm. -/
import Derived.Test.YtlknjaoamkcmjaaDoorB9
import Derived.BigQuiet
import Derived.Deep.Cut
import Derived.Test.YtlknjaoamkcmjaaDoorB6
/- The document's own reader. -/
namespace Go.Proofs.YtlknjaoamkcmjaaDoor
open Go.ChangeShapes Go.WideShapes Go.ChangeAt Go.RowKit
set_option linter.unusedVariables false
open Plain
/-- Block b holds the document's reader: why it is bad, what is left of it. -/
structure Rr (w : World) (b B : Nat) (s : Int × List Int) : Prop where
  ex : ∃ (A : Option Addr) (len cap : Nat) (bs : List Int) (a : Nat), w.cell? ⟨b, 0, none⟩ = some (.slice A len cap) ∧ w.cell? ⟨b, 1, none⟩ = some (.int .i64 (a : Int)) ∧ w.cell? ⟨b, 2, none⟩ = some (.int .i64 s.1) ∧
    Bs w B A len bs ∧ len ≤ cap ∧ a ≤ len ∧ len ≤ 65536 ∧ (s.1 = 0 → s.2 = bs.drop a) ∧ (s.1 ≠ 0 → s.2 = [])
  f1 : w.frozen? ⟨b, 1, none⟩ = false
  f2 : w.frozen? ⟨b, 2, none⟩ = false
  le : B ≤ b
section
variable {w w' : World} {b B : Nat} {s : Int × List Int}
theorem Rr.lt (h : Rr w b B s) : b < w.heap.size := by
  obtain ⟨A, len, cap, bs, a, c0, _⟩ := h.ex
  exact World.block_lt_of_cell? _ _ c0
theorem Rr.keep (h : Rr w b B s) (hb : w'.heap[b]? = w.heap[b]?) (hB : ∀ k, k < B → w'.heap[k]? = w.heap[k]?) : Rr w' b B s := by
  obtain ⟨⟨A, len, cap, bs, a, c0, c1, c2, hz, r⟩, f1, f2, hle⟩ := h
  exact ⟨⟨A, len, cap, bs, a, (World.cell?_of_block (a := ⟨b, 0, none⟩) hb).trans c0, (World.cell?_of_block (a := ⟨b, 1, none⟩) hb).trans c1, (World.cell?_of_block (a := ⟨b, 2, none⟩) hb).trans c2,
    hz.keep (fun p hp => World.cell?_of_block (hB p.block hp)), r⟩, (World.frozen?_of_block (a := ⟨b, 1, none⟩) hb).trans f1, (World.frozen?_of_block (a := ⟨b, 2, none⟩) hb).trans f2, hle⟩
theorem Rr.below {B' : Nat} (h : Rr w b B s) (hb : Below B' w w') (hB : b < B') : Rr w' b B s :=
  h.keep (hb.block b hB) (fun k hk => hb.block k (by have := h.le; omega))
theorem Rr.grown {r : Option Nat} (h : Rr w b B s) (hg : w.grownBy w' r) (hr : ∀ k, r = some k → k ≠ b ∧ B ≤ k) : Rr w' b B s :=
  h.keep (hg.block b h.lt (fun e => (hr b e.symm).1 rfl)) (fun k hk => hg.block k (by have := h.lt; have := h.le; omega) (fun e => by have := (hr k e.symm).2; omega))
theorem Rr.small (h : Rr w b B s) : s.2.length ≤ 65536 := by
  obtain ⟨A, len, cap, bs, a, _, _, _, hz, _, _, h5, hg, hb⟩ := h.ex
  by_cases h0 : s.1 = 0
  · rw [hg h0, List.length_drop, hz.len]; omega
  · rw [hb h0]; simp
theorem Rr.isBytes (h : Rr w b B s) : IsBytes s.2 := by
  obtain ⟨A, len, cap, bs, a, _, _, _, hz, _, _, h5, hg, hb⟩ := h.ex
  by_cases h0 : s.1 = 0
  · rw [hg h0]; have := hz.isBytes; rw [isBytes_iff] at *; exact fun z hz => this z (List.mem_of_mem_drop hz)
  · rw [hb h0]; exact IsBytes.nil
/-- It is bad from now on. -/
theorem Rr.spoil (h : Rr w b B s) (x : Int) (hx : x ≠ 0) : Rr (w.setCell ⟨b, 2, none⟩ (.int .i64 x)) b B (x, []) := by
  obtain ⟨⟨A, len, cap, bs, a, c0, c1, c2, hz, h1, h2, h3, _, _⟩, f1, f2, hle⟩ := h
  refine ⟨⟨A, len, cap, bs, a, ?_, ?_, World.cell?_setCell_same _ _ _ c2, hz.setCell hle _, h1, h2, h3, fun e => absurd e hx, fun _ => rfl⟩, ?_, ?_, hle⟩
  · rw [World.cell?_setCell_other _ _ _ _ (by simp)]; exact c0
  · rw [World.cell?_setCell_other _ _ _ _ (by simp)]; exact c1
  · rw [World.frozen?_setCell]; exact f1
  · rw [World.frozen?_setCell]; exact f2
end
def RReads (w : World) (b B : Nat) (v : Value) (s : Int × List Int) (e : Ending) (w' : World) : Prop := e = .returned v ∧ Rr w' b B s ∧ w.grownBy w' (some b)
end Go.Proofs.YtlknjaoamkcmjaaDoor
/- What the document's own reader tells. -/
namespace Go.Proofs.YtlknjaoamkcmjaaDoor
open Go.ChangeShapes Go.WideShapes Go.ChangeAt Go.RowKit
set_option linter.unusedVariables false
open Plain
section
variable {w : World} {b B : Nat} {why : Int} {rest : List Int}
theorem Rr.nil (h : Rr w b B (why, rest)) (hw : why ≠ 0) : rest = [] := by
  obtain ⟨A, len, cap, bs, a, _, _, _, _, _, _, _, _, hb⟩ := h.ex
  exact hb hw
theorem isList_nil (w : World) (base : Nat) : IsList (.slice none 0 0) w base [] := ⟨none, 0, rfl, World.ownsRow_nil _ _ _ _, Nat.le_refl _, by unfold maxLen; omega⟩
end
end Go.Proofs.YtlknjaoamkcmjaaDoor
/- A count, a tag, as the document's own reader tells them; a new one. -/
namespace Go.Proofs.YtlknjaoamkcmjaaDoor
open Go.ChangeShapes Go.WideShapes Go.ChangeAt Go.RowKit
set_option linter.unusedVariables false
open Plain
section
variable {w : World} {b B : Nat} {why : Int} {rest : List Int}
end
end Go.Proofs.YtlknjaoamkcmjaaDoor
/- A tag, as the document's own reader tells it. -/
namespace Go.Proofs.YtlknjaoamkcmjaaDoor
open Go.ChangeShapes Go.WideShapes Go.ChangeAt Go.RowKit
set_option linter.unusedVariables false
open Plain
theorem row8_setT {w : World} {b : Nat} {l : List Int} (h : Row8 w b 0 l) (k : Nat) (x : Int) (hk : k < l.length) : Row8 (w.setCell ⟨b, k, none⟩ (.int .u8 x)) b 0 (l.set k x) := by
  have := h.splice k [x] (by simp; omega)
  have e : splice l k [x] = l.set k x := list_ext_getD (by rw [splice_len (by simp; omega), List.length_set]) (fun j hj => by
    rw [splice_at _ _ _ _ (by simp; omega), getD_set _ _ _ _ hk]
    by_cases e : k = j
    · subst e; rw [if_pos (by simp), if_pos rfl, Nat.sub_self]; rfl
    · rw [if_neg (by simp; omega), if_neg e])
  rw [e, Nat.zero_add] at this
  exact this
theorem row8_cellT {w : World} {b : Nat} {l : List Int} (h : Row8 w b 0 l) {k : Nat} (hk : k < l.length) {x : Int} (hx : l.getD k 0 = x) : w.cell? ⟨b, k, none⟩ = some (.int .u8 x) ∧ w.frozen? ⟨b, k, none⟩ = false := by
  have h1 := h.range k _ (vals_at l k hk)
  have h2 := h.there k hk
  rw [Nat.zero_add] at h1 h2
  rw [hx] at h1
  exact ⟨h1, h2.2⟩
end Go.Proofs.YtlknjaoamkcmjaaDoor
/- The statement WireBack: the walk. -/
namespace Go.Proofs.YtlknjaoamkcmjaaDoor
open Go.ChangeShapes Go.WideShapes Go.ChangeAt Go.RowKit
set_option linter.unusedVariables false
open Plain
theorem len_le_gsum (F : Nat → FieldZ) {j m : Nat} (h : j < m) : (F j).len ≤ gsum F m := by
  have := gsum_le F (j + 1) m h
  have h2 : gsum F (j + 1) = gsum F j + (F j).len + 40 := rfl
  omega
end Go.Proofs.YtlknjaoamkcmjaaDoor
/- The document's own form of fields. -/
namespace Go.Proofs.YtlknjaoamkcmjaaDoor
open Go.ChangeShapes Go.WideShapes Go.ChangeAt Go.RowKit
set_option linter.unusedVariables false
open Plain
set_option maxRecDepth 100000 in
theorem refint_any (n : Int) (h0 : -9223372036854775808 ≤ n) (h1 : n ≤ 9223372036854775807) (w : World) : Calls Tryd.prog 49 #[.int .i64 n] w (Made w (n64 n)) := by
  have HP : Hid (Calls Tryd.prog 73 #[.int .u64 (n % 18446744073709551616), .int .i64 8] w (Made w (n64 n))) := Lib.hid (refput_any (n % 18446744073709551616) 8 (by omega) (by omega) (by omega) w)
  have gw : IntKind.u64.wrap n = n % 18446744073709551616 := by rw [IntKind.wrap_u64]
  go_enter Tryd.func49, Tryd.ntmps49
  go_wp2_with (go_at_call 73; refine HP.out.mono ?_; rintro e w' ⟨A, c, rfl, hm⟩)
  go_ret
  exact ⟨A, c, rfl, hm⟩
set_option maxRecDepth 100000 in
theorem refbytesW_any {w : World} {B n : Nat} {A : Option Addr} (c : Nat) {zs : List Int} (h : Bs w B A n zs) (hB : B ≤ w.heap.size) (hn : n ≤ 65536) : Calls Tryd.prog 50 #[.slice A n c] w (Made w (bytesF zs)) := by
  have gw : IntKind.u64.wrap (n : Int) = (n : Int) := by rw [IntKind.wrap_u64]; omega
  have HP := Lib.hid (refput_any (n : Int) 4 (by omega) (by omega) (by omega) w)
  have E1 : Hid (putZ (n : Int) 4 ++ zs = bytesF zs) := Lib.hid (by rw [bytesF_small (by rw [h.len]; exact hn)]; unfold bytesFn; rw [h.len])
  have L1 : Hid ((bytesF zs).length = 4 + n) := Lib.hid (by rw [← E1.out, List.length_append, putZ_len, h.len])
  have HB := Lib.hid h
  clear h
  go_enter Tryd.func50, Tryd.ntmps50
  go_wp2_with fail
  refine HP.out.mono ?_
  intro e w1 hm1
  obtain ⟨P1, p1, rfl, ho1, b1, _, _⟩ := hm1.n (putZ_len _ _)
  have C2 := Lib.hid (refcat_any (w := w1) p1 c (Made.bs ho1 (putZ_bytes _ _)) (HB.out.belowM b1 hB) (Nat.le_refl _) (Nat.le_trans hB b1.size) (by omega))
  rw [E1.out] at C2
  have q1 := Lib.hid b1
  clear hm1 ho1 b1 HP
  go_wp2_with fail
  refine C2.out.mono ?_
  intro e w2 hm2
  obtain ⟨P2, p2, rfl, ho2, b2, _, _⟩ := hm2.n L1.out
  have q2 := Lib.hid (q1.out.trans (b2.mono q1.out.size))
  have O2 := Lib.hid (own_base ho2 q1.out.size)
  clear hm2 ho2 b2 C2
  go_wp2
  go_ret
  exact made_of L1.out O2.out q2.out
set_option maxRecDepth 100000 in
set_option maxHeartbeats 1000000 in
theorem reftag_any (T : List Int) (hl : T.length = 32) (hb : IsBytes T) (w : World) : Calls Tryd.prog 38 #[.agg (vals T).toArray] w (Made w T) := by
  obtain ⟨W, hW⟩ : ∃ W, w.alloc (.cells (vals T).toArray 24) = W := ⟨_, rfl⟩
  have q0 : Below w.heap.size w W := by rw [← hW]; exact (Below.refl _ _).alloc (Nat.le_refl _) _
  have FR : Hid (W.rangeAt w.heap.size 0 (vals T)) := Lib.hid (by rw [← hW]; exact (Row8.new w T _).range)
  have FI := Lib.hid (tag_info hl)
  have HC := Lib.hid (refbytes_any T hl hb W)
  have HL := Lib.hid hl
  have Q0 := Lib.hid q0
  have HW := Lib.hid hW
  clear q0 hW
  go_enter Tryd.func38, Tryd.ntmps38
  go_upto_region 1 with fail
  rw [HW.out]
  have G1 := FI
  go_wp2_with (first
    | (have g := G1; clear g; refine wpList_load_mid (op := ⟨some 3, .load 24 (.tmp 1), _, _, _, _⟩) rfl 24 (.tmp 1) rfl w.heap.size 0 rfl (vals T) _ FR.out Tryd.underlying24 rfl FI.out ?_; clear G1)
    | (go_at_call 47; refine HC.out.mono ?_; intro e w' hm; obtain ⟨A, c, rfl, ho, hb2, h1, h2⟩ := hm.n HL.out))
  have O2 := own_base ho Q0.out.size
  have Q2 := Q0.out.trans (hb2.mono Q0.out.size)
  go_ret
  exact made_of HL.out O2 Q2
/-- A field's zero. -/
def f0 : FieldZ := ⟨0, 0, none, 0, 0, [], List.replicate 32 0⟩
theorem fCells_one (f : FieldZ) : ∀ v ∈ fCells f, v.oneCell' = true := by
  intro v hv
  unfold fCells fHead at hv
  rcases List.mem_append.1 hv with hv | hv
  · simp only [List.mem_cons, List.not_mem_nil, or_false] at hv
    rcases hv with rfl | rfl | rfl <;> rfl
  · exact vals_one _ v hv
theorem box_range {w : World} {g : Nat} {f : FieldZ} (h : w.rangeAt g 0 (fCells f)) : Boxed w g f := by
  refine ⟨h 0 _ rfl, h 1 _ rfl, h 2 _ rfl, fun j v hv => ?_⟩
  have := h (3 + j) v (by
    unfold fCells fHead
    rw [List.getElem?_append_right (by simp)]
    simpa using hv)
  rw [Nat.zero_add] at this
  exact this
theorem u8_row2 : (Tryd.prog.info? 5).map (fun i => (i.zero, i.size, i.bytes)) = some (some (.int .u8 0), 1, 1) := by kernel_rfl
end Go.Proofs.YtlknjaoamkcmjaaDoor
