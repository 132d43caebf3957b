/- The document's own disk in memory, and its calls. -/
import Derived.Test.YtlbmhkccmclmfaaDDo
import Derived.Deep.Cut
namespace Go.Proofs.Ytlbmhkccmclmfaa
open Go.ChangeShapes Go.WideShapes Go.ChangeAt Go.RowKit
set_option linter.unusedVariables false
/-- Where writes end. -/
def endsZ (n : Nat) : List (List Int) → List Nat
  | [] => []
  | x :: l => (n + x.length) :: endsZ (n + x.length) l
def ints (l : List Nat) : List Value := l.map fun (n : Nat) => .int .i64 (n : Int)
theorem endsZ_len : ∀ (n : Nat) (l : List (List Int)), (endsZ n l).length = l.length
  | _, [] => rfl
  | n, x :: l => by simp [endsZ, endsZ_len]
theorem endsZ_snoc : ∀ (n : Nat) (l : List (List Int)) (x : List Int), endsZ n (l ++ [x]) = endsZ n l ++ [n + l.flatten.length + x.length]
  | n, [], x => by simp [endsZ]
  | n, y :: l, x => by simp [endsZ, endsZ_snoc, Nat.add_assoc]
theorem endsZ_at : ∀ (n : Nat) (l : List (List Int)) (k : Nat), k < l.length → (endsZ n l)[k]? = some (n + (l.take (k + 1)).flatten.length)
  | n, [], k, h => by simp at h
  | n, x :: l, 0, h => by simp [endsZ]
  | n, x :: l, k + 1, h => by
    have := endsZ_at (n + x.length) l k (by simpa using h)
    simp only [endsZ, List.getElem?_cons_succ, this, List.take_succ_cons, List.flatten_cons, List.length_append]
    congr 1; omega
theorem ints_app (a b : List Nat) : ints (a ++ b) = ints a ++ ints b := by simp [ints]
theorem ints_len (a : List Nat) : (ints a).length = a.length := by simp [ints]
theorem int_info : ∃ i z, Try.prog.info? 3 = some i ∧ i.zero = some z ∧ i.size = 1 ∧ i.bytes = 8 ∧ z.cells.size = 1 := by
  obtain ⟨i, hi, hz, hs, hb⟩ := info_parts (show (Try.prog.info? 3).map (fun i => (i.zero, i.size, i.bytes)) = some (some (.int .i64 0), 1, 8) by kernel_rfl)
  exact ⟨i, _, hi, hz, hs, hb, rfl⟩
structure RfAt (w : World) (r : Nat) (K : Nat → Prop) (s : DiskZ) (v u : Value) : Prop where
  kb : K r
  lt : ∀ k, K k → k < w.heap.size
  b : w.cell? ⟨r, 0, none⟩ = some v
  syn : w.cell? ⟨r, 1, none⟩ = some (.int .i64 (s.zs.length : Nat))
  ends : w.cell? ⟨r, 2, none⟩ = some u
  down : w.cell? ⟨r, 3, none⟩ = some (.bool (!s.up))
  f : ∀ i, w.frozen? ⟨r, i, none⟩ = false
  own0 : w.ownsRow 0 5 1 v (allZ s).length (vals (allZ s))
  blk0 : ∀ k, v.ownBlock = some k → K k ∧ k ≠ r
  bytes : IsBytes (allZ s)
  own2 : w.ownsRow 0 3 1 u s.ws.length (ints (endsZ s.zs.length s.ws))
  blk2 : ∀ k, u.ownBlock = some k → K k ∧ k ≠ r ∧ v.ownBlock ≠ some k
def Rf (w : World) (r : Nat) (K : Nat → Prop) (s : DiskZ) : Prop := ∃ v u, RfAt w r K s v u
section
variable {w w1 : World} {r : Nat} {K : Nat → Prop} {s : DiskZ} {v u : Value}
theorem RfAt.keep (h : RfAt w r K s v u) (hk : ∀ k, K k → w1.heap[k]? = w.heap[k]?) (hs : w.heap.size ≤ w1.heap.size) : RfAt w1 r K s v u :=
  have hb := hk r h.kb
  ⟨h.kb, fun k hK => Nat.lt_of_lt_of_le (h.lt k hK) hs, (World.cell?_of_block (a := ⟨r, 0, none⟩) hb).trans h.b, (World.cell?_of_block (a := ⟨r, 1, none⟩) hb).trans h.syn, (World.cell?_of_block (a := ⟨r, 2, none⟩) hb).trans h.ends, (World.cell?_of_block (a := ⟨r, 3, none⟩) hb).trans h.down,
    fun i => (World.frozen?_of_block (a := ⟨r, i, none⟩) hb).trans (h.f i), own_same h.own0 (fun g hg => hk g (h.blk0 g hg).1), h.blk0, h.bytes, own_same h.own2 (fun g hg => hk g (h.blk2 g hg).1), h.blk2⟩
theorem Rf.keep (h : Rf w r K s) (hk : ∀ k, K k → w1.heap[k]? = w.heap[k]?) (hs : w.heap.size ≤ w1.heap.size) : Rf w1 r K s := by
  obtain ⟨v, u, h⟩ := h
  exact ⟨v, u, h.keep hk hs⟩
theorem Rf.lt (h : Rf w r K s) : ∀ k, K k → k < w.heap.size := by obtain ⟨v, u, h⟩ := h; exact h.lt
theorem Rf.below (h : Rf w r K s) (hb : Below w.heap.size w w1) : Rf w1 r K s := h.keep (fun k hk => hb.block k (h.lt k hk)) hb.size
theorem Rf.moved {F : Nat → Prop} (h : Rf w r K s) (hm : Moved F w w1) (hF : ∀ k, K k → ¬ F k) : Rf w1 r K s := h.keep (fun k hk => hm.block k (h.lt k hk) (hF k hk)) hm.size
theorem RfAt.val (h : RfAt w r K s v u) : ∃ A n c, (allZ s).length = n ∧ v = .slice A n c ∧ n ≤ c ∧ c ≤ maxLen ∧ Bs w w.heap.size A n (allZ s) := by
  obtain ⟨A, c, rfl, h1, h2⟩ := own_shape h.own0
  exact ⟨A, _, c, rfl, rfl, h1, h2, bs_of_own h.own0 h.bytes⟩
theorem RfAt.row (h : RfAt w r K s v u) : ∃ E m d, s.ws.length = m ∧ u = .slice E m d ∧ m ≤ d ∧ d ≤ maxLen ∧ ∀ k, k < m → ∃ g, E = some ⟨g, 0, none⟩ ∧ w.cell? ⟨g, k, none⟩ = some (.int .i64 ((s.zs.length + (s.ws.take (k + 1)).flatten.length : Nat) : Int)) := by
  obtain ⟨E, d, rfl, h1, h2⟩ := own_shape h.own2
  refine ⟨E, _, d, rfl, rfl, h1, h2, fun k hk => ?_⟩
  obtain ⟨g, cap, hv, _, hlt⟩ := h.own2.form (by omega)
  injection hv with e1 e2 e3
  subst e1
  refine ⟨g, rfl, ?_⟩
  have := h.own2.cells (g := g) rfl k (.int .i64 ((s.zs.length + (s.ws.take (k + 1)).flatten.length : Nat) : Int)) (by unfold ints; rw [List.getElem?_map, endsZ_at _ _ _ hk]; rfl)
  rwa [Go.WideShapes.add_plain, Nat.zero_add] at this
end
/-- What a call of the document's disk hands back. -/
def RDid (w : World) (r : Nat) (K : Nat → Prop) (x : Int × DiskZ) (e : Ending) (w' : World) : Prop :=
  e = .returned (.int .i64 x.1) ∧ ∃ K', Rf w' r K' x.2 ∧ Moved K w w' ∧ Newer w K K'
/-- Its fields are stored anew: the bytes in a new row, no ends. -/
theorem RfAt.anew {w w3 w4 : World} {r : Nat} {K : Nat → Prop} {s s' : DiskZ} {v u v' : Value} {n : Nat} (h : RfAt w r K s v u) (hb : Below w.heap.size w w3) (ho : w3.ownsRow w.heap.size 5 1 v' n (vals (allZ s'))) (hn : (allZ s').length = n) (hz : IsBytes (allZ s')) (hw : s'.ws = [])
    (hh : ∀ k, k ≠ r → w4.heap[k]? = w3.heap[k]?) (hs : w4.heap.size = w3.heap.size) (h0 : w4.os = w3.os) (h1 : w4.tape = w3.tape) (h2 : w4.output = w3.output) (c0 : w4.cell? ⟨r, 0, none⟩ = some v') (c1 : w4.cell? ⟨r, 1, none⟩ = some (.int .i64 (s'.zs.length : Nat))) (c2 : w4.cell? ⟨r, 2, none⟩ = some (.slice none 0 0)) (c3 : w4.cell? ⟨r, 3, none⟩ = some (.bool (!s'.up)))
    (hf : ∀ i, w4.frozen? ⟨r, i, none⟩ = false) : Rf w4 r (Wider K w w4) s' ∧ Moved K w w4 := by
  have hr := h.lt r h.kb
  have hv : ∀ k, v'.ownBlock = some k → w.heap.size ≤ k ∧ k < w3.heap.size := fun k hk => ho.lt k hk
  refine ⟨⟨v', .slice none 0 0, .inl h.kb, fun k hk => ?_, c0, c1, c2, c3, hf, ?_, fun k hk => ⟨.inr ⟨(hv k hk).1, by have := (hv k hk).2; omega⟩, by have := (hv k hk).1; omega⟩, hz, ?_, fun k hk => by cases hk⟩, ?_⟩
  · have := hb.size
    rcases hk with hk | hk
    · have := h.lt k hk; omega
    · exact hk.2
  · rw [hn]; exact own_base (own_same ho (fun k hk => hh k (by have := (hv k hk).1; omega))) (Nat.zero_le _)
  · rw [hw]; exact World.ownsRow_nil _ _ _ _
  · have := hb.size
    exact ⟨h0.trans hb.os, h1.trans hb.tape, h2.trans hb.output, by omega, fun k hk hK => (hh k (fun e => hK (by rw [e]; exact h.kb))).trans (hb.block k hk)⟩
theorem rstart_any {w : World} {r : Nat} {K : Nat → Prop} {s : DiskZ} (h : Rf w r K s) : Calls Try.prog 30 #[.pointer (some ⟨r, 0, none⟩)] w (RDid w r K (dStart s)) := by
  have HD := Lib.hid h
  obtain ⟨v, u, h⟩ := h
  have h3 := h.down
  have f3 := h.f 3
  have HA := Lib.hid h
  clear h
  cases hu : s.up with
  | true =>
    rw [hu] at h3
    have HZ : Hid (dStart s = (2, s)) := Lib.hid (by unfold dStart; rw [hu]; rfl)
    clear hu
    go_enter Try.func30, Try.ntmps30
    go_wp2
    go_ret
    rw [HZ.out]
    exact ⟨rfl, K, HD.out, Moved.refl _ _, Newer.refl _ _⟩
  | false =>
    rw [hu] at h3
    have HZ : Hid (dStart s = (0, ⟨true, s.zs, s.ws⟩)) := Lib.hid (by unfold dStart; rw [hu]; rfl)
    have HR : Hid (RfAt (w.setCell ⟨r, 3, none⟩ (.bool false)) r K ⟨true, s.zs, s.ws⟩ v u) := Lib.hid (by
      have far : ∀ k, k ≠ r → (w.setCell ⟨r, 3, none⟩ (.bool false)).heap[k]? = w.heap[k]? := fun k hk => Below.heap_setCell _ _ _ _ hk
      have h := HA.out
      refine ⟨h.kb, fun k hk => by have := h.lt k hk; simpa [World.setCell] using this, ?_, ?_, ?_, World.cell?_setCell_same _ _ _ h.down, fun i => by rw [World.frozen?_setCell]; exact h.f i, own_same h.own0 (fun k hk => far k (h.blk0 k hk).2), h.blk0, h.bytes, own_same h.own2 (fun k hk => far k (h.blk2 k hk).2.1), h.blk2⟩
      · rw [World.cell?_setCell_other _ _ _ _ (by simp)]; exact h.b
      · rw [World.cell?_setCell_other _ _ _ _ (by simp)]; exact h.syn
      · rw [World.cell?_setCell_other _ _ _ _ (by simp)]; exact h.ends)
    clear hu
    go_enter Try.func30, Try.ntmps30
    go_wp2
    go_ret
    rw [HZ.out]
    exact ⟨rfl, K, ⟨_, _, HR.out⟩, Moved.cell _ _ _ _ HA.out.kb, Newer.refl _ _⟩
theorem rsync_any {w : World} {r : Nat} {K : Nat → Prop} {s : DiskZ} (h : Rf w r K s) : Calls Try.prog 28 #[.pointer (some ⟨r, 0, none⟩)] w (RDid w r K (dSync s)) := by
  have HD := Lib.hid h
  obtain ⟨v, u, h⟩ := h
  obtain ⟨A, n, c, hn, rfl, _, _, _⟩ := h.val
  have h0 := h.b
  have h1 := h.syn
  have h2 := h.ends
  have h3 := h.down
  have f1 := h.f 1
  have f2 := h.f 2
  have HN := Lib.hid hn
  have HA := Lib.hid h
  clear h hn
  cases hu : s.up with
  | false =>
    rw [hu] at h3
    have HZ : Hid (dSync s = (60, s)) := Lib.hid (by unfold dSync; rw [hu]; rfl)
    clear hu
    go_enter Try.func28, Try.ntmps28
    go_wp2
    go_ret
    rw [HZ.out]
    exact ⟨rfl, K, HD.out, Moved.refl _ _, Newer.refl _ _⟩
  | true =>
    rw [hu] at h3
    have HZ : Hid (dSync s = (0, ⟨true, allZ s, []⟩)) := Lib.hid (by unfold dSync; rw [hu]; rfl)
    have HR : Hid (Rf ((w.setCell ⟨r, 1, none⟩ (.int .i64 n)).setCell ⟨r, 2, none⟩ (.slice none 0 0)) r K ⟨true, allZ s, []⟩) := Lib.hid (by
      have h := HA.out
      have far : ∀ k, k ≠ r → ((w.setCell ⟨r, 1, none⟩ (.int .i64 n)).setCell ⟨r, 2, none⟩ (.slice none 0 0)).heap[k]? = w.heap[k]? := fun k hk => (Below.heap_setCell _ _ _ _ hk).trans (Below.heap_setCell _ _ _ _ hk)
      refine ⟨_, _, h.kb, fun k hk => by have := h.lt k hk; simpa [World.setCell] using this, (?_ : _ = some (.slice A n c)), ?_, World.cell?_setCell_same _ _ _ (by rw [World.cell?_setCell_other _ _ _ _ (by simp)]; exact h.ends), ?_, fun i => by rw [World.frozen?_setCell, World.frozen?_setCell]; exact h.f i, ?_, h.blk0, ?_, World.ownsRow_nil _ _ _ _, fun k hk => by cases hk⟩
      · rw [World.cell?_setCell_other _ _ _ _ (by simp), World.cell?_setCell_other _ _ _ _ (by simp)]; exact h.b
      · rw [World.cell?_setCell_other _ _ _ _ (by simp)]
        show _ = some (Value.int .i64 (((allZ s).length : Nat) : Int))
        rw [HN.out]
        exact World.cell?_setCell_same _ _ _ h.syn
      · rw [World.cell?_setCell_other _ _ _ _ (by simp), World.cell?_setCell_other _ _ _ _ (by simp)]; rw [h.down, hu]
      · rw [allZ_flat]
        exact own_same h.own0 (fun k hk => far k (h.blk0 k hk).2)
      · rw [allZ_flat]; exact h.bytes)
    have HK := HA.out.kb
    clear hu
    go_enter Try.func28, Try.ntmps28
    go_wp2
    go_ret
    rw [HZ.out]
    exact ⟨rfl, K, HR.out, (Moved.cell _ _ ⟨r, 1, none⟩ _ HK).then (Moved.cell _ _ ⟨r, 2, none⟩ _ HK), Newer.refl _ _⟩
set_option maxHeartbeats 1000000 in
theorem rwrite_any {w : World} {r : Nat} {K : Nat → Prop} {s : DiskZ} {B n : Nat} {A : Option Addr} (c : Nat) {zs : List Int} (h : Rf w r K s) (hz : Bs w B A n zs) (hB : B ≤ w.heap.size) (hn : n ≤ 1000000) (hs : Small s) : Calls Try.prog 27 #[.pointer (some ⟨r, 0, none⟩), .slice A n c] w (RDid w r K (dWrite s zs)) := by
  have HD := Lib.hid h
  obtain ⟨v, u, h⟩ := h
  obtain ⟨A0, n0, c0, hn0, rfl, _, _, hbs⟩ := h.val
  have h0 := h.b
  have h3 := h.down
  have f0 := h.f 0
  have HN0 := Lib.hid hn0
  have HA := Lib.hid h
  have hby := hs.bytes
  have hwr := hs.writes
  have HZ0 := Lib.hid hz.len
  have hr0 := h.lt r h.kb
  cases hu : s.up with
  | false =>
    rw [hu] at h3
    have HZ : Hid (dWrite s zs = (60, s)) := Lib.hid (by unfold dWrite; rw [hu]; rfl)
    clear hu h hn0 hbs hby hwr hs
    go_enter Try.func27, Try.ntmps27
    go_wp2
    go_ret
    rw [HZ.out]
    exact ⟨rfl, K, HD.out, Moved.refl _ _, Newer.refl _ _⟩
  | true =>
    rw [hu] at h3
    have HZ : Hid (dWrite s zs = (0, ⟨true, s.zs, s.ws ++ [zs]⟩)) := Lib.hid (by unfold dWrite; rw [hu]; rfl)
    have HCat := Lib.hid (refcat_any c0 c hbs hz (Nat.le_refl _) hB (by omega))
    have HUU := Lib.hid hu
    have HLen : Hid ((allZ s ++ zs).length = n0 + n) := Lib.hid (by rw [List.length_append, hn0, hz.len])
    have HBy : Hid (IsBytes (allZ s ++ zs)) := Lib.hid (h.bytes.app hz.isBytes)
    have hsum : n0 + n ≤ 2000000 := by omega
    clear hu h hn0 hbs hby hz hs hn
    go_enter Try.func27, Try.ntmps27
    go_upto_region 4 with (go_at_call 41; refine HCat.out.mono ?_; intro e w0 hm0; obtain ⟨A1, c1, rfl, ho1, hb1, hc1, hc1m⟩ := hm0.n HLen.out; have e0 : w0.cell? ⟨r, 0, none⟩ = some (.slice A0 n0 c0) := (hb1.cell (p := ⟨r, 0, none⟩) hr0).trans h0; have g0 : w0.frozen? ⟨r, 0, none⟩ = false := (hb1.frozen (p := ⟨r, 0, none⟩) hr0).trans f0; clear hm0)
    obtain ⟨n1, hn1⟩ : ∃ n1, n0 + n = n1 := ⟨_, rfl⟩
    rw [hn1] at ho1 hc1 hsum HLen
    simp only [hn1]
    clear hn1
    obtain ⟨w1, hw1⟩ : ∃ w1, w0.setCell ⟨r, 0, none⟩ (.slice A1 n1 c1) = w1 := ⟨_, rfl⟩
    have s0 := hb1.size
    have sz1 : w1.heap.size = w0.heap.size := by rw [← hw1]; simp [World.setCell]
    have far1 : ∀ k, k ≠ r → w1.heap[k]? = w0.heap[k]? := fun k hk => by rw [← hw1]; exact Below.heap_setCell _ _ _ _ hk
    have mv1 : Moved (fun k => k = r) w w1 := by rw [← hw1]; exact (Moved.of_below _ hb1).then (Moved.cell _ _ _ _ rfl)
    have hc1i : ∀ i, i ≠ 0 → w1.cell? ⟨r, i, none⟩ = w.cell? ⟨r, i, none⟩ := fun i hi => by
      rw [← hw1, World.cell?_setCell_other _ _ _ _ (fun e => hi (congrArg Addr.off e).symm)]
      exact hb1.cell (p := ⟨r, i, none⟩) hr0
    have h1 : w1.cell? ⟨r, 0, none⟩ = some (.slice A1 n1 c1) := by rw [← hw1]; exact World.cell?_setCell_same _ _ _ e0
    have hfz : ∀ i, w1.frozen? ⟨r, i, none⟩ = false := fun i => by rw [← hw1, World.frozen?_setCell]; exact (hb1.frozen (p := ⟨r, i, none⟩) hr0).trans (HA.out.f i)
    have o1 : w1.ownsRow w.heap.size 5 1 (.slice A1 n1 c1) n1 (vals (allZ s ++ zs)) := own_same ho1 (fun k hk => far1 k (by have := (ho1.lt k hk).1; omega))
    obtain ⟨E, m, d, hm, he, hmd, hdm, _⟩ := HA.out.row
    subst he
    have HM := Lib.hid hm
    have hm3 : m ≤ 1000000 := by omega
    have h2 : w1.cell? ⟨r, 2, none⟩ = some (.slice E m d) := (hc1i 2 (by omega)).trans HA.out.ends
    have hr : r < w1.heap.size := by omega
    obtain ⟨X, hX⟩ : ∃ X, (w1.alloc (.cells #[.int .i64 (n1 : Int)] 3)).drew = X := ⟨_, rfl⟩
    have bX : Below w1.heap.size w1 X := by rw [← hX]; exact ((Below.refl _ w1).alloc (Nat.le_refl _) _).drew
    have sX : X.heap.size = w1.heap.size + 1 := by rw [← hX]; show (w1.alloc _).heap.size = _; simp
    have HX := Lib.hid hX
    have hh : X.heap[w1.heap.size]? = some (.cells #[.int .i64 (n1 : Int)] 3 (0, 0)) := by rw [← hX]; exact heap_alloc_new w1 _
    have HO : Hid (X.ownsRow 0 3 1 (.slice E m d) m (ints (endsZ s.zs.length s.ws))) := Lib.hid (by
      have o2 := HA.out.own2
      rw [hm] at o2
      exact own_same o2 (fun k hk => by
        have := HA.out.blk2 k (by rw [hk])
        have hkl := HA.out.lt k this.1
        exact (bX.block k (by omega)).trans (mv1.block k hkl this.2.1)))
    have HL : Hid (Lies X 1 (some ⟨w0.heap.size, 0, none⟩) 1 [.int .i64 (n1 : Int)] ∧ Sourced (some ⟨w0.heap.size, 0, none⟩) 1) := Lib.hid (by rw [← sz1]; exact ⟨⟨rfl, fun ad hA j q hq => by
      injection hA with hA
      subst hA
      exact World.news_of_block hh j q hq⟩, fun e => by cases e⟩)
    have hEr : (Value.slice E m d).ownBlock ≠ some r := fun e => (HA.out.blk2 r e).2.1 rfl
    have HC : Hid (∀ w3, X.grownBy w3 (Value.slice E m d).ownBlock → w3.cell? ⟨r, 0, none⟩ = some (.slice A1 n1 c1) ∧ w3.cell? ⟨r, 2, none⟩ = some (.slice E m d) ∧ w3.frozen? ⟨r, 2, none⟩ = false) := Lib.hid (fun w3 hg => by
      have e := (hg.block r (by omega) (fun e => hEr e.symm)).trans (bX.block r hr)
      exact ⟨(World.cell?_of_block (a := ⟨r, 0, none⟩) e).trans h1, (World.cell?_of_block (a := ⟨r, 2, none⟩) e).trans h2, (World.frozen?_of_block (a := ⟨r, 2, none⟩) e).trans (hfz 2)⟩)
    have HW1 := Lib.hid hw1
    have BX := Lib.hid bX
    have O1 := Lib.hid o1
    have MV := Lib.hid mv1
    have HCI := Lib.hid hc1i
    have HFZ := Lib.hid hfz
    simp only [HW1.out]
    clear hX bX hh ho1 hb1 e0 g0 h0 h3 f0 hw1 far1 mv1 hc1i hfz o1 hm HCat
    refine Late.region (fun w' => w'.cell? ⟨r, 0, none⟩ = some (.slice A1 n1 c1) ∧ w'.cell? ⟨r, 2, none⟩ = some (.slice E m d)) [12, 13, 14] (by kernel_rfl) ⟨h1, h2⟩ (fun hHeld => ?_)
    refine Late.take (i := 0) (oi := ⟨some 18, Op.move (Operand.tmp 0), _, _, _, _⟩) (v := ?_) rfl (by kernel_rfl) (by kernel_rfl) (by kernel_rfl) (by kernel_rfl) (fun _ _ _ h => h) (Or.inl ⟨by rfl, fun w hSw => ?_⟩) (by assumption) ?_
    rotate_left
    · (obtain ⟨s1, s2⟩ := hSw; go_simp; try with_reducible rfl)
    try simp only [Act.put, List.setIfInBounds_toArray, List.set_cons_zero, List.set_cons_succ]
    refine Late.take (i := 1) (oi := ⟨some 19, Op.move (Operand.tmp 0), _, _, _, _⟩) (v := ?_) rfl (by kernel_rfl) (by kernel_rfl) (by kernel_rfl) (by kernel_rfl) (fun _ _ _ h => h) (Or.inl ⟨by rfl, fun w hSw => ?_⟩) (by assumption) ?_
    rotate_left
    · (obtain ⟨s1, s2⟩ := hSw; go_simp; try with_reducible rfl)
    try simp only [Act.put, List.setIfInBounds_toArray, List.set_cons_zero, List.set_cons_succ]
    refine Late.take (i := 2) (oi := ⟨some 20, Op.nilCheck (Operand.tmp 19), _, _, _, _⟩) (v := ?_) rfl (by kernel_rfl) (by kernel_rfl) (by kernel_rfl) (by kernel_rfl) (fun _ _ _ h => h) (Or.inl ⟨by rfl, fun w hSw => ?_⟩) (by assumption) ?_
    rotate_left
    · (obtain ⟨s1, s2⟩ := hSw; go_simp; try with_reducible rfl)
    try simp only [Act.put, List.setIfInBounds_toArray, List.set_cons_zero, List.set_cons_succ]
    refine Late.take (i := 3) (oi := ⟨some 21, Op.fieldAddr 30 (Operand.tmp 20) 2, _, _, _, _⟩) (v := ?_) rfl (by kernel_rfl) (by kernel_rfl) (by kernel_rfl) (by kernel_rfl) (fun _ _ _ h => h) (Or.inl ⟨by rfl, fun w hSw => ?_⟩) (by assumption) ?_
    rotate_left
    · (obtain ⟨s1, s2⟩ := hSw; go_simp; try with_reducible rfl)
    try simp only [Act.put, List.setIfInBounds_toArray, List.set_cons_zero, List.set_cons_succ]
    refine Late.take (i := 4) (oi := ⟨some 22, Op.load 28 (Operand.tmp 21), _, _, _, _⟩) (v := ?_) rfl (by kernel_rfl) (by kernel_rfl) (by kernel_rfl) (by kernel_rfl) (fun _ _ _ h => h) (Or.inl ⟨by rfl, fun w hSw => ?_⟩) (by assumption) ?_
    rotate_left
    · (obtain ⟨s1, s2⟩ := hSw; go_simp; try with_reducible rfl)
    try simp only [Act.put, List.setIfInBounds_toArray, List.set_cons_zero, List.set_cons_succ]
    refine Late.take (i := 5) (oi := ⟨some 23, Op.move (Operand.tmp 0), _, _, _, _⟩) (v := ?_) rfl (by kernel_rfl) (by kernel_rfl) (by kernel_rfl) (by kernel_rfl) (fun _ _ _ h => h) (Or.inl ⟨by rfl, fun w hSw => ?_⟩) (by assumption) ?_
    rotate_left
    · (obtain ⟨s1, s2⟩ := hSw; go_simp; try with_reducible rfl)
    try simp only [Act.put, List.setIfInBounds_toArray, List.set_cons_zero, List.set_cons_succ]
    refine Late.take (i := 6) (oi := ⟨some 24, Op.nilCheck (Operand.tmp 23), _, _, _, _⟩) (v := ?_) rfl (by kernel_rfl) (by kernel_rfl) (by kernel_rfl) (by kernel_rfl) (fun _ _ _ h => h) (Or.inl ⟨by rfl, fun w hSw => ?_⟩) (by assumption) ?_
    rotate_left
    · (obtain ⟨s1, s2⟩ := hSw; go_simp; try with_reducible rfl)
    try simp only [Act.put, List.setIfInBounds_toArray, List.set_cons_zero, List.set_cons_succ]
    refine Late.take (i := 7) (oi := ⟨some 25, Op.fieldAddr 30 (Operand.tmp 24) 0, _, _, _, _⟩) (v := ?_) rfl (by kernel_rfl) (by kernel_rfl) (by kernel_rfl) (by kernel_rfl) (fun _ _ _ h => h) (Or.inl ⟨by rfl, fun w hSw => ?_⟩) (by assumption) ?_
    rotate_left
    · (obtain ⟨s1, s2⟩ := hSw; go_simp; try with_reducible rfl)
    try simp only [Act.put, List.setIfInBounds_toArray, List.set_cons_zero, List.set_cons_succ]
    refine Late.take (i := 8) (oi := ⟨some 26, Op.load 27 (Operand.tmp 25), _, _, _, _⟩) (v := ?_) rfl (by kernel_rfl) (by kernel_rfl) (by kernel_rfl) (by kernel_rfl) (fun _ _ _ h => h) (Or.inl ⟨by rfl, fun w hSw => ?_⟩) (by assumption) ?_
    rotate_left
    · (obtain ⟨s1, s2⟩ := hSw; go_simp; try with_reducible rfl)
    try simp only [Act.put, List.setIfInBounds_toArray, List.set_cons_zero, List.set_cons_succ]
    refine Late.take (i := 9) (oi := ⟨some 27, Op.call { callee := Callee.builtin Builtin.len, args := #[Operand.tmp 26], argTypes := #[27] }, _, _, _, _⟩) (v := ?_) rfl (by kernel_rfl) (by kernel_rfl) (by kernel_rfl) (by kernel_rfl) (fun _ _ _ h => h) (Or.inl ⟨by rfl, fun w hSw => ?_⟩) (by assumption) ?_
    rotate_left
    · (obtain ⟨s1, s2⟩ := hSw; go_simp; try with_reducible rfl)
    try simp only [Act.put, List.setIfInBounds_toArray, List.set_cons_zero, List.set_cons_succ]
    refine Late.one (i := 10) (o := ⟨some 28, Op.buildSlice 28 1 #[(0, Operand.tmp 27)], _, _, _, _⟩) (by kernel_rfl) rfl (fun K hK => ?_)
    go_simp
    refine hK.out _ _ (⟨(World.cell?_alloc_lt w1 _ ⟨r, 0, none⟩ hr).trans h1, (World.cell?_alloc_lt w1 _ ⟨r, 2, none⟩ hr).trans h2⟩) (fun hHeld2 => ?_)
    clear hK K hHeld
    have hHeld := hHeld2
    clear hHeld2
    try simp only [Act.put, List.setIfInBounds_toArray, List.set_cons_zero, List.set_cons_succ]
    refine Late.one (i := 11) (o := ⟨some 29, Op.call { callee := Callee.builtin Builtin.append, args := #[Operand.tmp 22, Operand.tmp 28], argTypes := #[28, 28] }, _, _, _, _⟩) (by kernel_rfl) rfl (fun K hK => ?_)
    rw [HX.out]
    refine step_app _ (by rfl) (.tmp 22) (.tmp 28) 28 (by rfl) 0 3 1 8 Try.underlying28 int_info (by decide) (.slice E m d) m (ints (endsZ s.zs.length s.ws)) (by rfl) HO.out (some ⟨w0.heap.size, 0, none⟩) 1 1 [.int .i64 n1] (by rfl) HL.out.1 HL.out.2 (by simp [Value.oneCell']) (by unfold maxLen; omega) (by omega) (Nat.zero_le _) ?_
    intro v' w3 ho3 hg3 hat
    obtain ⟨V, cv, rfl, q1, q2⟩ := own_shape ho3
    obtain ⟨k1, k2, k3⟩ := HC.out w3 hg3
    refine hK.out _ _ (⟨k1, k2⟩) (fun hHeld2 => ?_)
    clear hK K hHeld
    have hHeld := hHeld2
    clear hHeld2
    try simp only [Act.put, List.setIfInBounds_toArray, List.set_cons_zero, List.set_cons_succ]
    refine Late.end_ (i := 12) (o := ⟨some 30, Op.nilCheck (Operand.tmp 18), _, _, _, _⟩) (by kernel_rfl) rfl rfl (fun K hK => ?_)
    go_simp
    refine hK.out _ _ ?_
    clear hK K
    try simp only [Act.put, List.setIfInBounds_toArray, List.set_cons_zero, List.set_cons_succ]
    refine Late.end_ (i := 13) (o := ⟨some 31, Op.fieldAddr 30 (Operand.tmp 30) 2, _, _, _, _⟩) (by kernel_rfl) rfl rfl (fun K hK => ?_)
    go_simp
    refine hK.out _ _ ?_
    clear hK K
    try simp only [Act.put, List.setIfInBounds_toArray, List.set_cons_zero, List.set_cons_succ]
    refine Late.end_ (i := 14) (o := ⟨none, Op.store 28 (Operand.tmp 31) (Operand.tmp 29), _, _, _, _⟩) (by kernel_rfl) rfl rfl (fun K hK => ?_)
    go_simp
    refine hK.out _ _ ?_
    clear hK K
    try simp only [Act.put, List.setIfInBounds_toArray, List.set_cons_zero, List.set_cons_succ]
    refine Late.done (by kernel_rfl) ?_ _
    refine NoPanic.normal ?_
    have HRR : Hid (Rf (w3.setCell ⟨r, 2, none⟩ (.slice V (m + 1) cv)) r (Wider K w (w3.setCell ⟨r, 2, none⟩ (.slice V (m + 1) cv))) ⟨true, s.zs, s.ws ++ [zs]⟩ ∧ Moved K w (w3.setCell ⟨r, 2, none⟩ (.slice V (m + 1) cv))) := Lib.hid (by
      have h := HA.out
      have hs3 := hg3.size
      have hKE : ∀ k, (Value.slice E m d).ownBlock = some k → K k ∧ k ≠ r ∧ k < w.heap.size := fun k hk => ⟨(h.blk2 k hk).1, (h.blk2 k hk).2.1, h.lt k (h.blk2 k hk).1⟩
      have hA1 : ∀ k, (Value.slice A1 n1 c1).ownBlock = some k → w.heap.size ≤ k ∧ k < w1.heap.size := fun k hk => O1.out.lt k hk
      have hV : ∀ k, (Value.slice V (m + 1) cv).ownBlock = some k → (K k ∨ w.heap.size ≤ k) ∧ k ≠ r ∧ k < w3.heap.size ∧ (Value.slice A1 n1 c1).ownBlock ≠ some k := fun k hk => by
        have hlt := (ho3.lt k hk).2
        rcases hat with e | e
        · rw [e] at hk
          have := hKE k hk
          exact ⟨.inl this.1, this.2.1, hlt, fun e2 => by have := hA1 k e2; omega⟩
        · rw [e] at hk; injection hk with hk
          exact ⟨.inr (by omega), by omega, hlt, fun e2 => by have := hA1 k e2; omega⟩
      have far : ∀ k, k ≠ r → (w3.setCell ⟨r, 2, none⟩ (.slice V (m + 1) cv)).heap[k]? = w3.heap[k]? := fun k hk => Below.heap_setCell _ _ _ _ hk
      have hz : (w3.setCell ⟨r, 2, none⟩ (.slice V (m + 1) cv)).heap.size = w3.heap.size := by simp [World.setCell]
      have hrb : w3.heap[r]? = w1.heap[r]? := (hg3.block r (by omega) (fun e => hEr e.symm)).trans (BX.out.block r hr)
      have hall : allZ (⟨true, s.zs, s.ws ++ [zs]⟩ : DiskZ) = allZ s ++ zs := by simp [allZ]
      refine ⟨⟨.slice A1 n1 c1, .slice V (m + 1) cv, .inl h.kb, fun k hk => ?_, ?_, ?_, World.cell?_setCell_same _ _ _ k2, ?_, fun i => ?_, ?_, fun k hk => ?_, ?_, ?_, fun k hk => ?_⟩, ?_⟩
      · rcases hk with hk | hk
        · have := h.lt k hk; omega
        · exact hk.2
      · rw [World.cell?_setCell_other _ _ _ _ (by simp)]; exact k1
      · rw [World.cell?_setCell_other _ _ _ _ (by simp), World.cell?_of_block (a := ⟨r, 1, none⟩) hrb, HCI.out 1 (by omega)]; exact h.syn
      · rw [World.cell?_setCell_other _ _ _ _ (by simp), World.cell?_of_block (a := ⟨r, 3, none⟩) hrb, HCI.out 3 (by omega), h.down, HUU.out]
      · rw [World.frozen?_setCell, World.frozen?_of_block (a := ⟨r, i, none⟩) hrb]; exact HFZ.out i
      · rw [hall, HLen.out]
        exact own_base (own_same O1.out (fun k hk => (far k (by have := (hA1 k hk).1; omega)).trans ((hg3.block k (by have := hA1 k hk; omega) (fun e => by have := hKE k e.symm; have := hA1 k hk; omega)).trans (BX.out.block k (hA1 k hk).2)))) (Nat.zero_le _)
      · exact ⟨.inr ⟨(hA1 k hk).1, by have := hA1 k hk; omega⟩, by have := (hA1 k hk).1; omega⟩
      · rw [hall]; exact HBy.out
      · show World.ownsRow _ _ _ _ _ (s.ws ++ [zs]).length (ints (endsZ s.zs.length (s.ws ++ [zs])))
        rw [List.length_append, List.length_singleton, HM.out, endsZ_snoc, ints_app]
        have e : s.zs.length + s.ws.flatten.length + zs.length = n1 := by rw [← HLen.out]; simp only [allZ, List.length_append]
        rw [e]
        exact own_same ho3 (fun k hk => far k (hV k hk).2.1)
      · have := hV k hk
        exact ⟨this.1.imp id (fun e => ⟨e, by omega⟩), this.2.1, this.2.2.2⟩
      · refine (((MV.out.more (fun k hk _ => by rw [hk]; exact h.kb)).then (Moved.of_below K BX.out)).then (Moved.grown hg3 (fun k hk => (hKE k hk).1))).then (Moved.cell _ _ ⟨r, 2, none⟩ _ h.kb))
    clear ho3 hg3 hat
    go_wp2
    go_ret
    rw [HZ.out]
    exact ⟨rfl, _, HRR.out.1, HRR.out.2, wider_newer K w _⟩
end Go.Proofs.Ytlbmhkccmclmfaa
