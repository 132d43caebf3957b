/- Texts of the proof, one behind the other: RDk RCut RCrash DOne. -/
import Derived.Test.YtjfeepmjebdahaaDoorB6
import Derived.Deep.Cut
/- The document's own disk in memory, and its calls. -/
namespace Go.Proofs.YtjfeepmjebdahaaDoor
open Go.ChangeShapes Go.WideShapes Go.ChangeAt Go.RowKit
set_option linter.unusedVariables false
/-- Where writes end. -/
def endsZ (n : Nat) : List (List Int) → List Nat
  | [] => []
  | x :: l => (n + x.length) :: endsZ (n + x.length) l
def ints (l : List Nat) : List Value := l.map fun (n : Nat) => .int .i64 (n : Int)
theorem endsZ_len : ∀ (n : Nat) (l : List (List Int)), (endsZ n l).length = l.length
  | _, [] => rfl
  | n, x :: l => by simp [endsZ, endsZ_len]
theorem endsZ_snoc : ∀ (n : Nat) (l : List (List Int)) (x : List Int), endsZ n (l ++ [x]) = endsZ n l ++ [n + l.flatten.length + x.length]
  | n, [], x => by simp [endsZ]
  | n, y :: l, x => by simp [endsZ, endsZ_snoc, Nat.add_assoc]
theorem endsZ_at : ∀ (n : Nat) (l : List (List Int)) (k : Nat), k < l.length → (endsZ n l)[k]? = some (n + (l.take (k + 1)).flatten.length)
  | n, [], k, h => by simp at h
  | n, x :: l, 0, h => by simp [endsZ]
  | n, x :: l, k + 1, h => by
    have := endsZ_at (n + x.length) l k (by simpa using h)
    simp only [endsZ, List.getElem?_cons_succ, this, List.take_succ_cons, List.flatten_cons, List.length_append]
    congr 1; omega
theorem ints_app (a b : List Nat) : ints (a ++ b) = ints a ++ ints b := by simp [ints]
theorem ints_len (a : List Nat) : (ints a).length = a.length := by simp [ints]
theorem int_info : ∃ i z, Tryd.prog.info? 3 = some i ∧ i.zero = some z ∧ i.size = 1 ∧ i.bytes = 8 ∧ z.cells.size = 1 := by
  obtain ⟨i, hi, hz, hs, hb⟩ := info_parts (show (Tryd.prog.info? 3).map (fun i => (i.zero, i.size, i.bytes)) = some (some (.int .i64 0), 1, 8) by kernel_rfl)
  exact ⟨i, _, hi, hz, hs, hb, rfl⟩
structure RfAt (w : World) (r : Nat) (K : Nat → Prop) (s : DiskZ) (v u : Value) : Prop where
  kb : K r
  lt : ∀ k, K k → k < w.heap.size
  b : w.cell? ⟨r, 0, none⟩ = some v
  syn : w.cell? ⟨r, 1, none⟩ = some (.int .i64 (s.zs.length : Nat))
  ends : w.cell? ⟨r, 2, none⟩ = some u
  down : w.cell? ⟨r, 3, none⟩ = some (.bool (!s.up))
  f : ∀ i, w.frozen? ⟨r, i, none⟩ = false
  own0 : w.ownsRow 0 5 1 v (allZ s).length (vals (allZ s))
  blk0 : ∀ k, v.ownBlock = some k → K k ∧ k ≠ r
  bytes : IsBytes (allZ s)
  own2 : w.ownsRow 0 3 1 u s.ws.length (ints (endsZ s.zs.length s.ws))
  blk2 : ∀ k, u.ownBlock = some k → K k ∧ k ≠ r ∧ v.ownBlock ≠ some k
def Rf (w : World) (r : Nat) (K : Nat → Prop) (s : DiskZ) : Prop := ∃ v u, RfAt w r K s v u
section
variable {w w1 : World} {r : Nat} {K : Nat → Prop} {s : DiskZ} {v u : Value}
theorem RfAt.keep (h : RfAt w r K s v u) (hk : ∀ k, K k → w1.heap[k]? = w.heap[k]?) (hs : w.heap.size ≤ w1.heap.size) : RfAt w1 r K s v u :=
  have hb := hk r h.kb
  ⟨h.kb, fun k hK => Nat.lt_of_lt_of_le (h.lt k hK) hs, (World.cell?_of_block (a := ⟨r, 0, none⟩) hb).trans h.b, (World.cell?_of_block (a := ⟨r, 1, none⟩) hb).trans h.syn, (World.cell?_of_block (a := ⟨r, 2, none⟩) hb).trans h.ends, (World.cell?_of_block (a := ⟨r, 3, none⟩) hb).trans h.down,
    fun i => (World.frozen?_of_block (a := ⟨r, i, none⟩) hb).trans (h.f i), own_same h.own0 (fun g hg => hk g (h.blk0 g hg).1), h.blk0, h.bytes, own_same h.own2 (fun g hg => hk g (h.blk2 g hg).1), h.blk2⟩
theorem Rf.keep (h : Rf w r K s) (hk : ∀ k, K k → w1.heap[k]? = w.heap[k]?) (hs : w.heap.size ≤ w1.heap.size) : Rf w1 r K s := by
  obtain ⟨v, u, h⟩ := h
  exact ⟨v, u, h.keep hk hs⟩
theorem Rf.lt (h : Rf w r K s) : ∀ k, K k → k < w.heap.size := by obtain ⟨v, u, h⟩ := h; exact h.lt
theorem Rf.below (h : Rf w r K s) (hb : Below w.heap.size w w1) : Rf w1 r K s := h.keep (fun k hk => hb.block k (h.lt k hk)) hb.size
theorem Rf.moved {F : Nat → Prop} (h : Rf w r K s) (hm : Moved F w w1) (hF : ∀ k, K k → ¬ F k) : Rf w1 r K s := h.keep (fun k hk => hm.block k (h.lt k hk) (hF k hk)) hm.size
theorem RfAt.val (h : RfAt w r K s v u) : ∃ A n c, (allZ s).length = n ∧ v = .slice A n c ∧ n ≤ c ∧ c ≤ maxLen ∧ Bs w w.heap.size A n (allZ s) := by
  obtain ⟨A, c, rfl, h1, h2⟩ := own_shape h.own0
  exact ⟨A, _, c, rfl, rfl, h1, h2, bs_of_own h.own0 h.bytes⟩
theorem RfAt.row (h : RfAt w r K s v u) : ∃ E m d, s.ws.length = m ∧ u = .slice E m d ∧ m ≤ d ∧ d ≤ maxLen ∧ ∀ k, k < m → ∃ g, E = some ⟨g, 0, none⟩ ∧ w.cell? ⟨g, k, none⟩ = some (.int .i64 ((s.zs.length + (s.ws.take (k + 1)).flatten.length : Nat) : Int)) := by
  obtain ⟨E, d, rfl, h1, h2⟩ := own_shape h.own2
  refine ⟨E, _, d, rfl, rfl, h1, h2, fun k hk => ?_⟩
  obtain ⟨g, cap, hv, _, hlt⟩ := h.own2.form (by omega)
  injection hv with e1 e2 e3
  subst e1
  refine ⟨g, rfl, ?_⟩
  have := h.own2.cells (g := g) rfl k (.int .i64 ((s.zs.length + (s.ws.take (k + 1)).flatten.length : Nat) : Int)) (by unfold ints; rw [List.getElem?_map, endsZ_at _ _ _ hk]; rfl)
  rwa [Go.WideShapes.add_plain, Nat.zero_add] at this
end
/-- What a call of the document's disk hands back. -/
def RDid (w : World) (r : Nat) (K : Nat → Prop) (x : Int × DiskZ) (e : Ending) (w' : World) : Prop :=
  e = .returned (.int .i64 x.1) ∧ ∃ K', Rf w' r K' x.2 ∧ Moved K w w' ∧ Newer w K K'
/-- Its fields are stored anew: the bytes in a new row, no ends. -/
theorem RfAt.anew {w w3 w4 : World} {r : Nat} {K : Nat → Prop} {s s' : DiskZ} {v u v' : Value} {n : Nat} (h : RfAt w r K s v u) (hb : Below w.heap.size w w3) (ho : w3.ownsRow w.heap.size 5 1 v' n (vals (allZ s'))) (hn : (allZ s').length = n) (hz : IsBytes (allZ s')) (hw : s'.ws = [])
    (hh : ∀ k, k ≠ r → w4.heap[k]? = w3.heap[k]?) (hs : w4.heap.size = w3.heap.size) (h0 : w4.os = w3.os) (h1 : w4.tape = w3.tape) (h2 : w4.output = w3.output) (c0 : w4.cell? ⟨r, 0, none⟩ = some v') (c1 : w4.cell? ⟨r, 1, none⟩ = some (.int .i64 (s'.zs.length : Nat))) (c2 : w4.cell? ⟨r, 2, none⟩ = some (.slice none 0 0)) (c3 : w4.cell? ⟨r, 3, none⟩ = some (.bool (!s'.up)))
    (hf : ∀ i, w4.frozen? ⟨r, i, none⟩ = false) : Rf w4 r (Wider K w w4) s' ∧ Moved K w w4 := by
  have hr := h.lt r h.kb
  have hv : ∀ k, v'.ownBlock = some k → w.heap.size ≤ k ∧ k < w3.heap.size := fun k hk => ho.lt k hk
  refine ⟨⟨v', .slice none 0 0, .inl h.kb, fun k hk => ?_, c0, c1, c2, c3, hf, ?_, fun k hk => ⟨.inr ⟨(hv k hk).1, by have := (hv k hk).2; omega⟩, by have := (hv k hk).1; omega⟩, hz, ?_, fun k hk => by cases hk⟩, ?_⟩
  · have := hb.size
    rcases hk with hk | hk
    · have := h.lt k hk; omega
    · exact hk.2
  · rw [hn]; exact own_base (own_same ho (fun k hk => hh k (by have := (hv k hk).1; omega))) (Nat.zero_le _)
  · rw [hw]; exact World.ownsRow_nil _ _ _ _
  · have := hb.size
    exact ⟨h0.trans hb.os, h1.trans hb.tape, h2.trans hb.output, by omega, fun k hk hK => (hh k (fun e => hK (by rw [e]; exact h.kb))).trans (hb.block k hk)⟩
theorem rstart_any {w : World} {r : Nat} {K : Nat → Prop} {s : DiskZ} (h : Rf w r K s) : Calls Tryd.prog 38 #[.pointer (some ⟨r, 0, none⟩)] w (RDid w r K (dStart s)) := by
  have HD := Lib.hid h
  obtain ⟨v, u, h⟩ := h
  have h3 := h.down
  have f3 := h.f 3
  have HA := Lib.hid h
  clear h
  cases hu : s.up with
  | true =>
    rw [hu] at h3
    have HZ : Hid (dStart s = (2, s)) := Lib.hid (by unfold dStart; rw [hu]; rfl)
    clear hu
    go_enter Tryd.func38, Tryd.ntmps38
    go_wp2
    go_ret
    rw [HZ.out]
    exact ⟨rfl, K, HD.out, Moved.refl _ _, Newer.refl _ _⟩
  | false =>
    rw [hu] at h3
    have HZ : Hid (dStart s = (0, ⟨true, s.zs, s.ws⟩)) := Lib.hid (by unfold dStart; rw [hu]; rfl)
    have HR : Hid (RfAt (w.setCell ⟨r, 3, none⟩ (.bool false)) r K ⟨true, s.zs, s.ws⟩ v u) := Lib.hid (by
      have far : ∀ k, k ≠ r → (w.setCell ⟨r, 3, none⟩ (.bool false)).heap[k]? = w.heap[k]? := fun k hk => Below.heap_setCell _ _ _ _ hk
      have h := HA.out
      refine ⟨h.kb, fun k hk => by have := h.lt k hk; simpa [World.setCell] using this, ?_, ?_, ?_, World.cell?_setCell_same _ _ _ h.down, fun i => by rw [World.frozen?_setCell]; exact h.f i, own_same h.own0 (fun k hk => far k (h.blk0 k hk).2), h.blk0, h.bytes, own_same h.own2 (fun k hk => far k (h.blk2 k hk).2.1), h.blk2⟩
      · rw [World.cell?_setCell_other _ _ _ _ (by simp)]; exact h.b
      · rw [World.cell?_setCell_other _ _ _ _ (by simp)]; exact h.syn
      · rw [World.cell?_setCell_other _ _ _ _ (by simp)]; exact h.ends)
    clear hu
    go_enter Tryd.func38, Tryd.ntmps38
    go_wp2
    go_ret
    rw [HZ.out]
    exact ⟨rfl, K, ⟨_, _, HR.out⟩, Moved.cell _ _ _ _ HA.out.kb, Newer.refl _ _⟩
theorem rsync_any {w : World} {r : Nat} {K : Nat → Prop} {s : DiskZ} (h : Rf w r K s) : Calls Tryd.prog 36 #[.pointer (some ⟨r, 0, none⟩)] w (RDid w r K (dSync s)) := by
  have HD := Lib.hid h
  obtain ⟨v, u, h⟩ := h
  obtain ⟨A, n, c, hn, rfl, _, _, _⟩ := h.val
  have h0 := h.b
  have h1 := h.syn
  have h2 := h.ends
  have h3 := h.down
  have f1 := h.f 1
  have f2 := h.f 2
  have HN := Lib.hid hn
  have HA := Lib.hid h
  clear h hn
  cases hu : s.up with
  | false =>
    rw [hu] at h3
    have HZ : Hid (dSync s = (60, s)) := Lib.hid (by unfold dSync; rw [hu]; rfl)
    clear hu
    go_enter Tryd.func36, Tryd.ntmps36
    go_wp2
    go_ret
    rw [HZ.out]
    exact ⟨rfl, K, HD.out, Moved.refl _ _, Newer.refl _ _⟩
  | true =>
    rw [hu] at h3
    have HZ : Hid (dSync s = (0, ⟨true, allZ s, []⟩)) := Lib.hid (by unfold dSync; rw [hu]; rfl)
    have HR : Hid (Rf ((w.setCell ⟨r, 1, none⟩ (.int .i64 n)).setCell ⟨r, 2, none⟩ (.slice none 0 0)) r K ⟨true, allZ s, []⟩) := Lib.hid (by
      have h := HA.out
      have far : ∀ k, k ≠ r → ((w.setCell ⟨r, 1, none⟩ (.int .i64 n)).setCell ⟨r, 2, none⟩ (.slice none 0 0)).heap[k]? = w.heap[k]? := fun k hk => (Below.heap_setCell _ _ _ _ hk).trans (Below.heap_setCell _ _ _ _ hk)
      refine ⟨_, _, h.kb, fun k hk => by have := h.lt k hk; simpa [World.setCell] using this, (?_ : _ = some (.slice A n c)), ?_, World.cell?_setCell_same _ _ _ (by rw [World.cell?_setCell_other _ _ _ _ (by simp)]; exact h.ends), ?_, fun i => by rw [World.frozen?_setCell, World.frozen?_setCell]; exact h.f i, ?_, h.blk0, ?_, World.ownsRow_nil _ _ _ _, fun k hk => by cases hk⟩
      · rw [World.cell?_setCell_other _ _ _ _ (by simp), World.cell?_setCell_other _ _ _ _ (by simp)]; exact h.b
      · rw [World.cell?_setCell_other _ _ _ _ (by simp)]
        show _ = some (Value.int .i64 (((allZ s).length : Nat) : Int))
        rw [HN.out]
        exact World.cell?_setCell_same _ _ _ h.syn
      · rw [World.cell?_setCell_other _ _ _ _ (by simp), World.cell?_setCell_other _ _ _ _ (by simp)]; rw [h.down, hu]
      · rw [allZ_flat]
        exact own_same h.own0 (fun k hk => far k (h.blk0 k hk).2)
      · rw [allZ_flat]; exact h.bytes)
    have HK := HA.out.kb
    clear hu
    go_enter Tryd.func36, Tryd.ntmps36
    go_wp2
    go_ret
    rw [HZ.out]
    exact ⟨rfl, K, HR.out, (Moved.cell _ _ ⟨r, 1, none⟩ _ HK).then (Moved.cell _ _ ⟨r, 2, none⟩ _ HK), Newer.refl _ _⟩
set_option maxHeartbeats 1000000 in
theorem rwrite_any {w : World} {r : Nat} {K : Nat → Prop} {s : DiskZ} {B n : Nat} {A : Option Addr} (c : Nat) {zs : List Int} (h : Rf w r K s) (hz : Bs w B A n zs) (hB : B ≤ w.heap.size) (hn : n ≤ 1000000) (hs : Small s) : Calls Tryd.prog 40 #[.pointer (some ⟨r, 0, none⟩), .slice A n c] w (RDid w r K (dWrite s zs)) := by
  have HD := Lib.hid h
  obtain ⟨v, u, h⟩ := h
  obtain ⟨A0, n0, c0, hn0, rfl, _, _, hbs⟩ := h.val
  have h0 := h.b
  have h3 := h.down
  have f0 := h.f 0
  have HN0 := Lib.hid hn0
  have HA := Lib.hid h
  have hby := hs.bytes
  have hwr := hs.writes
  have HZ0 := Lib.hid hz.len
  have hr0 := h.lt r h.kb
  cases hu : s.up with
  | false =>
    rw [hu] at h3
    have HZ : Hid (dWrite s zs = (60, s)) := Lib.hid (by unfold dWrite; rw [hu]; rfl)
    clear hu h hn0 hbs hby hwr hs
    go_enter Tryd.func40, Tryd.ntmps40
    go_wp2
    go_ret
    rw [HZ.out]
    exact ⟨rfl, K, HD.out, Moved.refl _ _, Newer.refl _ _⟩
  | true =>
    rw [hu] at h3
    have HZ : Hid (dWrite s zs = (0, ⟨true, s.zs, s.ws ++ [zs]⟩)) := Lib.hid (by unfold dWrite; rw [hu]; rfl)
    have HCat := Lib.hid (refcat_any c0 c hbs hz (Nat.le_refl _) hB (by omega))
    have HUU := Lib.hid hu
    have HLen : Hid ((allZ s ++ zs).length = n0 + n) := Lib.hid (by rw [List.length_append, hn0, hz.len])
    have HBy : Hid (IsBytes (allZ s ++ zs)) := Lib.hid (h.bytes.app hz.isBytes)
    have hsum : n0 + n ≤ 2000000 := by omega
    clear hu h hn0 hbs hby hz hs hn
    go_enter Tryd.func40, Tryd.ntmps40
    go_upto_region 4 with (go_at_call 56; refine HCat.out.mono ?_; intro e w0 hm0; obtain ⟨A1, c1, rfl, ho1, hb1, hc1, hc1m⟩ := hm0.n HLen.out; have e0 : w0.cell? ⟨r, 0, none⟩ = some (.slice A0 n0 c0) := (hb1.cell (p := ⟨r, 0, none⟩) hr0).trans h0; have g0 : w0.frozen? ⟨r, 0, none⟩ = false := (hb1.frozen (p := ⟨r, 0, none⟩) hr0).trans f0; clear hm0)
    obtain ⟨n1, hn1⟩ : ∃ n1, n0 + n = n1 := ⟨_, rfl⟩
    rw [hn1] at ho1 hc1 hsum HLen
    simp only [hn1]
    clear hn1
    obtain ⟨w1, hw1⟩ : ∃ w1, w0.setCell ⟨r, 0, none⟩ (.slice A1 n1 c1) = w1 := ⟨_, rfl⟩
    have s0 := hb1.size
    have sz1 : w1.heap.size = w0.heap.size := by rw [← hw1]; simp [World.setCell]
    have far1 : ∀ k, k ≠ r → w1.heap[k]? = w0.heap[k]? := fun k hk => by rw [← hw1]; exact Below.heap_setCell _ _ _ _ hk
    have mv1 : Moved (fun k => k = r) w w1 := by rw [← hw1]; exact (Moved.of_below _ hb1).then (Moved.cell _ _ _ _ rfl)
    have hc1i : ∀ i, i ≠ 0 → w1.cell? ⟨r, i, none⟩ = w.cell? ⟨r, i, none⟩ := fun i hi => by
      rw [← hw1, World.cell?_setCell_other _ _ _ _ (fun e => hi (congrArg Addr.off e).symm)]
      exact hb1.cell (p := ⟨r, i, none⟩) hr0
    have h1 : w1.cell? ⟨r, 0, none⟩ = some (.slice A1 n1 c1) := by rw [← hw1]; exact World.cell?_setCell_same _ _ _ e0
    have hfz : ∀ i, w1.frozen? ⟨r, i, none⟩ = false := fun i => by rw [← hw1, World.frozen?_setCell]; exact (hb1.frozen (p := ⟨r, i, none⟩) hr0).trans (HA.out.f i)
    have o1 : w1.ownsRow w.heap.size 5 1 (.slice A1 n1 c1) n1 (vals (allZ s ++ zs)) := own_same ho1 (fun k hk => far1 k (by have := (ho1.lt k hk).1; omega))
    obtain ⟨E, m, d, hm, he, hmd, hdm, _⟩ := HA.out.row
    subst he
    have HM := Lib.hid hm
    have hm3 : m ≤ 1000000 := by omega
    have h2 : w1.cell? ⟨r, 2, none⟩ = some (.slice E m d) := (hc1i 2 (by omega)).trans HA.out.ends
    have hr : r < w1.heap.size := by omega
    obtain ⟨X, hX⟩ : ∃ X, (w1.alloc (.cells #[.int .i64 (n1 : Int)] 3)).drew = X := ⟨_, rfl⟩
    have bX : Below w1.heap.size w1 X := by rw [← hX]; exact ((Below.refl _ w1).alloc (Nat.le_refl _) _).drew
    have sX : X.heap.size = w1.heap.size + 1 := by rw [← hX]; show (w1.alloc _).heap.size = _; simp
    have HX := Lib.hid hX
    have hh : X.heap[w1.heap.size]? = some (.cells #[.int .i64 (n1 : Int)] 3 (0, 0)) := by rw [← hX]; exact heap_alloc_new w1 _
    have HO : Hid (X.ownsRow 0 3 1 (.slice E m d) m (ints (endsZ s.zs.length s.ws))) := Lib.hid (by
      have o2 := HA.out.own2
      rw [hm] at o2
      exact own_same o2 (fun k hk => by
        have := HA.out.blk2 k (by rw [hk])
        have hkl := HA.out.lt k this.1
        exact (bX.block k (by omega)).trans (mv1.block k hkl this.2.1)))
    have HL : Hid (Lies X 1 (some ⟨w0.heap.size, 0, none⟩) 1 [.int .i64 (n1 : Int)] ∧ Sourced (some ⟨w0.heap.size, 0, none⟩) 1) := Lib.hid (by rw [← sz1]; exact ⟨⟨rfl, fun ad hA j q hq => by
      injection hA with hA
      subst hA
      exact World.news_of_block hh j q hq⟩, fun e => by cases e⟩)
    have hEr : (Value.slice E m d).ownBlock ≠ some r := fun e => (HA.out.blk2 r e).2.1 rfl
    have HC : Hid (∀ w3, X.grownBy w3 (Value.slice E m d).ownBlock → w3.cell? ⟨r, 0, none⟩ = some (.slice A1 n1 c1) ∧ w3.cell? ⟨r, 2, none⟩ = some (.slice E m d) ∧ w3.frozen? ⟨r, 2, none⟩ = false) := Lib.hid (fun w3 hg => by
      have e := (hg.block r (by omega) (fun e => hEr e.symm)).trans (bX.block r hr)
      exact ⟨(World.cell?_of_block (a := ⟨r, 0, none⟩) e).trans h1, (World.cell?_of_block (a := ⟨r, 2, none⟩) e).trans h2, (World.frozen?_of_block (a := ⟨r, 2, none⟩) e).trans (hfz 2)⟩)
    have HW1 := Lib.hid hw1
    have BX := Lib.hid bX
    have O1 := Lib.hid o1
    have MV := Lib.hid mv1
    have HCI := Lib.hid hc1i
    have HFZ := Lib.hid hfz
    simp only [HW1.out]
    clear hX bX hh ho1 hb1 e0 g0 h0 h3 f0 hw1 far1 mv1 hc1i hfz o1 hm HCat
    refine Late.region (fun w' => w'.cell? ⟨r, 0, none⟩ = some (.slice A1 n1 c1) ∧ w'.cell? ⟨r, 2, none⟩ = some (.slice E m d)) [12, 13, 14] (by kernel_rfl) ⟨h1, h2⟩ (fun hHeld => ?_)
    refine Late.take (i := 0) (oi := ⟨some 18, Op.move (Operand.tmp 0), _, _, _, _⟩) (v := ?_) rfl (by kernel_rfl) (by kernel_rfl) (by kernel_rfl) (by kernel_rfl) (fun _ _ _ h => h) (Or.inl ⟨by rfl, fun w hSw => ?_⟩) (by assumption) ?_
    rotate_left
    · (obtain ⟨s1, s2⟩ := hSw; go_simp; try with_reducible rfl)
    try simp only [Act.put, List.setIfInBounds_toArray, List.set_cons_zero, List.set_cons_succ]
    refine Late.take (i := 1) (oi := ⟨some 19, Op.move (Operand.tmp 0), _, _, _, _⟩) (v := ?_) rfl (by kernel_rfl) (by kernel_rfl) (by kernel_rfl) (by kernel_rfl) (fun _ _ _ h => h) (Or.inl ⟨by rfl, fun w hSw => ?_⟩) (by assumption) ?_
    rotate_left
    · (obtain ⟨s1, s2⟩ := hSw; go_simp; try with_reducible rfl)
    try simp only [Act.put, List.setIfInBounds_toArray, List.set_cons_zero, List.set_cons_succ]
    refine Late.take (i := 2) (oi := ⟨some 20, Op.nilCheck (Operand.tmp 19), _, _, _, _⟩) (v := ?_) rfl (by kernel_rfl) (by kernel_rfl) (by kernel_rfl) (by kernel_rfl) (fun _ _ _ h => h) (Or.inl ⟨by rfl, fun w hSw => ?_⟩) (by assumption) ?_
    rotate_left
    · (obtain ⟨s1, s2⟩ := hSw; go_simp; try with_reducible rfl)
    try simp only [Act.put, List.setIfInBounds_toArray, List.set_cons_zero, List.set_cons_succ]
    refine Late.take (i := 3) (oi := ⟨some 21, Op.fieldAddr 30 (Operand.tmp 20) 2, _, _, _, _⟩) (v := ?_) rfl (by kernel_rfl) (by kernel_rfl) (by kernel_rfl) (by kernel_rfl) (fun _ _ _ h => h) (Or.inl ⟨by rfl, fun w hSw => ?_⟩) (by assumption) ?_
    rotate_left
    · (obtain ⟨s1, s2⟩ := hSw; go_simp; try with_reducible rfl)
    try simp only [Act.put, List.setIfInBounds_toArray, List.set_cons_zero, List.set_cons_succ]
    refine Late.take (i := 4) (oi := ⟨some 22, Op.load 28 (Operand.tmp 21), _, _, _, _⟩) (v := ?_) rfl (by kernel_rfl) (by kernel_rfl) (by kernel_rfl) (by kernel_rfl) (fun _ _ _ h => h) (Or.inl ⟨by rfl, fun w hSw => ?_⟩) (by assumption) ?_
    rotate_left
    · (obtain ⟨s1, s2⟩ := hSw; go_simp; try with_reducible rfl)
    try simp only [Act.put, List.setIfInBounds_toArray, List.set_cons_zero, List.set_cons_succ]
    refine Late.take (i := 5) (oi := ⟨some 23, Op.move (Operand.tmp 0), _, _, _, _⟩) (v := ?_) rfl (by kernel_rfl) (by kernel_rfl) (by kernel_rfl) (by kernel_rfl) (fun _ _ _ h => h) (Or.inl ⟨by rfl, fun w hSw => ?_⟩) (by assumption) ?_
    rotate_left
    · (obtain ⟨s1, s2⟩ := hSw; go_simp; try with_reducible rfl)
    try simp only [Act.put, List.setIfInBounds_toArray, List.set_cons_zero, List.set_cons_succ]
    refine Late.take (i := 6) (oi := ⟨some 24, Op.nilCheck (Operand.tmp 23), _, _, _, _⟩) (v := ?_) rfl (by kernel_rfl) (by kernel_rfl) (by kernel_rfl) (by kernel_rfl) (fun _ _ _ h => h) (Or.inl ⟨by rfl, fun w hSw => ?_⟩) (by assumption) ?_
    rotate_left
    · (obtain ⟨s1, s2⟩ := hSw; go_simp; try with_reducible rfl)
    try simp only [Act.put, List.setIfInBounds_toArray, List.set_cons_zero, List.set_cons_succ]
    refine Late.take (i := 7) (oi := ⟨some 25, Op.fieldAddr 30 (Operand.tmp 24) 0, _, _, _, _⟩) (v := ?_) rfl (by kernel_rfl) (by kernel_rfl) (by kernel_rfl) (by kernel_rfl) (fun _ _ _ h => h) (Or.inl ⟨by rfl, fun w hSw => ?_⟩) (by assumption) ?_
    rotate_left
    · (obtain ⟨s1, s2⟩ := hSw; go_simp; try with_reducible rfl)
    try simp only [Act.put, List.setIfInBounds_toArray, List.set_cons_zero, List.set_cons_succ]
    refine Late.take (i := 8) (oi := ⟨some 26, Op.load 27 (Operand.tmp 25), _, _, _, _⟩) (v := ?_) rfl (by kernel_rfl) (by kernel_rfl) (by kernel_rfl) (by kernel_rfl) (fun _ _ _ h => h) (Or.inl ⟨by rfl, fun w hSw => ?_⟩) (by assumption) ?_
    rotate_left
    · (obtain ⟨s1, s2⟩ := hSw; go_simp; try with_reducible rfl)
    try simp only [Act.put, List.setIfInBounds_toArray, List.set_cons_zero, List.set_cons_succ]
    refine Late.take (i := 9) (oi := ⟨some 27, Op.call { callee := Callee.builtin Builtin.len, args := #[Operand.tmp 26], argTypes := #[27] }, _, _, _, _⟩) (v := ?_) rfl (by kernel_rfl) (by kernel_rfl) (by kernel_rfl) (by kernel_rfl) (fun _ _ _ h => h) (Or.inl ⟨by rfl, fun w hSw => ?_⟩) (by assumption) ?_
    rotate_left
    · (obtain ⟨s1, s2⟩ := hSw; go_simp; try with_reducible rfl)
    try simp only [Act.put, List.setIfInBounds_toArray, List.set_cons_zero, List.set_cons_succ]
    refine Late.one (i := 10) (o := ⟨some 28, Op.buildSlice 28 1 #[(0, Operand.tmp 27)], _, _, _, _⟩) (by kernel_rfl) rfl (fun K hK => ?_)
    go_simp
    refine hK.out _ _ (⟨(World.cell?_alloc_lt w1 _ ⟨r, 0, none⟩ hr).trans h1, (World.cell?_alloc_lt w1 _ ⟨r, 2, none⟩ hr).trans h2⟩) (fun hHeld2 => ?_)
    clear hK K hHeld
    have hHeld := hHeld2
    clear hHeld2
    try simp only [Act.put, List.setIfInBounds_toArray, List.set_cons_zero, List.set_cons_succ]
    refine Late.one (i := 11) (o := ⟨some 29, Op.call { callee := Callee.builtin Builtin.append, args := #[Operand.tmp 22, Operand.tmp 28], argTypes := #[28, 28] }, _, _, _, _⟩) (by kernel_rfl) rfl (fun K hK => ?_)
    rw [HX.out]
    refine step_app _ (by rfl) (.tmp 22) (.tmp 28) 28 (by rfl) 0 3 1 8 Tryd.underlying28 int_info (by decide) (.slice E m d) m (ints (endsZ s.zs.length s.ws)) (by rfl) HO.out (some ⟨w0.heap.size, 0, none⟩) 1 1 [.int .i64 n1] (by rfl) HL.out.1 HL.out.2 (by simp [Value.oneCell']) (by unfold maxLen; omega) (by omega) (Nat.zero_le _) ?_
    intro v' w3 ho3 hg3 hat
    obtain ⟨V, cv, rfl, q1, q2⟩ := own_shape ho3
    obtain ⟨k1, k2, k3⟩ := HC.out w3 hg3
    refine hK.out _ _ (⟨k1, k2⟩) (fun hHeld2 => ?_)
    clear hK K hHeld
    have hHeld := hHeld2
    clear hHeld2
    try simp only [Act.put, List.setIfInBounds_toArray, List.set_cons_zero, List.set_cons_succ]
    refine Late.end_ (i := 12) (o := ⟨some 30, Op.nilCheck (Operand.tmp 18), _, _, _, _⟩) (by kernel_rfl) rfl rfl (fun K hK => ?_)
    go_simp
    refine hK.out _ _ ?_
    clear hK K
    try simp only [Act.put, List.setIfInBounds_toArray, List.set_cons_zero, List.set_cons_succ]
    refine Late.end_ (i := 13) (o := ⟨some 31, Op.fieldAddr 30 (Operand.tmp 30) 2, _, _, _, _⟩) (by kernel_rfl) rfl rfl (fun K hK => ?_)
    go_simp
    refine hK.out _ _ ?_
    clear hK K
    try simp only [Act.put, List.setIfInBounds_toArray, List.set_cons_zero, List.set_cons_succ]
    refine Late.end_ (i := 14) (o := ⟨none, Op.store 28 (Operand.tmp 31) (Operand.tmp 29), _, _, _, _⟩) (by kernel_rfl) rfl rfl (fun K hK => ?_)
    go_simp
    refine hK.out _ _ ?_
    clear hK K
    try simp only [Act.put, List.setIfInBounds_toArray, List.set_cons_zero, List.set_cons_succ]
    refine Late.done (by kernel_rfl) ?_ _
    refine NoPanic.normal ?_
    have HRR : Hid (Rf (w3.setCell ⟨r, 2, none⟩ (.slice V (m + 1) cv)) r (Wider K w (w3.setCell ⟨r, 2, none⟩ (.slice V (m + 1) cv))) ⟨true, s.zs, s.ws ++ [zs]⟩ ∧ Moved K w (w3.setCell ⟨r, 2, none⟩ (.slice V (m + 1) cv))) := Lib.hid (by
      have h := HA.out
      have hs3 := hg3.size
      have hKE : ∀ k, (Value.slice E m d).ownBlock = some k → K k ∧ k ≠ r ∧ k < w.heap.size := fun k hk => ⟨(h.blk2 k hk).1, (h.blk2 k hk).2.1, h.lt k (h.blk2 k hk).1⟩
      have hA1 : ∀ k, (Value.slice A1 n1 c1).ownBlock = some k → w.heap.size ≤ k ∧ k < w1.heap.size := fun k hk => O1.out.lt k hk
      have hV : ∀ k, (Value.slice V (m + 1) cv).ownBlock = some k → (K k ∨ w.heap.size ≤ k) ∧ k ≠ r ∧ k < w3.heap.size ∧ (Value.slice A1 n1 c1).ownBlock ≠ some k := fun k hk => by
        have hlt := (ho3.lt k hk).2
        rcases hat with e | e
        · rw [e] at hk
          have := hKE k hk
          exact ⟨.inl this.1, this.2.1, hlt, fun e2 => by have := hA1 k e2; omega⟩
        · rw [e] at hk; injection hk with hk
          exact ⟨.inr (by omega), by omega, hlt, fun e2 => by have := hA1 k e2; omega⟩
      have far : ∀ k, k ≠ r → (w3.setCell ⟨r, 2, none⟩ (.slice V (m + 1) cv)).heap[k]? = w3.heap[k]? := fun k hk => Below.heap_setCell _ _ _ _ hk
      have hz : (w3.setCell ⟨r, 2, none⟩ (.slice V (m + 1) cv)).heap.size = w3.heap.size := by simp [World.setCell]
      have hrb : w3.heap[r]? = w1.heap[r]? := (hg3.block r (by omega) (fun e => hEr e.symm)).trans (BX.out.block r hr)
      have hall : allZ (⟨true, s.zs, s.ws ++ [zs]⟩ : DiskZ) = allZ s ++ zs := by simp [allZ]
      refine ⟨⟨.slice A1 n1 c1, .slice V (m + 1) cv, .inl h.kb, fun k hk => ?_, ?_, ?_, World.cell?_setCell_same _ _ _ k2, ?_, fun i => ?_, ?_, fun k hk => ?_, ?_, ?_, fun k hk => ?_⟩, ?_⟩
      · rcases hk with hk | hk
        · have := h.lt k hk; omega
        · exact hk.2
      · rw [World.cell?_setCell_other _ _ _ _ (by simp)]; exact k1
      · rw [World.cell?_setCell_other _ _ _ _ (by simp), World.cell?_of_block (a := ⟨r, 1, none⟩) hrb, HCI.out 1 (by omega)]; exact h.syn
      · rw [World.cell?_setCell_other _ _ _ _ (by simp), World.cell?_of_block (a := ⟨r, 3, none⟩) hrb, HCI.out 3 (by omega), h.down, HUU.out]
      · rw [World.frozen?_setCell, World.frozen?_of_block (a := ⟨r, i, none⟩) hrb]; exact HFZ.out i
      · rw [hall, HLen.out]
        exact own_base (own_same O1.out (fun k hk => (far k (by have := (hA1 k hk).1; omega)).trans ((hg3.block k (by have := hA1 k hk; omega) (fun e => by have := hKE k e.symm; have := hA1 k hk; omega)).trans (BX.out.block k (hA1 k hk).2)))) (Nat.zero_le _)
      · exact ⟨.inr ⟨(hA1 k hk).1, by have := hA1 k hk; omega⟩, by have := (hA1 k hk).1; omega⟩
      · rw [hall]; exact HBy.out
      · show World.ownsRow _ _ _ _ _ (s.ws ++ [zs]).length (ints (endsZ s.zs.length (s.ws ++ [zs])))
        rw [List.length_append, List.length_singleton, HM.out, endsZ_snoc, ints_app]
        have e : s.zs.length + s.ws.flatten.length + zs.length = n1 := by rw [← HLen.out]; simp only [allZ, List.length_append]
        rw [e]
        exact own_same ho3 (fun k hk => far k (hV k hk).2.1)
      · have := hV k hk
        exact ⟨this.1.imp id (fun e => ⟨e, by omega⟩), this.2.1, this.2.2.2⟩
      · refine (((MV.out.more (fun k hk _ => by rw [hk]; exact h.kb)).then (Moved.of_below K BX.out)).then (Moved.grown hg3 (fun k hk => (hKE k hk).1))).then (Moved.cell _ _ ⟨r, 2, none⟩ _ h.kb))
    clear ho3 hg3 hat
    go_wp2
    go_ret
    rw [HZ.out]
    exact ⟨rfl, _, HRR.out.1, HRR.out.2, wider_newer K w _⟩
end Go.Proofs.YtjfeepmjebdahaaDoor
/- The document's own disk: its Cut, its Crash. -/
namespace Go.Proofs.YtjfeepmjebdahaaDoor
open Go.ChangeShapes Go.WideShapes Go.ChangeAt Go.RowKit
set_option linter.unusedVariables false
set_option maxHeartbeats 2000000 in
theorem rcut_any {w : World} {r : Nat} {K : Nat → Prop} {s : DiskZ} (n : Int) (h : Rf w r K s) (hs : Small s) : Calls Tryd.prog 71 #[.pointer (some ⟨r, 0, none⟩), .int .i64 n] w (RDid w r K (dCut s n)) := by
  have HD := Lib.hid h
  obtain ⟨v, EV, h⟩ := h
  obtain ⟨A0, n0, c0, hn0, rfl, hc0, hc0m, hbs⟩ := h.val
  have h0 := h.b
  have h3 := h.down
  have HA := Lib.hid h
  have hby := hs.bytes
  have hr0 := h.lt r h.kb
  have HFZ := Lib.hid h.f
  have hn1 : n0 ≤ 1000000 := by omega
  cases hu : s.up with
  | false =>
    rw [hu] at h3
    have HZ : Hid (dCut s n = (60, s)) := Lib.hid (by unfold dCut; rw [hu]; rfl)
    clear hu h hn0 hbs hby hs
    go_enter Tryd.func71, Tryd.ntmps71
    go_wp2
    go_ret
    rw [HZ.out]
    exact ⟨rfl, K, HD.out, Moved.refl _ _, Newer.refl _ _⟩
  | true =>
    rw [hu] at h3
    by_cases hbad : n < 0 ∨ (n0 : Int) < n
    · have HZ : Hid (dCut s n = (2, s)) := Lib.hid (by unfold dCut; rw [hu, if_pos rfl, hn0, if_pos hbad])
      clear hu h hn0 hbs hby hs
      by_cases hneg : n < 0
      · clear hbad
        go_enter Tryd.func71, Tryd.ntmps71
        go_wp2
        go_ret
        rw [HZ.out]
        exact ⟨rfl, K, HD.out, Moved.refl _ _, Newer.refl _ _⟩
      · have hgt : (n0 : Int) < n := by omega
        clear hbad
        go_enter Tryd.func71, Tryd.ntmps71
        go_wp2
        go_ret
        rw [HZ.out]
        exact ⟨rfl, K, HD.out, Moved.refl _ _, Newer.refl _ _⟩
    · obtain ⟨fe, rfl⟩ := Int.eq_ofNat_of_zero_le (show 0 ≤ n by omega)
      have hfn : fe ≤ n0 := by omega
      obtain ⟨S2, hS2⟩ : ∃ S2, (⟨true, (allZ s).take fe, []⟩ : DiskZ) = S2 := ⟨_, rfl⟩
      have HZ : Hid (dCut s fe = (0, ⟨true, (allZ s).take fe, []⟩)) := Lib.hid (by unfold dCut; rw [hu, if_pos rfl, hn0, if_neg hbad]; rfl)
      have HTL : Hid (((allZ s).take fe).length = fe) := Lib.hid (by rw [List.length_take, hn0]; omega)
      have HTB : Hid (IsBytes ((allZ s).take fe)) := Lib.hid (isBytes_iff.2 fun z hz => isBytes_iff.1 h.bytes z (List.mem_of_mem_take hz))
      have hcut := hbs.cut (k := 0) (m := fe) (by omega) A0 (fun b off e _ => by rw [e]; simp)
      rw [List.drop_zero] at hcut
      have HCP := Lib.hid (refcopy_any c0 hcut (Nat.le_refl _) (by omega))
      have C := cut_h A0 n0 c0 fe fe rfl (by omega)
      have HUU := Lib.hid hu
      have HT : Hid (allZ (⟨true, (allZ s).take fe, []⟩ : DiskZ) = (allZ s).take fe) := Lib.hid (allZ_flat _ _)
      have HS1 : Hid ((⟨true, (allZ s).take fe, []⟩ : DiskZ).zs.length = fe) := Lib.hid HTL.out
      have g1 : ¬ (fe : Int) < 0 := by omega
      have g2 : ¬ (n0 : Int) < fe := by omega
      have g3 : (fe : Int) ≤ (c0 : Int) := by omega
      clear hu h hn0 hbs hby hs hbad hcut hS2 S2
      go_enter Tryd.func71, Tryd.ntmps71
      go_upto_region 6 with (go_at_call 34; refine HCP.out.mono ?_; intro e w1 hm1; obtain ⟨A5, c5, rfl, ho5, hb5, hc5, hc5m⟩ := hm1.n HTL.out; have z0 : w1.cell? ⟨r, 0, none⟩ = some (.slice A0 n0 c0) := (hb5.cell (p := ⟨r, 0, none⟩) hr0).trans h0; have y0 : w1.frozen? ⟨r, 0, none⟩ = false := (hb5.frozen (p := ⟨r, 0, none⟩) hr0).trans (HFZ.out 0); clear hm1)
      obtain ⟨w2, hw2⟩ : ∃ w2, w1.setCell ⟨r, 0, none⟩ (.slice A5 fe c5) = w2 := ⟨_, rfl⟩
      have HW2 := Lib.hid hw2
      have g2 : ∀ i, w2.frozen? ⟨r, i, none⟩ = false := fun i => by rw [← hw2, World.frozen?_setCell]; exact (hb5.frozen (p := ⟨r, i, none⟩) hr0).trans (HFZ.out i)
      have g2c : ∀ i, i ≠ 0 → w2.cell? ⟨r, i, none⟩ = w.cell? ⟨r, i, none⟩ := fun i hi => by
        rw [← hw2, World.cell?_setCell_other _ _ _ _ (fun e => hi (congrArg Addr.off e).symm)]
        exact hb5.cell (p := ⟨r, i, none⟩) hr0
      have q0 : w2.cell? ⟨r, 0, none⟩ = some (.slice A5 fe c5) := by rw [← hw2]; exact World.cell?_setCell_same _ _ _ z0
      have q1 : w2.cell? ⟨r, 1, none⟩ = some (.int .i64 (s.zs.length : Nat)) := (g2c 1 (by omega)).trans HA.out.syn
      have q2 : w2.cell? ⟨r, 2, none⟩ = some EV := (g2c 2 (by omega)).trans HA.out.ends
      have q3 : w2.cell? ⟨r, 3, none⟩ = some (.bool (!s.up)) := (g2c 3 (by omega)).trans HA.out.down
      have p1 := g2 1
      have p2 := g2 2
      have p3 := g2 3
      have HG2 := Lib.hid g2
      have HO5 := Lib.hid ho5
      have HB5 := Lib.hid hb5
      have far2 : Hid (∀ k, k ≠ r → w2.heap[k]? = w1.heap[k]?) := Lib.hid (fun k hk => by rw [← hw2]; exact Below.heap_setCell _ _ _ _ hk)
      have HSW : Hid (w2.heap.size = w1.heap.size ∧ w2.os = w1.os ∧ w2.tape = w1.tape ∧ w2.output = w1.output) := Lib.hid (by rw [← hw2]; exact ⟨by simp [World.setCell], rfl, rfl, rfl⟩)
      simp only [HW2.out]
      clear hw2 g2 g2c ho5 hb5 z0 y0
      go_wp2
      go_ret
      rw [HZ.out]
      obtain ⟨w4, hw4⟩ : ∃ w4, ((w2.setCell ⟨r, 1, none⟩ (.int .i64 (fe : Int))).setCell ⟨r, 2, none⟩ (.slice none 0 0)) = w4 := ⟨_, rfl⟩
      have key := HA.out.anew (s' := ⟨true, (allZ s).take fe, []⟩) (w4 := w4) (n := fe) HB5.out (by rw [HT.out]; exact HO5.out) (by rw [HT.out]; exact HTL.out) (by rw [HT.out]; exact HTB.out) rfl
        (fun k hk => by rw [← hw4]; exact ((Below.heap_setCell _ _ _ _ hk).trans ((Below.heap_setCell _ _ _ _ hk).trans (far2.out k hk))))
        (by rw [← hw4]; simpa [World.setCell] using HSW.out.1) (by rw [← hw4]; exact HSW.out.2.1) (by rw [← hw4]; exact HSW.out.2.2.1) (by rw [← hw4]; exact HSW.out.2.2.2)
        (by rw [← hw4]; rw [World.cell?_setCell_other _ _ _ _ (by simp)]; rw [World.cell?_setCell_other _ _ _ _ (by simp)]; exact q0)
        (by rw [← hw4]; rw [World.cell?_setCell_other _ _ _ _ (by simp)]; rw [HS1.out]; exact World.cell?_setCell_same _ _ _ q1)
        (by rw [← hw4]; exact World.cell?_setCell_same _ _ _ (by rw [World.cell?_setCell_other _ _ _ _ (by simp)]; exact q2))
        (by rw [← hw4]; rw [World.cell?_setCell_other _ _ _ _ (by simp)]; rw [World.cell?_setCell_other _ _ _ _ (by simp)]; rw [q3, HUU.out])
        (fun i => by rw [← hw4]; rw [World.frozen?_setCell, World.frozen?_setCell]; exact HG2.out i)
      rw [hw4]
      exact ⟨rfl, _, key.1, key.2, wider_newer K w _⟩
end Go.Proofs.YtjfeepmjebdahaaDoor
/- The document's own disk: its Crash. -/
namespace Go.Proofs.YtjfeepmjebdahaaDoor
open Go.ChangeShapes Go.WideShapes Go.ChangeAt Go.RowKit
set_option linter.unusedVariables false
theorem leftZ_begins (ws : List (List Int)) (kp torn : Int) (h0 : 0 ≤ kp) : ∃ r, ws.flatten = (leftZ ws kp torn).flatten ++ r := by
  unfold leftZ
  split
  · exact ⟨[], by simp⟩
  · next hk =>
    have hlt : kp.toNat < ws.length := by omega
    have e1 : ws = ws.take kp.toNat ++ (ws[kp.toNat] :: ws.drop (kp.toNat + 1)) := by rw [← List.drop_eq_getElem_cons hlt, List.take_append_drop]
    have e2 : ws.getD kp.toNat [] = ws[kp.toNat] := by rw [List.getD_eq_getElem?_getD, List.getElem?_eq_getElem hlt]; rfl
    rw [e2]
    generalize (max (min torn ((ws[kp.toNat].length : Int) - 1)) 0).toNat = t
    refine ⟨(ws[kp.toNat]).drop t ++ (ws.drop (kp.toNat + 1)).flatten, ?_⟩
    conv => lhs; rw [e1]
    rw [List.flatten_append, List.flatten_cons, List.flatten_append, List.flatten_singleton]
    conv => lhs; rw [← List.take_append_drop t (ws[kp.toNat])]
    simp only [List.append_assoc]
theorem left_take (z0 : List Int) (ws : List (List Int)) (kp torn : Int) (h0 : 0 ≤ kp) : (z0 ++ ws.flatten).take (z0 ++ (leftZ ws kp torn).flatten).length = z0 ++ (leftZ ws kp torn).flatten := by
  obtain ⟨r, hr⟩ := leftZ_begins ws kp torn h0
  rw [hr, ← List.append_assoc, List.take_left]
theorem left_len_all (ws : List (List Int)) (kp : Nat) (torn : Int) (h : ws.length ≤ kp) : (leftZ ws kp torn).flatten.length = (ws.take ws.length).flatten.length := by
  unfold leftZ
  rw [if_pos (by omega), List.take_length]
theorem left_len_some (ws : List (List Int)) (kp : Nat) (torn : Int) (h : kp < ws.length) : ∃ hs : Nat, (ws.take (kp + 1)).flatten.length = (ws.take kp).flatten.length + hs ∧ (leftZ ws kp torn).flatten.length = (ws.take kp).flatten.length + min (max (min torn ((hs : Int) - 1)) 0).toNat hs := by
  refine ⟨(ws.getD kp []).length, ?_, ?_⟩
  · rw [List.take_add_one, List.getElem?_eq_getElem h, List.getD_eq_getElem?_getD, List.getElem?_eq_getElem h]
    simp only [List.flatten_append, List.length_append, Option.toList_some, List.flatten_singleton, Option.getD_some]
  · unfold leftZ
    rw [if_neg (by omega), Int.toNat_natCast, List.flatten_append, List.length_append, List.flatten_singleton, List.length_take]
theorem flatten_take_le2 (k : Nat) (ws : List (List Int)) : (ws.take k).flatten.length ≤ ws.flatten.length := by
  have := flatten_take_le k ws
  omega
set_option maxRecDepth 100000 in
set_option maxHeartbeats 4000000 in
theorem rcrash_any {w : World} {r : Nat} {K : Nat → Prop} {s : DiskZ} (keep torn : Int) (h : Rf w r K s) (hs : Small s) (hkb : -9223372036854775808 ≤ keep ∧ keep ≤ 9223372036854775807) (htb : -9223372036854775808 ≤ torn ∧ torn ≤ 9223372036854775807) : Calls Tryd.prog 37 #[.pointer (some ⟨r, 0, none⟩), .int .i64 keep, .int .i64 torn] w (RDid w r K (dCrash s keep torn)) := by
  have HD := Lib.hid h
  obtain ⟨v, EV, h⟩ := h
  obtain ⟨A0, n0, c0, hn0, rfl, hc0, hc0m, hbs⟩ := h.val
  have h0 := h.b
  have h1 := h.syn
  have h2 := h.ends
  have h3 := h.down
  have hby := hs.bytes
  have hwr := hs.writes
  have hr0 := h.lt r h.kb
  have HFZ := Lib.hid h.f
  have hn1 : n0 ≤ 1000000 := by omega
  cases hu : s.up with
  | false =>
    rw [hu] at h3
    have HZ : Hid (dCrash s keep torn = (60, s)) := Lib.hid (by unfold dCrash; rw [hu]; rfl)
    clear hu h hn0 hbs hby hwr hs
    go_enter Tryd.func37, Tryd.ntmps37
    go_wp2
    go_ret
    rw [HZ.out]
    exact ⟨rfl, K, HD.out, Moved.refl _ _, Newer.refl _ _⟩
  | true =>
    rw [hu] at h3
    by_cases hneg : keep < 0
    · have HZ : Hid (dCrash s keep torn = (2, s)) := Lib.hid (by unfold dCrash; rw [hu, if_pos rfl, if_pos (.inl hneg)])
      clear hu h hn0 hbs hby hwr hs
      go_enter Tryd.func37, Tryd.ntmps37
      go_wp2
      go_ret
      rw [HZ.out]
      exact ⟨rfl, K, HD.out, Moved.refl _ _, Newer.refl _ _⟩
    by_cases hneg2 : torn < 0
    · have HZ : Hid (dCrash s keep torn = (2, s)) := Lib.hid (by unfold dCrash; rw [hu, if_pos rfl, if_pos (.inr hneg2)])
      clear hu h hn0 hbs hby hwr hs
      go_enter Tryd.func37, Tryd.ntmps37
      go_wp2
      go_ret
      rw [HZ.out]
      exact ⟨rfl, K, HD.out, Moved.refl _ _, Newer.refl _ _⟩
    obtain ⟨kp, hkp⟩ := Int.eq_ofNat_of_zero_le (show 0 ≤ keep by omega)
    subst hkp
    obtain ⟨E, m, d, hm, rfl, _, _, hrow⟩ := h.row
    have HROW := Lib.hid hrow
    have HM := Lib.hid hm
    have hm3 : m ≤ 1000000 := by omega
    obtain ⟨EV, hEV⟩ : ∃ EV, Value.slice E m d = EV := ⟨_, rfl⟩
    obtain ⟨fe, hfe⟩ : ∃ fe, (s.zs ++ (leftZ s.ws kp torn).flatten).length = fe := ⟨_, rfl⟩
    have hlen0 : (allZ s).length = s.zs.length + s.ws.flatten.length := by simp only [allZ, List.length_append]
    have hfe2 : fe = s.zs.length + (leftZ s.ws kp torn).flatten.length := by rw [← hfe, List.length_append]
    have hfn : fe ≤ n0 := by have := (leftZ_len s.ws kp torn).1; omega
    have HZ : Hid (dCrash s kp torn = (0, ⟨false, s.zs ++ (leftZ s.ws kp torn).flatten, []⟩)) := Lib.hid (by unfold dCrash; rw [hu, if_pos rfl, if_neg (by omega)])
    have htk : (allZ s).take fe = s.zs ++ (leftZ s.ws kp torn).flatten := by rw [← hfe]; exact left_take s.zs s.ws kp torn (by omega)
    have HTL : Hid (((allZ s).take fe).length = fe) := Lib.hid (by rw [List.length_take, hn0]; omega)
    have HTB : Hid (IsBytes ((allZ s).take fe)) := Lib.hid (isBytes_iff.2 fun z hz => isBytes_iff.1 h.bytes z (List.mem_of_mem_take hz))
    have hcut := hbs.cut (k := 0) (m := fe) (by omega) A0 (fun b off e _ => by rw [e]; simp)
    rw [List.drop_zero] at hcut
    have HCP := Lib.hid (refcopy_any c0 hcut (Nat.le_refl _) (by omega))
    have HC := Lib.hid (cut_h A0 n0 c0 fe fe rfl (by omega))
    have HT : Hid (allZ (⟨false, s.zs ++ (leftZ s.ws kp torn).flatten, []⟩ : DiskZ) = (allZ s).take fe) := Lib.hid (by rw [allZ_flat, htk])
    have HS1 : Hid ((⟨false, s.zs ++ (leftZ s.ws kp torn).flatten, []⟩ : DiskZ).zs.length = fe) := Lib.hid hfe
    have HUU := Lib.hid hu
    have HA := Lib.hid h
    rw [hEV] at HA
    have g3 : (fe : Int) ≤ (c0 : Int) := by omega
    obtain ⟨a0, ha0⟩ : ∃ a0, s.zs.length = a0 := ⟨_, rfl⟩
    have HFE := Lib.hid hfe2
    have HA0 := Lib.hid ha0
    have hsmall : ∀ j, a0 + (s.ws.take j).flatten.length ≤ 1000000 := fun j => by have := flatten_take_le2 j s.ws; omega
    have HSMA := Lib.hid hsmall
    rw [ha0] at h1
    have HEV := Lib.hid hEV
    clear hu h hn0 hbs hby hwr hs hcut hrow hm hfe hlen0 htk hEV hsmall hfe2 ha0
    go_enter Tryd.func37, Tryd.ntmps37
    go_wp2
    go_loop [7, 8] (fun a i => ∃ j : Nat, j ≤ m ∧ j ≤ kp ∧ i = .int .i64 j ∧ ∃ e : Nat, a = .int .i64 e ∧ e ≤ 1000000 ∧ Hid (e = a0 + (s.ws.take j).flatten.length)) (fun _ i => m - (intOf i).toNat)
    case atStart => exact ⟨0, by omega, by omega, rfl, a0, rfl, by have := HSMA.out 0; omega, Lib.hid (by simp)⟩
    case round =>
      obtain ⟨j, hj, hjk, rfl, e, rfl, he, HE⟩ := hrel
      by_cases hlt : j < m ∧ j < kp
      · obtain ⟨hlt1, hlt2⟩ := hlt
        have i1 : (j : Int) < m := by omega
        have i2 : (j : Int) < kp := by omega
        obtain ⟨g, rfl, hc⟩ := HROW.out j hlt1
        rw [HA0.out] at hc
        have hle := HSMA.out (j + 1)
        have HE2 : Hid (a0 + (s.ws.take (j + 1)).flatten.length = a0 + (s.ws.take (j + 1)).flatten.length) := Lib.hid rfl
        obtain ⟨e2, he2⟩ : ∃ e2, a0 + (s.ws.take (j + 1)).flatten.length = e2 := ⟨_, rfl⟩
        rw [he2] at hc hle
        have HE3 := Lib.hid he2.symm
        clear he2 HE2
        go_wp2
        go_round
        case rel => exact ⟨j + 1, by omega, by omega, by go_num, e2, rfl, hle, HE3⟩
        case measure => simp [intOf]; omega
      · have HXX : Hid (j = min m kp) := Lib.hid (by omega)
        by_cases hkm : kp < m
        · have hjk2 : j = kp := by omega
          subst hjk2
          have i1 : (j : Int) < m := by omega
          have i2 : ¬ ((j : Int) < j) := by omega
          obtain ⟨g, rfl, hc⟩ := HROW.out j hkm
          rw [HA0.out] at hc
          obtain ⟨hs, hs1, hs2⟩ := left_len_some s.ws j torn (by rw [HM.out]; exact hkm)
          obtain ⟨e2, he2⟩ : ∃ e2, a0 + (s.ws.take (j + 1)).flatten.length = e2 := ⟨_, rfl⟩
          have hE := HE.out
          have hF := HFE.out
          have hle := HSMA.out (j + 1)
          rw [he2] at hc hle
          have f1 : e2 = e + hs := by omega
          have f2 : (fe : Int) = e + min (max (min torn ((hs : Int) - 1)) 0) hs := by rw [HA0.out] at hF; omega
          have hs3 : hs ≤ 1000000 := by omega
          have i3 : (e2 : Int) = e + hs := by omega
          have F2 := Lib.hid f2
          have I3 := Lib.hid i3
          have hle0 : (e : Int) ≤ e2 := by omega
          clear hs1 hs2 he2 hE hF f1 hlt f2 i3
          go_upto_if 51 with fail
          go_cut [2, 7, 9] from 52 (fun a b c wx => b = .int .i64 (fe : Int) ∧ wx = w)
          case rest =>
            obtain ⟨rfl, hw⟩ := hcut
            have hw' := hw.symm
            subst hw'
            clear hle0 hle F2 I3 hs3 hc i1 i2
            have C := HC.out
            go_upto_region 17 with (go_at_call 34; refine HCP.out.mono ?_; intro e w1 hm1; obtain ⟨A5, c5, rfl, ho5, hb5, hc5, hc5m⟩ := hm1.n HTL.out; have z0 : w1.cell? ⟨r, 0, none⟩ = some (.slice A0 n0 c0) := (hb5.cell (p := ⟨r, 0, none⟩) hr0).trans h0; have y0 : w1.frozen? ⟨r, 0, none⟩ = false := (hb5.frozen (p := ⟨r, 0, none⟩) hr0).trans (HFZ.out 0); clear hm1)
            obtain ⟨w2, hw2⟩ : ∃ w2, w1.setCell ⟨r, 0, none⟩ (.slice A5 fe c5) = w2 := ⟨_, rfl⟩
            have HW2 := Lib.hid hw2
            have g2 : ∀ i, w2.frozen? ⟨r, i, none⟩ = false := fun i => by rw [← hw2, World.frozen?_setCell]; exact (hb5.frozen (p := ⟨r, i, none⟩) hr0).trans (HFZ.out i)
            have g2c : ∀ i, i ≠ 0 → w2.cell? ⟨r, i, none⟩ = w.cell? ⟨r, i, none⟩ := fun i hi => by
              rw [← hw2, World.cell?_setCell_other _ _ _ _ (fun e => hi (congrArg Addr.off e).symm)]
              exact hb5.cell (p := ⟨r, i, none⟩) hr0
            have q0 : w2.cell? ⟨r, 0, none⟩ = some (.slice A5 fe c5) := by rw [← hw2]; exact World.cell?_setCell_same _ _ _ z0
            have q1 : w2.cell? ⟨r, 1, none⟩ = some (.int .i64 (s.zs.length : Nat)) := (g2c 1 (by omega)).trans HA.out.syn
            have q2 : w2.cell? ⟨r, 2, none⟩ = some EV := (g2c 2 (by omega)).trans HA.out.ends
            have q3 : w2.cell? ⟨r, 3, none⟩ = some (.bool (!s.up)) := (g2c 3 (by omega)).trans HA.out.down
            have p1 := g2 1
            have p2 := g2 2
            have p3 := g2 3
            have HG2 := Lib.hid g2
            have HO5 := Lib.hid ho5
            have HB5 := Lib.hid hb5
            have far2 : Hid (∀ k, k ≠ r → w2.heap[k]? = w1.heap[k]?) := Lib.hid (fun k hk => by rw [← hw2]; exact Below.heap_setCell _ _ _ _ hk)
            have HSW : Hid (w2.heap.size = w1.heap.size ∧ w2.os = w1.os ∧ w2.tape = w1.tape ∧ w2.output = w1.output) := Lib.hid (by rw [← hw2]; exact ⟨by simp [World.setCell], rfl, rfl, rfl⟩)
            simp only [HW2.out]
            clear hw2 g2 g2c ho5 hb5 z0 y0
            go_wp2
            go_ret
            rw [HZ.out]
            obtain ⟨w4, hw4⟩ : ∃ w4, (((w2.setCell ⟨r, 1, none⟩ (.int .i64 (fe : Int))).setCell ⟨r, 2, none⟩ (.slice none 0 0)).setCell ⟨r, 3, none⟩ (.bool true)) = w4 := ⟨_, rfl⟩
            have key := HA.out.anew (s' := ⟨false, s.zs ++ (leftZ s.ws j torn).flatten, []⟩) (w4 := w4) (n := fe) HB5.out (by rw [HT.out]; exact HO5.out) (by rw [HT.out]; exact HTL.out) (by rw [HT.out]; exact HTB.out) rfl
              (fun k hk => by rw [← hw4]; exact (Below.heap_setCell _ _ _ _ hk).trans ((Below.heap_setCell _ _ _ _ hk).trans ((Below.heap_setCell _ _ _ _ hk).trans (far2.out k hk))))
              (by rw [← hw4]; simpa [World.setCell] using HSW.out.1) (by rw [← hw4]; exact HSW.out.2.1) (by rw [← hw4]; exact HSW.out.2.2.1) (by rw [← hw4]; exact HSW.out.2.2.2)
              (by rw [← hw4]; rw [World.cell?_setCell_other _ _ _ _ (by simp)]; rw [World.cell?_setCell_other _ _ _ _ (by simp)]; rw [World.cell?_setCell_other _ _ _ _ (by simp)]; exact q0)
              (by rw [← hw4]; rw [World.cell?_setCell_other _ _ _ _ (by simp)]; rw [World.cell?_setCell_other _ _ _ _ (by simp)]; rw [HS1.out]; exact World.cell?_setCell_same _ _ _ q1)
              (by rw [← hw4]; rw [World.cell?_setCell_other _ _ _ _ (by simp)]; exact World.cell?_setCell_same _ _ _ (by rw [World.cell?_setCell_other _ _ _ _ (by simp)]; exact q2))
              (by rw [← hw4]; exact World.cell?_setCell_same _ _ _ (by rw [World.cell?_setCell_other _ _ _ _ (by simp)]; rw [World.cell?_setCell_other _ _ _ _ (by simp)]; exact q3))
              (fun i => by rw [← hw4]; rw [World.frozen?_setCell]; rw [World.frozen?_setCell, World.frozen?_setCell]; exact HG2.out i)
            rw [hw4]
            exact ⟨rfl, _, key.1, key.2, wider_newer K w _⟩
          case first =>
            by_cases ht1 : (e2 : Int) - e - 1 < torn
            · by_cases ht2 : 0 < (e2 : Int) - e - 1
              · go_wp2
                go_meet
                case rel => exact ⟨congrArg (Value.int .i64) (by rw [F2.out]; have := I3.out; omega), rfl⟩
              · go_wp2
                go_meet
                case rel => exact ⟨congrArg (Value.int .i64) (by rw [F2.out]; have := I3.out; omega), rfl⟩
            · by_cases ht2 : 0 < torn
              · go_wp2
                go_meet
                case rel => exact ⟨congrArg (Value.int .i64) (by rw [F2.out]; have := I3.out; omega), rfl⟩
              · go_wp2
                go_meet
                case rel => exact ⟨congrArg (Value.int .i64) (by rw [F2.out]; have := I3.out; omega), rfl⟩
        · have hjm : j = m := by omega
          subst hjm
          have hef : fe = e := by
            have h1 := HE.out
            have h2 := HFE.out
            have h3 := left_len_all s.ws kp torn (by rw [HM.out]; omega)
            rw [HM.out] at h3
            rw [HA0.out] at h2
            omega
          subst hef
          have i1 : ¬ ((j : Int) < j) := by omega
          have i2 : ¬ ((kp : Int) < j) := by omega
          have C := HC.out
          clear hlt HXX he
          go_upto_region 17 with (go_at_call 34; refine HCP.out.mono ?_; intro e w1 hm1; obtain ⟨A5, c5, rfl, ho5, hb5, hc5, hc5m⟩ := hm1.n HTL.out; have z0 : w1.cell? ⟨r, 0, none⟩ = some (.slice A0 n0 c0) := (hb5.cell (p := ⟨r, 0, none⟩) hr0).trans h0; have y0 : w1.frozen? ⟨r, 0, none⟩ = false := (hb5.frozen (p := ⟨r, 0, none⟩) hr0).trans (HFZ.out 0); clear hm1)
          obtain ⟨w2, hw2⟩ : ∃ w2, w1.setCell ⟨r, 0, none⟩ (.slice A5 fe c5) = w2 := ⟨_, rfl⟩
          have HW2 := Lib.hid hw2
          have g2 : ∀ i, w2.frozen? ⟨r, i, none⟩ = false := fun i => by rw [← hw2, World.frozen?_setCell]; exact (hb5.frozen (p := ⟨r, i, none⟩) hr0).trans (HFZ.out i)
          have g2c : ∀ i, i ≠ 0 → w2.cell? ⟨r, i, none⟩ = w.cell? ⟨r, i, none⟩ := fun i hi => by
            rw [← hw2, World.cell?_setCell_other _ _ _ _ (fun e => hi (congrArg Addr.off e).symm)]
            exact hb5.cell (p := ⟨r, i, none⟩) hr0
          have q0 : w2.cell? ⟨r, 0, none⟩ = some (.slice A5 fe c5) := by rw [← hw2]; exact World.cell?_setCell_same _ _ _ z0
          have q1 : w2.cell? ⟨r, 1, none⟩ = some (.int .i64 (s.zs.length : Nat)) := (g2c 1 (by omega)).trans HA.out.syn
          have q2 : w2.cell? ⟨r, 2, none⟩ = some EV := (g2c 2 (by omega)).trans HA.out.ends
          have q3 : w2.cell? ⟨r, 3, none⟩ = some (.bool (!s.up)) := (g2c 3 (by omega)).trans HA.out.down
          have p1 := g2 1
          have p2 := g2 2
          have p3 := g2 3
          have HG2 := Lib.hid g2
          have HO5 := Lib.hid ho5
          have HB5 := Lib.hid hb5
          have far2 : Hid (∀ k, k ≠ r → w2.heap[k]? = w1.heap[k]?) := Lib.hid (fun k hk => by rw [← hw2]; exact Below.heap_setCell _ _ _ _ hk)
          have HSW : Hid (w2.heap.size = w1.heap.size ∧ w2.os = w1.os ∧ w2.tape = w1.tape ∧ w2.output = w1.output) := Lib.hid (by rw [← hw2]; exact ⟨by simp [World.setCell], rfl, rfl, rfl⟩)
          simp only [HW2.out]
          clear hw2 g2 g2c ho5 hb5 z0 y0
          go_wp2
          go_ret
          rw [HZ.out]
          obtain ⟨w4, hw4⟩ : ∃ w4, (((w2.setCell ⟨r, 1, none⟩ (.int .i64 (fe : Int))).setCell ⟨r, 2, none⟩ (.slice none 0 0)).setCell ⟨r, 3, none⟩ (.bool true)) = w4 := ⟨_, rfl⟩
          have key := HA.out.anew (s' := ⟨false, s.zs ++ (leftZ s.ws kp torn).flatten, []⟩) (w4 := w4) (n := fe) HB5.out (by rw [HT.out]; exact HO5.out) (by rw [HT.out]; exact HTL.out) (by rw [HT.out]; exact HTB.out) rfl
            (fun k hk => by rw [← hw4]; exact (Below.heap_setCell _ _ _ _ hk).trans ((Below.heap_setCell _ _ _ _ hk).trans ((Below.heap_setCell _ _ _ _ hk).trans (far2.out k hk))))
            (by rw [← hw4]; simpa [World.setCell] using HSW.out.1) (by rw [← hw4]; exact HSW.out.2.1) (by rw [← hw4]; exact HSW.out.2.2.1) (by rw [← hw4]; exact HSW.out.2.2.2)
            (by rw [← hw4]; rw [World.cell?_setCell_other _ _ _ _ (by simp)]; rw [World.cell?_setCell_other _ _ _ _ (by simp)]; rw [World.cell?_setCell_other _ _ _ _ (by simp)]; exact q0)
            (by rw [← hw4]; rw [World.cell?_setCell_other _ _ _ _ (by simp)]; rw [World.cell?_setCell_other _ _ _ _ (by simp)]; rw [HS1.out]; exact World.cell?_setCell_same _ _ _ q1)
            (by rw [← hw4]; rw [World.cell?_setCell_other _ _ _ _ (by simp)]; exact World.cell?_setCell_same _ _ _ (by rw [World.cell?_setCell_other _ _ _ _ (by simp)]; exact q2))
            (by rw [← hw4]; exact World.cell?_setCell_same _ _ _ (by rw [World.cell?_setCell_other _ _ _ _ (by simp)]; rw [World.cell?_setCell_other _ _ _ _ (by simp)]; exact q3))
            (fun i => by rw [← hw4]; rw [World.frozen?_setCell]; rw [World.frozen?_setCell, World.frozen?_setCell]; exact HG2.out i)
          rw [hw4]
          exact ⟨rfl, _, key.1, key.2, wider_newer K w _⟩
end Go.Proofs.YtjfeepmjebdahaaDoor
/- An act, done with both disks: the program's and the document's. -/
namespace Go.Proofs.YtjfeepmjebdahaaDoor
open Go.ChangeShapes Go.WideShapes Go.ChangeAt Go.RowKit
set_option linter.unusedVariables false
/-- Both disks, apart from one another, in blocks newer than w0. -/
structure Pair (w0 w : World) (b r : Nat) (K R : Nat → Prop) (s1 s2 : DiskZ) : Prop where
  dk : Dk w b K s1
  rf : Rf w r R s2
  apart : ∀ k, K k → ¬ R k
  newK : ∀ k, K k → w0.heap.size ≤ k
  newR : ∀ k, R k → w0.heap.size ≤ k
  bel : Below w0.heap.size w0 w
section
variable {w0 w w1 : World} {b r : Nat} {K R : Nat → Prop} {s1 s2 : DiskZ} {x : Int × DiskZ} {e : Ending}
theorem Pair.below (h : Pair w0 w b r K R s1 s2) (hb : Below w.heap.size w w1) : Pair w0 w1 b r K R s1 s2 :=
  ⟨h.dk.below hb (Nat.le_refl _), h.rf.below hb, h.apart, h.newK, h.newR, h.bel.trans (hb.mono h.bel.size)⟩
theorem Pair.quiet (h : Pair w0 w b r K R s1 s2) (hq : ∃ n, w1 = w.drewN n) : Pair w0 w1 b r K R s1 s2 := by
  obtain ⟨n, rfl⟩ := hq
  exact h.below ⟨rfl, rfl, rfl, Nat.le_refl _, fun _ _ => rfl⟩
theorem Pair.far {p : Addr} (h : Pair w0 w b r K R s1 s2) (hK : ¬ K p.block) (hR : ¬ R p.block) (hp : w0.heap.size ≤ p.block) (v : Value) : Pair w0 (w.setCell p v) b r K R s1 s2 :=
  ⟨h.dk.cell hK v, h.rf.keep (fun k hk => Below.heap_setCell _ _ _ _ (fun e => hR (by rw [← e]; exact hk))) (by simp [World.setCell]), h.apart, h.newK, h.newR, h.bel.setCell hp v⟩
theorem Pair.did (h : Pair w0 w b r K R s1 s2) (hd : Did w b K x e w1) : e = .returned (.int .i64 x.1) ∧ ∃ K', Pair w0 w1 b r K' R x.2 s2 ∧ Moved K w w1 ∧ Newer w K K' := by
  obtain ⟨rfl, K', h4, h5, h6⟩ := hd
  refine ⟨rfl, K', ⟨h4, h.rf.moved h5 (fun k hk hK => h.apart k hK hk), fun k hk hR => ?_, fun k hk => (h6 k hk).elim (h.newK k) (fun e => Nat.le_trans h.bel.size e), h.newR, h.bel.trans (h5.below h.bel.size h.newK)⟩, h5, h6⟩
  rcases h6 k hk with e | e
  · exact h.apart k e hR
  · have := h.rf.lt k hR; omega
theorem Pair.rdid (h : Pair w0 w b r K R s1 s2) (hd : RDid w r R x e w1) : e = .returned (.int .i64 x.1) ∧ ∃ R', Pair w0 w1 b r K R' s1 x.2 ∧ Moved R w w1 ∧ Newer w R R' := by
  obtain ⟨rfl, R', h4, h5, h6⟩ := hd
  refine ⟨rfl, R', ⟨h.dk.moved h5 h.apart, h4, fun k hk hR => ?_, h.newK, fun k hk => (h6 k hk).elim (h.newR k) (fun e => Nat.le_trans h.bel.size e), h.bel.trans (h5.below h.bel.size h.newR)⟩, h5, h6⟩
  rcases h6 k hR with e | e
  · exact h.apart k hk e
  · have := h.dk.lt k hk; omega
end
def OneSays (w0 : World) (b r : Nat) (s : DiskZ) (e : Ending) (w' : World) : Prop := e = .returned (.bool true) ∧ ∃ K R, Pair w0 w' b r K R s s
end Go.Proofs.YtjfeepmjebdahaaDoor
