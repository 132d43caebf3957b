/- MessageParse. Printed by gen_msl4.py. -/
import Derived.Test.YtfihiandifnkpaaMsD2
import Derived.Test.YtfihiandifnkpaaMsV
namespace Go.Proofs.Ytfihiandifnkpaa
open Go.ChangeShapes Go.WideShapes Go.ChangeAt Go.RowKit
set_option linter.unusedVariables false
set_option maxRecDepth 100000
set_option linter.unusedSimpArgs false
open Plain Sha Ms
/-- A row of bytes, in blocks from lo on, below hi, not be; each is some byte, and may be stored into. -/
def Byt (w : World) (lo hi be : Nat) (A : Option Addr) (n : Nat) : Prop := 0 < n → ∃ b off, A = some ⟨b, off, none⟩ ∧ lo ≤ b ∧ b < hi ∧ b ≠ be ∧ w.there b off n ∧ ∀ k, k < n → ∃ u : Int, 0 ≤ u ∧ u < 256 ∧ w.cell? ⟨b, off + k, none⟩ = some (.int .u8 u)
section
variable {w w' : World} {lo hi be : Nat} {A : Option Addr} {n : Nat}
theorem Byt.same (h : Byt w lo hi be A n) (hk : ∀ j, j < hi → w'.heap[j]? = w.heap[j]?) : Byt w' lo hi be A n := fun hn => by
  obtain ⟨b, off, e, h1, h2, h3, th, hc⟩ := h hn
  refine ⟨b, off, e, h1, h2, h3, there_same th (hk b h2), fun k hkn => ?_⟩
  obtain ⟨u, u0, u1, hu⟩ := hc k hkn
  refine ⟨u, u0, u1, ?_⟩
  have hr : w.rangeAt b (off + k) [.int .u8 u] := fun j v hv => by
    match j, hv with
    | 0, hv => (injection hv with hv; subst hv; exact hu)
    | j + 1, hv => simp at hv
  have := rangeAt_same hr (hk b h2) 0 _ rfl
  exact this
theorem Byt.set (h : Byt w lo hi be A n) {g i : Nat} {z : Int} (ht : w.there g i 1) (z0 : 0 ≤ z) (z1 : z < 256) : Byt (w.setCell ⟨g, i, none⟩ (.int .u8 z)) lo hi be A n := fun hn => by
  obtain ⟨b, off, e, h1, h2, h3, th, hc⟩ := h hn
  have e1 : w.setCell ⟨g, i, none⟩ (.int .u8 z) = w.setCells g i [.int .u8 z] := rfl
  refine ⟨b, off, e, h1, h2, h3, by rw [e1]; exact World.there_setCells th _ _ _, fun k hk => ?_⟩
  by_cases hp : b = g ∧ off + k = i
  · obtain ⟨rfl, rfl⟩ := hp
    refine ⟨z, z0, z1, ?_⟩
    rw [e1]
    exact World.rangeAt_setCells_same w b (off + k) [.int .u8 z] ht 0 _ rfl
  · obtain ⟨u, u0, u1, hu⟩ := hc k hk
    refine ⟨u, u0, u1, ?_⟩
    rw [e1, World.cell?_setCells_out g [.int .u8 z] i w ⟨b, off + k, none⟩ (fun hb _ => by
      have hb : b = g := by first | exact hb | exact hb.symm
      show off + k < i ∨ i + 1 ≤ off + k
      have : ¬ off + k = i := fun e => hp ⟨hb, e⟩
      omega)]
    exact hu
theorem Byt.far (h : Byt w lo hi be A n) {i : Nat} {v : Value} : Byt (w.setCell ⟨be, i, none⟩ v) lo hi be A n := fun hn => by
  obtain ⟨b, off, e, h1, h2, h3, th, hc⟩ := h hn
  have hh := Below.heap_setCell w ⟨be, i, none⟩ v b (by show b ≠ be; exact h3)
  refine ⟨b, off, e, h1, h2, h3, there_same th hh, fun k hkn => ?_⟩
  obtain ⟨u, u0, u1, hu⟩ := hc k hkn
  refine ⟨u, u0, u1, ?_⟩
  have hr : w.rangeAt b (off + k) [.int .u8 u] := fun j v hv => by
    match j, hv with
    | 0, hv => (injection hv with hv; subst hv; exact hu)
    | j + 1, hv => simp at hv
  exact rangeAt_same hr hh 0 _ rfl
theorem byt_of_own {base c : Nat} {zs : List Int} (h : w.ownsRow base 5 1 (.slice A n c) n (vals zs)) (hz : IsBytes zs) (hb : ∀ j, (Value.slice A n c).ownBlock = some j → j ≠ be) (hs : w.heap.size ≤ hi) (hl : lo ≤ base) : Byt w lo hi be A n := fun hn => by
  have O := Own.of h hz
  obtain ⟨g, u, rfl, g1, g2, _⟩ := O.at_ hn
  refine ⟨g, 0, rfl, by omega, by omega, hb g rfl, fun m hm => ?_, fun k hk => ?_⟩
  · obtain ⟨g', u', e, _, _, _, _, hc, hf, _⟩ := O.at_ hm
    injection e with e
    injection e with e
    subst e
    rw [Nat.zero_add]
    exact ⟨by rw [hc]; rfl, hf⟩
  · obtain ⟨g', u', e, _, _, u0, u1, hc, _⟩ := O.at_ hk
    injection e with e
    injection e with e
    subst e
    exact ⟨u', u0, u1, by rw [Nat.zero_add]; exact hc⟩
end
/-- What the loops turn: the bodies' bytes, the entries' cells. -/
structure JR (lo hi be : Nat) (x : MX) (w : World) : Prop where
  body : Byt w lo hi be x.A x.n
  bo : ∀ y, y ∈ x.es → Byt w lo hi be y.A y.n
  tab : 0 < x.en → x.EA = some ⟨be, 0, none⟩ ∧ lo ≤ be ∧ be < hi ∧ w.there be 0 (x.en * 5) ∧ ∀ k y, x.es[k]? = some y → w.cell? ⟨be, k * 5 + 4, none⟩ = some (.slice y.A y.n y.c)
section
variable {w w' : World} {lo hi be : Nat} {x : MX}
theorem JR.same (h : JR lo hi be x w) (hk : ∀ j, j < hi → w'.heap[j]? = w.heap[j]?) : JR lo hi be x w' := by
  refine ⟨h.body.same hk, fun y hy => (h.bo y hy).same hk, fun hn => ?_⟩
  obtain ⟨e, h1, h2, th, hc⟩ := h.tab hn
  refine ⟨e, h1, h2, there_same th (hk be h2), fun k y hy => ?_⟩
  have hr : w.rangeAt be (k * 5 + 4) [.slice y.A y.n y.c] := fun j v hv => by
    match j, hv with
    | 0, hv => (injection hv with hv; subst hv; exact hc k y hy)
    | j + 1, hv => simp at hv
  exact rangeAt_same hr (hk be h2) 0 _ rfl
theorem JR.byte (h : JR lo hi be x w) {g i : Nat} {z : Int} (ht : w.there g i 1) (hg : g ≠ be) (z0 : 0 ≤ z) (z1 : z < 256) : JR lo hi be x (w.setCell ⟨g, i, none⟩ (.int .u8 z)) := by
  refine ⟨h.body.set ht z0 z1, fun y hy => (h.bo y hy).set ht z0 z1, fun hn => ?_⟩
  obtain ⟨e, h1, h2, th, hc⟩ := h.tab hn
  have hh := Below.heap_setCell w ⟨g, i, none⟩ (.int .u8 z) be (by show be ≠ g; exact fun e => hg e.symm)
  refine ⟨e, h1, h2, there_same th hh, fun k y hy => ?_⟩
  have hr : w.rangeAt be (k * 5 + 4) [.slice y.A y.n y.c] := fun j v hv => by
    match j, hv with
    | 0, hv => (injection hv with hv; subst hv; exact hc k y hy)
    | j + 1, hv => simp at hv
  exact rangeAt_same hr hh 0 _ rfl
theorem JR.stamp (h : JR lo hi be x w) {j : Nat} (v : Value) : JR lo hi be x (w.setCell ⟨be, j * 5 + 1, none⟩ v) := by
  refine ⟨h.body.far, fun y hy => (h.bo y hy).far, fun hn => ?_⟩
  obtain ⟨e, h1, h2, th, hc⟩ := h.tab hn
  have e1 : w.setCell ⟨be, j * 5 + 1, none⟩ v = w.setCells be (j * 5 + 1) [v] := rfl
  refine ⟨e, h1, h2, by rw [e1]; exact World.there_setCells th _ _ _, fun k y hy => ?_⟩
  rw [e1, World.cell?_setCells_out be [v] (j * 5 + 1) w ⟨be, k * 5 + 4, none⟩ (fun _ _ => by
    show k * 5 + 4 < j * 5 + 1 ∨ j * 5 + 1 + 1 ≤ k * 5 + 4
    omega)]
  exact hc k y hy
theorem jr_of_new {m : Nat} (h : NewM w m x) (z : MsgOk x.z) : ∃ be, JR m w.heap.size be x w := by
  have hb : ∀ y, y ∈ x.es → IsBytes y.body := fun y hy => (z.es y.z (List.mem_map_of_mem hy)).body
  rcases Nat.eq_zero_or_pos x.en with h0 | h0
  · exact ⟨w.heap.size, byt_of_own h.body z.body (fun j hj => by have := (h.body.lt j hj).2; omega) (Nat.le_refl _) (Nat.le_refl _), fun y hy => byt_of_own (h.bo y hy) (hb y hy) (fun j hj => by have := ((h.bo y hy).lt j hj).2; omega) (Nat.le_refl _) (Nat.le_refl _), fun hn => by omega⟩
  · obtain ⟨h1, h2 | ⟨g, cap, cur, ev, hg, hh, h3⟩⟩ := id h.es
    · omega
    · injection ev with e1 e2 e3
      have hgs : g < w.heap.size := (h.es.lt g (by rw [e1]; rfl)).2
      have hne : ∀ {A : Option Addr} {n c : Nat} {xs : List Value}, w.ownsRow m 5 1 (.slice A n c) n xs → ∀ j, (Value.slice A n c).ownBlock = some j → j ≠ g := fun ho j hj e => own_apart ho h.es (by decide) hj (by rw [e1, e]; rfl)
      refine ⟨g, byt_of_own h.body z.body (hne h.body) (Nat.le_refl _) (Nat.le_refl _), fun y hy => byt_of_own (h.bo y hy) (hb y hy) (hne (h.bo y hy)) (Nat.le_refl _) (Nat.le_refl _), fun hn => ⟨e1, hg, hgs, ?_, ?_⟩⟩
      · intro j hj
        have hlen : (x.es.flatMap ec).length = x.en * 5 := h1
        have hc := h.es.cells (g := g) (by rw [e1]; rfl) j _ (List.getElem?_eq_getElem (by omega))
        rw [Go.WideShapes.add_plain] at hc
        exact ⟨by rw [hc]; rfl, frozen_of_row _ _ _ _ _ hh⟩
      · intro k y hy
        have hf := flat_at ec_len x.es k y hy 4 (by omega)
        have hc := h.es.cells (g := g) (by rw [e1]; rfl) (k * 5 + 4) (.slice y.A y.n y.c) (by rw [hf]; rfl)
        rw [Go.WideShapes.add_plain, Nat.zero_add] at hc
        exact hc
theorem JR.at_ {A : Option Addr} {n : Nat} (h : Byt w lo hi be A n) {j : Nat} (hj : j < n) : ∃ b off u, A = some ⟨b, off, none⟩ ∧ lo ≤ b ∧ b < hi ∧ b ≠ be ∧ 0 ≤ u ∧ u < 256 ∧ w.cell? ⟨b, off + j, none⟩ = some (.int .u8 u) ∧ w.frozen? ⟨b, off + j, none⟩ = false ∧ w.there b (off + j) 1 := by
  obtain ⟨b, off, e, h1, h2, h3, th, hc⟩ := h (by omega)
  obtain ⟨u, u0, u1, hu⟩ := hc j hj
  refine ⟨b, off, u, e, h1, h2, h3, u0, u1, hu, (th j hj).2, fun m hm => ?_⟩
  have := th (j + m) (by omega)
  rwa [← Nat.add_assoc] at this
end
set_option maxHeartbeats 16000000 in
theorem msparse_in (A : Option Addr) (n c : Nat) (bs : List Int) (w : World) (h : Bs w w.heap.size A n bs) (hc : n ≤ c) (hn : n ≤ maxLen) : Calls Try.prog 4 #[.slice A n c] w (fun e w' => e = .returned (.bool true) ∧ Below w.heap.size w w') := by
  have hL := h.len
  have HLN := Lib.hid hL
  have HISB := Lib.hid h.isBytes
  by_cases hbig : 5000 < n
  · have hi : (5000 : Int) < (n : Int) := by omega
    clear h hL
    go_enter Try.func4, Try.ntmps4
    go_wp2
    go_ret
    exact ⟨rfl, Below.refl _ _⟩
  · have hi : ¬ (5000 : Int) < (n : Int) := by omega
    have hn5 : n ≤ 5000 := by omega
    have HB := Lib.hid h
    have CP := Lib.hid (refcopy_any c h (Nat.le_refl _) (by omega))
    obtain ⟨PZ, PE, hP⟩ : ∃ a b, parseM bs = (a, b) := ⟨_, _, rfl⟩
    have HP := Lib.hid hP
    have ZOK : Hid (MsgOk PZ) := Lib.hid (by
      have hz : PZ = (parseM bs).1 := by rw [hP]
      have z0 : InM 0 := inM0
      rw [hz]
      unfold parseM
      split
      · have T0 : StM (0, bs) := ⟨h.isBytes, by show bs.length ≤ 65536; omega⟩
        obtain ⟨kd, s4, hb4⟩ : ∃ a s', rByte (0, bs) = (a, s') := ⟨_, _, rfl⟩
        obtain ⟨hkr, t4⟩ := byte_rm T0 hb4
        unfold msgR
        rw [hb4]
        exact own_ok t4 hkr
      · exact ⟨by show (0 : Int) ≤ 0 ∧ (0 : Int) < 256; omega, z0, z0, isBytes_iff.2 (fun z hz => by simp [mz0] at hz), by simp [mz0], z0, z0, fun e he => by simp [mz0] at he, z0, z0, z0, fun e he => by simp [mz0] at he, z0⟩)
    clear h hL hP
    go_enter Try.func4, Try.ntmps4
    go_upto_region 4 with (go_at_call 16; refine CP.out.mono ?_; intro e w2 hm; obtain ⟨D2, d2, rfl, o2, b2, k1, k2⟩ := hm.n HLN.out; have B2 := Lib.hid b2; have H2 := Lib.hid (bs_of_own o2 HISB.out); clear hm o2 b2)
    have PR := Lib.hid (rparse_any (w := w2) (HB.out.belowM B2.out (Nat.le_refl _)) B2.out.size hc (by omega))
    rw [HP.out] at PR
    go_upto_region 5 with (go_at_call 17; refine PR.out.mono ?_; rintro e w3 ⟨y1, he, hz, hok, hnw, hb⟩; have he : e = .returned (.tuple #[.agg #[.int .u8 y1.kind, .int .i64 y1.client, .int .i64 y1.id, .slice y1.A y1.n y1.c, .int .i64 y1.upto, .int .i64 y1.frm, .slice y1.EA y1.en y1.ecp, .int .i64 y1.hav, .int .i64 y1.don, .int .i64 y1.ep, .slice y1.MA y1.mn y1.mcp, .int .i64 y1.since], .int .i64 PE]) := he; subst he; have B3 := Lib.hid hb; have OK1 := Lib.hid hok; have HZ1 := Lib.hid (show y1.z = PZ from hz); clear hz hok hnw hb)
    obtain ⟨W4, hW4⟩ : ∃ W, W = w3.alloc (.cells #[.int .u8 y1.kind, .int .i64 y1.client, .int .i64 y1.id, .slice y1.A y1.n y1.c, .int .i64 y1.upto, .int .i64 y1.frm, .slice y1.EA y1.en y1.ecp, .int .i64 y1.hav, .int .i64 y1.don, .int .i64 y1.ep, .slice y1.MA y1.mn y1.mcp, .int .i64 y1.since] 28) := ⟨_, rfl⟩
    obtain ⟨g4, hg4⟩ : ∃ g, w3.heap.size = g := ⟨_, rfl⟩
    have B4 := Lib.hid (show Below w2.heap.size w2 W4 by rw [hW4]; exact B3.out.trans ((below_one _ _).mono B3.out.size))
    have B4w := Lib.hid (B2.out.trans (B4.out.mono B2.out.size))
    have V4 := Lib.hid (show VBox W4 g4 12 (mc y1) by rw [hW4]; exact vbox_new w3 (mc y1) _ _ _ hg4 rfl (by omega))
    have OK4 := Lib.hid (show MXOk W4 W4.heap.size y1 by rw [hW4]; exact OK1.out.grow (below_one _ _) (Nat.le_refl _))
    have HC2 := Lib.hid (fun (W : World) (hW : Below W4.heap.size W4 W) => (⟨H2.out.belowM (B4.out.trans (hW.mono B4.out.size)) (Nat.le_refl _), Nat.le_trans B4.out.size hW.size⟩ : Bs W w2.heap.size D2 n bs ∧ w2.heap.size ≤ W.heap.size))
    have HC0 := Lib.hid (fun (W : World) (hW : Below W4.heap.size W4 W) => (HB.out.belowM (B4w.out.trans (hW.mono B4w.out.size)) (Nat.le_refl _)))
    rw [← hW4, hg4]
    clear hW4 hg4 CP PR OK1
    go_wp2
    go_loopw [6] (fun i wr => ∃ k : Nat, k ≤ 2 ∧ i = .int .i64 k ∧ Hid (Below W4.heap.size W4 wr)) (fun i _ => 2 - (intOf i).toNat)
    case atStart => exact ⟨0, by omega, rfl, Lib.hid (Below.refl _ _)⟩
    case round =>
      obtain ⟨k, hk, rfl, BR⟩ := hrel
      by_cases hlt : k < 2
      · have hki : (k : Int) < 2 := by omega
        have PB := Lib.hid (parse_anyM (c := d2) (HC2.out _ BR.out).1 (HC2.out _ BR.out).2 (by omega))
        rw [HP.out] at PB
        go_upto_region 9 with (go_at_call 18; refine PB.out.mono ?_; rintro e w5 ⟨y2, he, hz, hok, hnw, hb⟩; have he : e = .returned (.tuple #[.agg #[.int .u8 y2.kind, .int .i64 y2.client, .int .i64 y2.id, .slice y2.A y2.n y2.c, .int .i64 y2.upto, .int .i64 y2.frm, .slice y2.EA y2.en y2.ecp, .int .i64 y2.hav, .int .i64 y2.don, .int .i64 y2.ep, .slice y2.MA y2.mn y2.mcp, .int .i64 y2.since], .int .i64 PE]) := he; subst he; have B5 := Lib.hid hb; have OK5 := Lib.hid hok; have HZ2 := Lib.hid (show y2.z = PZ from hz); have NW := Lib.hid hnw; clear hz hok hnw hb)
        obtain ⟨W6, hW6⟩ : ∃ W, W = w5.alloc (.cells #[.int .u8 y2.kind, .int .i64 y2.client, .int .i64 y2.id, .slice y2.A y2.n y2.c, .int .i64 y2.upto, .int .i64 y2.frm, .slice y2.EA y2.en y2.ecp, .int .i64 y2.hav, .int .i64 y2.don, .int .i64 y2.ep, .slice y2.MA y2.mn y2.mcp, .int .i64 y2.since] 28) := ⟨_, rfl⟩
        obtain ⟨g7, hg7⟩ : ∃ g, w5.heap.size = g := ⟨_, rfl⟩
        have b56 := Lib.hid (show Below w5.heap.size w5 W6 by rw [hW6]; exact below_one _ _)
        have B6 := Lib.hid (BR.out.trans ((B5.out.trans (b56.out.mono B5.out.size)).mono BR.out.size))
        have V7 := Lib.hid (show VBox W6 g7 12 (mc y2) by rw [hW6]; exact vbox_new w5 (mc y2) _ _ _ hg7 rfl (by omega))
        have OK6 := Lib.hid (show MXOk W6 W6.heap.size y2 from OK5.out.grow b56.out (Nat.le_refl _))
        obtain ⟨be, hJ⟩ := jr_of_new NW.out (by rw [HZ2.out]; exact ZOK.out)
        rw [hg7] at hJ
        have J5 := Lib.hid hJ
        have HEN := Lib.hid OK5.out.es.row.len
        have n1 : y2.n ≤ 9223372036854775807 := by have a := OK5.out.cap; have b := OK5.out.max; unfold maxLen at b; omega
        have n2 : y2.en ≤ 9223372036854775807 := by have a := OK5.out.ecap; have b := OK5.out.emax; unfold maxLen at b; omega
        have HN3 := Lib.hid (fun (y : EX) (hy : y ∈ y2.es) => (show y.n ≤ 9223372036854775807 by have a := (OK5.out.es.ok y hy).cap; have b := (OK5.out.es.ok y hy).max; unfold maxLen at b; omega))
        have V46 := Lib.hid (V4.out.grow B6.out)
        have SM := Lib.hid (same_anyM (w := W6) true OK6.out (OK4.out.below B6.out (Nat.le_refl _)) (Nat.le_refl _) B6.out.size (by rw [HZ1.out, HZ2.out]; exact msgE_refl _))
        have SB := Lib.hid (fun (W : World) (hW : Below W4.heap.size W4 W) => refsame_any (w := W) d2 c (HC2.out W hW).1 (HC0.out W hW) (by unfold maxLen; omega) (by unfold maxLen; omega))
        have EF : eqB bs bs = true := eqB_refl _
        obtain ⟨s0, hs0⟩ : ∃ s, wr.heap.size = s := ⟨_, rfl⟩
        rw [hs0] at J5
        have HS0 := Lib.hid (show W4.heap.size ≤ s0 by rw [← hs0]; exact BR.out.size)
        have HG7 := Lib.hid hg7
        have HW6 := Lib.hid hW6
        rw [← hW6, hg7]
        clear hW6 hg7 hs0 hJ PB OK5
        go_upto_region 11 with (first
        | (with_reducible show wpList _ _ _ (⟨some 35, .load 28 (.tmp 7), _, _, _, _⟩ :: _) _ _; refine wpList_load_guardL (op := ⟨some 35, .load 28 (.tmp 7), _, _, _, some (3, false)⟩) (by first | rfl | go_simp) 28 (.tmp 7) rfl (g7) (0) rfl (mc y2) _ (V7.out.range) Try.underlying28 rfl (m_size _) ?_)
        | (with_reducible show wpList _ _ _ (⟨some 36, .load 28 (.tmp 4), _, _, _, _⟩ :: _) _ _; refine wpList_load_guardL (op := ⟨some 36, .load 28 (.tmp 4), _, _, _, some (3, false)⟩) (by first | rfl | go_simp) 28 (.tmp 4) rfl (g4) (0) rfl (mc y1) _ (V46.out.range) Try.underlying28 rfl (m_size _) ?_)
        | (go_at_call 19; refine SM.out.mono ?_; rintro e w7 ⟨rfl, hb⟩; have B7 := Lib.hid hb; clear hb)
        | (go_at_call 14; refine (SB.out _ (B6.out.trans (B7.out.mono B6.out.size))).mono ?_; rintro e w8 ⟨rfl, m8, rfl⟩))
        obtain ⟨wa, hwa⟩ : ∃ W, W = w7.drewN m8 := ⟨_, rfl⟩
        rw [← hwa]
        have BA := Lib.hid (show Below W6.heap.size W6 wa by rw [hwa]; exact below_drewN B7.out m8)
        have VA := Lib.hid (V7.out.grow BA.out)
        have JA := Lib.hid (J5.out.same (fun j hj => ((b56.out.trans (BA.out.mono b56.out.size)).block j (by rw [HG7.out]; exact hj))))
        have BAW := Lib.hid (B6.out.trans (BA.out.mono B6.out.size))
        clear hwa EF SM SB V46 OK6 V7 B7 BA
        go_wp2
        go_loopw [9] (fun i wq => ∃ j : Nat, j ≤ y2.n ∧ i = .int .i64 j ∧ Hid (JR s0 g7 be y2 wq) ∧ Hid (VBox wq g7 12 (mc y2)) ∧ Hid (Below W4.heap.size W4 wq)) (fun i _ => y2.n - (intOf i).toNat)
        case atStart => exact ⟨0, by omega, rfl, JA, VA, BAW⟩
        case round =>
          obtain ⟨j, hj, rfl, J, V, BW⟩ := hrel
          have x3 := V.out.at1 (i := 3) (v := .slice y2.A y2.n y2.c) rfl
          by_cases hlj : j < y2.n
          · have hji : (j : Int) < (y2.n : Int) := by omega
            obtain ⟨bb, off, u, hA, h1, h2, h3, u0, u1, hcc, hff, hth⟩ := JR.at_ J.out.body hlj
            rw [hA] at x3
            have HX : Hid (∀ z : Int, 0 ≤ z → z < 256 → JR s0 g7 be y2 (wr.setCell ⟨bb, off + j, none⟩ (.int .u8 z)) ∧ VBox (wr.setCell ⟨bb, off + j, none⟩ (.int .u8 z)) g7 12 (mc y2) ∧ Below W4.heap.size W4 (wr.setCell ⟨bb, off + j, none⟩ (.int .u8 z))) := Lib.hid (fun z z0 z1 => ⟨J.out.byte hth h3 z0 z1, V.out.same (Below.heap_setCell _ _ _ _ (by show g7 ≠ bb; omega)), BW.out.setCell (p := ⟨bb, off + j, none⟩) (Nat.le_trans HS0.out h1) _⟩)
            clear h1 h2 h3 hth hA
            go_wp2
            go_roundw
            case rel => exact ⟨j + 1, by omega, by go_num, Lib.hid (HX.out _ (by omega) (by omega)).1, Lib.hid (HX.out _ (by omega) (by omega)).2.1, Lib.hid (HX.out _ (by omega) (by omega)).2.2⟩
            case measure => simp [intOf]; omega
          · have hji : ¬ (j : Int) < (y2.n : Int) := by omega
            clear hj hlj JA VA BAW
            go_upto_region 15 with fail
            clear x3
            go_wp2
            go_loopw [10] (fun i wq => ∃ t : Nat, t ≤ y2.en ∧ i = .int .i64 t ∧ Hid (JR s0 g7 be y2 wq) ∧ Hid (VBox wq g7 12 (mc y2)) ∧ Hid (Below W4.heap.size W4 wq)) (fun i _ => y2.en - (intOf i).toNat)
            case atStart => exact ⟨0, by omega, rfl, J, V, BW⟩
            case round =>
              clear J V BW
              obtain ⟨t, ht, rfl, J, V, BW⟩ := hrel
              have x6 := V.out.at1 (i := 6) (v := .slice y2.EA y2.en y2.ecp) rfl
              by_cases hlt2 : t < y2.en
              · have hti : (t : Int) < (y2.en : Int) := by omega
                obtain ⟨y, hy⟩ : ∃ y, y2.es[t]? = some y := ⟨y2.es[t]'(by rw [HEN.out]; exact hlt2), List.getElem?_eq_getElem _⟩
                have HY := Lib.hid hy
                have hmy := List.mem_of_getElem? hy
                have n3 := HN3.out y hmy
                clear hy
                go_upto_region 18 with fail
                clear x6
                go_wp2
                go_loopw [11] (fun i wq => ∃ p : Nat, p ≤ y.n ∧ i = .int .i64 p ∧ Hid (JR s0 g7 be y2 wq) ∧ Hid (VBox wq g7 12 (mc y2)) ∧ Hid (Below W4.heap.size W4 wq)) (fun i _ => y.n - (intOf i).toNat)
                case atStart => exact ⟨0, by omega, rfl, J, V, BW⟩
                case round =>
                  clear J V BW
                  obtain ⟨p, hp, rfl, J, V, BW⟩ := hrel
                  obtain ⟨hEA, hb1, hb2, hth5, htc⟩ := J.out.tab (by omega)
                  have x6 := V.out.at1 (i := 6) (v := .slice y2.EA y2.en y2.ecp) rfl
                  rw [hEA] at x6
                  have c4 := htc t y HY.out
                  by_cases hlp : p < y.n
                  · have hpi : (p : Int) < (y.n : Int) := by omega
                    obtain ⟨bb, off, u, hA, h1, h2, h3, u0, u1, hcc, hff, hth⟩ := JR.at_ (J.out.bo y hmy) hlp
                    rw [hA] at c4
                    have HX : Hid (∀ z : Int, 0 ≤ z → z < 256 → JR s0 g7 be y2 (wr.setCell ⟨bb, off + p, none⟩ (.int .u8 z)) ∧ VBox (wr.setCell ⟨bb, off + p, none⟩ (.int .u8 z)) g7 12 (mc y2) ∧ Below W4.heap.size W4 (wr.setCell ⟨bb, off + p, none⟩ (.int .u8 z))) := Lib.hid (fun z z0 z1 => ⟨J.out.byte hth h3 z0 z1, V.out.same (Below.heap_setCell _ _ _ _ (by show g7 ≠ bb; omega)), BW.out.setCell (p := ⟨bb, off + p, none⟩) (Nat.le_trans HS0.out h1) _⟩)
                    clear h1 h2 h3 hth hA hth5 htc hEA hb1 hb2
                    go_wp2
                    go_roundw
                    case rel => exact ⟨p + 1, by omega, by go_num, Lib.hid (HX.out _ (by omega) (by omega)).1, Lib.hid (HX.out _ (by omega) (by omega)).2.1, Lib.hid (HX.out _ (by omega) (by omega)).2.2⟩
                    case measure => simp [intOf]; omega
                  · have hpi : ¬ (p : Int) < (y.n : Int) := by omega
                    have h51 := hth5 (t * 5 + 1) (by omega)
                    rw [Nat.zero_add] at h51
                    obtain ⟨v1, hv1⟩ : ∃ v, wr.cell? ⟨be, t * 5 + 1, none⟩ = some v := Option.isSome_iff_exists.1 (by first | exact h51.1 | simpa using h51.1)
                    have hf1 := h51.2
                    have HX : Hid (JR s0 g7 be y2 (wr.setCell ⟨be, t * 5 + 1, none⟩ (.int .i64 (-7))) ∧ VBox (wr.setCell ⟨be, t * 5 + 1, none⟩ (.int .i64 (-7))) g7 12 (mc y2) ∧ Below W4.heap.size W4 (wr.setCell ⟨be, t * 5 + 1, none⟩ (.int .i64 (-7)))) := Lib.hid ⟨J.out.stamp _, V.out.same (Below.heap_setCell _ _ _ _ (by show g7 ≠ be; omega)), BW.out.setCell (p := ⟨be, t * 5 + 1, none⟩) (Nat.le_trans HS0.out hb1) _⟩
                    clear hp hlp hth5 htc hEA hb1 hb2 h51
                    go_wp2
                    go_roundw
                    case rel => exact ⟨t + 1, by omega, by go_num, Lib.hid HX.out.1, Lib.hid HX.out.2.1, Lib.hid HX.out.2.2⟩
                    case measure => simp [intOf]; omega
              · have hti : ¬ (t : Int) < (y2.en : Int) := by omega
                clear ht hlt2
                go_wp2
                go_roundw
                case rel => exact ⟨k + 1, by omega, by go_num, BW⟩
                case measure => simp [intOf]; omega
      · have hki : ¬ (k : Int) < 2 := by omega
        go_wp2
        go_ret
        exact ⟨rfl, B4w.out.trans (BR.out.mono B4w.out.size)⟩
end Go.Proofs.Ytfihiandifnkpaa
