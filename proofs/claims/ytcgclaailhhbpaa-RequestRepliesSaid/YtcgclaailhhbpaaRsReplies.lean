/- The statement RequestReplies: the walk. -/
import Derived.Test.YtcgclaailhhbpaaRsG
import Derived.Test.YtcgclaailhhbpaaRsB
namespace Go.Proofs.Ytcgclaailhhbpaa
open Go.ChangeShapes Go.WideShapes Go.ChangeAt Go.RowKit
set_option linter.unusedVariables false
set_option maxRecDepth 100000
set_option linter.unusedSimpArgs false
open Plain Sha Au Rp Rq
theorem svs_setT (l : List ByteArray) (j : Nat) (z : ByteArray) : (svs l).set j (.string z) = svs (l.set j z) := by unfold svs; rw [List.map_set]
/-- Own texts, contents open: one is stored into. -/
theorem own_spoil {w : World} {base n c j : Nat} {A : Option Addr} {l : List ByteArray} (h : w.ownsRow base 9 1 (.slice A n c) n (svs l)) (hj : j < n) : ∃ b z, A = some ⟨b, 0, none⟩ ∧ base ≤ b ∧ w.cell? ⟨b, j, none⟩ = some (.string z) ∧ w.frozen? ⟨b, j, none⟩ = false ∧ Hid (∀ y, (w.setCell ⟨b, j, none⟩ (.string y)).ownsRow base 9 1 (.slice A n c) n (svs (l.set j y))) := by
  obtain ⟨b, cap, hv, hb, _⟩ := h.form (by omega)
  have hA : A = some ⟨b, 0, none⟩ := by injection hv
  subst hA
  have hl : l.length = n := by have := h.1; rw [svs_len] at this; omega
  have hc := h.cellAt j (by omega)
  have hz : (svs l)[j]? = some (.string l[j]) := by
    unfold svs
    rw [List.getElem?_map, List.getElem?_eq_getElem (by omega)]
    rfl
  refine ⟨b, l[j], rfl, hb, by rw [hc, hz], h.frozenAt _, Lib.hid (fun y => ?_)⟩
  have := (h.stored j (.string y)).1
  rw [svs_setT] at this
  exact this
def SpSt (w5 : World) (s0 gr tl tc : Nat) (tA : Option Addr) (i : Value) (wq : World) : Prop := ∃ (j : Nat) (l : List ByteArray), j ≤ tl ∧ i = .int .i64 j ∧ Hid (wq.ownsRow s0 9 1 (.slice tA tl tc) tl (svs l)) ∧ Hid (Below w5.heap.size w5 wq) ∧ Hid (wq.cell? ⟨gr, 2, none⟩ = some (.slice tA tl tc))
set_option maxHeartbeats 8000000 in
theorem rqreplies_in (A : Option Addr) (n c : Nat) (bs : List Int) (w : World) (h : Bs w w.heap.size A n bs) (hc : n ≤ c) (hn : n ≤ maxLen) :
    Calls Try.prog 6 #[.slice A n c] w (fun e w' => e = .returned (.bool true) ∧ Below w.heap.size w w') := by
  by_cases hbig : 3000 < n
  · have hi : (3000 : Int) < (n : Int) := by omega
    clear h hbig
    go_enter Try.func6, Try.ntmps6
    go_wp2
    go_ret
    exact ⟨rfl, Below.refl _ _⟩
  · have hi : ¬ (3000 : Int) < (n : Int) := by omega
    have hs : n ≤ 3000 := by omega
    have HZ := Lib.hid h
    obtain ⟨z, er, hz⟩ : ∃ z er, parseR bs = (z, er) := ⟨_, _, rfl⟩
    have HZE := Lib.hid hz
    have hee : (er != er) = false := by simp
    have RP := Lib.hid (rparser_any h (Nat.le_refl _) hc (by omega))
    rw [HZE.out] at RP
    clear h hbig hz
    have zk := zRk
    have zs := zR_size
    have zn := zR_ne
    go_enter Try.func6, Try.ntmps6
    go_upto_region 4 with (first
          | (go_at_call 25; refine RP.out.mono ?_; rintro e w4 ⟨xw, rfl, zw, kw, ow, bw⟩; have ZW := Lib.hid zw; have K4 := Lib.hid kw; have B4 := Lib.hid bw; have vn := Lib.hid (vbox_new w4 (rc r0) 46 w4.heap.size 75 rfl (rc_len _) (by omega)); have THW := Lib.hid (vthere vn.out (us := rc xw) (rc_len _)); clear zw kw ow bw)
          | (show wpList _ _ _ (⟨none, .store 46 (.tmp 3) (.tmp 15), _, _, _, _⟩ :: _) _ _; refine wpList_store_as (op := ⟨none, .store 46 (.tmp 3) (.tmp 15), _, _, _, _⟩) rfl 46 (.tmp 3) (.tmp 15) rfl (w4.heap.size) 0 (rc xw).toArray rfl rfl (THW.out) (r_sizeA xw) (r_oneA xw) ?_; intro w5 hw5))
    obtain ⟨V5m, b5m⟩ := vstored vn.out (rc_len xw) hw5 (Nat.le_refl _) (below_one w4 _)
    have V5 := Lib.hid V5m
    have B5 := Lib.hid b5m
    obtain ⟨gw, hgw⟩ : ∃ g, w4.heap.size = g := ⟨_, rfl⟩
    rw [hgw] at V5
    rw [hgw]
    have B05 := Lib.hid (B4.out.trans (B5.out.mono B4.out.size))
    have K5 := Lib.hid (K4.out.grow B5.out (Nat.le_refl _))
    clear vn THW hw5 V5m b5m hgw RP K4
    have s5 := B05.out.size
    go_wp2
    go_loopw [5] (fun i wr => ∃ k : Nat, k ≤ 2 ∧ i = .int .i64 k ∧ Hid (Below w5.heap.size w5 wr)) (fun i _ => 2 - (intOf i).toNat)
    case atStart => exact ⟨0, by omega, rfl, Lib.hid (Below.refl _ _)⟩
    case round =>
      obtain ⟨k, hk, rfl, HB⟩ := hrel
      have BWr := Lib.hid (B05.out.trans (HB.out.mono s5))
      by_cases hlt : k < 2
      · have hki : (k : Int) < 2 := by omega
        have sr := HB.out.size
        have PP := Lib.hid (parser_any (w := wr) (c := c) (HZ.out.below BWr.out) BWr.out.size hc (by omega))
        rw [HZE.out] at PP
        go_upto_region 8 with (first
              | (go_at_call 26; refine PP.out.mono ?_; rintro e w8 ⟨xr, rfl, zw, kw, ow, bw⟩; have ZR := Lib.hid zw; have K8 := Lib.hid kw; have O8 := Lib.hid ow; have B8 := Lib.hid bw; have vn := Lib.hid (vbox_new w8 (rc r0) 46 w8.heap.size 75 rfl (rc_len _) (by omega)); have THR := Lib.hid (vthere vn.out (us := rc xr) (rc_len _)); clear zw kw ow bw)
              | (show wpList _ _ _ (⟨none, .store 46 (.tmp 6) (.tmp 24), _, _, _, _⟩ :: _) _ _; refine wpList_store_as (op := ⟨none, .store 46 (.tmp 6) (.tmp 24), _, _, _, _⟩) rfl 46 (.tmp 6) (.tmp 24) rfl (w8.heap.size) 0 (rc xr).toArray rfl rfl (THR.out) (r_sizeA xr) (r_oneA xr) ?_; intro w9 hw9))
        obtain ⟨V9m, b9m⟩ := vstored vn.out (rc_len xr) hw9 (Nat.le_refl _) (below_one w8 _)
        have V9 := Lib.hid V9m
        have B9 := Lib.hid b9m
        obtain ⟨gr, hgr⟩ : ∃ g, w8.heap.size = g := ⟨_, rfl⟩
        have GR8 : Hid (w8.heap.size ≤ gr) := Lib.hid (Nat.le_of_eq hgr)
        rw [hgr] at V9
        rw [hgr]
        have K9 := Lib.hid (K8.out.grow B9.out (Nat.le_refl _))
        have O9 : Hid (w9.ownsRow wr.heap.size 9 1 (.slice xr.A xr.kn xr.kc) xr.kn (svs xr.ks)) := Lib.hid (own_below O8.out B9.out (Nat.le_refl _))
        have BR9 := Lib.hid (B8.out.trans (B9.out.mono B8.out.size))
        have B59 := Lib.hid (HB.out.trans (BR9.out.mono sr))
        have VW9 := Lib.hid (V5.out.grow B59.out)
        have KW9 := Lib.hid (K5.out.grow B59.out (Nat.le_refl _))
        have SM := Lib.hid (rsrep_any (w := w9) true K9.out KW9.out (Nat.le_refl _) (Nat.le_refl _) (by rw [ZR.out, ZW.out]; exact repB_refl _))
        have NE : Hid (∀ a, xr.A = some a → a.block ≠ gr) := Lib.hid (fun a ha => by
          have h1 := (O8.out.lt a.block (by rw [ha]; rfl)).2
          have h2 := GR8.out
          omega)
        clear vn THR hw9 V9m b9m hgr PP K8 O8
        go_upto_region 10 with (first
              | (show wpList _ _ _ (⟨some 30, .load 46 (.tmp 6), _, _, _, some (3, false)⟩ :: _) _ _; refine wpList_load_guard (op := ⟨some 30, .load 46 (.tmp 6), _, _, _, some (3, false)⟩) (by rfl) 46 (.tmp 6) rfl (gr) 0 rfl (rc xr) _ (V9.out.range) Try.underlying46 rfl (r_size xr) ?_)
              | (show wpList _ _ _ (⟨some 31, .load 46 (.tmp 3), _, _, _, some (3, false)⟩ :: _) _ _; refine wpList_load_guard (op := ⟨some 31, .load 46 (.tmp 3), _, _, _, some (3, false)⟩) (by rfl) 46 (.tmp 3) rfl (gw) 0 rfl (rc xw) _ (VW9.out.range) Try.underlying46 rfl (r_size xw) ?_)
              | (go_at_call 27; refine SM.out.mono ?_; rintro e w10 ⟨rfl, hb⟩; have B10 := Lib.hid hb; clear hb))
        have BRB := Lib.hid (BR9.out.trans (B10.out.mono BR9.out.size))
        have OB := Lib.hid (own_below O9.out B10.out (Nat.le_refl _))
        have cB : Hid (w10.cell? ⟨gr, 2, none⟩ = some (.slice xr.A xr.kn xr.kc)) := Lib.hid (by
          have := (rng_r (V9.out.grow B10.out).range).2.2.1
          simpa only [Nat.zero_add] using this)
        have W5R := Lib.hid (HB.out.trans (BRB.out.mono sr))
        obtain ⟨s0, hs0⟩ : ∃ s, wr.heap.size = s := ⟨_, rfl⟩
        rw [hs0] at OB
        have sr2 : Hid (w5.heap.size ≤ s0) := Lib.hid (by rw [← hs0]; exact sr)
        have hb9 : xr.kn ≤ 9223372036854775807 := by have := Nat.le_trans K9.out.kc K9.out.km; unfold maxLen at this; exact this
        clear hs0 sr SM VW9 KW9 K9 O9 B10 V9 BR9 BRB
        obtain ⟨tA, tl, tc, htk⟩ : ∃ a b c, xr.A = a ∧ xr.kn = b ∧ xr.kc = c := ⟨_, _, _, rfl, rfl, rfl⟩
        obtain ⟨h1, h2, h3⟩ := htk
        rw [h1, h2, h3] at OB cB
        rw [h2] at hb9
        rw [h1] at NE
        clear h1 h2 h3
        go_wp2
        go_loopw [8] (fun i wq => SpSt w5 s0 gr tl tc tA i wq) (fun i _ => tl - (intOf i).toNat)
        case atStart => exact ⟨0, _, by omega, rfl, OB, W5R, cB⟩
        case round =>
          obtain ⟨j, l, hj, rfl, OJ, BJ, CJ⟩ := hrel
          have cj := CJ.out
          by_cases hlj : j < tl
          · obtain ⟨gb, u, rfl, hg1, hcc, hff, HSS⟩ := own_spoil OJ.out hlj
            have hji : (j : Int) < (tl : Int) := by omega
            have HX : Hid (∀ y : ByteArray, Below w5.heap.size w5 (wr.setCell ⟨gb, j, none⟩ (.string y)) ∧ (wr.setCell ⟨gb, j, none⟩ (.string y)).cell? ⟨gr, 2, none⟩ = some (.slice (some ⟨gb, 0, none⟩) tl tc)) := Lib.hid (fun y => ⟨BJ.out.setCell (p := ⟨gb, j, none⟩) (Nat.le_trans sr2.out hg1) _, (World.cell?_setCell_other _ _ _ _ (fun e => by injection e with e1 _; exact NE.out _ rfl e1)).trans CJ.out⟩)
            clear hg1
            go_wp2
            go_roundw
            case rel => exact ⟨j + 1, _, by omega, by go_num, Lib.hid (HSS.out _), Lib.hid (HX.out _).1, Lib.hid (HX.out _).2⟩
            case measure => simp [intOf]; omega
          · have hji : ¬ (j : Int) < (tl : Int) := by omega
            clear hj hlj OB
            go_wp2
            go_roundw
            case rel => exact ⟨k + 1, by omega, by go_num, BJ⟩
            case measure => simp [intOf]; omega
      · have hki : ¬ (k : Int) < 2 := by omega
        go_wp2
        go_ret
        exact ⟨rfl, BWr.out⟩
end Go.Proofs.Ytcgclaailhhbpaa
