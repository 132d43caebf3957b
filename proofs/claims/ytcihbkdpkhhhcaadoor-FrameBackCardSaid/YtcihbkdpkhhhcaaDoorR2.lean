/- The document's own answer for sha: a block's schedule. -/
import Derived.Test.YtcihbkdpkhhhcaaDoorR1
import Derived.Test.YtcihbkdpkhhhcaaDoorBlocks
namespace Go.Proofs.YtcihbkdpkhhhcaaDoor
open Go.ChangeShapes Go.WideShapes Go.ChangeAt Go.RowKit
set_option linter.unusedVariables false
open Plain Sha
theorem u32_row' : (Tryd.prog.info? 53).map (fun i => (i.zero, i.size, i.bytes)) = some (some (.int .u32 0), 1, 4) := by kernel_rfl
/-- What a call hands back that makes a row of numbers. -/
def Made32 (w : World) (l : List Nat) (e : Ending) (w' : World) : Prop :=
  ∃ g c, e = .returned (.slice (some ⟨g, 0, none⟩) l.length c) ∧ (∀ j, j < l.length → w'.cell? ⟨g, j, none⟩ = some (.int .u32 ((l.getD j 0 : Nat) : Int))) ∧ w.heap.size ≤ g ∧ g < w'.heap.size ∧ Below w.heap.size w w'
theorem own32_cells {w : World} {base n : Nat} {v : Value} {l : List Nat} (h : w.ownsRow base 53 1 v n (u32s l)) (hn : 0 < n) :
    ∃ g cap, v = .slice (some ⟨g, 0, none⟩) n cap ∧ base ≤ g ∧ g < w.heap.size ∧ ∀ j, j < l.length → w.cell? ⟨g, j, none⟩ = some (.int .u32 ((l.getD j 0 : Nat) : Int)) := by
  obtain ⟨g, cap, hv, hb, hlt⟩ := h.form hn
  refine ⟨g, cap, hv, hb, hlt, fun j hj => ?_⟩
  have := h.cells (g := g) (by rw [hv]; rfl) j _ (u32s_at l j hj)
  rw [Go.WideShapes.add_plain] at this
  simpa using this
theorem takeN_snoc (l : List Nat) (k : Nat) (h : k < l.length) : l.take (k + 1) = l.take k ++ [l.getD k 0] := by
  rw [List.take_succ_eq_append_getElem h]
  simp [List.getD_eq_getElem?_getD, List.getElem?_eq_getElem h]
theorem u32s_app (a b : List Nat) : u32s (a ++ b) = u32s a ++ u32s b := by simp [u32s]
theorem ors1 (x : Nat) (h : x < 4294967296) : bits .xor .u32 (bits .xor .u32 (bits .or .u32 ((x : Int) / 131072) ((x : Int) * 32768 % 4294967296)) (bits .or .u32 ((x : Int) / 524288) ((x : Int) * 8192 % 4294967296))) ((x : Int) / 1024) = ((sg1 x : Nat) : Int) := by
  rw [orN x 17 h (by omega) 131072 32768 rfl rfl, orN x 19 h (by omega) 524288 8192 rfl rfl, sg1_bits x h]
theorem ors0 (x : Nat) (h : x < 4294967296) : bits .xor .u32 (bits .xor .u32 (bits .or .u32 ((x : Int) / 128) ((x : Int) * 33554432 % 4294967296)) (bits .or .u32 ((x : Int) / 262144) ((x : Int) * 16384 % 4294967296))) ((x : Int) / 8) = ((sg0 x : Nat) : Int) := by
  rw [orN x 7 h (by omega) 128 33554432 rfl rfl, orN x 18 h (by omega) 262144 16384 rfl rfl, sg0_bits x h]
theorem schedTo_snoc (ws : List Nat) (hl : ws.length = 16) (k : Nat) : schedTo ws (k + 1) = schedTo ws k ++ [wAt ws (16 + k)] := by
  apply list_ext_N
  · rw [List.length_append, schedTo_len ws hl, schedTo_len ws hl]; rfl
  · intro j hj
    rw [schedTo_len ws hl] at hj
    rw [sched_at ws hl (k + 1) j hj]
    by_cases h : j < 16 + k
    · rw [getD_app_lt (by rw [schedTo_len ws hl]; exact h), sched_at ws hl k j h]
    · rw [getD_app_at (by rw [schedTo_len ws hl]; omega), show j = 16 + k by omega]
set_option maxRecDepth 100000 in
set_option maxHeartbeats 4000000 in
theorem schedule_any {w : World} {B : Nat} {A : Option Addr} (c : Nat) {zs : List Int} (h : Bs w B A 64 zs) (hB : B ≤ w.heap.size) :
    Calls Tryd.prog 34 #[.slice A 64 c] w (Made32 w (schedTo (wordsAt zs 0) 48)) := by
  obtain ⟨ws, hws⟩ : ∃ ws, wordsAt zs 0 = ws := ⟨_, rfl⟩
  have hwl : Hid (ws.length = 16) := Lib.hid (by rw [← hws]; exact wordsAt_len _ _)
  have hww : Hid (AllW ws) := Lib.hid (by rw [← hws]; exact wordsAt_lt zs h.isBytes 0)
  have HLD : Hid (∀ t : Nat, t < 16 → loadZ zs (4 * (t : Int)) 4 = ((ws.getD t 0 : Nat) : Int)) := Lib.hid (fun t ht => by
    have := load_at zs h.isBytes 0 t (by rw [h.len]; omega) ht
    rw [← hws, ← this]
    congr 1; omega)
  obtain ⟨i0, hi0, hz0, hz1, hz2⟩ := info_parts u32_row'
  have I0 := Lib.hid hi0
  have I1 := Lib.hid hz0
  have I2 := Lib.hid hz1
  have I3 := Lib.hid hz2
  have HZ := Lib.hid h
  have HWS := Lib.hid hws
  clear hi0 hz0 hz1 hz2 hws h
  rw [HWS.out]
  go_enter Tryd.func34, Tryd.ntmps34
  go_wp2
  go_loopw [3, 4] (fun v i wr => ∃ k : Nat, k ≤ 16 ∧ i = .int .i64 k ∧ wr.ownsRow w.heap.size 53 1 v k (u32s (ws.take k)) ∧ Below w.heap.size w wr) (fun _ i _ => 16 - (intOf i).toNat)
  case atStart => exact ⟨0, by omega, rfl, World.ownsRow_nil _ _ _ _, Below.refl _ _⟩
  case round =>
    obtain ⟨k, hk, rfl, hown, hbel⟩ := hrel
    have sr := hbel.size
    by_cases hlt : k < 16
    · obtain ⟨x, hx⟩ : ∃ x, ws.getD k 0 = x := ⟨_, rfl⟩
      have hxl : x < 4294967296 := by rw [← hx]; exact hww.out k
      have HT : Hid (u32s (ws.take (k + 1)) = u32s (ws.take k) ++ [.int .u32 (x : Int)]) := Lib.hid (by rw [takeN_snoc ws k (by rw [hwl.out]; exact hlt), u32s_app, hx]; rfl)
      have HLk : Hid (loadZ zs (4 * (k : Int)) 4 = (x : Int)) := Lib.hid (by rw [HLD.out k hlt, hx])
      have OW := Lib.hid hown
      have BB := Lib.hid hbel
      have HXL := Lib.hid hxl
      clear hx hown hbel hxl
      go_wp2_with fail
      have hxl := HXL.out
      have hx0 : (0 : Int) ≤ (x : Int) := by omega
      have hx1 : (x : Int) < 4294967296 := by omega
      refine (refloadI_any c (HZ.out.belowM BB.out hB) (by simp [maxLen]) (4 * (k : Int)) (by omega) 4 (by omega) (by omega)).mono ?_
      rw [show (4 : Int).toNat = 4 from rfl, HLk.out]
      rintro e w1 ⟨rfl, hq⟩
      have OW1 : Hid (w1.ownsRow w.heap.size 53 1 u3 k (u32s (ws.take k))) := Lib.hid (by obtain ⟨m', rfl⟩ := hq; exact OW.out)
      have B1 : Hid (Below w.heap.size w w1) := Lib.hid (by obtain ⟨m', rfl⟩ := hq; exact below_drewN BB.out m')
      have s1 := B1.out.size
      clear hq OW BB
      go_wp2_with (at_builtin; refine wpList_append_own _ rfl (.tmp 23) (.tmp 26) 59 rfl w.heap.size 53 i0 _ 1 4 Tryd.underlying59 I0.out I1.out I2.out I3.out rfl (by decide) u3 k (u32s (ws.take k)) rfl (OW1.out.alloc _) ⟨w1.heap.size, 0, none⟩ 1 1 [.int .u32 (x : Int)] rfl rfl (World.news_of_block (cs := #[.int .u32 (x : Int)]) (t := 53) (fr := (0, 0)) (heap_alloc_new w1 _)) (by simp [Value.oneCell']) (by unfold maxLen; omega) (by omega) (by simp; omega) ?_; intro v2 w2 ho2 hg2 _)
      have b2 : Below w.heap.size w w2 := (B1.out.alloc s1 _).grown hg2 (by simp; omega) (fun q hq => (OW1.out.lt q hq).1)
      have ho2' : w2.ownsRow w.heap.size 53 1 v2 (k + 1) (u32s (ws.take (k + 1))) := by rw [HT.out]; exact ho2
      clear ho2 hg2
      go_roundw
      case rel => exact ⟨k + 1, by omega, by go_num, ho2', b2⟩
      case measure => simp [intOf]; omega
    · have hk16 : k = 16 := by omega
      have OW0 : wr.ownsRow w.heap.size 53 1 u3 16 (u32s (schedTo ws 0)) := by
        rw [hk16, List.take_of_length_le (by rw [hwl.out]; exact Nat.le_refl _)] at hown
        exact hown
      have hge : ¬ (k : Int) < 16 := by omega
      have OWH := Lib.hid OW0
      have BBH := Lib.hid hbel
      clear hk16 hown OW0 hbel
      go_wp2
      go_loopw [3, 7] (fun v i wr => ∃ t k : Nat, Hid (t = 16 + k) ∧ 16 ≤ t ∧ t ≤ 64 ∧ i = .int .i64 t ∧ Hid (wr.ownsRow w.heap.size 53 1 v t (u32s (schedTo ws k))) ∧ Hid (Below w.heap.size w wr)) (fun _ i _ => 64 - (intOf i).toNat)
      case atStart => exact ⟨16, 0, Lib.hid rfl, by omega, by omega, rfl, OWH, BBH⟩
      case round =>
        obtain ⟨t, k, HT, ht16, ht64, rfl, HOW, HBB⟩ := hrel
        have sr2 := HBB.out.size
        obtain ⟨g, cap, hv, hg, hglt, hcells⟩ := own32_cells HOW.out (by omega)
        subst hv
        have HC := Lib.hid hcells
        have LS : Hid ((schedTo ws k).length = t) := Lib.hid (by rw [schedTo_len ws hwl.out k, HT.out])
        clear hcells
        by_cases hlt2 : t < 64
        · have hk := HT.out
          have E15 : Hid ((schedTo ws k).getD (k + 1) 0 = wAt ws (k + 1)) := Lib.hid (sched_at ws hwl.out k (k + 1) (by omega))
          have E2 : Hid ((schedTo ws k).getD (k + 14) 0 = wAt ws (k + 14)) := Lib.hid (sched_at ws hwl.out k (k + 14) (by omega))
          have E7 : Hid ((schedTo ws k).getD (k + 9) 0 = wAt ws (k + 9)) := Lib.hid (sched_at ws hwl.out k (k + 9) (by omega))
          have E16 : Hid ((schedTo ws k).getD k 0 = wAt ws k) := Lib.hid (sched_at ws hwl.out k k (by omega))
          have c15 := HC.out (k + 1) (by rw [LS.out]; omega)
          have c2 := HC.out (k + 14) (by rw [LS.out]; omega)
          have c7 := HC.out (k + 9) (by rw [LS.out]; omega)
          have c16 := HC.out k (by rw [LS.out]; omega)
          rw [E15.out] at c15
          rw [E2.out] at c2
          rw [E7.out] at c7
          rw [E16.out] at c16
          have b15 := wAt_lt ws hwl.out hww.out (k + 1)
          have b2 := wAt_lt ws hwl.out hww.out (k + 14)
          have b7 := wAt_lt ws hwl.out hww.out (k + 9)
          have b16 := wAt_lt ws hwl.out hww.out k
          have HN0 : Hid (wAt ws t = wNext (wAt ws (k + 14)) (wAt ws (k + 9)) (wAt ws (k + 1)) (wAt ws k)) := Lib.hid (by rw [HT.out]; exact wAt_hi ws hwl.out k)
          generalize wAt ws (k + 1) = x15 at *
          generalize wAt ws (k + 14) = x2 at *
          generalize wAt ws (k + 9) = x7 at *
          generalize wAt ws k = x16 at *
          have hltI : (t : Int) < 64 := by omega
          have i1 : (0 : Int) ≤ (t : Int) - 15 := by omega
          have i2 : (t : Int) - 15 < (t : Int) := by omega
          have i3 : (0 : Int) ≤ (t : Int) - 2 := by omega
          have i4 : (t : Int) - 2 < (t : Int) := by omega
          have i5 : (0 : Int) ≤ (t : Int) - 7 := by omega
          have i6 : (t : Int) - 7 < (t : Int) := by omega
          have i7 : (0 : Int) ≤ (t : Int) - 16 := by omega
          have i8 : (t : Int) - 16 < (t : Int) := by omega
          have n1 : ((t : Int) - 15).toNat = k + 1 := by omega
          have n2 : ((t : Int) - 2).toNat = k + 14 := by omega
          have n3 : ((t : Int) - 7).toNat = k + 9 := by omega
          have n4 : ((t : Int) - 16).toNat = k := by omega
          have s0 := ors0 x15 b15
          have s1 := ors1 x2 b2
          obtain ⟨x, hx⟩ : ∃ x, wNext x2 x7 x15 x16 = x := ⟨_, rfl⟩
          have HXlt : Hid (x < 4294967296) := Lib.hid (by rw [← hx]; exact wNext_lt _ _ _ _)
          have HVal : Hid ((IntKind.u32.wrap (IntKind.u32.wrap (IntKind.u32.wrap (((sg1 x2 : Nat) : Int) + (x7 : Int)) + ((sg0 x15 : Nat) : Int)) + (x16 : Int))) = (x : Int)) := Lib.hid (by rw [← hx]; unfold wNext; rw [IntKind.wrap_u32, IntKind.wrap_u32, IntKind.wrap_u32]; omega)
          have HS : Hid (u32s (schedTo ws (k + 1)) = u32s (schedTo ws k) ++ [.int .u32 (x : Int)]) := Lib.hid (by rw [schedTo_snoc ws hwl.out k, ← HT.out, HN0.out, hx, u32s_app]; rfl)
          clear hk hx b7 b16 E15 E2 E7 E16
          go_wp2
          go_quiet (fail)
          obtain ⟨W1, hW1⟩ : ∃ W1, wr.drewN nq = W1 := ⟨_, rfl⟩
          have d7 : W1.cell? ⟨g, k + 9, none⟩ = some (.int .u32 (x7 : Int)) := by rw [← hW1]; exact c7
          have d16 : W1.cell? ⟨g, k, none⟩ = some (.int .u32 (x16 : Int)) := by rw [← hW1]; exact c16
          have OW1 : Hid (W1.ownsRow w.heap.size 53 1 (.slice (some ⟨g, 0, none⟩) t cap) t (u32s (schedTo ws k))) := Lib.hid (by rw [← hW1]; exact HOW.out)
          have B1 : Hid (Below w.heap.size w W1) := Lib.hid (by rw [← hW1]; exact below_drewN HBB.out nq)
          have s1' := B1.out.size
          have hg1 : g < W1.heap.size := by rw [← hW1]; exact hglt
          rw [hW1]
          have v7 : IntKind.i64.wrap ((t : Int) - 7) = (t : Int) - 7 := by rw [IntKind.wrap_i64]; omega
          have v16 : IntKind.i64.wrap ((t : Int) - 16) = (t : Int) - 16 := by rw [IntKind.wrap_i64]; omega
          have j7 : (7 : Int) ≤ (t : Int) := by omega
          have j16 : (16 : Int) ≤ (t : Int) := by omega
          clear hW1 c15 c2 c7 c16 HOW HBB HC
          go_wp2
          go_region_law ((refine step_append_lies _ (by rfl) _ _ _ (by rfl) w.heap.size 53 i0 _ 1 4 Tryd.underlying59 I0.out I1.out I2.out I3.out rfl (by omega) (.slice (some ⟨g, 0, none⟩) t cap) t _ (by rfl) ((OW1.out.alloc _).drew) ⟨W1.heap.size, 0, none⟩ 1 1 [.int .u32 (IntKind.u32.wrap (IntKind.u32.wrap (IntKind.u32.wrap (((sg1 x2 : Nat) : Int) + (x7 : Int)) + ((sg0 x15 : Nat) : Int)) + (x16 : Int)))] (by rfl) (by rfl) (World.news_of_block (cs := #[.int .u32 (IntKind.u32.wrap (IntKind.u32.wrap (IntKind.u32.wrap (((sg1 x2 : Nat) : Int) + (x7 : Int)) + ((sg0 x15 : Nat) : Int)) + (x16 : Int)))]) (t := 53) (fr := (0, 0)) (heap_alloc_new W1 _)) (by simp [Value.oneCell']) (by omega) (by unfold maxLen; omega) (by omega) (by simp; omega) (W1.heap.size + 1) (by simp) ?_; intro gg cap2 w2 hown2 hgrow hat hlt1))
          all_goals
            have b2 := Lib.hid (((B1.out.alloc s1' _).drew).grown hgrow (by simp; omega) (fun q hq => (OW1.out.lt q hq).1))
            have HOW2 : Hid (w2.ownsRow w.heap.size 53 1 (.slice (some ⟨gg, 0, none⟩) (t + 1) cap2) (t + 1) (u32s (schedTo ws (k + 1)))) := Lib.hid (by rw [HS.out, ← HVal.out]; exact hown2)
            clear hown2 hgrow hat s0 s1 d7 d16 v7 v16
            go_wp2
            go_roundw
            case rel => exact ⟨t + 1, k + 1, Lib.hid (by rw [HT.out]; omega), by omega, by omega, by go_num, HOW2, b2⟩
            case measure => simp [intOf]; omega
        · have ht : t = 64 := by omega
          have hM : Made32 w (schedTo ws 48) (.returned (.slice (some ⟨g, 0, none⟩) 64 cap)) wr := by
            have hk48 : k = 48 := by have := HT.out; omega
            subst hk48
            have e : (schedTo ws 48).length = 64 := schedTo_len ws hwl.out 48
            rw [← e]
            exact ⟨g, cap, rfl, HC.out, hg, hglt, HBB.out⟩
          have HM := Lib.hid hM
          clear hM HOW HC LS HT
          subst ht
          go_wp2
          go_ret
          exact HM.out
end Go.Proofs.YtcihbkdpkhhhcaaDoor
