/- The law RevokedOrder. -/
import Derived.Test.YtmeafjehcckibaaRvH
namespace Go.Proofs.Ytmeafjehcckibaa
open Go.ChangeShapes Go.WideShapes Go.ChangeAt Go.RowKit
set_option linter.unusedVariables false
set_option linter.unusedSimpArgs false
open Plain
/-- The serial that is made of a number. -/
def serN (a : Int) : Int := 1 + (IntKind.u64.wrap a).tmod 1000
theorem serN_range (a : Int) : 1 ≤ serN a ∧ serN a ≤ 1000 := by
  unfold serN
  rw [IntKind.wrap_u64, Int.tmod_eq_emod_of_nonneg (by omega)]
  omega
theorem serN_ok (a : Int) : serB (serN a) = true := by
  have := serN_range a
  simp [serB]; omega
theorem serN_wraps (a : Int) : wrap64 (1 + wrap64 ((IntKind.u64.wrap a).tmod 1000)) = serN a := by
  have h := serN_range a
  unfold serN at h ⊢
  generalize (IntKind.u64.wrap a).tmod 1000 = r at *
  unfold wrap64
  omega
/-- Serials, one by one, to none. -/
def addsZ (l : List Int) : List Int := l.foldl (fun a x => mrg a [serN x]) []
theorem addsZ_snoc (l : List Int) (x : Int) : addsZ (l ++ [x]) = mrg (addsZ l) [serN x] := by simp [addsZ, List.foldl_append]
theorem addsZ_all (l : List Int) : riseB 0 (addsZ l) = true ∧ (addsZ l).length ≤ l.length ∧ ∀ y, y ∈ addsZ l ↔ ∃ x, x ∈ l ∧ serN x = y := by
  suffices H : ∀ (l a : List Int), riseB 0 a = true → riseB 0 (l.foldl (fun a x => mrg a [serN x]) a) = true ∧ (l.foldl (fun a x => mrg a [serN x]) a).length ≤ a.length + l.length ∧ ∀ y, y ∈ l.foldl (fun a x => mrg a [serN x]) a ↔ y ∈ a ∨ ∃ x, x ∈ l ∧ serN x = y by
    have := H l [] rfl
    simpa [addsZ] using this
  intro l
  induction l with
  | nil => intro a h; simpa using h
  | cons x l ih =>
    intro a h
    obtain ⟨i1, i2, i3⟩ := ih (mrg a [serN x]) (mrg_rise _ _ 0 h (rise_one (serN_ok x)))
    rw [List.foldl_cons]
    refine ⟨i1, ?_, fun y => ?_⟩
    · have := mrg_len a [serN x]
      simp only [List.length_cons, List.length_nil] at *
      omega
    · rw [i3 y, mrg_mem]
      constructor
      · rintro ((h | h) | ⟨z, hz, e⟩)
        · exact .inl h
        · rw [List.mem_singleton] at h; exact .inr ⟨x, by simp, h.symm⟩
        · exact .inr ⟨z, by simp [hz], e⟩
      · rintro (h | ⟨z, hz, e⟩)
        · exact .inl (.inl h)
        · rcases List.mem_cons.1 hz with rfl | hz
          · exact .inl (.inr (by simp [e]))
          · exact .inr ⟨z, hz, e⟩
theorem addsZ_rev (l : List Int) : addsZ l.reverse = addsZ l :=
  rise_ext (addsZ_all _).1 (addsZ_all _).1 fun y => by rw [(addsZ_all _).2.2, (addsZ_all _).2.2]; simp
theorem addsZ_set {l : List Int} (h : l.length ≤ 32) : setB (addsZ l) = true := set_of (Nat.le_trans (addsZ_all l).2.1 h) (addsZ_all l).1
/-- One more of them. -/
theorem addsZ_more {l : List Int} {k : Nat} {x : Int} (h : l.length ≤ 32) (hk : l[k]? = some x) : addP (addsZ (l.take k)) (serN x) = (addsZ (l.take (k + 1)), 0) := by
  have ht : (l.take k).length ≤ 32 := by rw [List.length_take]; omega
  have e : mrg (addsZ (l.take k)) [serN x] = addsZ (l.take (k + 1)) := by rw [List.take_add_one, hk]; exact (addsZ_snoc _ _).symm
  unfold addP
  rw [addsZ_set ht, serN_ok, e]
  have := (addsZ_all (l.take (k + 1))).2.1
  rw [List.length_take] at this
  simp only [Bool.and_self, if_true]
  rw [if_pos (by omega)]
theorem addsZ_again {l : List Int} {k : Nat} {x : Int} (h : l.length ≤ 32) (hk : l[k]? = some x) : addP (addsZ (l.take (k + 1))) (serN x) = (addsZ (l.take (k + 1)), 0) := by
  have ht : (l.take (k + 1)).length ≤ 32 := by rw [List.length_take]; omega
  have hin : serN x ∈ addsZ (l.take (k + 1)) := (addsZ_all _).2.2 _ |>.2 ⟨x, by rw [List.take_add_one, hk]; simp, rfl⟩
  unfold addP
  rw [addsZ_set ht, serN_ok, mrg_in (addsZ_all _).1 (serN_ok x) hin]
  have := (addsZ_all (l.take (k + 1))).2.1
  rw [List.length_take] at this
  simp only [Bool.and_self, if_true]
  rw [if_pos (by omega)]
theorem addsZ_un {l : List Int} (h : l.length ≤ 32) : unP (addsZ l) (addsZ l) = (addsZ l, 0) := by
  unfold unP
  rw [addsZ_set h, mrg_self (addsZ_all _).1]
  have := (addsZ_all l).2.1
  simp only [Bool.and_self, if_true]
  rw [if_pos (by omega)]
/-- What holds at the loop's beginning. -/
def OrdSt (w : World) (n : Nat) (zs : List Int) (va vb e i : Value) (wr : World) : Prop :=
  ∃ k pa pb da db : Nat, ∃ Da Db : Option Addr, k ≤ n ∧ i = .int .i64 k ∧ e = .int .i64 0 ∧ va = .slice Da pa da ∧ vb = .slice Db pb db ∧ Hid (Rw wr Da pa da (addsZ (zs.take k))) ∧ Hid (Rw wr Db pb db (addsZ (zs.reverse.take k))) ∧ Hid (Below w.heap.size w wr)
set_option maxRecDepth 100000 in
set_option maxHeartbeats 4000000 in
theorem rvorder_any (A1 : Option Addr) (n c1 : Nat) (zs1 : List Int) (w : World) (h1 : IsRow .i64 w A1 n c1 zs1) :
    Calls Try.prog 7 #[.slice A1 n c1] w (fun e w' => e = .returned (.bool true) ∧ Below w.heap.size w w') := by
  have R1 := Lib.hid h1.rw
  generalize zs1.take n = zs at R1
  clear h1
  by_cases h32 : 32 < n
  · have hI : 32 < (n : Int) := by omega
    go_enter Try.func7, Try.ntmps7
    go_wp2_with (go_at_call 14; refine (rawake_any _).mono ?_; rintro e w5 ⟨rfl, hb5⟩; have B5 := Lib.hid hb5; clear hb5)
    go_ret
    exact ⟨rfl, B5.out⟩
  have hI : ¬ (32 < (n : Int)) := by omega
  have LZ : Hid (zs.length = n) := Lib.hid R1.out.ir.len
  have LZ32 : Hid (zs.length ≤ 32) := Lib.hid (by rw [LZ.out]; omega)
  have LR32 : Hid (zs.reverse.length ≤ 32) := Lib.hid (by rw [List.length_reverse, LZ.out]; omega)
  have ST0 : OrdSt w n zs (.slice none 0 0) (.slice none 0 0) (.int .i64 0) (.int .i64 0) w := ⟨0, 0, 0, 0, 0, none, none, by omega, rfl, rfl, rfl, rfl, Lib.hid ⟨Ir.nil, Nat.le_refl _, by simp [maxLen]⟩, Lib.hid ⟨Ir.nil, Nat.le_refl _, by simp [maxLen]⟩, Lib.hid (Below.refl _ _)⟩
  go_enter Try.func7, Try.ntmps7
  go_wp2
  go_loopw [3, 4, 5, 6] (fun va vb e i wr => OrdSt w n zs va vb e i wr) (fun _ _ _ i _ => n - (intOf i).toNat)
  case atStart => exact ST0
  case round =>
    obtain ⟨k, pa, pb, da, db, Da, Db, hk, rfl, rfl, rfl, rfl, HA, HB, HW⟩ := hrel
    clear ST0
    by_cases hlt : k < n
    · have hltI : (k : Int) < (n : Int) := by omega
      have hkl : k < zs.length := by rw [LZ.out]; exact hlt
      obtain ⟨r, hr⟩ : ∃ r, n - 1 - k = r := ⟨_, rfl⟩
      have hrn : r < n := by omega
      have wr1 : IntKind.i64.wrap ((n : Int) - 1) = (n : Int) - 1 := by rw [IntKind.wrap_i64]; omega
      have wr2 : IntKind.i64.wrap ((n : Int) - 1 - (k : Int)) = (r : Int) := by rw [IntKind.wrap_i64]; omega
      have hrI : (r : Int) < (n : Int) := by omega
      have HX := Lib.hid (R1.out.below HW.out)
      obtain ⟨b, off, rfl, hb, hc⟩ := HX.out.ir.at_ hlt
      obtain ⟨b', off', eD, _, hc'⟩ := HX.out.ir.at_ hrn
      injection eD with eD; injection eD with q1 q2 q3
      subst q1 q2
      have GX : Hid (zs[k]? = some (zs.getD k 0)) := Lib.hid (by rw [List.getD_eq_getElem?_getD, List.getElem?_eq_getElem hkl]; rfl)
      have GY : Hid (zs.reverse[k]? = some (zs.getD r 0)) := Lib.hid (by
        rw [List.getElem?_reverse hkl, LZ.out, hr, List.getD_eq_getElem?_getD, List.getElem?_eq_getElem (by rw [LZ.out]; exact hrn)]; rfl)
      generalize zs.getD k 0 = x at *
      generalize zs.getD r 0 = y at *
      have P1 := Lib.hid (addsZ_more LZ32.out GX.out)
      have P2 := Lib.hid (addsZ_more LR32.out GY.out)
      have P3 := Lib.hid (addsZ_again LR32.out GY.out)
      have sx : wrap64 (1 + wrap64 ((IntKind.u64.wrap x).tmod 1000)) = serN x := serN_wraps x
      have sy : wrap64 (1 + wrap64 ((IntKind.u64.wrap y).tmod 1000)) = serN y := serN_wraps y
      generalize serN x = sX at *
      generalize serN y = sY at *
      clear hr
      go_upto_region 10 with fail
      rw [sx, sy]
      clear sx sy wr1 wr2 hc hc'
      obtain ⟨na, hna⟩ : ∃ na, (addsZ (zs.take (k + 1))).length = na := ⟨_, rfl⟩
      obtain ⟨nb, hnb⟩ : ∃ nb, (addsZ (zs.reverse.take (k + 1))).length = nb := ⟨_, rfl⟩
      have NA := Lib.hid hna
      have NB := Lib.hid hnb
      clear hna hnb
      go_upto_region 13 with (go_at_call 9; refine (add_any10 sX _ HA.out P1.out).mono ?_; intro e w3 hg3; obtain ⟨D3, d3, rfl, ho3, hb3, x3, y3⟩ := hg3.n rfl rfl NA.out; have RA3 := Lib.hid (rw_own ho3 x3 y3); have B3 := Lib.hid hb3; clear hg3 ho3 hb3 x3 y3)
      have RB3 := Lib.hid (HB.out.below B3.out)
      have W3 := Lib.hid (HW.out.trans (B3.out.mono HW.out.size))
      go_upto_region 16 with (go_at_call 9; refine (add_any10 sY _ RB3.out P2.out).mono ?_; intro e w4 hg4; obtain ⟨D4, d4, rfl, ho4, hb4, x4, y4⟩ := hg4.n rfl rfl NB.out; have RB4 := Lib.hid (rw_own ho4 x4 y4); have B4 := Lib.hid hb4; clear hg4 ho4 hb4 x4 y4)
      have RA4 := Lib.hid (RA3.out.below B4.out)
      have W4 := Lib.hid (W3.out.trans (B4.out.mono W3.out.size))
      go_wp2_with (go_at_call 9; refine (add_any10 sY _ RB4.out P3.out).mono ?_; intro e w5 hg5; obtain ⟨D5, d5, rfl, ho5, hb5, x5, y5⟩ := hg5.n rfl rfl NB.out; have RB5 := Lib.hid (rw_own ho5 x5 y5); have B5 := Lib.hid hb5; clear hg5 ho5 hb5 x5 y5)
      have RA5 := Lib.hid (RA4.out.below B5.out)
      have W5 := Lib.hid (W4.out.trans (B5.out.mono W4.out.size))
      have ST : OrdSt w n zs (.slice D3 na d3) (.slice D5 nb d5) (.int .i64 0) (.int .i64 ((k : Int) + 1)) w5 := ⟨k + 1, na, nb, d3, d5, D3, D5, by omega, by go_num, rfl, rfl, rfl, RA5, RB5, W5⟩
      go_roundw
      case rel => exact ST
      case measure => simp [intOf]; omega
    · have eK : zs.take k = zs ∧ zs.reverse.take k = zs.reverse := ⟨List.take_of_length_le (by rw [LZ.out]; omega), List.take_of_length_le (by rw [List.length_reverse, LZ.out]; omega)⟩
      rw [eK.1] at HA
      rw [eK.2, addsZ_rev] at HB
      clear eK
      have U := Lib.hid (addsZ_un LZ32.out)
      obtain ⟨m, hm⟩ : ∃ m, (addsZ zs).length = m := ⟨_, rfl⟩
      have HM := Lib.hid hm
      obtain rfl : pa = m := by rw [← hm]; exact HA.out.ir.len.symm
      obtain rfl : pb = pa := by rw [← HA.out.ir.len]; exact HB.out.ir.len.symm
      clear hm
      generalize addsZ zs = Z at *
      go_upto_region 20 with (go_at_call 19; refine (union_any _ HA.out HB.out U.out).mono ?_; intro e w3 hg3; obtain ⟨D3, d3, rfl, ho3, hb3, x3, y3⟩ := hg3.n rfl rfl HM.out; have RC3 := Lib.hid (rw_own ho3 x3 y3); have B3 := Lib.hid hb3; clear hg3 ho3 hb3 x3 y3)
      have RA3 := Lib.hid (HA.out.below B3.out)
      have RB3 := Lib.hid (HB.out.below B3.out)
      have W3 := Lib.hid (HW.out.trans (B3.out.mono HW.out.size))
      go_wp2_with fail
      refine (is_any db da true RB3.out.ir RA3.out.ir (Nat.le_trans RA3.out.nc RA3.out.cm) (eqB_self10 Z)).mono ?_
      rintro e w4 ⟨rfl, hq4⟩
      have Q4 := Lib.hid hq4
      have RA4 := Lib.hid (RA3.out.quiet hq4)
      have RC4 := Lib.hid (RC3.out.quiet hq4)
      clear hq4
      go_wp2_with fail
      refine (is_any d3 da true RC4.out.ir RA4.out.ir (Nat.le_trans RC4.out.nc RC4.out.cm) (eqB_self10 Z)).mono ?_
      rintro e w5 ⟨rfl, hq5⟩
      have Q5 := Lib.hid (quiet_two Q4.out hq5)
      clear hq5
      go_wp2_with fail
      refine (rawake_any w5).mono ?_
      rintro e w6 ⟨rfl, hb6⟩
      have B6 := Lib.hid hb6
      clear hb6
      go_wp2
      go_ret
      have b5 := W3.out.trans ((below_quiet Q5.out).mono W3.out.size)
      exact ⟨rfl, b5.trans (B6.out.mono b5.size)⟩
end Go.Proofs.Ytmeafjehcckibaa
