/- What the document's own reader tells. -/
import Derived.Test.YtcihbkdpkhhhcaaRr
import Derived.Deep.Cut
namespace Go.Proofs.Ytcihbkdpkhhhcaa
open Go.ChangeShapes Go.WideShapes Go.ChangeAt Go.RowKit
set_option linter.unusedVariables false
open Plain
section
variable {w : World} {b B : Nat} {why : Int} {rest : List Int}
theorem Rr.nil (h : Rr w b B (why, rest)) (hw : why ≠ 0) : rest = [] := by
  obtain ⟨A, len, cap, bs, a, _, _, _, _, _, _, _, _, hb⟩ := h.ex
  exact hb hw
theorem left_rr (h : Rr w b B (why, rest)) : Calls Try.prog 18 #[.pointer (some ⟨b, 0, none⟩)] w (Quiet (.int .i64 ((rest.length : Nat) : Int)) w) := by
  obtain ⟨⟨A, len, cap, bs, a, c0, c1, c2, hz, hlc, hal, hl6, hgood, hbad⟩, f1, f2, hle⟩ := h
  have c2 : w.cell? ⟨b, 2, none⟩ = some (.int .i64 why) := c2
  by_cases hw : why = 0
  · have hr : rest = bs.drop a := hgood hw
    obtain ⟨M, hM⟩ : ∃ M, rest.length = M := ⟨_, rfl⟩
    have hM2 : len - a = M := by rw [← hM, hr, List.length_drop, hz.len]
    have g1 : IntKind.i64.wrap ((len : Int) - (a : Int)) = (M : Int) := by rw [IntKind.wrap_i64]; omega
    rw [hM]
    subst hw
    clear hz hgood hbad hr hM hM2 hlc
    go_enter Try.func18, Try.ntmps18
    go_wp2_with fail
    go_quiet (fail)
    go_wp2
    go_ret
    exact ⟨rfl, _, rfl⟩
  · have hr : rest = [] := hbad hw
    subst hr
    clear hz hgood hbad
    go_enter Try.func18, Try.ntmps18
    go_wp2
    go_ret
    exact ⟨rfl, 0, rfl⟩
theorem end_rr (h : Rr w b B (why, rest)) : Calls Try.prog 21 #[.pointer (some ⟨b, 0, none⟩)] w (Quiet (.int .i64 (endZ why rest)) w) := by
  obtain ⟨⟨A, len, cap, bs, a, c0, c1, c2, hz, hlc, hal, hl6, hgood, hbad⟩, f1, f2, hle⟩ := h
  have c2 : w.cell? ⟨b, 2, none⟩ = some (.int .i64 why) := c2
  by_cases hw : why = 0
  · have hr : rest = bs.drop a := hgood hw
    have hlr : rest.length = len - a := by rw [hr, List.length_drop, hz.len]
    subst hw
    by_cases hl : a < len
    · have HE : Hid (endZ 0 rest = 40) := Lib.hid (by unfold endZ; rw [if_neg (by simp), if_neg (by omega)])
      have e1 : decide (a < len) = true := decide_eq_true hl
      have hlI : (a : Int) < (len : Int) := by omega
      have e2 : decide ((a : Int) < (len : Int)) = true := decide_eq_true hlI
      clear hz hgood hbad hr hlr hl hlI
      go_enter Try.func21, Try.ntmps21
      go_wp2_with fail
      go_quiet (fail)
      go_wp2
      go_ret
      exact ⟨(by rw [HE.out] <;> rfl), _, rfl⟩
    · have HE : Hid (endZ 0 rest = 0) := Lib.hid (by unfold endZ; rw [if_neg (by simp), if_pos (by omega)])
      have e1 : decide (a < len) = false := decide_eq_false hl
      have hlI : ¬ (a : Int) < (len : Int) := by omega
      have e2 : decide ((a : Int) < (len : Int)) = false := decide_eq_false hlI
      clear hz hgood hbad hr hlr hl hlI
      go_enter Try.func21, Try.ntmps21
      go_wp2_with fail
      go_quiet (fail)
      have c2' : (w.drewN nq).cell? ⟨b, 2, none⟩ = some (.int .i64 0) := c2
      go_wp2
      go_ret
      exact ⟨(by rw [HE.out] <;> rfl), _, rfl⟩
  · have HE : Hid (endZ why rest = why) := Lib.hid (by unfold endZ; rw [if_pos hw])
    have e1 : (why == 0) = false := by simpa using hw
    clear hz hgood hbad
    go_enter Try.func21, Try.ntmps21
    go_wp2_with fail
    go_quiet (fail)
    have c2' : (w.drewN nq).cell? ⟨b, 2, none⟩ = some (.int .i64 why) := c2
    go_wp2
    go_ret
    exact ⟨(by rw [HE.out] <;> rfl), _, rfl⟩
theorem byte_rr (h : Rr w b B (why, rest)) : Calls Try.prog 43 #[.pointer (some ⟨b, 0, none⟩)] w (RReads w b B (.int .u8 (rByte (why, rest)).1) (rByte (why, rest)).2) := by
  by_cases hw : why = 0
  · subst hw
    by_cases hl : rest.length < 1
    · have C1 := Lib.hid (rsome_short h 1 hl (by omega))
      rw [show rByte (0, rest) = (0, 40, []) from tk_short 1 _ _ _ _ hl]
      go_enter Try.func43, Try.ntmps43
      go_wp2_with (go_at_call 69; refine C1.out.mono ?_; rintro e w' ⟨rfl, r, g⟩)
      go_ret
      exact ⟨rfl, r, g⟩
    · have C1 := Lib.hid (rsome_ok h 1 (by omega))
      rw [show rByte (0, rest) = ((rest.take 1).getD 0 0, 0, rest.drop 1) from tk_ok 1 _ _ _ _ (by omega) rfl]
      have LT : Hid ((rest.take 1).length = 1) := Lib.hid (by rw [List.length_take]; omega)
      have BT : Hid (IsBytes (rest.take 1)) := Lib.hid (by have := h.isBytes; rw [isBytes_iff] at *; exact fun z hz => this z (List.mem_of_mem_take hz))
      clear h hl
      go_enter Try.func43, Try.ntmps43
      go_wp2_with fail
      refine C1.out.mono ?_
      rintro e w' ⟨x, rfl, l, r, g⟩
      obtain ⟨A, c, rfl, z, hc, hc2⟩ := l.bs BT.out
      rw [LT.out] at z hc ⊢
      obtain ⟨b1, o1, u1, rfl, _, HU1, hu1, hu1', hc1⟩ := z.at_ (k := 0) (by omega)
      rw [Nat.add_zero] at hc1
      have R := Lib.hid r
      have G := Lib.hid g
      clear z r g l
      go_wp2
      go_ret
      exact ⟨(by rw [HU1.out] <;> rfl), R.out, G.out⟩
  · have hn := h.nil hw
    subst hn
    have C1 := Lib.hid (rsome_bad h hw 1)
    rw [show rByte (why, []) = (0, why, []) from tk_bad 1 _ _ _ _ _ hw]
    go_enter Try.func43, Try.ntmps43
    go_wp2_with (go_at_call 69; refine C1.out.mono ?_; rintro e w' ⟨rfl, r, g⟩)
    go_ret
    exact ⟨rfl, r, g⟩
theorem int_rr (h : Rr w b B (why, rest)) : Calls Try.prog 44 #[.pointer (some ⟨b, 0, none⟩)] w (RReads w b B (.int .i64 (rInt (why, rest)).1) (rInt (why, rest)).2) := by
  by_cases hw : why = 0
  · subst hw
    by_cases hl : rest.length < 8
    · have C1 := Lib.hid (rsome_short h 8 hl (by omega))
      rw [show rInt (0, rest) = (0, 40, []) from tk_short 8 _ _ _ _ hl]
      go_enter Try.func44, Try.ntmps44
      go_wp2_with (go_at_call 69; refine C1.out.mono ?_; rintro e w' ⟨rfl, r, g⟩)
      go_ret
      exact ⟨rfl, r, g⟩
    · have C1 := Lib.hid (rsome_ok h 8 (by omega))
      rw [show rInt (0, rest) = (intZ (rest.take 8), 0, rest.drop 8) from tk_ok 8 _ _ _ _ (by omega) rfl]
      have LT : Hid ((rest.take 8).length = 8) := Lib.hid (by rw [List.length_take]; omega)
      have BT : Hid (IsBytes (rest.take 8)) := Lib.hid (by have := h.isBytes; rw [isBytes_iff] at *; exact fun z hz => this z (List.mem_of_mem_take hz))
      have HZ : Hid (loadZ (rest.take 8) 0 8 = numZ (rest.take 8)) := Lib.hid (by
        have := loadZ_yes (rest.take 8) 0 8 (by rw [List.length_take]; omega)
        rw [List.drop_zero, List.take_take] at this
        exact this)
      have HI : Hid (IntKind.i64.wrap (numZ (rest.take 8)) = intZ (rest.take 8)) := Lib.hid (by rw [IntKind.wrap_i64]; unfold intZ wrap64; omega)
      clear h hl
      go_enter Try.func44, Try.ntmps44
      go_wp2_with fail
      refine C1.out.mono ?_
      rintro e w' ⟨x, rfl, l, r, g⟩
      obtain ⟨A, c, rfl, z, hc, hc2⟩ := l.bs BT.out
      rw [LT.out] at z hc ⊢
      have C2 : Hid (Calls Try.prog 70 #[.slice A 8 c, .int .i64 0, .int .i64 8] w' (Quiet (.tuple #[.int .u64 (loadZ (rest.take 8) 0 8), .bool (loadOk 8 0 8)]) w')) := Lib.hid (refload_any c z (by unfold maxLen; omega) 0 (by omega) 8 (by omega))
      rw [HZ.out, show loadOk 8 0 8 = true from by decide] at C2
      obtain ⟨u, hu⟩ : ∃ u, numZ (rest.take 8) = u := ⟨_, rfl⟩
      obtain ⟨v, hv⟩ : ∃ v, intZ (rest.take 8) = v := ⟨_, rfl⟩
      rw [hu] at C2
      rw [hu, hv] at HI
      have hwv := HI.out
      have HV := Lib.hid hv
      have R := Lib.hid r
      have G := Lib.hid g
      clear z r g l hu hv
      go_wp2_with (go_at_call 70; refine C2.out.mono ?_; rintro e w2 ⟨rfl, m2, rfl⟩)
      go_ret
      exact ⟨(by rw [HV.out] <;> rfl), R.out.keep rfl (fun _ _ => rfl), grown_trans G.out (Go.Proofs.Ytcihbkdpkhhhcaa.grown_drewN _ _ _)⟩
  · have hn := h.nil hw
    subst hn
    have C1 := Lib.hid (rsome_bad h hw 8)
    rw [show rInt (why, []) = (0, why, []) from tk_bad 8 _ _ _ _ _ hw]
    go_enter Try.func44, Try.ntmps44
    go_wp2_with (go_at_call 69; refine C1.out.mono ?_; rintro e w' ⟨rfl, r, g⟩)
    go_ret
    exact ⟨rfl, r, g⟩
theorem flag_rr (h : Rr w b B (why, rest)) : Calls Try.prog 45 #[.pointer (some ⟨b, 0, none⟩)] w (RReads w b B (.bool (rFlag (why, rest)).1) (rFlag (why, rest)).2) := by
  have C1 := Lib.hid (byte_rr h)
  by_cases hw : why = 0
  · subst hw
    by_cases hl : rest.length < 1
    · rw [show rByte (0, rest) = (0, 40, []) from tk_short 1 _ _ _ _ hl] at C1
      rw [show rFlag (0, rest) = (false, 40, []) from tk_short 1 _ _ _ _ hl]
      clear h
      go_enter Try.func45, Try.ntmps45
      go_wp2_with (go_at_call 43; refine C1.out.mono ?_; rintro e w' ⟨rfl, r, g⟩)
      go_ret
      exact ⟨rfl, r, g⟩
    · have hb1 : rByte (0, rest) = ((rest.take 1).getD 0 0, 0, rest.drop 1) := tk_ok 1 _ _ _ _ (by omega) rfl
      have hrg := (rByte_rng 0 h.isBytes)
      rw [hb1] at C1 hrg
      obtain ⟨x, hx⟩ : ∃ x, (rest.take 1).getD 0 0 = x := ⟨_, rfl⟩
      rw [hx] at C1 hrg
      by_cases hx1 : x ≤ 1
      · have HF : Hid (rFlag (0, rest) = (x == 1, 0, rest.drop 1)) := Lib.hid (by
          have := tk_ok 1 (fun b _ => decide (b.getD 0 0 ≤ 1)) (fun b => b.getD 0 0 == 1) false rest (by omega) (by show decide ((rest.take 1).getD 0 0 ≤ 1) = true; rw [hx]; exact decide_eq_true hx1)
          rw [show rFlag (0, rest) = _ from this]
          show ((rest.take 1).getD 0 0 == 1, _) = _
          rw [hx])
        have hx1' : ¬ 1 < x := by omega
        clear h hb1 hx hrg
        go_enter Try.func45, Try.ntmps45
        go_wp2_with (go_at_call 43; refine C1.out.mono ?_; rintro e w' ⟨rfl, r, g⟩)
        go_ret
        rw [HF.out]
        exact ⟨rfl, r, g⟩
      · have HF : Hid (rFlag (0, rest) = (false, 40, [])) := Lib.hid (tk_no 1 (fun b _ => decide (b.getD 0 0 ≤ 1)) (fun b => b.getD 0 0 == 1) false rest (by show decide ((rest.take 1).getD 0 0 ≤ 1) = false; rw [hx]; exact decide_eq_false hx1))
        have hx1' : 1 < x := by omega
        have hxe : (x == 1) = false := by simp; omega
        clear h hb1 hx hrg hx1
        go_enter Try.func45, Try.ntmps45
        go_wp2_with (go_at_call 43; refine C1.out.mono ?_; rintro e w' ⟨rfl, r, g⟩; have R := Lib.hid r; have G := Lib.hid g; have f2 := r.f2; obtain ⟨cw, c2⟩ : ∃ v, w'.cell? ⟨b, 2, none⟩ = some v := (by obtain ⟨_, _, _, _, _, _, _, h2, _⟩ := r.ex; exact ⟨_, h2⟩); clear r g)
        go_ret
        rw [HF.out]
        exact ⟨rfl, R.out.spoil 40 (by decide), grown_trans G.out (grown_cell _ _ _)⟩
  · have hn := h.nil hw
    subst hn
    rw [show rByte (why, []) = (0, why, []) from tk_bad 1 _ _ _ _ _ hw] at C1
    rw [show rFlag (why, []) = (false, why, []) from tk_bad 1 _ _ _ _ _ hw]
    clear h
    go_enter Try.func45, Try.ntmps45
    go_wp2_with (go_at_call 43; refine C1.out.mono ?_; rintro e w' ⟨rfl, r, g⟩)
    go_ret
    exact ⟨rfl, r, g⟩
theorem isList_nil (w : World) (base : Nat) : IsList (.slice none 0 0) w base [] := ⟨none, 0, rfl, World.ownsRow_nil _ _ _ _, Nat.le_refl _, by unfold maxLen; omega⟩
theorem bytes_rr (h : Rr w b B (why, rest)) : Calls Try.prog 46 #[.pointer (some ⟨b, 0, none⟩)] w (fun e w' => ∃ x, RReads w b B x (rBytes (why, rest)).2 e w' ∧ IsList x w' w.heap.size (rBytes (why, rest)).1) := by
  by_cases hw : why = 0
  · subst hw
    by_cases hl : rest.length < 4
    · have C1 := Lib.hid (rsome_short h 4 hl (by omega))
      have e1 : rLen (0, rest) = (0, 40, []) := tk_short 4 _ _ _ _ hl
      have HE : Hid (rBytes (0, rest) = ([], 40, [])) := Lib.hid (by unfold rBytes; rw [e1]; exact tk_bad _ _ _ _ 40 [] (by decide))
      clear h e1
      go_enter Try.func46, Try.ntmps46
      go_wp2_with (go_at_call 69; refine C1.out.mono ?_; rintro e w' ⟨rfl, r, g⟩)
      go_ret
      rw [HE.out]
      exact ⟨_, ⟨rfl, r, g⟩, isList_nil _ _⟩
    · have C1 := Lib.hid (rsome_ok h 4 (by omega))
      have LT : Hid ((rest.take 4).length = 4) := Lib.hid (by rw [List.length_take]; omega)
      have BT : Hid (IsBytes (rest.take 4)) := Lib.hid (by have := h.isBytes; rw [isBytes_iff] at *; exact fun z hz => this z (List.mem_of_mem_take hz))
      have HZ : Hid (loadZ (rest.take 4) 0 4 = numZ (rest.take 4)) := Lib.hid (by
        have := loadZ_yes (rest.take 4) 0 4 (by rw [List.length_take]; omega)
        rw [List.drop_zero, List.take_take] at this
        exact this)
      have hnr := numZ_range _ (isBytes_iff.1 BT.out)
      rw [LT.out] at hnr
      obtain ⟨m, hm⟩ := Int.eq_ofNat_of_zero_le hnr.1
      have hm4 : m < 4294967296 := by have := hnr.2; rw [hm] at this; omega
      have HM := Lib.hid hm
      have hl4 : 4 ≤ rest.length := by omega
      have HL4 := Lib.hid hl4
      have HR6 := Lib.hid h.small
      clear h hl hnr hm hl4
      by_cases hbig : 65536 < m
      · have HE : Hid (rBytes (0, rest) = ([], 40, [])) := Lib.hid (by
          have e1 : rLen (0, rest) = (0, 40, []) := tk_no 4 _ _ _ _ (by show decide (numZ (rest.take 4) ≤ 65536) = false; rw [HM.out]; exact decide_eq_false (by omega))
          unfold rBytes; rw [e1]; exact tk_bad _ _ _ _ 40 [] (by decide))
        have hbI : 65536 < (m : Int) := by omega
        go_enter Try.func46, Try.ntmps46
        go_wp2_with fail
        refine C1.out.mono ?_
        rintro e w1 ⟨x, rfl, l, r, g⟩
        obtain ⟨A, c, rfl, z, hc, hc2⟩ := l.bs BT.out
        rw [LT.out] at z hc ⊢
        have C2 : Hid (Calls Try.prog 70 #[.slice A 4 c, .int .i64 0, .int .i64 4] w1 (Quiet (.tuple #[.int .u64 (loadZ (rest.take 4) 0 4), .bool (loadOk 4 0 4)]) w1)) := Lib.hid (refload_any c z (by unfold maxLen; omega) 0 (by omega) 4 (by omega))
        rw [HZ.out, show loadOk 4 0 4 = true from by decide, HM.out] at C2
        have R := Lib.hid r
        have G := Lib.hid g
        have f2 := r.f2
        obtain ⟨cw, c2⟩ : ∃ v, w1.cell? ⟨b, 2, none⟩ = some v := (by obtain ⟨_, _, _, _, _, _, _, h2, _⟩ := r.ex; exact ⟨_, h2⟩)
        clear r g z l hc hc2 C1
        go_wp2_with (go_at_call 70; refine C2.out.mono ?_; rintro e w2 ⟨rfl, m2, rfl⟩; have c2' : (w1.drewN m2).cell? ⟨b, 2, none⟩ = some cw := c2; have f2' : (w1.drewN m2).frozen? ⟨b, 2, none⟩ = false := f2)
        go_ret
        rw [HE.out]
        have R2 : Rr (w1.drewN m2) b B (0, rest.drop 4) := R.out.keep rfl (fun _ _ => rfl)
        exact ⟨_, ⟨rfl, R2.spoil 40 (by decide), grown_trans (grown_trans G.out (Go.Proofs.Ytcihbkdpkhhhcaa.grown_drewN _ _ _)) (grown_cell _ _ _)⟩, isList_nil _ _⟩
      · have e1 : Hid (rLen (0, rest) = ((m : Int), 0, rest.drop 4)) := Lib.hid (by
          have := tk_ok 4 (fun b _ => decide (numZ b ≤ 65536)) numZ 0 rest HL4.out (by show decide (numZ (rest.take 4) ≤ 65536) = true; rw [HM.out]; exact decide_eq_true (by omega))
          rw [show rLen (0, rest) = _ from this, HM.out])
        have HE : Hid (rBytes (0, rest) = tk m yes2 id [] (0, rest.drop 4)) := Lib.hid (by unfold rBytes; rw [e1.out]; rfl)
        have hbI : ¬ 65536 < (m : Int) := by omega
        have gw : IntKind.i64.wrap (m : Int) = (m : Int) := by rw [IntKind.wrap_i64]; omega
        go_enter Try.func46, Try.ntmps46
        go_wp2_with fail
        refine C1.out.mono ?_
        rintro e w1 ⟨x, rfl, l, r, g⟩
        obtain ⟨A, c, rfl, z, hc, hc2⟩ := l.bs BT.out
        rw [LT.out] at z hc ⊢
        have C2 : Hid (Calls Try.prog 70 #[.slice A 4 c, .int .i64 0, .int .i64 4] w1 (Quiet (.tuple #[.int .u64 (loadZ (rest.take 4) 0 4), .bool (loadOk 4 0 4)]) w1)) := Lib.hid (refload_any c z (by unfold maxLen; omega) 0 (by omega) 4 (by omega))
        rw [HZ.out, show loadOk 4 0 4 = true from by decide, HM.out] at C2
        have G := Lib.hid g
        have R2 : Hid (∀ m2, Rr (w1.drewN m2) b B (0, rest.drop 4)) := Lib.hid (fun m2 => r.keep rfl (fun _ _ => rfl))
        clear r g z l hc hc2 C1
        by_cases hk : m ≤ (rest.drop 4).length
        · have HT : Hid (rBytes (0, rest) = ((rest.drop 4).take m, 0, (rest.drop 4).drop m)) := Lib.hid (by rw [HE.out]; exact tk_ok m yes2 id [] _ hk rfl)
          go_wp2_with (first
            | (go_at_call 70; refine C2.out.mono ?_; rintro e w2 ⟨rfl, m2, rfl⟩; have C3 := Lib.hid (rsome_ok (R2.out m2) m hk))
            | (go_at_call 69; refine C3.out.mono ?_; rintro e w3 ⟨x3, rfl, l3, r3, g3⟩; have L3 := Lib.hid l3; have R3 := Lib.hid r3; have G3 := Lib.hid g3; clear l3 r3 g3))
          go_ret
          rw [HT.out]
          refine ⟨_, ⟨rfl, R3.out, grown_trans (grown_trans G.out (Go.Proofs.Ytcihbkdpkhhhcaa.grown_drewN _ _ _)) G3.out⟩, ?_⟩
          obtain ⟨A3, c3, e3, o3, h3, h4⟩ := L3.out
          exact ⟨A3, c3, e3, own_base o3 G.out.size, h3, h4⟩
        · have HT : Hid (rBytes (0, rest) = ([], 40, [])) := Lib.hid (by rw [HE.out]; exact tk_short m yes2 id [] _ (by omega))
          have hm6 : m ≤ 100000 := by omega
          go_wp2_with (first
            | (go_at_call 70; refine C2.out.mono ?_; rintro e w2 ⟨rfl, m2, rfl⟩; have C3 := Lib.hid (rsome_short (R2.out m2) m (by omega) hm6))
            | (go_at_call 69; refine C3.out.mono ?_; rintro e w3 ⟨rfl, r3, g3⟩))
          go_ret
          rw [HT.out]
          exact ⟨_, ⟨rfl, r3, grown_trans (grown_trans G.out (Go.Proofs.Ytcihbkdpkhhhcaa.grown_drewN _ _ _)) g3⟩, isList_nil _ _⟩
  · have hn := h.nil hw
    subst hn
    have C1 := Lib.hid (rsome_bad h hw 4)
    have e1 : rLen (why, []) = (0, why, []) := tk_bad 4 _ _ _ _ _ hw
    have HE : Hid (rBytes (why, []) = ([], why, [])) := Lib.hid (by unfold rBytes; rw [e1]; exact tk_bad _ _ _ _ _ _ hw)
    clear h e1
    go_enter Try.func46, Try.ntmps46
    go_wp2_with (go_at_call 69; refine C1.out.mono ?_; rintro e w' ⟨rfl, r, g⟩)
    go_ret
    rw [HE.out]
    exact ⟨_, ⟨rfl, r, g⟩, isList_nil _ _⟩
end
end Go.Proofs.Ytcihbkdpkhhhcaa
