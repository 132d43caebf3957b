/- The law RevokedKept. -/
import Derived.Test.YtmeafjehcckibaaRvH
namespace Go.Proofs.Ytmeafjehcckibaa
open Go.ChangeShapes Go.WideShapes Go.ChangeAt Go.RowKit
set_option linter.unusedVariables false
set_option linter.unusedSimpArgs false
open Plain
theorem has_one (x y : Int) : hasL [x] y = decide (y = x) := by simp [hasL]
/-- What Add tells when it is refused, and when it is not. -/
theorem un_facts {za zb : List Int} (ha : setB za = true) (hb : ∀ {p}, p = unP za zb → p.2 = 0 → setB zb = true) {p : List Int × Int} (hp : unP za zb = p) (h0 : p.2 = 0) :
    setB p.1 = true ∧ (∀ y, hasL p.1 y = (hasL za y || hasL zb y)) ∧ ∀ y, y ∈ za → hasL p.1 y = true := by
  have h0' : (unP za zb).2 = 0 := by rw [hp]; exact h0
  obtain ⟨h1, h2, h3, h4⟩ := unP_ok h0'
  have e : p.1 = mrg za zb := by rw [← hp]; exact h4
  rw [e]
  exact ⟨mrg_set h1 h2 h3, mrg_has za zb, fun y hy => by rw [mrg_has]; simp [hasL, hy]⟩
set_option maxRecDepth 100000 in
set_option maxHeartbeats 16000000 in
theorem rvkept_any (A1 : Option Addr) (n1 c1 : Nat) (zs1 : List Int) (A2 : Option Addr) (n2 c2 : Nat) (zs2 : List Int) (x y : Int) (w : World) (h1 : IsRow .i64 w A1 n1 c1 zs1) (h2 : IsRow .i64 w A2 n2 c2 zs2) (hx : -9223372036854775808 ≤ x ∧ x ≤ 9223372036854775807) (hy : -9223372036854775808 ≤ y ∧ y ≤ 9223372036854775807) :
    Calls Try.prog 6 #[.slice A1 n1 c1, .slice A2 n2 c2, .int .i64 x, .int .i64 y] w (fun e w' => e = .returned (.bool true) ∧ Below w.heap.size w w') := by
  have R1 := Lib.hid h1.rw
  have R2 := Lib.hid h2.rw
  generalize zs1.take n1 = za at R1
  generalize zs2.take n2 = zb at R2
  clear h1 h2 hx hy
  have NM : Hid (n1 ≤ 9223372036854775807) := Lib.hid (by have := R1.out.nc; have := R1.out.cm; unfold maxLen at *; omega)
  obtain ⟨qa, hqa⟩ : ∃ q, setB za = q := ⟨_, rfl⟩
  obtain ⟨qb, hqb⟩ : ∃ q, setB zb = q := ⟨_, rfl⟩
  have C1 := Lib.hid (may_any c1 R1.out.ir)
  have C2 := Lib.hid (may_any c2 R2.out.ir)
  rw [hqa] at C1
  rw [hqb] at C2
  have HQA := Lib.hid hqa
  have HQB := Lib.hid hqb
  clear hqa hqb
  cases qa
  · go_enter Try.func6, Try.ntmps6
    go_wp2_with fail
    refine C1.out.mono ?_
    rintro e w1 ⟨rfl, rfl⟩
    go_wp2_with fail
    refine (rawake_any _).mono ?_
    rintro e w2 ⟨rfl, hb2⟩
    have B2 := Lib.hid hb2
    clear hb2
    go_wp2
    go_ret
    exact ⟨rfl, B2.out⟩
  cases qb
  · go_enter Try.func6, Try.ntmps6
    go_wp2_with fail
    refine C1.out.mono ?_
    rintro e w1 ⟨rfl, rfl⟩
    go_wp2_with fail
    refine C2.out.mono ?_
    rintro e w1 ⟨rfl, rfl⟩
    go_wp2_with fail
    refine (rawake_any _).mono ?_
    rintro e w2 ⟨rfl, hb2⟩
    have B2 := Lib.hid hb2
    clear hb2
    go_wp2
    go_ret
    exact ⟨rfl, B2.out⟩
  obtain ⟨p, hp⟩ : ∃ p, addP za x = p := ⟨_, rfl⟩
  obtain ⟨r, hr⟩ : ∃ r, unP za zb = r := ⟨_, rfl⟩
  have FA : Hid (p.2 = 0 → setB p.1 = true ∧ (∀ y, hasL p.1 y = (hasL za y || hasL [x] y)) ∧ ∀ y, y ∈ za → hasL p.1 y = true) := Lib.hid (fun h0 => un_facts HQA.out (fun e h => (unP_ok (by rw [← e]; exact h)).2.1) (by rw [add_un]; exact hp) h0)
  have FB : Hid (r.2 = 0 → setB r.1 = true ∧ (∀ y, hasL r.1 y = (hasL za y || hasL zb y)) ∧ ∀ y, y ∈ za → hasL r.1 y = true) := Lib.hid (fun h0 => un_facts HQA.out (fun _ _ => HQB.out) hr h0)
  have HP := Lib.hid hp
  have HR := Lib.hid hr
  obtain ⟨m, hm⟩ : ∃ m, p.1.length = m := ⟨_, rfl⟩
  obtain ⟨s, hs⟩ : ∃ s, r.1.length = s := ⟨_, rfl⟩
  have hm32 : m ≤ 32 := by rw [← hm, ← hp]; exact addP_short _ _
  have hs32 : s ≤ 32 := by rw [← hs, ← hr]; exact unP_len _ _
  have HM := Lib.hid hm
  have HS := Lib.hid hs
  clear hp hr hm hs
  obtain ⟨k1, hk1⟩ : ∃ k, p.2 = k := ⟨_, rfl⟩
  obtain ⟨k2, hk2⟩ : ∃ k, r.2 = k := ⟨_, rfl⟩
  rw [hk1] at FA
  rw [hk2] at FB
  have HK1 := Lib.hid hk1
  have HK2 := Lib.hid hk2
  clear hk1 hk2
  obtain ⟨p1, hp1⟩ : ∃ q, p.1 = q := ⟨_, rfl⟩
  obtain ⟨r1, hr1⟩ : ∃ q, r.1 = q := ⟨_, rfl⟩
  rw [hp1] at FA HM
  rw [hr1] at FB HS
  have HP1 := Lib.hid hp1
  have HR1 := Lib.hid hr1
  clear hp1 hr1
  obtain ⟨ty, hty⟩ : ∃ q, hasL za y = q := ⟨_, rfl⟩
  have TY := Lib.hid hty
  clear hty
  go_enter Try.func6, Try.ntmps6
  go_wp2_with fail
  refine C1.out.mono ?_
  rintro e w1 ⟨rfl, rfl⟩
  go_wp2_with fail
  refine C2.out.mono ?_
  rintro e w ⟨rfl, rfl⟩
  go_wp2_with fail
  refine (add_any10 x p R1.out HP.out).mono ?_
  intro e w3 hg3
  obtain ⟨D3, d3, rfl, ho3, hb3, x3, y3⟩ := hg3.n HP1.out HK1.out HM.out
  have P3 := Lib.hid (rw_own ho3 x3 y3)
  have B3 := Lib.hid hb3
  have A3 := Lib.hid (R1.out.below hb3)
  have E3 := Lib.hid (R2.out.below hb3)
  clear hg3 ho3 hb3 x3 y3
  cases ty
  · by_cases hk1 : k1 = 0
    · subst hk1
      have MA := Lib.hid (may_any d3 P3.out.ir)
      rw [(FA.out (by first | rfl | trivial)).1] at MA
      by_cases hyx : y = x
      · subst hyx
        have HL : Hid (hasL p1 y = true) := Lib.hid (by rw [(FA.out (by first | rfl | trivial)).2.1, TY.out, has_one]; simp)
        go_wp2_with fail
        refine MA.out.mono ?_
        rintro e w4 ⟨rfl, rfl⟩
        go_wp2_with fail
        refine (has_any10 d3 y true P3.out.ir (Nat.le_trans P3.out.nc P3.out.cm) HL.out).mono ?_
        rintro e wh ⟨rfl, rfl⟩
        go_wp2_with fail
        refine (has_any10 c1 y false A3.out.ir (Nat.le_trans A3.out.nc A3.out.cm) TY.out).mono ?_
        rintro e wh ⟨rfl, rfl⟩
        clear HL MA
        go_upto_region 7 with (go_at_call 19; refine (union_any r A3.out E3.out HR.out).mono ?_; intro e w5 hg5; obtain ⟨D5, d5, rfl, ho5, hb5, x5, y5⟩ := hg5.n HR1.out HK2.out HS.out; have U5 := Lib.hid (rw_own ho5 x5 y5); have B5 := Lib.hid hb5; clear hg5 ho5 hb5 x5 y5)
        have A5 := Lib.hid (A3.out.below B5.out)
        have E5 := Lib.hid (E3.out.below B5.out)
        have P5 := Lib.hid (P3.out.below B5.out)
        have W5 := Lib.hid (B3.out.trans (B5.out.mono B3.out.size))
        by_cases hk2 : k2 = 0
        · subst hk2
          have MB := Lib.hid (may_any d5 U5.out.ir)
          rw [(FB.out (by first | rfl | trivial)).1] at MB
          obtain ⟨tz, htz⟩ : ∃ q, hasL zb y = q := ⟨_, rfl⟩
          have TZ := Lib.hid htz
          clear htz
          cases tz
          · have HL : Hid (hasL r1 y = false) := Lib.hid (by rw [(FB.out (by first | rfl | trivial)).2.1, TY.out, TZ.out]; rfl)
            go_wp2_with fail
            refine MB.out.mono ?_
            rintro e w6 ⟨rfl, rfl⟩
            go_wp2_with fail
            refine (has_any10 d5 y false U5.out.ir (Nat.le_trans U5.out.nc U5.out.cm) HL.out).mono ?_
            rintro e wh ⟨rfl, rfl⟩
            go_wp2_with fail
            refine (has_any10 c1 y false A5.out.ir (Nat.le_trans A5.out.nc A5.out.cm) TY.out).mono ?_
            rintro e wh ⟨rfl, rfl⟩
            go_wp2_with fail
            refine (has_any10 c2 y false E5.out.ir (Nat.le_trans E5.out.nc E5.out.cm) TZ.out).mono ?_
            rintro e wh ⟨rfl, rfl⟩
            clear HL MB
            go_wp2
            go_loopw [13] (fun i wr => ∃ k : Nat, k ≤ n1 ∧ i = .int .i64 k ∧ Hid (Rw wr A1 n1 c1 za ∧ Rw wr D3 m d3 p1 ∧ Rw wr D5 s d5 r1 ∧ Below w.heap.size w wr)) (fun i _ => n1 - (intOf i).toNat)
            case atStart => exact ⟨0, by omega, rfl, Lib.hid ⟨A5.out, P5.out, U5.out, W5.out⟩⟩
            case round =>
              obtain ⟨j, hj, rfl, HH⟩ := hrel
              have hnm := NM.out
              by_cases hlt : j < n1
              · have hltI : (j : Int) < (n1 : Int) := by omega
                obtain ⟨b, off, eA, hb, hc⟩ := HH.out.1.ir.at_ hlt
                have HIN : Hid (za.getD j 0 ∈ za) := Lib.hid (by
                  have hl : j < za.length := by rw [HH.out.1.ir.len]; exact hlt
                  rw [List.getD_eq_getElem?_getD, List.getElem?_eq_getElem hl]
                  exact List.getElem_mem hl)
                generalize za.getD j 0 = z at *
                subst eA
                have HZ1 : Hid (hasL p1 z = true) := Lib.hid ((FA.out (by first | rfl | trivial)).2.2 z HIN.out)
                go_wp2_with fail
                refine (has_any10 d3 z true HH.out.2.1.ir (Nat.le_trans HH.out.2.1.nc HH.out.2.1.cm) HZ1.out).mono ?_
                rintro e wh ⟨rfl, rfl⟩
                have HZ2 : Hid (hasL r1 z = true) := Lib.hid ((FB.out (by first | rfl | trivial)).2.2 z HIN.out)
                go_wp2_with fail
                refine (has_any10 d5 z true HH.out.2.2.1.ir (Nat.le_trans HH.out.2.2.1.nc HH.out.2.2.1.cm) HZ2.out).mono ?_
                rintro e wh ⟨rfl, rfl⟩
                go_wp2
                go_roundw
                case rel => exact ⟨j + 1, by omega, by go_num, HH⟩
                case measure => simp [intOf]; omega
              · go_wp2_with fail
                refine (rawake_any _).mono ?_
                rintro e w9 ⟨rfl, hb9⟩
                have W9 := Lib.hid (HH.out.2.2.2.trans (hb9.mono HH.out.2.2.2.size))
                clear hb9
                go_wp2
                go_ret
                exact ⟨rfl, W9.out⟩
          · have HL : Hid (hasL r1 y = true) := Lib.hid (by rw [(FB.out (by first | rfl | trivial)).2.1, TY.out, TZ.out]; rfl)
            go_wp2_with fail
            refine MB.out.mono ?_
            rintro e w6 ⟨rfl, rfl⟩
            go_wp2_with fail
            refine (has_any10 d5 y true U5.out.ir (Nat.le_trans U5.out.nc U5.out.cm) HL.out).mono ?_
            rintro e wh ⟨rfl, rfl⟩
            go_wp2_with fail
            refine (has_any10 c1 y false A5.out.ir (Nat.le_trans A5.out.nc A5.out.cm) TY.out).mono ?_
            rintro e wh ⟨rfl, rfl⟩
            go_wp2_with fail
            refine (has_any10 c2 y true E5.out.ir (Nat.le_trans E5.out.nc E5.out.cm) TZ.out).mono ?_
            rintro e wh ⟨rfl, rfl⟩
            clear HL MB
            go_wp2
            go_loopw [13] (fun i wr => ∃ k : Nat, k ≤ n1 ∧ i = .int .i64 k ∧ Hid (Rw wr A1 n1 c1 za ∧ Rw wr D3 m d3 p1 ∧ Rw wr D5 s d5 r1 ∧ Below w.heap.size w wr)) (fun i _ => n1 - (intOf i).toNat)
            case atStart => exact ⟨0, by omega, rfl, Lib.hid ⟨A5.out, P5.out, U5.out, W5.out⟩⟩
            case round =>
              obtain ⟨j, hj, rfl, HH⟩ := hrel
              have hnm := NM.out
              by_cases hlt : j < n1
              · have hltI : (j : Int) < (n1 : Int) := by omega
                obtain ⟨b, off, eA, hb, hc⟩ := HH.out.1.ir.at_ hlt
                have HIN : Hid (za.getD j 0 ∈ za) := Lib.hid (by
                  have hl : j < za.length := by rw [HH.out.1.ir.len]; exact hlt
                  rw [List.getD_eq_getElem?_getD, List.getElem?_eq_getElem hl]
                  exact List.getElem_mem hl)
                generalize za.getD j 0 = z at *
                subst eA
                have HZ1 : Hid (hasL p1 z = true) := Lib.hid ((FA.out (by first | rfl | trivial)).2.2 z HIN.out)
                go_wp2_with fail
                refine (has_any10 d3 z true HH.out.2.1.ir (Nat.le_trans HH.out.2.1.nc HH.out.2.1.cm) HZ1.out).mono ?_
                rintro e wh ⟨rfl, rfl⟩
                have HZ2 : Hid (hasL r1 z = true) := Lib.hid ((FB.out (by first | rfl | trivial)).2.2 z HIN.out)
                go_wp2_with fail
                refine (has_any10 d5 z true HH.out.2.2.1.ir (Nat.le_trans HH.out.2.2.1.nc HH.out.2.2.1.cm) HZ2.out).mono ?_
                rintro e wh ⟨rfl, rfl⟩
                go_wp2
                go_roundw
                case rel => exact ⟨j + 1, by omega, by go_num, HH⟩
                case measure => simp [intOf]; omega
              · go_wp2_with fail
                refine (rawake_any _).mono ?_
                rintro e w9 ⟨rfl, hb9⟩
                have W9 := Lib.hid (HH.out.2.2.2.trans (hb9.mono HH.out.2.2.2.size))
                clear hb9
                go_wp2
                go_ret
                exact ⟨rfl, W9.out⟩
        · have ek2 : (k2 == 0) = false := by simpa using hk2
          clear hk2
          go_wp2
          go_loopw [13] (fun i wr => ∃ k : Nat, k ≤ n1 ∧ i = .int .i64 k ∧ Hid (Rw wr A1 n1 c1 za ∧ Rw wr D3 m d3 p1 ∧ Rw wr D5 s d5 r1 ∧ Below w.heap.size w wr)) (fun i _ => n1 - (intOf i).toNat)
          case atStart => exact ⟨0, by omega, rfl, Lib.hid ⟨A5.out, P5.out, U5.out, W5.out⟩⟩
          case round =>
            obtain ⟨j, hj, rfl, HH⟩ := hrel
            have hnm := NM.out
            by_cases hlt : j < n1
            · have hltI : (j : Int) < (n1 : Int) := by omega
              obtain ⟨b, off, eA, hb, hc⟩ := HH.out.1.ir.at_ hlt
              have HIN : Hid (za.getD j 0 ∈ za) := Lib.hid (by
                have hl : j < za.length := by rw [HH.out.1.ir.len]; exact hlt
                rw [List.getD_eq_getElem?_getD, List.getElem?_eq_getElem hl]
                exact List.getElem_mem hl)
              generalize za.getD j 0 = z at *
              subst eA
              have HZ1 : Hid (hasL p1 z = true) := Lib.hid ((FA.out (by first | rfl | trivial)).2.2 z HIN.out)
              go_wp2_with fail
              refine (has_any10 d3 z true HH.out.2.1.ir (Nat.le_trans HH.out.2.1.nc HH.out.2.1.cm) HZ1.out).mono ?_
              rintro e wh ⟨rfl, rfl⟩
              go_wp2
              go_roundw
              case rel => exact ⟨j + 1, by omega, by go_num, HH⟩
              case measure => simp [intOf]; omega
            · go_wp2_with fail
              refine (rawake_any _).mono ?_
              rintro e w9 ⟨rfl, hb9⟩
              have W9 := Lib.hid (HH.out.2.2.2.trans (hb9.mono HH.out.2.2.2.size))
              clear hb9
              go_wp2
              go_ret
              exact ⟨rfl, W9.out⟩
      · have HL : Hid (hasL p1 y = false) := Lib.hid (by rw [(FA.out (by first | rfl | trivial)).2.1, TY.out, has_one]; simp [hyx])
        have hyx2 : (y == x) = false := by simpa using hyx
        go_wp2_with fail
        refine MA.out.mono ?_
        rintro e w4 ⟨rfl, rfl⟩
        go_wp2_with fail
        refine (has_any10 d3 y false P3.out.ir (Nat.le_trans P3.out.nc P3.out.cm) HL.out).mono ?_
        rintro e wh ⟨rfl, rfl⟩
        go_wp2_with fail
        refine (has_any10 c1 y false A3.out.ir (Nat.le_trans A3.out.nc A3.out.cm) TY.out).mono ?_
        rintro e wh ⟨rfl, rfl⟩
        clear HL MA hyx
        go_upto_region 7 with (go_at_call 19; refine (union_any r A3.out E3.out HR.out).mono ?_; intro e w5 hg5; obtain ⟨D5, d5, rfl, ho5, hb5, x5, y5⟩ := hg5.n HR1.out HK2.out HS.out; have U5 := Lib.hid (rw_own ho5 x5 y5); have B5 := Lib.hid hb5; clear hg5 ho5 hb5 x5 y5)
        have A5 := Lib.hid (A3.out.below B5.out)
        have E5 := Lib.hid (E3.out.below B5.out)
        have P5 := Lib.hid (P3.out.below B5.out)
        have W5 := Lib.hid (B3.out.trans (B5.out.mono B3.out.size))
        by_cases hk2 : k2 = 0
        · subst hk2
          have MB := Lib.hid (may_any d5 U5.out.ir)
          rw [(FB.out (by first | rfl | trivial)).1] at MB
          obtain ⟨tz, htz⟩ : ∃ q, hasL zb y = q := ⟨_, rfl⟩
          have TZ := Lib.hid htz
          clear htz
          cases tz
          · have HL : Hid (hasL r1 y = false) := Lib.hid (by rw [(FB.out (by first | rfl | trivial)).2.1, TY.out, TZ.out]; rfl)
            go_wp2_with fail
            refine MB.out.mono ?_
            rintro e w6 ⟨rfl, rfl⟩
            go_wp2_with fail
            refine (has_any10 d5 y false U5.out.ir (Nat.le_trans U5.out.nc U5.out.cm) HL.out).mono ?_
            rintro e wh ⟨rfl, rfl⟩
            go_wp2_with fail
            refine (has_any10 c1 y false A5.out.ir (Nat.le_trans A5.out.nc A5.out.cm) TY.out).mono ?_
            rintro e wh ⟨rfl, rfl⟩
            go_wp2_with fail
            refine (has_any10 c2 y false E5.out.ir (Nat.le_trans E5.out.nc E5.out.cm) TZ.out).mono ?_
            rintro e wh ⟨rfl, rfl⟩
            clear HL MB
            go_wp2
            go_loopw [13] (fun i wr => ∃ k : Nat, k ≤ n1 ∧ i = .int .i64 k ∧ Hid (Rw wr A1 n1 c1 za ∧ Rw wr D3 m d3 p1 ∧ Rw wr D5 s d5 r1 ∧ Below w.heap.size w wr)) (fun i _ => n1 - (intOf i).toNat)
            case atStart => exact ⟨0, by omega, rfl, Lib.hid ⟨A5.out, P5.out, U5.out, W5.out⟩⟩
            case round =>
              obtain ⟨j, hj, rfl, HH⟩ := hrel
              have hnm := NM.out
              by_cases hlt : j < n1
              · have hltI : (j : Int) < (n1 : Int) := by omega
                obtain ⟨b, off, eA, hb, hc⟩ := HH.out.1.ir.at_ hlt
                have HIN : Hid (za.getD j 0 ∈ za) := Lib.hid (by
                  have hl : j < za.length := by rw [HH.out.1.ir.len]; exact hlt
                  rw [List.getD_eq_getElem?_getD, List.getElem?_eq_getElem hl]
                  exact List.getElem_mem hl)
                generalize za.getD j 0 = z at *
                subst eA
                have HZ1 : Hid (hasL p1 z = true) := Lib.hid ((FA.out (by first | rfl | trivial)).2.2 z HIN.out)
                go_wp2_with fail
                refine (has_any10 d3 z true HH.out.2.1.ir (Nat.le_trans HH.out.2.1.nc HH.out.2.1.cm) HZ1.out).mono ?_
                rintro e wh ⟨rfl, rfl⟩
                have HZ2 : Hid (hasL r1 z = true) := Lib.hid ((FB.out (by first | rfl | trivial)).2.2 z HIN.out)
                go_wp2_with fail
                refine (has_any10 d5 z true HH.out.2.2.1.ir (Nat.le_trans HH.out.2.2.1.nc HH.out.2.2.1.cm) HZ2.out).mono ?_
                rintro e wh ⟨rfl, rfl⟩
                go_wp2
                go_roundw
                case rel => exact ⟨j + 1, by omega, by go_num, HH⟩
                case measure => simp [intOf]; omega
              · go_wp2_with fail
                refine (rawake_any _).mono ?_
                rintro e w9 ⟨rfl, hb9⟩
                have W9 := Lib.hid (HH.out.2.2.2.trans (hb9.mono HH.out.2.2.2.size))
                clear hb9
                go_wp2
                go_ret
                exact ⟨rfl, W9.out⟩
          · have HL : Hid (hasL r1 y = true) := Lib.hid (by rw [(FB.out (by first | rfl | trivial)).2.1, TY.out, TZ.out]; rfl)
            go_wp2_with fail
            refine MB.out.mono ?_
            rintro e w6 ⟨rfl, rfl⟩
            go_wp2_with fail
            refine (has_any10 d5 y true U5.out.ir (Nat.le_trans U5.out.nc U5.out.cm) HL.out).mono ?_
            rintro e wh ⟨rfl, rfl⟩
            go_wp2_with fail
            refine (has_any10 c1 y false A5.out.ir (Nat.le_trans A5.out.nc A5.out.cm) TY.out).mono ?_
            rintro e wh ⟨rfl, rfl⟩
            go_wp2_with fail
            refine (has_any10 c2 y true E5.out.ir (Nat.le_trans E5.out.nc E5.out.cm) TZ.out).mono ?_
            rintro e wh ⟨rfl, rfl⟩
            clear HL MB
            go_wp2
            go_loopw [13] (fun i wr => ∃ k : Nat, k ≤ n1 ∧ i = .int .i64 k ∧ Hid (Rw wr A1 n1 c1 za ∧ Rw wr D3 m d3 p1 ∧ Rw wr D5 s d5 r1 ∧ Below w.heap.size w wr)) (fun i _ => n1 - (intOf i).toNat)
            case atStart => exact ⟨0, by omega, rfl, Lib.hid ⟨A5.out, P5.out, U5.out, W5.out⟩⟩
            case round =>
              obtain ⟨j, hj, rfl, HH⟩ := hrel
              have hnm := NM.out
              by_cases hlt : j < n1
              · have hltI : (j : Int) < (n1 : Int) := by omega
                obtain ⟨b, off, eA, hb, hc⟩ := HH.out.1.ir.at_ hlt
                have HIN : Hid (za.getD j 0 ∈ za) := Lib.hid (by
                  have hl : j < za.length := by rw [HH.out.1.ir.len]; exact hlt
                  rw [List.getD_eq_getElem?_getD, List.getElem?_eq_getElem hl]
                  exact List.getElem_mem hl)
                generalize za.getD j 0 = z at *
                subst eA
                have HZ1 : Hid (hasL p1 z = true) := Lib.hid ((FA.out (by first | rfl | trivial)).2.2 z HIN.out)
                go_wp2_with fail
                refine (has_any10 d3 z true HH.out.2.1.ir (Nat.le_trans HH.out.2.1.nc HH.out.2.1.cm) HZ1.out).mono ?_
                rintro e wh ⟨rfl, rfl⟩
                have HZ2 : Hid (hasL r1 z = true) := Lib.hid ((FB.out (by first | rfl | trivial)).2.2 z HIN.out)
                go_wp2_with fail
                refine (has_any10 d5 z true HH.out.2.2.1.ir (Nat.le_trans HH.out.2.2.1.nc HH.out.2.2.1.cm) HZ2.out).mono ?_
                rintro e wh ⟨rfl, rfl⟩
                go_wp2
                go_roundw
                case rel => exact ⟨j + 1, by omega, by go_num, HH⟩
                case measure => simp [intOf]; omega
              · go_wp2_with fail
                refine (rawake_any _).mono ?_
                rintro e w9 ⟨rfl, hb9⟩
                have W9 := Lib.hid (HH.out.2.2.2.trans (hb9.mono HH.out.2.2.2.size))
                clear hb9
                go_wp2
                go_ret
                exact ⟨rfl, W9.out⟩
        · have ek2 : (k2 == 0) = false := by simpa using hk2
          clear hk2
          go_wp2
          go_loopw [13] (fun i wr => ∃ k : Nat, k ≤ n1 ∧ i = .int .i64 k ∧ Hid (Rw wr A1 n1 c1 za ∧ Rw wr D3 m d3 p1 ∧ Rw wr D5 s d5 r1 ∧ Below w.heap.size w wr)) (fun i _ => n1 - (intOf i).toNat)
          case atStart => exact ⟨0, by omega, rfl, Lib.hid ⟨A5.out, P5.out, U5.out, W5.out⟩⟩
          case round =>
            obtain ⟨j, hj, rfl, HH⟩ := hrel
            have hnm := NM.out
            by_cases hlt : j < n1
            · have hltI : (j : Int) < (n1 : Int) := by omega
              obtain ⟨b, off, eA, hb, hc⟩ := HH.out.1.ir.at_ hlt
              have HIN : Hid (za.getD j 0 ∈ za) := Lib.hid (by
                have hl : j < za.length := by rw [HH.out.1.ir.len]; exact hlt
                rw [List.getD_eq_getElem?_getD, List.getElem?_eq_getElem hl]
                exact List.getElem_mem hl)
              generalize za.getD j 0 = z at *
              subst eA
              have HZ1 : Hid (hasL p1 z = true) := Lib.hid ((FA.out (by first | rfl | trivial)).2.2 z HIN.out)
              go_wp2_with fail
              refine (has_any10 d3 z true HH.out.2.1.ir (Nat.le_trans HH.out.2.1.nc HH.out.2.1.cm) HZ1.out).mono ?_
              rintro e wh ⟨rfl, rfl⟩
              go_wp2
              go_roundw
              case rel => exact ⟨j + 1, by omega, by go_num, HH⟩
              case measure => simp [intOf]; omega
            · go_wp2_with fail
              refine (rawake_any _).mono ?_
              rintro e w9 ⟨rfl, hb9⟩
              have W9 := Lib.hid (HH.out.2.2.2.trans (hb9.mono HH.out.2.2.2.size))
              clear hb9
              go_wp2
              go_ret
              exact ⟨rfl, W9.out⟩
    · have ek1 : (k1 == 0) = false := by simpa using hk1
      clear hk1
      go_upto_region 7 with (go_at_call 19; refine (union_any r A3.out E3.out HR.out).mono ?_; intro e w5 hg5; obtain ⟨D5, d5, rfl, ho5, hb5, x5, y5⟩ := hg5.n HR1.out HK2.out HS.out; have U5 := Lib.hid (rw_own ho5 x5 y5); have B5 := Lib.hid hb5; clear hg5 ho5 hb5 x5 y5)
      have A5 := Lib.hid (A3.out.below B5.out)
      have E5 := Lib.hid (E3.out.below B5.out)
      have P5 := Lib.hid (P3.out.below B5.out)
      have W5 := Lib.hid (B3.out.trans (B5.out.mono B3.out.size))
      by_cases hk2 : k2 = 0
      · subst hk2
        have MB := Lib.hid (may_any d5 U5.out.ir)
        rw [(FB.out (by first | rfl | trivial)).1] at MB
        obtain ⟨tz, htz⟩ : ∃ q, hasL zb y = q := ⟨_, rfl⟩
        have TZ := Lib.hid htz
        clear htz
        cases tz
        · have HL : Hid (hasL r1 y = false) := Lib.hid (by rw [(FB.out (by first | rfl | trivial)).2.1, TY.out, TZ.out]; rfl)
          go_wp2_with fail
          refine MB.out.mono ?_
          rintro e w6 ⟨rfl, rfl⟩
          go_wp2_with fail
          refine (has_any10 d5 y false U5.out.ir (Nat.le_trans U5.out.nc U5.out.cm) HL.out).mono ?_
          rintro e wh ⟨rfl, rfl⟩
          go_wp2_with fail
          refine (has_any10 c1 y false A5.out.ir (Nat.le_trans A5.out.nc A5.out.cm) TY.out).mono ?_
          rintro e wh ⟨rfl, rfl⟩
          go_wp2_with fail
          refine (has_any10 c2 y false E5.out.ir (Nat.le_trans E5.out.nc E5.out.cm) TZ.out).mono ?_
          rintro e wh ⟨rfl, rfl⟩
          clear HL MB
          go_wp2
          go_loopw [13] (fun i wr => ∃ k : Nat, k ≤ n1 ∧ i = .int .i64 k ∧ Hid (Rw wr A1 n1 c1 za ∧ Rw wr D3 m d3 p1 ∧ Rw wr D5 s d5 r1 ∧ Below w.heap.size w wr)) (fun i _ => n1 - (intOf i).toNat)
          case atStart => exact ⟨0, by omega, rfl, Lib.hid ⟨A5.out, P5.out, U5.out, W5.out⟩⟩
          case round =>
            obtain ⟨j, hj, rfl, HH⟩ := hrel
            have hnm := NM.out
            by_cases hlt : j < n1
            · have hltI : (j : Int) < (n1 : Int) := by omega
              obtain ⟨b, off, eA, hb, hc⟩ := HH.out.1.ir.at_ hlt
              have HIN : Hid (za.getD j 0 ∈ za) := Lib.hid (by
                have hl : j < za.length := by rw [HH.out.1.ir.len]; exact hlt
                rw [List.getD_eq_getElem?_getD, List.getElem?_eq_getElem hl]
                exact List.getElem_mem hl)
              generalize za.getD j 0 = z at *
              subst eA
              have HZ2 : Hid (hasL r1 z = true) := Lib.hid ((FB.out (by first | rfl | trivial)).2.2 z HIN.out)
              go_wp2_with fail
              refine (has_any10 d5 z true HH.out.2.2.1.ir (Nat.le_trans HH.out.2.2.1.nc HH.out.2.2.1.cm) HZ2.out).mono ?_
              rintro e wh ⟨rfl, rfl⟩
              go_wp2
              go_roundw
              case rel => exact ⟨j + 1, by omega, by go_num, HH⟩
              case measure => simp [intOf]; omega
            · go_wp2_with fail
              refine (rawake_any _).mono ?_
              rintro e w9 ⟨rfl, hb9⟩
              have W9 := Lib.hid (HH.out.2.2.2.trans (hb9.mono HH.out.2.2.2.size))
              clear hb9
              go_wp2
              go_ret
              exact ⟨rfl, W9.out⟩
        · have HL : Hid (hasL r1 y = true) := Lib.hid (by rw [(FB.out (by first | rfl | trivial)).2.1, TY.out, TZ.out]; rfl)
          go_wp2_with fail
          refine MB.out.mono ?_
          rintro e w6 ⟨rfl, rfl⟩
          go_wp2_with fail
          refine (has_any10 d5 y true U5.out.ir (Nat.le_trans U5.out.nc U5.out.cm) HL.out).mono ?_
          rintro e wh ⟨rfl, rfl⟩
          go_wp2_with fail
          refine (has_any10 c1 y false A5.out.ir (Nat.le_trans A5.out.nc A5.out.cm) TY.out).mono ?_
          rintro e wh ⟨rfl, rfl⟩
          go_wp2_with fail
          refine (has_any10 c2 y true E5.out.ir (Nat.le_trans E5.out.nc E5.out.cm) TZ.out).mono ?_
          rintro e wh ⟨rfl, rfl⟩
          clear HL MB
          go_wp2
          go_loopw [13] (fun i wr => ∃ k : Nat, k ≤ n1 ∧ i = .int .i64 k ∧ Hid (Rw wr A1 n1 c1 za ∧ Rw wr D3 m d3 p1 ∧ Rw wr D5 s d5 r1 ∧ Below w.heap.size w wr)) (fun i _ => n1 - (intOf i).toNat)
          case atStart => exact ⟨0, by omega, rfl, Lib.hid ⟨A5.out, P5.out, U5.out, W5.out⟩⟩
          case round =>
            obtain ⟨j, hj, rfl, HH⟩ := hrel
            have hnm := NM.out
            by_cases hlt : j < n1
            · have hltI : (j : Int) < (n1 : Int) := by omega
              obtain ⟨b, off, eA, hb, hc⟩ := HH.out.1.ir.at_ hlt
              have HIN : Hid (za.getD j 0 ∈ za) := Lib.hid (by
                have hl : j < za.length := by rw [HH.out.1.ir.len]; exact hlt
                rw [List.getD_eq_getElem?_getD, List.getElem?_eq_getElem hl]
                exact List.getElem_mem hl)
              generalize za.getD j 0 = z at *
              subst eA
              have HZ2 : Hid (hasL r1 z = true) := Lib.hid ((FB.out (by first | rfl | trivial)).2.2 z HIN.out)
              go_wp2_with fail
              refine (has_any10 d5 z true HH.out.2.2.1.ir (Nat.le_trans HH.out.2.2.1.nc HH.out.2.2.1.cm) HZ2.out).mono ?_
              rintro e wh ⟨rfl, rfl⟩
              go_wp2
              go_roundw
              case rel => exact ⟨j + 1, by omega, by go_num, HH⟩
              case measure => simp [intOf]; omega
            · go_wp2_with fail
              refine (rawake_any _).mono ?_
              rintro e w9 ⟨rfl, hb9⟩
              have W9 := Lib.hid (HH.out.2.2.2.trans (hb9.mono HH.out.2.2.2.size))
              clear hb9
              go_wp2
              go_ret
              exact ⟨rfl, W9.out⟩
      · have ek2 : (k2 == 0) = false := by simpa using hk2
        clear hk2
        go_wp2
        go_loopw [13] (fun i wr => ∃ k : Nat, k ≤ n1 ∧ i = .int .i64 k ∧ Hid (Rw wr A1 n1 c1 za ∧ Rw wr D3 m d3 p1 ∧ Rw wr D5 s d5 r1 ∧ Below w.heap.size w wr)) (fun i _ => n1 - (intOf i).toNat)
        case atStart => exact ⟨0, by omega, rfl, Lib.hid ⟨A5.out, P5.out, U5.out, W5.out⟩⟩
        case round =>
          obtain ⟨j, hj, rfl, HH⟩ := hrel
          have hnm := NM.out
          by_cases hlt : j < n1
          · have hltI : (j : Int) < (n1 : Int) := by omega
            obtain ⟨b, off, eA, hb, hc⟩ := HH.out.1.ir.at_ hlt
            have HIN : Hid (za.getD j 0 ∈ za) := Lib.hid (by
              have hl : j < za.length := by rw [HH.out.1.ir.len]; exact hlt
              rw [List.getD_eq_getElem?_getD, List.getElem?_eq_getElem hl]
              exact List.getElem_mem hl)
            generalize za.getD j 0 = z at *
            subst eA
            go_wp2
            go_roundw
            case rel => exact ⟨j + 1, by omega, by go_num, HH⟩
            case measure => simp [intOf]; omega
          · go_wp2_with fail
            refine (rawake_any _).mono ?_
            rintro e w9 ⟨rfl, hb9⟩
            have W9 := Lib.hid (HH.out.2.2.2.trans (hb9.mono HH.out.2.2.2.size))
            clear hb9
            go_wp2
            go_ret
            exact ⟨rfl, W9.out⟩
  · by_cases hk1 : k1 = 0
    · subst hk1
      have MA := Lib.hid (may_any d3 P3.out.ir)
      rw [(FA.out (by first | rfl | trivial)).1] at MA
      have HL : Hid (hasL p1 y = true) := Lib.hid (by rw [(FA.out (by first | rfl | trivial)).2.1, TY.out]; rfl)
      go_wp2_with fail
      refine MA.out.mono ?_
      rintro e w4 ⟨rfl, rfl⟩
      go_wp2_with fail
      refine (has_any10 d3 y true P3.out.ir (Nat.le_trans P3.out.nc P3.out.cm) HL.out).mono ?_
      rintro e wh ⟨rfl, rfl⟩
      go_wp2_with fail
      refine (has_any10 c1 y true A3.out.ir (Nat.le_trans A3.out.nc A3.out.cm) TY.out).mono ?_
      rintro e wh ⟨rfl, rfl⟩
      clear HL MA
      go_upto_region 7 with (go_at_call 19; refine (union_any r A3.out E3.out HR.out).mono ?_; intro e w5 hg5; obtain ⟨D5, d5, rfl, ho5, hb5, x5, y5⟩ := hg5.n HR1.out HK2.out HS.out; have U5 := Lib.hid (rw_own ho5 x5 y5); have B5 := Lib.hid hb5; clear hg5 ho5 hb5 x5 y5)
      have A5 := Lib.hid (A3.out.below B5.out)
      have E5 := Lib.hid (E3.out.below B5.out)
      have P5 := Lib.hid (P3.out.below B5.out)
      have W5 := Lib.hid (B3.out.trans (B5.out.mono B3.out.size))
      by_cases hk2 : k2 = 0
      · subst hk2
        have MB := Lib.hid (may_any d5 U5.out.ir)
        rw [(FB.out (by first | rfl | trivial)).1] at MB
        have HL : Hid (hasL r1 y = true) := Lib.hid (by rw [(FB.out (by first | rfl | trivial)).2.1, TY.out]; rfl)
        go_wp2_with fail
        refine MB.out.mono ?_
        rintro e w6 ⟨rfl, rfl⟩
        go_wp2_with fail
        refine (has_any10 d5 y true U5.out.ir (Nat.le_trans U5.out.nc U5.out.cm) HL.out).mono ?_
        rintro e wh ⟨rfl, rfl⟩
        go_wp2_with fail
        refine (has_any10 c1 y true A5.out.ir (Nat.le_trans A5.out.nc A5.out.cm) TY.out).mono ?_
        rintro e wh ⟨rfl, rfl⟩
        clear HL MB
        go_wp2
        go_loopw [13] (fun i wr => ∃ k : Nat, k ≤ n1 ∧ i = .int .i64 k ∧ Hid (Rw wr A1 n1 c1 za ∧ Rw wr D3 m d3 p1 ∧ Rw wr D5 s d5 r1 ∧ Below w.heap.size w wr)) (fun i _ => n1 - (intOf i).toNat)
        case atStart => exact ⟨0, by omega, rfl, Lib.hid ⟨A5.out, P5.out, U5.out, W5.out⟩⟩
        case round =>
          obtain ⟨j, hj, rfl, HH⟩ := hrel
          have hnm := NM.out
          by_cases hlt : j < n1
          · have hltI : (j : Int) < (n1 : Int) := by omega
            obtain ⟨b, off, eA, hb, hc⟩ := HH.out.1.ir.at_ hlt
            have HIN : Hid (za.getD j 0 ∈ za) := Lib.hid (by
              have hl : j < za.length := by rw [HH.out.1.ir.len]; exact hlt
              rw [List.getD_eq_getElem?_getD, List.getElem?_eq_getElem hl]
              exact List.getElem_mem hl)
            generalize za.getD j 0 = z at *
            subst eA
            have HZ1 : Hid (hasL p1 z = true) := Lib.hid ((FA.out (by first | rfl | trivial)).2.2 z HIN.out)
            go_wp2_with fail
            refine (has_any10 d3 z true HH.out.2.1.ir (Nat.le_trans HH.out.2.1.nc HH.out.2.1.cm) HZ1.out).mono ?_
            rintro e wh ⟨rfl, rfl⟩
            have HZ2 : Hid (hasL r1 z = true) := Lib.hid ((FB.out (by first | rfl | trivial)).2.2 z HIN.out)
            go_wp2_with fail
            refine (has_any10 d5 z true HH.out.2.2.1.ir (Nat.le_trans HH.out.2.2.1.nc HH.out.2.2.1.cm) HZ2.out).mono ?_
            rintro e wh ⟨rfl, rfl⟩
            go_wp2
            go_roundw
            case rel => exact ⟨j + 1, by omega, by go_num, HH⟩
            case measure => simp [intOf]; omega
          · go_wp2_with fail
            refine (rawake_any _).mono ?_
            rintro e w9 ⟨rfl, hb9⟩
            have W9 := Lib.hid (HH.out.2.2.2.trans (hb9.mono HH.out.2.2.2.size))
            clear hb9
            go_wp2
            go_ret
            exact ⟨rfl, W9.out⟩
      · have ek2 : (k2 == 0) = false := by simpa using hk2
        clear hk2
        go_wp2
        go_loopw [13] (fun i wr => ∃ k : Nat, k ≤ n1 ∧ i = .int .i64 k ∧ Hid (Rw wr A1 n1 c1 za ∧ Rw wr D3 m d3 p1 ∧ Rw wr D5 s d5 r1 ∧ Below w.heap.size w wr)) (fun i _ => n1 - (intOf i).toNat)
        case atStart => exact ⟨0, by omega, rfl, Lib.hid ⟨A5.out, P5.out, U5.out, W5.out⟩⟩
        case round =>
          obtain ⟨j, hj, rfl, HH⟩ := hrel
          have hnm := NM.out
          by_cases hlt : j < n1
          · have hltI : (j : Int) < (n1 : Int) := by omega
            obtain ⟨b, off, eA, hb, hc⟩ := HH.out.1.ir.at_ hlt
            have HIN : Hid (za.getD j 0 ∈ za) := Lib.hid (by
              have hl : j < za.length := by rw [HH.out.1.ir.len]; exact hlt
              rw [List.getD_eq_getElem?_getD, List.getElem?_eq_getElem hl]
              exact List.getElem_mem hl)
            generalize za.getD j 0 = z at *
            subst eA
            have HZ1 : Hid (hasL p1 z = true) := Lib.hid ((FA.out (by first | rfl | trivial)).2.2 z HIN.out)
            go_wp2_with fail
            refine (has_any10 d3 z true HH.out.2.1.ir (Nat.le_trans HH.out.2.1.nc HH.out.2.1.cm) HZ1.out).mono ?_
            rintro e wh ⟨rfl, rfl⟩
            go_wp2
            go_roundw
            case rel => exact ⟨j + 1, by omega, by go_num, HH⟩
            case measure => simp [intOf]; omega
          · go_wp2_with fail
            refine (rawake_any _).mono ?_
            rintro e w9 ⟨rfl, hb9⟩
            have W9 := Lib.hid (HH.out.2.2.2.trans (hb9.mono HH.out.2.2.2.size))
            clear hb9
            go_wp2
            go_ret
            exact ⟨rfl, W9.out⟩
    · have ek1 : (k1 == 0) = false := by simpa using hk1
      clear hk1
      go_upto_region 7 with (go_at_call 19; refine (union_any r A3.out E3.out HR.out).mono ?_; intro e w5 hg5; obtain ⟨D5, d5, rfl, ho5, hb5, x5, y5⟩ := hg5.n HR1.out HK2.out HS.out; have U5 := Lib.hid (rw_own ho5 x5 y5); have B5 := Lib.hid hb5; clear hg5 ho5 hb5 x5 y5)
      have A5 := Lib.hid (A3.out.below B5.out)
      have E5 := Lib.hid (E3.out.below B5.out)
      have P5 := Lib.hid (P3.out.below B5.out)
      have W5 := Lib.hid (B3.out.trans (B5.out.mono B3.out.size))
      by_cases hk2 : k2 = 0
      · subst hk2
        have MB := Lib.hid (may_any d5 U5.out.ir)
        rw [(FB.out (by first | rfl | trivial)).1] at MB
        have HL : Hid (hasL r1 y = true) := Lib.hid (by rw [(FB.out (by first | rfl | trivial)).2.1, TY.out]; rfl)
        go_wp2_with fail
        refine MB.out.mono ?_
        rintro e w6 ⟨rfl, rfl⟩
        go_wp2_with fail
        refine (has_any10 d5 y true U5.out.ir (Nat.le_trans U5.out.nc U5.out.cm) HL.out).mono ?_
        rintro e wh ⟨rfl, rfl⟩
        go_wp2_with fail
        refine (has_any10 c1 y true A5.out.ir (Nat.le_trans A5.out.nc A5.out.cm) TY.out).mono ?_
        rintro e wh ⟨rfl, rfl⟩
        clear HL MB
        go_wp2
        go_loopw [13] (fun i wr => ∃ k : Nat, k ≤ n1 ∧ i = .int .i64 k ∧ Hid (Rw wr A1 n1 c1 za ∧ Rw wr D3 m d3 p1 ∧ Rw wr D5 s d5 r1 ∧ Below w.heap.size w wr)) (fun i _ => n1 - (intOf i).toNat)
        case atStart => exact ⟨0, by omega, rfl, Lib.hid ⟨A5.out, P5.out, U5.out, W5.out⟩⟩
        case round =>
          obtain ⟨j, hj, rfl, HH⟩ := hrel
          have hnm := NM.out
          by_cases hlt : j < n1
          · have hltI : (j : Int) < (n1 : Int) := by omega
            obtain ⟨b, off, eA, hb, hc⟩ := HH.out.1.ir.at_ hlt
            have HIN : Hid (za.getD j 0 ∈ za) := Lib.hid (by
              have hl : j < za.length := by rw [HH.out.1.ir.len]; exact hlt
              rw [List.getD_eq_getElem?_getD, List.getElem?_eq_getElem hl]
              exact List.getElem_mem hl)
            generalize za.getD j 0 = z at *
            subst eA
            have HZ2 : Hid (hasL r1 z = true) := Lib.hid ((FB.out (by first | rfl | trivial)).2.2 z HIN.out)
            go_wp2_with fail
            refine (has_any10 d5 z true HH.out.2.2.1.ir (Nat.le_trans HH.out.2.2.1.nc HH.out.2.2.1.cm) HZ2.out).mono ?_
            rintro e wh ⟨rfl, rfl⟩
            go_wp2
            go_roundw
            case rel => exact ⟨j + 1, by omega, by go_num, HH⟩
            case measure => simp [intOf]; omega
          · go_wp2_with fail
            refine (rawake_any _).mono ?_
            rintro e w9 ⟨rfl, hb9⟩
            have W9 := Lib.hid (HH.out.2.2.2.trans (hb9.mono HH.out.2.2.2.size))
            clear hb9
            go_wp2
            go_ret
            exact ⟨rfl, W9.out⟩
      · have ek2 : (k2 == 0) = false := by simpa using hk2
        clear hk2
        go_wp2
        go_loopw [13] (fun i wr => ∃ k : Nat, k ≤ n1 ∧ i = .int .i64 k ∧ Hid (Rw wr A1 n1 c1 za ∧ Rw wr D3 m d3 p1 ∧ Rw wr D5 s d5 r1 ∧ Below w.heap.size w wr)) (fun i _ => n1 - (intOf i).toNat)
        case atStart => exact ⟨0, by omega, rfl, Lib.hid ⟨A5.out, P5.out, U5.out, W5.out⟩⟩
        case round =>
          obtain ⟨j, hj, rfl, HH⟩ := hrel
          have hnm := NM.out
          by_cases hlt : j < n1
          · have hltI : (j : Int) < (n1 : Int) := by omega
            obtain ⟨b, off, eA, hb, hc⟩ := HH.out.1.ir.at_ hlt
            have HIN : Hid (za.getD j 0 ∈ za) := Lib.hid (by
              have hl : j < za.length := by rw [HH.out.1.ir.len]; exact hlt
              rw [List.getD_eq_getElem?_getD, List.getElem?_eq_getElem hl]
              exact List.getElem_mem hl)
            generalize za.getD j 0 = z at *
            subst eA
            go_wp2
            go_roundw
            case rel => exact ⟨j + 1, by omega, by go_num, HH⟩
            case measure => simp [intOf]; omega
          · go_wp2_with fail
            refine (rawake_any _).mono ?_
            rintro e w9 ⟨rfl, hb9⟩
            have W9 := Lib.hid (HH.out.2.2.2.trans (hb9.mono HH.out.2.2.2.size))
            clear hb9
            go_wp2
            go_ret
            exact ⟨rfl, W9.out⟩
end Go.Proofs.Ytmeafjehcckibaa
