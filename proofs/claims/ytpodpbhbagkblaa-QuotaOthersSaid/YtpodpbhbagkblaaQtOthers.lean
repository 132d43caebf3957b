/- The statement QuotaOthers: the walk. -/
import Derived.Test.YtpodpbhbagkblaaQtPuts
import Derived.Laws.StructEq
namespace Go.Proofs.Ytpodpbhbagkblaa
open Go.ChangeShapes Go.WideShapes Go.ChangeAt Go.RowKit
set_option linter.unusedVariables false
set_option linter.unusedSimpArgs false
open Plain Qt
theorem back_step {l : List ShZ} {k : Nat} {g : ShZ} {a b : Int} (hr : riseQ 0 l = true) (hg : l[k]? = some g) (ha : a = 64 - sumK l + sumK (l.take k)) (hb : b = 4096 - sumS l + sumS (l.take k)) :
    (IntKind.i64.wrap (a + g.k) = a + g.k ∧ IntKind.i64.wrap (b + g.s) = b + g.s) ∧ a + g.k = 64 - sumK l + sumK (l.take (k + 1)) ∧ b + g.s = 4096 - sumS l + sumS (l.take (k + 1)) := by
  have h1 := sums_take hr k
  have h0 := rise_sums hr
  have h8 := rise_len8 hr
  have h2 := (rise_in hr g (List.mem_of_getElem? hg)).1
  have h3 := sumK_snoc hg
  have h4 := sumS_snoc hg
  obtain ⟨_, _, _, _, _, _⟩ := h2
  refine ⟨⟨?_, ?_⟩, by omega, by omega⟩
  · rw [IntKind.wrap_i64]; omega
  · rw [IntKind.wrap_i64]; omega
set_option maxRecDepth 100000 in
set_option maxHeartbeats 8000000 in
theorem qtOthers_any (A : Option Addr) (n c : Nat) (l : List ShZ) (x : ShZ) (b : Bool) (w : World) (h : Shs w w.heap.size A n l) (hn : n * 24 ≤ 140737488355328) (hx : SOk x) :
    Calls Try.prog 5 #[.slice A n c, .agg #[.int .i64 x.t, .int .i64 x.k, .int .i64 x.s], .bool b] w (fun e w' => e = .returned (.bool true) ∧ Below w.heap.size w w') := by
  obtain ⟨t, k, s⟩ := x
  show Calls Try.prog 5 #[.slice A n c, .agg #[.int .i64 t, .int .i64 k, .int .i64 s], .bool b] w _
  obtain ⟨W1, hW1⟩ : ∃ W, W = w.alloc (.cells #[.int .i64 t, .int .i64 k, .int .i64 s] 24) := ⟨_, rfl⟩
  have b1 := Lib.hid (show Below w.heap.size w W1 by rw [hW1]; exact below_oneQ _ _)
  have X1 := Lib.hid (show QBox W1 w.heap.size t k s by rw [hW1]; exact qbox_new _ _ _ _ _ _ rfl)
  have HW1 := Lib.hid hW1
  have HG := Lib.hid (h.grow b1.out)
  have AW := Lib.hid (fun V => qtawake_any (w := V))
  clear hW1 h hx
  by_cases hg : 20 < n
  · have hI : (20 : Int) < (n : Int) := by omega
    clear hg
    go_enter Try.func5, Try.ntmps5
    go_upto_region 1 with fail
    rw [← HW1.out]
    go_wp2_with (go_at_call 14; refine (AW.out _).mono ?_; rintro e v5 ⟨rfl, hb⟩; have C5 := Lib.hid (b1.out.trans (hb.mono b1.out.size)); clear hb)
    go_ret
    exact ⟨rfl, C5.out⟩
  have hI : ¬ (20 : Int) < (n : Int) := by omega
  have hmx : n ≤ maxLen := by unfold maxLen; omega
  have TM := Lib.hid (to_anyQ (c := c) HG.out (Nat.le_refl _) hn)
  clear hg hn
  cases b with
  | true =>
    obtain ⟨⟨rl, re⟩, hr⟩ : ∃ r, sizR l ⟨t, k, s⟩ = r := ⟨_, rfl⟩
    have hrows := Lib.hid (siz_rows hr)
    have PM := Lib.hid (fun (V : World) (D : Option Addr) (d : Nat) (hV : Shs V V.heap.size D n l) => resize_any (c := d) t k s (rl, re) hV (Nat.le_refl _) hmx hr)
    by_cases hre : re = 0
    · subst hre
      obtain ⟨hm, hxB, hos, hrl, hfit⟩ := siz_ok hr rfl
      obtain rfl : rl = insR l ⟨t, k, s⟩ := hrl
      have hm2 := ins_may hm hxB hfit
      have HR2 := Lib.hid (may_parts hm2).1
      have HM2 := Lib.hid hm2
      have HOS := Lib.hid (show (ofR l t).isSome = true from hos)
      obtain ⟨L, hL⟩ : ∃ L, insR l ⟨t, k, s⟩ = L := ⟨_, rfl⟩
      have HOI := Lib.hid (fun T => of_ins l ⟨t, k, s⟩ T)
      rw [hL] at hrows PM HR2 HM2 HOI
      clear hr hm hxB hos hfit hm2 hL
      go_enter Try.func5, Try.ntmps5
      go_upto_region 1 with fail
      rw [← HW1.out]
      go_upto_region 5 with (go_at_call 8; refine TM.out.mono ?_; rintro e w2 ⟨D, d, rfl, o1, b2⟩; have B2 := Lib.hid b2; have H2 := Lib.hid (shs_of_own o1 HG.out.ok); obtain ⟨h1, h2, h3⟩ := X1.out.grow b2; clear o1 b2)
      obtain ⟨g3, hg3⟩ : ∃ g, w2.heap.size = g := ⟨_, rfl⟩
      obtain ⟨W3, hW3⟩ : ∃ W, W = w2.alloc (.cells #[.int .i64 t, .int .i64 k, .int .i64 s] 27) := ⟨_, rfl⟩
      rw [hg3, ← hW3]
      have b23 : Below w2.heap.size w2 W3 := by rw [hW3]; exact below_oneQ _ _
      have B3 := Lib.hid (B2.out.trans (b23.mono B2.out.size))
      have H3 := Lib.hid (H2.out.grow b23)
      have X3 := Lib.hid (show QBox W3 g3 t k s by rw [hW3]; exact qbox_new _ _ _ _ _ _ hg3)
      clear hg3 hW3 b23 h1 h2 h3 B2 H2
      obtain ⟨h1, h2, h3⟩ := X3.out
      go_upto_region 10 with (first
        | (go_at_call 9; refine (PM.out _ _ _ H3.out).mono ?_; intro e w4 hgv; obtain ⟨N, D4, d4, rfl, hs4, hb⟩ := hgv.shs hrows.out.1; have B4 := Lib.hid hb; have H4 := Lib.hid hs4; clear hgv hs4 hb)
        | fail)
      have hN8 : N ≤ 8 := by
        have e1 : L.length = N := H4.out.len
        have e2 : L.length ≤ 8 := hrows.out.2
        omega
      have hNm : N ≤ maxLen := by unfold maxLen; omega
      have MM := Lib.hid (may_anyQ d4 true H4.out (Nat.le_refl _) hNm HM2.out)
      clear h1 h2 h3
      go_upto_region 14 with (go_at_call 19; refine MM.out.mono ?_; rintro e w5 ⟨rfl, hb⟩; have B5 := Lib.hid (B4.out.trans (hb.mono B4.out.size)); have H5 := Lib.hid (H4.out.grow hb); clear hb)
      have H3b := Lib.hid (H3.out.grow B5.out)
      have X5 := Lib.hid (X3.out.grow B5.out)
      have HI := Lib.hid (fun (V : World) (hV : Below w5.heap.size w5 V) (T : Int) (o : Option ShZ) (ho : ofR l T = o) => of_anyQ (w := V) d T o (H3b.out.grow hV) (Nat.le_refl _) hmx ho)
      have HJ := Lib.hid (fun (V : World) (hV : Below w5.heap.size w5 V) (T : Int) (o : Option ShZ) (ho : ofR L T = o) => of_anyQ (w := V) d4 T o (H5.out.grow hV) (Nat.le_refl _) hNm ho)
      clear MM PM TM
      go_wp2
      go_loopw [11] (fun i wr => ∃ T : Int, i = .int .i64 T ∧ Hid (1 ≤ T ∧ T ≤ 9) ∧ Hid (Below w5.heap.size w5 wr)) (fun i _ => (9 - intOf i).toNat)
      case atStart => exact ⟨1, rfl, Lib.hid ⟨by omega, by omega⟩, Lib.hid (Below.refl _ _)⟩
      case round =>
        obtain ⟨T, rfl, HT, HW⟩ := hrel
        by_cases hlt : T ≤ 8
        · have eT : IntKind.i64.wrap (T + 1) = T + 1 := by have := HT.out; rw [IntKind.wrap_i64]; omega
          obtain ⟨o, ho⟩ : ∃ o, ofR l T = o := ⟨_, rfl⟩
          obtain ⟨yt, yk, ys, ok, hoV⟩ : ∃ yt yk ys ok, ofV o = .tuple #[.agg #[.int .i64 yt, .int .i64 yk, .int .i64 ys], .bool ok] := ⟨_, _, _, _, rfl⟩
          have hok : o.isSome = ok := by
            have h1 := hoV
            simp only [ofV, Value.tuple.injEq] at h1
            have h2 := congrArg (fun a : Array Value => a[1]?) h1
            simpa using h2
          have O1 := Lib.hid (HI.out wr HW.out T o ho)
          rw [hoV] at O1
          by_cases hE : t = T
          · subst hE
            have hok2 : ok = true := by rw [← hok, ← ho]; exact HOS.out
            subst hok2
            have O2 := Lib.hid (fun (V : World) (hV : Below w5.heap.size w5 V) => HJ.out V hV t (some ⟨t, k, s⟩) (by rw [HOI.out]; exact if_pos rfl))
            unfold ofV at O2
            simp only [Option.getD_some, Option.isSome_some] at O2
            clear hoV ho hok
            go_upto_region 18 with (go_at_call 15; refine O1.out.mono ?_; rintro e w7 ⟨rfl, hb⟩; have B7 := Lib.hid (HW.out.trans (hb.mono HW.out.size)); clear hb)
            obtain ⟨g8, hg8⟩ : ∃ g, w7.heap.size = g := ⟨_, rfl⟩
            obtain ⟨W8, hW8⟩ : ∃ W, W = w7.alloc (.cells #[.int .i64 yt, .int .i64 yk, .int .i64 ys] 27) := ⟨_, rfl⟩
            rw [hg8, ← hW8]
            have B8 := Lib.hid (show Below w5.heap.size w5 W8 by rw [hW8]; exact B7.out.alloc B7.out.size _)
            have X8 := Lib.hid (show QBox W8 g8 yt yk ys by rw [hW8]; exact qbox_new _ _ _ _ _ _ hg8)
            clear hg8 hW8 O1
            go_upto_region 19 with (go_at_call 15; refine (O2.out _ B8.out).mono ?_; rintro e w9 ⟨rfl, hb⟩; have B9 := Lib.hid (B8.out.trans (hb.mono B8.out.size)); have X9 := Lib.hid (X8.out.grow hb); clear hb)
            obtain ⟨g10, hg10⟩ : ∃ g, w9.heap.size = g := ⟨_, rfl⟩
            obtain ⟨W10, hW10⟩ : ∃ W, W = w9.alloc (.cells #[.int .i64 t, .int .i64 k, .int .i64 s] 27) := ⟨_, rfl⟩
            rw [hg10, ← hW10]
            have b910 : Below w9.heap.size w9 W10 := by rw [hW10]; exact below_oneQ _ _
            have B10 := Lib.hid (B9.out.trans (b910.mono B9.out.size))
            obtain ⟨p1, p2, p3⟩ := X9.out.grow b910
            obtain ⟨q1, q2, q3⟩ := (show QBox W10 g10 t k s by rw [hW10]; exact qbox_new _ _ _ _ _ _ hg10)
            obtain ⟨r1, r2, r3⟩ := X5.out.grow B10.out
            clear hg10 hW10 b910 O2
            go_wp2
            go_roundw
            case rel => exact ⟨t + 1, by trivial, Lib.hid (by have := HT.out; omega), B10⟩
            case measure => have := HT.out; simp [intOf]; omega
          · have hE2 : ¬ (T = t) := fun e => hE e.symm
            have E1 : (T == t) = false := by simpa using hE2
            have E2 : (T != t) = true := by simpa using hE2
            have O2 := Lib.hid (fun (V : World) (hV : Below w5.heap.size w5 V) => HJ.out V hV T o (by rw [HOI.out]; exact (if_neg hE).trans ho))
            rw [hoV] at O2
            clear hoV ho hok hE hE2
            go_upto_region 18 with (go_at_call 15; refine O1.out.mono ?_; rintro e w7 ⟨rfl, hb⟩; have B7 := Lib.hid (HW.out.trans (hb.mono HW.out.size)); clear hb)
            obtain ⟨g8, hg8⟩ : ∃ g, w7.heap.size = g := ⟨_, rfl⟩
            obtain ⟨W8, hW8⟩ : ∃ W, W = w7.alloc (.cells #[.int .i64 yt, .int .i64 yk, .int .i64 ys] 27) := ⟨_, rfl⟩
            rw [hg8, ← hW8]
            have B8 := Lib.hid (show Below w5.heap.size w5 W8 by rw [hW8]; exact B7.out.alloc B7.out.size _)
            have X8 := Lib.hid (show QBox W8 g8 yt yk ys by rw [hW8]; exact qbox_new _ _ _ _ _ _ hg8)
            clear hg8 hW8 O1
            go_upto_region 19 with (go_at_call 15; refine (O2.out _ B8.out).mono ?_; rintro e w9 ⟨rfl, hb⟩; have B9 := Lib.hid (B8.out.trans (hb.mono B8.out.size)); have X9 := Lib.hid (X8.out.grow hb); clear hb)
            obtain ⟨g10, hg10⟩ : ∃ g, w9.heap.size = g := ⟨_, rfl⟩
            obtain ⟨W10, hW10⟩ : ∃ W, W = w9.alloc (.cells #[.int .i64 yt, .int .i64 yk, .int .i64 ys] 27) := ⟨_, rfl⟩
            rw [hg10, ← hW10]
            have b910 : Below w9.heap.size w9 W10 := by rw [hW10]; exact below_oneQ _ _
            have B10 := Lib.hid (B9.out.trans (b910.mono B9.out.size))
            obtain ⟨p1, p2, p3⟩ := X9.out.grow b910
            obtain ⟨q1, q2, q3⟩ := (show QBox W10 g10 yt yk ys by rw [hW10]; exact qbox_new _ _ _ _ _ _ hg10)
            obtain ⟨r1, r2, r3⟩ := X5.out.grow B10.out
            clear hg10 hW10 b910 O2
            go_wp2
            go_roundw
            case rel => exact ⟨T + 1, by trivial, Lib.hid (by have := HT.out; omega), B10⟩
            case measure => have := HT.out; simp [intOf]; omega
        · have HNW := Lib.hid (H5.out.grow HW.out)
          obtain ⟨u0, hu0⟩ : ∃ u, 64 - sumK L = u := ⟨_, rfl⟩
          obtain ⟨v0, hv0⟩ : ∃ u, 4096 - sumS L = u := ⟨_, rfl⟩
          have LM := Lib.hid (left_anyQ d4 u0 v0 HNW.out (Nat.le_refl _) hNm (by unfold leftR; rw [HM2.out, if_pos rfl, hu0, hv0]))
          have HU0 := Lib.hid hu0
          have HV0 := Lib.hid hv0
          clear hu0 hv0 HI HJ
          go_upto_region 22 with (go_at_call 17; refine LM.out.mono ?_; rintro e w6 ⟨rfl, hb⟩; have B6 := Lib.hid (HW.out.trans (hb.mono HW.out.size)); have H6 := Lib.hid (HNW.out.grow hb); clear hb)
          go_wp2
          go_loopw [16, 17, 18] (fun p q i wr2 => ∃ j : Nat, j ≤ N ∧ i = .int .i64 j ∧ wr2 = w6 ∧ ∃ u v : Int, p = .int .i64 u ∧ q = .int .i64 v ∧ Hid (u = 64 - sumK L + sumK (L.take j)) ∧ Hid (v = 4096 - sumS L + sumS (L.take j))) (fun _ _ i _ => N - (intOf i).toNat)
          case atStart => exact ⟨0, by omega, rfl, rfl, u0, v0, rfl, rfl, Lib.hid (by simp [sumK]; exact HU0.out.symm), Lib.hid (by simp [sumS]; exact HV0.out.symm)⟩
          case round =>
            obtain ⟨j, hj, rfl, rfl, u, v, rfl, rfl, HU, HV⟩ := hrel
            by_cases hlt2 : j < N
            · have hltI : (j : Int) < (N : Int) := by omega
              obtain ⟨bb, off, g, rfl, hbb, HK, _, c0, c1, c2⟩ := H6.out.at_ hlt2
              obtain ⟨⟨e1, e2⟩, h3, h4⟩ := back_step HR2.out HK.out HU.out HV.out
              have H3c := Lib.hid h3
              have H4c := Lib.hid h4
              clear h3 h4
              go_wp2
              go_roundw
              case rel => exact ⟨j + 1, by omega, by go_num, by trivial, u + g.k, v + g.s, by trivial, by trivial, H3c, H4c⟩
              case measure => simp [intOf]; omega
            · have el : L.take j = L := List.take_of_length_le (by
                have e1 : L.length = N := H6.out.len
                omega)
              obtain rfl : u = 64 := by rw [HU.out, el]; omega
              obtain rfl : v = 4096 := by rw [HV.out, el]; omega
              clear el
              go_wp2_with (go_at_call 14; refine (AW.out _).mono ?_; rintro e v5 ⟨rfl, hb⟩; have C5 := Lib.hid (B6.out.trans (hb.mono B6.out.size)); clear hb)
              go_ret
              exact ⟨rfl, b1.out.trans ((B3.out.trans ((B5.out.trans (C5.out.mono B5.out.size)).mono B3.out.size)).mono b1.out.size)⟩
    · have hreI : ¬ (re = 0) := hre
      have E0 : (re == 0) = false := by simpa using hre
      obtain rfl : rl = [] := siz_none hr hre
      clear hr hre
      go_enter Try.func5, Try.ntmps5
      go_upto_region 1 with fail
      rw [← HW1.out]
      go_upto_region 5 with (go_at_call 8; refine TM.out.mono ?_; rintro e w2 ⟨D, d, rfl, o1, b2⟩; have B2 := Lib.hid b2; have H2 := Lib.hid (shs_of_own o1 HG.out.ok); obtain ⟨h1, h2, h3⟩ := X1.out.grow b2; clear o1 b2)
      obtain ⟨g3, hg3⟩ : ∃ g, w2.heap.size = g := ⟨_, rfl⟩
      obtain ⟨W3, hW3⟩ : ∃ W, W = w2.alloc (.cells #[.int .i64 t, .int .i64 k, .int .i64 s] 27) := ⟨_, rfl⟩
      rw [hg3, ← hW3]
      have b23 : Below w2.heap.size w2 W3 := by rw [hW3]; exact below_oneQ _ _
      have B3 := Lib.hid (B2.out.trans (b23.mono B2.out.size))
      have H3 := Lib.hid (H2.out.grow b23)
      have X3 := Lib.hid (show QBox W3 g3 t k s by rw [hW3]; exact qbox_new _ _ _ _ _ _ hg3)
      clear hg3 hW3 b23 h1 h2 h3 B2 H2
      obtain ⟨h1, h2, h3⟩ := X3.out
      go_wp2_with (first
        | (go_at_call 9; refine (PM.out _ _ _ H3.out).mono ?_; intro e w4 hgv; obtain ⟨N, D4, d4, rfl, hs4, hb⟩ := hgv.shs hrows.out.1; obtain rfl : N = 0 := hs4.len.symm; have B4 := Lib.hid (b1.out.trans ((B3.out.trans (hb.mono B3.out.size)).mono b1.out.size)); clear hgv hs4 hb)
        | (go_at_call 14; refine (AW.out _).mono ?_; rintro e v5 ⟨rfl, hb⟩; have C5 := Lib.hid (B4.out.trans (hb.mono B4.out.size)); clear hb)
        | fail)
      go_ret
      exact ⟨rfl, C5.out⟩
  | false =>
    obtain ⟨⟨rl, re⟩, hr⟩ : ∃ r, resR l ⟨t, k, s⟩ = r := ⟨_, rfl⟩
    have hrows := Lib.hid (res_rows hr)
    have PM := Lib.hid (fun (V : World) (D : Option Addr) (d : Nat) (hV : Shs V V.heap.size D n l) => reserve_any (c := d) t k s (rl, re) hV (Nat.le_refl _) hmx hr)
    by_cases hre : re = 0
    · subst hre
      obtain ⟨hm, hxB, hos, hrl, hfit⟩ := res_ok hr rfl
      obtain rfl : rl = insR l ⟨t, k, s⟩ := hrl
      have hm2 := ins_may hm hxB hfit
      have HR2 := Lib.hid (may_parts hm2).1
      have HM2 := Lib.hid hm2
      have HOS := Lib.hid (show (ofR l t).isSome = false from hos)
      obtain ⟨L, hL⟩ : ∃ L, insR l ⟨t, k, s⟩ = L := ⟨_, rfl⟩
      have HOI := Lib.hid (fun T => of_ins l ⟨t, k, s⟩ T)
      rw [hL] at hrows PM HR2 HM2 HOI
      clear hr hm hxB hos hfit hm2 hL
      go_enter Try.func5, Try.ntmps5
      go_upto_region 1 with fail
      rw [← HW1.out]
      go_upto_region 5 with (go_at_call 8; refine TM.out.mono ?_; rintro e w2 ⟨D, d, rfl, o1, b2⟩; have B2 := Lib.hid b2; have H2 := Lib.hid (shs_of_own o1 HG.out.ok); obtain ⟨h1, h2, h3⟩ := X1.out.grow b2; clear o1 b2)
      obtain ⟨g3, hg3⟩ : ∃ g, w2.heap.size = g := ⟨_, rfl⟩
      obtain ⟨W3, hW3⟩ : ∃ W, W = w2.alloc (.cells #[.int .i64 t, .int .i64 k, .int .i64 s] 27) := ⟨_, rfl⟩
      rw [hg3, ← hW3]
      have b23 : Below w2.heap.size w2 W3 := by rw [hW3]; exact below_oneQ _ _
      have B3 := Lib.hid (B2.out.trans (b23.mono B2.out.size))
      have H3 := Lib.hid (H2.out.grow b23)
      have X3 := Lib.hid (show QBox W3 g3 t k s by rw [hW3]; exact qbox_new _ _ _ _ _ _ hg3)
      clear hg3 hW3 b23 h1 h2 h3 B2 H2
      obtain ⟨h1, h2, h3⟩ := X3.out
      go_upto_region 10 with (first
        | (go_at_call 11; refine (PM.out _ _ _ H3.out).mono ?_; intro e w4 hgv; obtain ⟨N, D4, d4, rfl, hs4, hb⟩ := hgv.shs hrows.out.1; have B4 := Lib.hid hb; have H4 := Lib.hid hs4; clear hgv hs4 hb)
        | fail)
      have hN8 : N ≤ 8 := by
        have e1 : L.length = N := H4.out.len
        have e2 : L.length ≤ 8 := hrows.out.2
        omega
      have hNm : N ≤ maxLen := by unfold maxLen; omega
      have MM := Lib.hid (may_anyQ d4 true H4.out (Nat.le_refl _) hNm HM2.out)
      clear h1 h2 h3
      go_upto_region 14 with (go_at_call 19; refine MM.out.mono ?_; rintro e w5 ⟨rfl, hb⟩; have B5 := Lib.hid (B4.out.trans (hb.mono B4.out.size)); have H5 := Lib.hid (H4.out.grow hb); clear hb)
      have H3b := Lib.hid (H3.out.grow B5.out)
      have X5 := Lib.hid (X3.out.grow B5.out)
      have HI := Lib.hid (fun (V : World) (hV : Below w5.heap.size w5 V) (T : Int) (o : Option ShZ) (ho : ofR l T = o) => of_anyQ (w := V) d T o (H3b.out.grow hV) (Nat.le_refl _) hmx ho)
      have HJ := Lib.hid (fun (V : World) (hV : Below w5.heap.size w5 V) (T : Int) (o : Option ShZ) (ho : ofR L T = o) => of_anyQ (w := V) d4 T o (H5.out.grow hV) (Nat.le_refl _) hNm ho)
      clear MM PM TM
      go_wp2
      go_loopw [11] (fun i wr => ∃ T : Int, i = .int .i64 T ∧ Hid (1 ≤ T ∧ T ≤ 9) ∧ Hid (Below w5.heap.size w5 wr)) (fun i _ => (9 - intOf i).toNat)
      case atStart => exact ⟨1, rfl, Lib.hid ⟨by omega, by omega⟩, Lib.hid (Below.refl _ _)⟩
      case round =>
        obtain ⟨T, rfl, HT, HW⟩ := hrel
        by_cases hlt : T ≤ 8
        · have eT : IntKind.i64.wrap (T + 1) = T + 1 := by have := HT.out; rw [IntKind.wrap_i64]; omega
          obtain ⟨o, ho⟩ : ∃ o, ofR l T = o := ⟨_, rfl⟩
          obtain ⟨yt, yk, ys, ok, hoV⟩ : ∃ yt yk ys ok, ofV o = .tuple #[.agg #[.int .i64 yt, .int .i64 yk, .int .i64 ys], .bool ok] := ⟨_, _, _, _, rfl⟩
          have hok : o.isSome = ok := by
            have h1 := hoV
            simp only [ofV, Value.tuple.injEq] at h1
            have h2 := congrArg (fun a : Array Value => a[1]?) h1
            simpa using h2
          have O1 := Lib.hid (HI.out wr HW.out T o ho)
          rw [hoV] at O1
          by_cases hE : t = T
          · subst hE
            have hok2 : ok = false := by rw [← hok, ← ho]; exact HOS.out
            subst hok2
            have O2 := Lib.hid (fun (V : World) (hV : Below w5.heap.size w5 V) => HJ.out V hV t (some ⟨t, k, s⟩) (by rw [HOI.out]; exact if_pos rfl))
            unfold ofV at O2
            simp only [Option.getD_some, Option.isSome_some] at O2
            clear hoV ho hok
            go_upto_region 18 with (go_at_call 15; refine O1.out.mono ?_; rintro e w7 ⟨rfl, hb⟩; have B7 := Lib.hid (HW.out.trans (hb.mono HW.out.size)); clear hb)
            obtain ⟨g8, hg8⟩ : ∃ g, w7.heap.size = g := ⟨_, rfl⟩
            obtain ⟨W8, hW8⟩ : ∃ W, W = w7.alloc (.cells #[.int .i64 yt, .int .i64 yk, .int .i64 ys] 27) := ⟨_, rfl⟩
            rw [hg8, ← hW8]
            have B8 := Lib.hid (show Below w5.heap.size w5 W8 by rw [hW8]; exact B7.out.alloc B7.out.size _)
            have X8 := Lib.hid (show QBox W8 g8 yt yk ys by rw [hW8]; exact qbox_new _ _ _ _ _ _ hg8)
            clear hg8 hW8 O1
            go_upto_region 19 with (go_at_call 15; refine (O2.out _ B8.out).mono ?_; rintro e w9 ⟨rfl, hb⟩; have B9 := Lib.hid (B8.out.trans (hb.mono B8.out.size)); have X9 := Lib.hid (X8.out.grow hb); clear hb)
            obtain ⟨g10, hg10⟩ : ∃ g, w9.heap.size = g := ⟨_, rfl⟩
            obtain ⟨W10, hW10⟩ : ∃ W, W = w9.alloc (.cells #[.int .i64 t, .int .i64 k, .int .i64 s] 27) := ⟨_, rfl⟩
            rw [hg10, ← hW10]
            have b910 : Below w9.heap.size w9 W10 := by rw [hW10]; exact below_oneQ _ _
            have B10 := Lib.hid (B9.out.trans (b910.mono B9.out.size))
            obtain ⟨p1, p2, p3⟩ := X9.out.grow b910
            obtain ⟨q1, q2, q3⟩ := (show QBox W10 g10 t k s by rw [hW10]; exact qbox_new _ _ _ _ _ _ hg10)
            obtain ⟨r1, r2, r3⟩ := X5.out.grow B10.out
            clear hg10 hW10 b910 O2
            go_wp2
            go_roundw
            case rel => exact ⟨t + 1, by trivial, Lib.hid (by have := HT.out; omega), B10⟩
            case measure => have := HT.out; simp [intOf]; omega
          · have hE2 : ¬ (T = t) := fun e => hE e.symm
            have E1 : (T == t) = false := by simpa using hE2
            have E2 : (T != t) = true := by simpa using hE2
            have O2 := Lib.hid (fun (V : World) (hV : Below w5.heap.size w5 V) => HJ.out V hV T o (by rw [HOI.out]; exact (if_neg hE).trans ho))
            rw [hoV] at O2
            clear hoV ho hok hE hE2
            go_upto_region 18 with (go_at_call 15; refine O1.out.mono ?_; rintro e w7 ⟨rfl, hb⟩; have B7 := Lib.hid (HW.out.trans (hb.mono HW.out.size)); clear hb)
            obtain ⟨g8, hg8⟩ : ∃ g, w7.heap.size = g := ⟨_, rfl⟩
            obtain ⟨W8, hW8⟩ : ∃ W, W = w7.alloc (.cells #[.int .i64 yt, .int .i64 yk, .int .i64 ys] 27) := ⟨_, rfl⟩
            rw [hg8, ← hW8]
            have B8 := Lib.hid (show Below w5.heap.size w5 W8 by rw [hW8]; exact B7.out.alloc B7.out.size _)
            have X8 := Lib.hid (show QBox W8 g8 yt yk ys by rw [hW8]; exact qbox_new _ _ _ _ _ _ hg8)
            clear hg8 hW8 O1
            go_upto_region 19 with (go_at_call 15; refine (O2.out _ B8.out).mono ?_; rintro e w9 ⟨rfl, hb⟩; have B9 := Lib.hid (B8.out.trans (hb.mono B8.out.size)); have X9 := Lib.hid (X8.out.grow hb); clear hb)
            obtain ⟨g10, hg10⟩ : ∃ g, w9.heap.size = g := ⟨_, rfl⟩
            obtain ⟨W10, hW10⟩ : ∃ W, W = w9.alloc (.cells #[.int .i64 yt, .int .i64 yk, .int .i64 ys] 27) := ⟨_, rfl⟩
            rw [hg10, ← hW10]
            have b910 : Below w9.heap.size w9 W10 := by rw [hW10]; exact below_oneQ _ _
            have B10 := Lib.hid (B9.out.trans (b910.mono B9.out.size))
            obtain ⟨p1, p2, p3⟩ := X9.out.grow b910
            obtain ⟨q1, q2, q3⟩ := (show QBox W10 g10 yt yk ys by rw [hW10]; exact qbox_new _ _ _ _ _ _ hg10)
            obtain ⟨r1, r2, r3⟩ := X5.out.grow B10.out
            clear hg10 hW10 b910 O2
            go_wp2
            go_roundw
            case rel => exact ⟨T + 1, by trivial, Lib.hid (by have := HT.out; omega), B10⟩
            case measure => have := HT.out; simp [intOf]; omega
        · have HNW := Lib.hid (H5.out.grow HW.out)
          obtain ⟨u0, hu0⟩ : ∃ u, 64 - sumK L = u := ⟨_, rfl⟩
          obtain ⟨v0, hv0⟩ : ∃ u, 4096 - sumS L = u := ⟨_, rfl⟩
          have LM := Lib.hid (left_anyQ d4 u0 v0 HNW.out (Nat.le_refl _) hNm (by unfold leftR; rw [HM2.out, if_pos rfl, hu0, hv0]))
          have HU0 := Lib.hid hu0
          have HV0 := Lib.hid hv0
          clear hu0 hv0 HI HJ
          go_upto_region 22 with (go_at_call 17; refine LM.out.mono ?_; rintro e w6 ⟨rfl, hb⟩; have B6 := Lib.hid (HW.out.trans (hb.mono HW.out.size)); have H6 := Lib.hid (HNW.out.grow hb); clear hb)
          go_wp2
          go_loopw [16, 17, 18] (fun p q i wr2 => ∃ j : Nat, j ≤ N ∧ i = .int .i64 j ∧ wr2 = w6 ∧ ∃ u v : Int, p = .int .i64 u ∧ q = .int .i64 v ∧ Hid (u = 64 - sumK L + sumK (L.take j)) ∧ Hid (v = 4096 - sumS L + sumS (L.take j))) (fun _ _ i _ => N - (intOf i).toNat)
          case atStart => exact ⟨0, by omega, rfl, rfl, u0, v0, rfl, rfl, Lib.hid (by simp [sumK]; exact HU0.out.symm), Lib.hid (by simp [sumS]; exact HV0.out.symm)⟩
          case round =>
            obtain ⟨j, hj, rfl, rfl, u, v, rfl, rfl, HU, HV⟩ := hrel
            by_cases hlt2 : j < N
            · have hltI : (j : Int) < (N : Int) := by omega
              obtain ⟨bb, off, g, rfl, hbb, HK, _, c0, c1, c2⟩ := H6.out.at_ hlt2
              obtain ⟨⟨e1, e2⟩, h3, h4⟩ := back_step HR2.out HK.out HU.out HV.out
              have H3c := Lib.hid h3
              have H4c := Lib.hid h4
              clear h3 h4
              go_wp2
              go_roundw
              case rel => exact ⟨j + 1, by omega, by go_num, by trivial, u + g.k, v + g.s, by trivial, by trivial, H3c, H4c⟩
              case measure => simp [intOf]; omega
            · have el : L.take j = L := List.take_of_length_le (by
                have e1 : L.length = N := H6.out.len
                omega)
              obtain rfl : u = 64 := by rw [HU.out, el]; omega
              obtain rfl : v = 4096 := by rw [HV.out, el]; omega
              clear el
              go_wp2_with (go_at_call 14; refine (AW.out _).mono ?_; rintro e v5 ⟨rfl, hb⟩; have C5 := Lib.hid (B6.out.trans (hb.mono B6.out.size)); clear hb)
              go_ret
              exact ⟨rfl, b1.out.trans ((B3.out.trans ((B5.out.trans (C5.out.mono B5.out.size)).mono B3.out.size)).mono b1.out.size)⟩
    · have hreI : ¬ (re = 0) := hre
      have E0 : (re == 0) = false := by simpa using hre
      obtain rfl : rl = [] := res_none hr hre
      clear hr hre
      go_enter Try.func5, Try.ntmps5
      go_upto_region 1 with fail
      rw [← HW1.out]
      go_upto_region 5 with (go_at_call 8; refine TM.out.mono ?_; rintro e w2 ⟨D, d, rfl, o1, b2⟩; have B2 := Lib.hid b2; have H2 := Lib.hid (shs_of_own o1 HG.out.ok); obtain ⟨h1, h2, h3⟩ := X1.out.grow b2; clear o1 b2)
      obtain ⟨g3, hg3⟩ : ∃ g, w2.heap.size = g := ⟨_, rfl⟩
      obtain ⟨W3, hW3⟩ : ∃ W, W = w2.alloc (.cells #[.int .i64 t, .int .i64 k, .int .i64 s] 27) := ⟨_, rfl⟩
      rw [hg3, ← hW3]
      have b23 : Below w2.heap.size w2 W3 := by rw [hW3]; exact below_oneQ _ _
      have B3 := Lib.hid (B2.out.trans (b23.mono B2.out.size))
      have H3 := Lib.hid (H2.out.grow b23)
      have X3 := Lib.hid (show QBox W3 g3 t k s by rw [hW3]; exact qbox_new _ _ _ _ _ _ hg3)
      clear hg3 hW3 b23 h1 h2 h3 B2 H2
      obtain ⟨h1, h2, h3⟩ := X3.out
      go_wp2_with (first
        | (go_at_call 11; refine (PM.out _ _ _ H3.out).mono ?_; intro e w4 hgv; obtain ⟨N, D4, d4, rfl, hs4, hb⟩ := hgv.shs hrows.out.1; obtain rfl : N = 0 := hs4.len.symm; have B4 := Lib.hid (b1.out.trans ((B3.out.trans (hb.mono B3.out.size)).mono b1.out.size)); clear hgv hs4 hb)
        | (go_at_call 14; refine (AW.out _).mono ?_; rintro e v5 ⟨rfl, hb⟩; have C5 := Lib.hid (B4.out.trans (hb.mono B4.out.size)); clear hb)
        | fail)
      go_ret
      exact ⟨rfl, C5.out⟩
theorem qtOthers_in (A : Option Addr) (n c : Nat) (l : List ShZ) (x : ShZ) (b : Bool) (w : World) (h : Shs w w.heap.size A n l) (hn : n * 24 ≤ 140737488355328) (hx : SOk x) :
    Calls Try.prog 5 #[.slice A n c, .agg (shc x).toArray, .bool b] w (fun e w' => e = .returned (.bool true) ∧ Below w.heap.size w w') := qtOthers_any A n c l x b w h hn hx
end Go.Proofs.Ytpodpbhbagkblaa
