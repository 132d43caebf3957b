/- The statement SpaceDoes: the walk. -/
import Derived.Test.YtmlkcedhjnmfgaaSpRD
import Derived.Test.YtmlkcedhjnmfgaaSpLim
namespace Go.Proofs.Ytmlkcedhjnmfgaa
open Go.ChangeShapes Go.WideShapes Go.ChangeAt Go.RowKit
set_option linter.unusedVariables false
set_option linter.unusedSimpArgs false
open Plain Sp
theorem swap_len {s : SpZ} {k o v : ByteArray} {r : SpZ × Int} (hr : swapR s k o v = r) : r.1.l.length ≤ 64 := by
  unfold swapR at hr
  split at hr
  · split at hr
    · split at hr
      · exact put_len hr
      · subst hr; simp [sp0]
    · subst hr; simp [sp0]
  · subst hr; simp [sp0]
theorem del_lenR {s : SpZ} {k : ByteArray} {r : SpZ × Int} (hr : delR s k = r) : r.1.l.length ≤ s.l.length := by
  unfold delR at hr
  split at hr
  · subst hr; exact del_len _ _
  · subst hr; exact Nat.zero_le _
/-- A row that may be written, in a block that is not older than base. -/
def RowT (w : World) (base : Nat) (D : Option Addr) (n : Nat) : Prop := 0 < n → ∃ g, D = some ⟨g, 0, none⟩ ∧ base ≤ g ∧ w.there g 0 (n * 2)
theorem RowT.set {w : World} {base n : Nat} {D : Option Addr} (h : RowT w base D n) (b o : Nat) (vs : List Value) : RowT (w.setCells b o vs) base D n := fun hn => by
  obtain ⟨g, hD, hb, ht⟩ := h hn
  exact ⟨g, hD, hb, World.there_setCells ht b o vs⟩
theorem there_mid {w : World} {g n j : Nat} (h : w.there g 0 (n * 2)) (hj : j < n) : w.there g (j * 2) 2 := fun i hi => by
  have := h (j * 2 + i) (by omega)
  rwa [Nat.zero_add] at this
theorem NewP.rowT {w : World} {base n d : Nat} {D : Option Addr} {l : List PairZ} (h : NewP w base D n d l) : RowT w base D n := fun hn => by
  obtain ⟨g, cur, hD, hb, hh, hs, _⟩ := h.row hn
  refine ⟨g, hD, hb, fun j hj => ?_⟩
  rw [Nat.zero_add]
  constructor
  · rw [cell_of_row _ _ _ _ _ _ hh]
    rw [Array.getElem?_eq_getElem (by omega)]; rfl
  · unfold World.frozen?
    rw [hh]
    simp
theorem spair_size : (Try.prog.info? 46).map (·.size) = some 2 := by kernel_rfl
set_option maxRecDepth 100000 in
set_option maxHeartbeats 8000000 in
theorem spDoes_any (KI Y : Int) (A : Option Addr) (n c : Nat) (l : List PairZ) (m : Int) (k o v : ByteArray) (w : World) (h : Prs w w.heap.size A n l) (hm0 : 0 ≤ m) (hm1 : m < 256) :
    Calls Try.prog 3 #[.agg #[.int .i64 KI, .int .i64 Y, .slice A n c], .int .u8 m, .string k, .string o, .string v] w (fun e w' => e = .returned (.bool true) ∧ Below w.heap.size w w') := by
  obtain ⟨W1, hW1⟩ : ∃ W, W = w.alloc (.cells #[.int .i64 KI, .int .i64 Y, .slice A n c] 24) := ⟨_, rfl⟩
  have b1 := Lib.hid (show Below w.heap.size w W1 by rw [hW1]; exact below_one _ _)
  have X1 := Lib.hid (show SBox W1 w.heap.size KI Y A n c by rw [hW1]; exact sbox_new _ _ _ _ _ _ _ _ rfl)
  have H1 := Lib.hid ((h.below b1.out (Nat.le_refl _)).more b1.out.size)
  have HW1 := Lib.hid hW1
  have AW := Lib.hid spawake_any
  have L1 := Lib.hid h.len
  obtain ⟨T1, hT1⟩ : ∃ T, IntKind.i64.wrap ((k.size : Int) + (o.size : Int)) = T := ⟨_, rfl⟩
  obtain ⟨T2, hT2⟩ : ∃ T, IntKind.i64.wrap (T1 + (v.size : Int)) = T := ⟨_, rfl⟩
  clear hW1 h
  by_cases hg : 100 < n
  · have GM := Lib.hid (fun V => great_any (w := V) (A := A) (c := c) KI Y true (decide_eq_true hg))
    clear hg
    go_enter Try.func3, Try.ntmps3
    go_upto_region 1 with fail
    rw [← HW1.out]
    obtain ⟨h1, h2, h3⟩ := X1.out
    go_wp2_with fail
    refine (GM.out _).mono ?_
    rintro e w2 ⟨rfl, hb⟩
    have B2 := Lib.hid (b1.out.trans (hb.mono b1.out.size))
    clear hb
    go_wp2
    go_ret
    exact ⟨rfl, B2.out⟩
  have GM := Lib.hid (fun V => great_any (w := V) (A := A) (c := c) KI Y false (decide_eq_false hg))
  have hn : n ≤ 1000 := by omega
  clear hg
  by_cases h200 : 200 < T2
  · go_enter Try.func3, Try.ntmps3
    go_upto_region 1 with fail
    rw [← HW1.out]
    obtain ⟨h1, h2, h3⟩ := X1.out
    go_wp2_with fail
    refine (GM.out _).mono ?_
    rintro e w2 ⟨rfl, hb⟩
    have B2 := Lib.hid (b1.out.trans (hb.mono b1.out.size))
    clear hb
    go_wp2
    go_ret
    exact ⟨rfl, B2.out⟩
  have TM := Lib.hid (fun (V : World) (hV : Below W1.heap.size W1 V) => to_any (w := V) (c := c) KI Y (H1.out.grow hV) hn)
  have HC := Lib.hid (fun (V : World) (hV : Below W1.heap.size W1 V) => X1.out.grow hV)
  go_enter Try.func3, Try.ntmps3
  go_upto_region 1 with fail
  rw [← HW1.out]
  obtain ⟨h1, h2, h3⟩ := X1.out
  go_wp2_with fail
  refine (GM.out _).mono ?_
  rintro e w2 ⟨rfl, hb⟩
  have B2 := Lib.hid hb
  clear hb h1 h2 h3
  obtain ⟨h1, h2, h3⟩ := HC.out _ B2.out
  go_wp2_with fail
  refine (TM.out _ B2.out).mono ?_
  rintro e w3 ⟨D3, d3, rfl, hn3, hb⟩
  obtain ⟨g3, hg3⟩ : ∃ g, w3.heap.size = g := ⟨_, rfl⟩
  obtain ⟨W3, hW3⟩ : ∃ W, W = w3.alloc (.cells #[.int .i64 KI, .int .i64 Y, .slice D3 n d3] 28) := ⟨_, rfl⟩
  have B3 := Lib.hid (show Below W1.heap.size W1 W3 by rw [hW3]; exact B2.out.trans ((hb.alloc hb.size _).mono B2.out.size))
  have X3 := Lib.hid (show SBox W3 g3 KI Y D3 n d3 by rw [hW3]; exact sbox_new _ _ _ _ _ _ _ _ hg3)
  have N3 := Lib.hid (show NewP W3 w2.heap.size D3 (n + 1) d3 (l ++ [tilde]) by rw [hW3]; exact hn3.below (below_one _ _))
  have S3 := Lib.hid (N3.out.pre L1.out hn)
  have H3 := Lib.hid (H1.out.grow B3.out)
  have HC3 := Lib.hid (fun (V : World) (hV : Below W3.heap.size W3 V) => HC.out V (B3.out.trans (hV.mono B3.out.size)))
  have SM := Lib.hid (fun (V : World) (hV : Below W3.heap.size W3 V) => stays_any (c := c) KI Y (N3.out.below hV) (H3.out.grow hV) hn)
  have HG3 := Lib.hid hg3
  have HW3 := Lib.hid hW3
  have BW0 := Lib.hid (b1.out.trans (B3.out.mono b1.out.size))
  clear hb hW3 hg3 hn3 h1 h2 h3 hT1 hT2
  go_upto_region 4 with fail
  rw [HG3.out, ← HW3.out]
  obtain ⟨g4, hg4⟩ : ∃ g, W3.heap.size = g := ⟨_, rfl⟩
  obtain ⟨g5, hg5⟩ : ∃ g, g4 + 1 = g := ⟨_, rfl⟩
  obtain ⟨W4, hW4⟩ : ∃ W, W = W3.alloc (.cells #[.int .i64 0, .int .i64 0, .slice none 0 0] 28) := ⟨_, rfl⟩
  have q4 : W4.heap.size = g5 := by rw [hW4, ← hg5, ← hg4]; simp
  obtain ⟨W5, hW5⟩ : ∃ W, W = W4.alloc (.cells #[.int .i64 0, .int .i64 0, .slice none 0 0] 24) := ⟨_, rfl⟩
  have B34 := Lib.hid (show Below W3.heap.size W3 W4 by rw [hW4]; exact below_one _ _)
  have B35 := Lib.hid (show Below W3.heap.size W3 W5 by rw [hW5]; exact B34.out.alloc B34.out.size _)
  have V4 := Lib.hid (show SVar W5 g4 by rw [hW5]; exact (show SVar W4 g4 by rw [hW4]; exact svar_new _ _ _ _ _ _ hg4).grow (below_one _ _))
  have V5 := Lib.hid (show SVar W5 g5 by rw [hW5]; exact svar_new _ _ _ _ _ _ q4)
  have u5 : W5.heap.size = g5 + 1 := by rw [hW5, ← q4]; simp
  have y4 : W3.heap.size ≤ g4 := by omega
  have y5 : W3.heap.size ≤ g5 := by omega
  have y45 : g4 < g5 := by omega
  have y56 : g5 < W5.heap.size := by omega
  have HG4 := Lib.hid hg4
  have HQ4 := Lib.hid q4
  have HW4 := Lib.hid hW4
  have HW5 := Lib.hid hW5
  have HS := Lib.hid sp_size
  have RS := Lib.hid rsp_size
  have HPS := Lib.hid spair_size
  clear hW4 hW5 q4 hg4 hg5 u5
  go_upto_region 5 with fail
  rw [HG4.out, ← HW4.out]
  go_upto_region 6 with fail
  rw [HQ4.out, ← HW5.out]
  clear HW1 HW3 HG3 GM TM HC X1 B2 B3 H1 HG4 HQ4 HW4 HW5 B34 b1 N3
  rcases (show m % 4 = 0 ∨ m % 4 = 1 ∨ m % 4 = 2 ∨ m % 4 = 3 by omega) with hq | hq | hq | hq
  · have hq : m % 4 = 0 := hq
    obtain ⟨⟨⟨K5, Y5, l5⟩, e5⟩, hr5⟩ : ∃ r, putR ⟨KI, Y, l⟩ k v = r := ⟨_, rfl⟩
    have PM := Lib.hid (put_any KI Y k v (⟨K5, Y5, l5⟩, e5) (S3.out.below B35.out) hr5)
    have RM := Lib.hid (fun (V : World) (hV : Below W3.heap.size W3 V) => rput_any (w := V) (c := c) KI Y k v (⟨K5, Y5, l5⟩, e5) (H3.out.grow hV) hn hr5)
    have hl5 : l5.length ≤ 1000 := Nat.le_trans (put_len hr5) (by omega)
    obtain ⟨h1, h2, h3⟩ := X3.out.grow B35.out
    clear hr5
    go_upto_region 13 with (first
      | (go_at_call 11; refine PM.out.mono ?_; rintro e w6 ⟨n5, d5, D5, rfl, hn5, hb⟩; have V6 := Lib.hid (V4.out.grow hb); have U6 := Lib.hid (V5.out.grow hb); have B6 := Lib.hid hb; have N6 := Lib.hid hn5; clear hb hn5)
      | (refine sp_store_as (op := ⟨none, .store 28 (.tmp 12) (.tmp 74), _, _, _, _⟩) rfl 28 (.tmp 12) (.tmp 74) rfl g4 0 #[.int .i64 K5, .int .i64 Y5, .slice D5 n5 d5] rfl rfl V6.out.th HS.out (sp_one _ _ _ _ _) ?_; intro W6 hW6)
      | fail)
    have hL5 : Hid (l5.length = n5) := Lib.hid N6.out.len
    have hn5 : n5 ≤ 1000 := by rw [← hL5.out]; exact hl5
    have b6 := B6.out.size
    have X6 := Lib.hid (show SBox W6 g4 K5 Y5 D5 n5 d5 by rw [hW6.out]; exact sbox_put V6.out _ _ _ _ _)
    have U7 := Lib.hid (show SVar W6 g5 by rw [hW6.out]; exact svar_far U6.out _ _ _)
    have B36 := Lib.hid (show Below W3.heap.size W3 W6 by rw [hW6.out]; exact sp_setCells y4 _ _ _ (B35.out.trans (B6.out.mono B35.out.size)))
    have N7 := Lib.hid (show NewP W6 W5.heap.size D5 n5 d5 l5 by rw [hW6.out]; exact N6.out.far (by omega) _ _)
    have b7 : W5.heap.size ≤ W6.heap.size := by rw [hW6.out]; exact Nat.le_trans b6 (sp_size_le _ _ _ _)
    clear PM hW6 h1 h2 h3 V6 U6 N6 B6
    obtain ⟨h1, h2, h3⟩ := HC3.out _ B36.out
    go_upto_region 20 with (first
      | (go_at_call 12; refine (RM.out _ B36.out).mono ?_; rintro e w8 ⟨n6, d6, D6, rfl, p6, f6, hb⟩; have B8 := Lib.hid hb; have P8 := Lib.hid p6; have F8 := Lib.hid f6; have U8 := Lib.hid (U7.out.grow hb); clear hb p6 f6)
      | (refine sp_store_as (op := ⟨none, .store 24 (.tmp 13) (.tmp 81), _, _, _, _⟩) rfl 24 (.tmp 13) (.tmp 81) rfl g5 0 #[.int .i64 K5, .int .i64 Y5, .slice D6 n6 d6] rfl rfl U8.out.th RS.out (sp_one _ _ _ _ _) ?_; intro W8 hW8)
      | fail)
    have b8 := B8.out.size
    have X8 := Lib.hid (show SBox W8 g4 K5 Y5 D5 n5 d5 by rw [hW8.out]; exact sbox_far (X6.out.grow B8.out) (by omega) _ _)
    have Y8 := Lib.hid (show SBox W8 g5 K5 Y5 D6 n6 d6 by rw [hW8.out]; exact sbox_put U8.out _ _ _ _ _)
    have B38 := Lib.hid (show Below W3.heap.size W3 W8 by rw [hW8.out]; exact sp_setCells y5 _ _ _ (B36.out.trans (B8.out.mono B36.out.size)))
    have N8 := Lib.hid (show NewP W8 W5.heap.size D5 n5 d5 l5 by rw [hW8.out]; exact (N7.out.below B8.out).far (by omega) _ _)
    have P9 := Lib.hid (show Prs W8 W8.heap.size D6 n6 l5 by rw [hW8.out]; exact (P8.out.farX F8.out (by omega) _ _).more (sp_size_le _ _ _ _))
    have hn6 : n6 ≤ maxLen := by
      have h6 : n6 ≤ 1000 := by rw [← P9.out.len]; exact hl5
      unfold maxLen; omega
    have IM := Lib.hid (lis_any K5 Y5 K5 Y5 d5 d6 true N8.out.prs P9.out hn5 hn6 (sameB_self _))
    clear hW8 h1 h2 h3 X6 U7 B36 N7 RM U8 B8 P8 F8 P9
    obtain ⟨h1, h2, h3⟩ := X8.out
    obtain ⟨i1, i2, i3⟩ := Y8.out
    go_wp2_with fail
    refine IM.out.mono ?_
    rintro e w9 ⟨rfl, hb⟩
    have B9 := Lib.hid (B38.out.trans (hb.mono B38.out.size))
    have X9 := Lib.hid (X8.out.grow hb)
    have T9 := Lib.hid ((N8.out.below hb).rowT)
    have y9 := Nat.le_trans B38.out.size hb.size
    clear hb h1 h2 h3 i1 i2 i3 X8 Y8 N8 B38 IM hn6 hl5 hL5 hq
    go_upto_region 22 with fail
    go_wp2
    go_loopw [21] (fun i wr => ∃ j : Nat, j ≤ n5 ∧ i = .int .i64 j ∧ Hid (Below W3.heap.size W3 wr) ∧ Hid (SBox wr g4 K5 Y5 D5 n5 d5) ∧ Hid (RowT wr W5.heap.size D5 n5)) (fun i _ => n5 - (intOf i).toNat)
    case atStart => exact ⟨0, by omega, rfl, B9, X9, T9⟩
    case round =>
      obtain ⟨j, hj, rfl, HB, HX, HT⟩ := hrel
      by_cases hlt : j < n5
      · have hltI : (j : Int) < (n5 : Int) := by omega
        obtain ⟨gD, rfl, hgD, ht⟩ := HT.out (by omega)
        have TH := Lib.hid (there_mid ht hlt)
        obtain ⟨h1, h2, h3⟩ := HX.out
        clear ht
        go_wp2_with (first
          | (refine sp_store_as (op := ⟨none, .store 46 (.tmp 134) (.tmp 133), _, _, _, _⟩) rfl 46 (.tmp 134) (.tmp 133) rfl gD (j * 2) #[.string ⟨#[63]⟩, .string ⟨#[]⟩] rfl rfl TH.out HPS.out (by simp [Value.oneCell']) ?_; intro wS hS)
          | fail)
        have B10 := Lib.hid (show Below W3.heap.size W3 wS by rw [hS.out]; exact sp_setCells (by omega) _ _ _ HB.out)
        have X10 := Lib.hid (show SBox wS g4 K5 Y5 (some ⟨gD, 0, none⟩) n5 d5 by rw [hS.out]; exact sbox_far HX.out (by omega) _ _)
        have T10 := Lib.hid (show RowT wS W5.heap.size (some ⟨gD, 0, none⟩) n5 by rw [hS.out]; exact HT.out.set _ _ _)
        clear hS TH h1 h2 h3
        go_roundw
        case rel => exact ⟨j + 1, by omega, by go_num, B10, X10, T10⟩
        case measure => simp [intOf]; omega
      · have e : j = n5 := by omega
        subst e
        obtain ⟨h1, h2, h3⟩ := HX.out
        obtain ⟨i1, i2, i3⟩ := X3.out.grow HB.out
        obtain ⟨k1, k2, k3⟩ := HC3.out _ HB.out
        go_upto_region 25 with fail
        go_wp2_with fail
        refine (SM.out _ HB.out).mono ?_
        rintro e w11 ⟨rfl, hb⟩
        have B11 := Lib.hid (HB.out.trans (hb.mono HB.out.size))
        clear hb
        go_wp2_with fail
        refine (AW.out _).mono ?_
        rintro e w12 ⟨rfl, hb⟩
        have B12 := Lib.hid (BW0.out.trans ((B11.out.trans (hb.mono B11.out.size)).mono BW0.out.size))
        clear hb
        go_wp2
        go_ret
        exact ⟨rfl, B12.out⟩
  · have hq : m % 4 = 1 := hq
    obtain ⟨⟨⟨K5, Y5, l5⟩, e5⟩, hr5⟩ : ∃ r, swapR ⟨KI, Y, l⟩ k o v = r := ⟨_, rfl⟩
    have PM := Lib.hid (swap_any KI Y k o v (⟨K5, Y5, l5⟩, e5) (S3.out.below B35.out) hr5)
    have RM := Lib.hid (fun (V : World) (hV : Below W3.heap.size W3 V) => rswap_any (w := V) (c := c) KI Y k o v (⟨K5, Y5, l5⟩, e5) (H3.out.grow hV) hn hr5)
    have hl5 : l5.length ≤ 1000 := Nat.le_trans (swap_len hr5) (by omega)
    obtain ⟨h1, h2, h3⟩ := X3.out.grow B35.out
    clear hr5
    go_upto_region 16 with (first
      | (go_at_call 13; refine PM.out.mono ?_; rintro e w6 ⟨n5, d5, D5, rfl, hn5, hb⟩; have V6 := Lib.hid (V4.out.grow hb); have U6 := Lib.hid (V5.out.grow hb); have B6 := Lib.hid hb; have N6 := Lib.hid hn5; clear hb hn5)
      | (refine sp_store_as (op := ⟨none, .store 28 (.tmp 12) (.tmp 91), _, _, _, _⟩) rfl 28 (.tmp 12) (.tmp 91) rfl g4 0 #[.int .i64 K5, .int .i64 Y5, .slice D5 n5 d5] rfl rfl V6.out.th HS.out (sp_one _ _ _ _ _) ?_; intro W6 hW6)
      | fail)
    have hL5 : Hid (l5.length = n5) := Lib.hid N6.out.len
    have hn5 : n5 ≤ 1000 := by rw [← hL5.out]; exact hl5
    have b6 := B6.out.size
    have X6 := Lib.hid (show SBox W6 g4 K5 Y5 D5 n5 d5 by rw [hW6.out]; exact sbox_put V6.out _ _ _ _ _)
    have U7 := Lib.hid (show SVar W6 g5 by rw [hW6.out]; exact svar_far U6.out _ _ _)
    have B36 := Lib.hid (show Below W3.heap.size W3 W6 by rw [hW6.out]; exact sp_setCells y4 _ _ _ (B35.out.trans (B6.out.mono B35.out.size)))
    have N7 := Lib.hid (show NewP W6 W5.heap.size D5 n5 d5 l5 by rw [hW6.out]; exact N6.out.far (by omega) _ _)
    have b7 : W5.heap.size ≤ W6.heap.size := by rw [hW6.out]; exact Nat.le_trans b6 (sp_size_le _ _ _ _)
    clear PM hW6 h1 h2 h3 V6 U6 N6 B6
    obtain ⟨h1, h2, h3⟩ := HC3.out _ B36.out
    go_upto_region 20 with (first
      | (go_at_call 14; refine (RM.out _ B36.out).mono ?_; rintro e w8 ⟨n6, d6, D6, rfl, p6, f6, hb⟩; have B8 := Lib.hid hb; have P8 := Lib.hid p6; have F8 := Lib.hid f6; have U8 := Lib.hid (U7.out.grow hb); clear hb p6 f6)
      | (refine sp_store_as (op := ⟨none, .store 24 (.tmp 13) (.tmp 99), _, _, _, _⟩) rfl 24 (.tmp 13) (.tmp 99) rfl g5 0 #[.int .i64 K5, .int .i64 Y5, .slice D6 n6 d6] rfl rfl U8.out.th RS.out (sp_one _ _ _ _ _) ?_; intro W8 hW8)
      | fail)
    have b8 := B8.out.size
    have X8 := Lib.hid (show SBox W8 g4 K5 Y5 D5 n5 d5 by rw [hW8.out]; exact sbox_far (X6.out.grow B8.out) (by omega) _ _)
    have Y8 := Lib.hid (show SBox W8 g5 K5 Y5 D6 n6 d6 by rw [hW8.out]; exact sbox_put U8.out _ _ _ _ _)
    have B38 := Lib.hid (show Below W3.heap.size W3 W8 by rw [hW8.out]; exact sp_setCells y5 _ _ _ (B36.out.trans (B8.out.mono B36.out.size)))
    have N8 := Lib.hid (show NewP W8 W5.heap.size D5 n5 d5 l5 by rw [hW8.out]; exact (N7.out.below B8.out).far (by omega) _ _)
    have P9 := Lib.hid (show Prs W8 W8.heap.size D6 n6 l5 by rw [hW8.out]; exact (P8.out.farX F8.out (by omega) _ _).more (sp_size_le _ _ _ _))
    have hn6 : n6 ≤ maxLen := by
      have h6 : n6 ≤ 1000 := by rw [← P9.out.len]; exact hl5
      unfold maxLen; omega
    have IM := Lib.hid (lis_any K5 Y5 K5 Y5 d5 d6 true N8.out.prs P9.out hn5 hn6 (sameB_self _))
    clear hW8 h1 h2 h3 X6 U7 B36 N7 RM U8 B8 P8 F8 P9
    obtain ⟨h1, h2, h3⟩ := X8.out
    obtain ⟨i1, i2, i3⟩ := Y8.out
    go_wp2_with fail
    refine IM.out.mono ?_
    rintro e w9 ⟨rfl, hb⟩
    have B9 := Lib.hid (B38.out.trans (hb.mono B38.out.size))
    have X9 := Lib.hid (X8.out.grow hb)
    have T9 := Lib.hid ((N8.out.below hb).rowT)
    have y9 := Nat.le_trans B38.out.size hb.size
    clear hb h1 h2 h3 i1 i2 i3 X8 Y8 N8 B38 IM hn6 hl5 hL5 hq
    go_upto_region 22 with fail
    go_wp2
    go_loopw [21] (fun i wr => ∃ j : Nat, j ≤ n5 ∧ i = .int .i64 j ∧ Hid (Below W3.heap.size W3 wr) ∧ Hid (SBox wr g4 K5 Y5 D5 n5 d5) ∧ Hid (RowT wr W5.heap.size D5 n5)) (fun i _ => n5 - (intOf i).toNat)
    case atStart => exact ⟨0, by omega, rfl, B9, X9, T9⟩
    case round =>
      obtain ⟨j, hj, rfl, HB, HX, HT⟩ := hrel
      by_cases hlt : j < n5
      · have hltI : (j : Int) < (n5 : Int) := by omega
        obtain ⟨gD, rfl, hgD, ht⟩ := HT.out (by omega)
        have TH := Lib.hid (there_mid ht hlt)
        obtain ⟨h1, h2, h3⟩ := HX.out
        clear ht
        go_wp2_with (first
          | (refine sp_store_as (op := ⟨none, .store 46 (.tmp 134) (.tmp 133), _, _, _, _⟩) rfl 46 (.tmp 134) (.tmp 133) rfl gD (j * 2) #[.string ⟨#[63]⟩, .string ⟨#[]⟩] rfl rfl TH.out HPS.out (by simp [Value.oneCell']) ?_; intro wS hS)
          | fail)
        have B10 := Lib.hid (show Below W3.heap.size W3 wS by rw [hS.out]; exact sp_setCells (by omega) _ _ _ HB.out)
        have X10 := Lib.hid (show SBox wS g4 K5 Y5 (some ⟨gD, 0, none⟩) n5 d5 by rw [hS.out]; exact sbox_far HX.out (by omega) _ _)
        have T10 := Lib.hid (show RowT wS W5.heap.size (some ⟨gD, 0, none⟩) n5 by rw [hS.out]; exact HT.out.set _ _ _)
        clear hS TH h1 h2 h3
        go_roundw
        case rel => exact ⟨j + 1, by omega, by go_num, B10, X10, T10⟩
        case measure => simp [intOf]; omega
      · have e : j = n5 := by omega
        subst e
        obtain ⟨h1, h2, h3⟩ := HX.out
        obtain ⟨i1, i2, i3⟩ := X3.out.grow HB.out
        obtain ⟨k1, k2, k3⟩ := HC3.out _ HB.out
        go_upto_region 25 with fail
        go_wp2_with fail
        refine (SM.out _ HB.out).mono ?_
        rintro e w11 ⟨rfl, hb⟩
        have B11 := Lib.hid (HB.out.trans (hb.mono HB.out.size))
        clear hb
        go_wp2_with fail
        refine (AW.out _).mono ?_
        rintro e w12 ⟨rfl, hb⟩
        have B12 := Lib.hid (BW0.out.trans ((B11.out.trans (hb.mono B11.out.size)).mono BW0.out.size))
        clear hb
        go_wp2
        go_ret
        exact ⟨rfl, B12.out⟩
  · have hq : m % 4 = 2 := hq
    obtain ⟨⟨⟨K5, Y5, l5⟩, e5⟩, hr5⟩ : ∃ r, delR ⟨KI, Y, l⟩ k = r := ⟨_, rfl⟩
    have PM := Lib.hid (del_any KI Y k (⟨K5, Y5, l5⟩, e5) (S3.out.below B35.out) hr5)
    have RM := Lib.hid (fun (V : World) (hV : Below W3.heap.size W3 V) => rdel_any (w := V) (c := c) KI Y k (⟨K5, Y5, l5⟩, e5) (H3.out.grow hV) hn hr5)
    have hl5 : l5.length ≤ 1000 := Nat.le_trans (del_lenR hr5) (by show l.length ≤ 1000; rw [L1.out]; exact hn)
    obtain ⟨h1, h2, h3⟩ := X3.out.grow B35.out
    clear hr5
    go_upto_region 19 with (first
      | (go_at_call 15; refine PM.out.mono ?_; rintro e w6 ⟨n5, d5, D5, rfl, hn5, hb⟩; have V6 := Lib.hid (V4.out.grow hb); have U6 := Lib.hid (V5.out.grow hb); have B6 := Lib.hid hb; have N6 := Lib.hid hn5; clear hb hn5)
      | (refine sp_store_as (op := ⟨none, .store 28 (.tmp 12) (.tmp 107), _, _, _, _⟩) rfl 28 (.tmp 12) (.tmp 107) rfl g4 0 #[.int .i64 K5, .int .i64 Y5, .slice D5 n5 d5] rfl rfl V6.out.th HS.out (sp_one _ _ _ _ _) ?_; intro W6 hW6)
      | fail)
    have hL5 : Hid (l5.length = n5) := Lib.hid N6.out.len
    have hn5 : n5 ≤ 1000 := by rw [← hL5.out]; exact hl5
    have b6 := B6.out.size
    have X6 := Lib.hid (show SBox W6 g4 K5 Y5 D5 n5 d5 by rw [hW6.out]; exact sbox_put V6.out _ _ _ _ _)
    have U7 := Lib.hid (show SVar W6 g5 by rw [hW6.out]; exact svar_far U6.out _ _ _)
    have B36 := Lib.hid (show Below W3.heap.size W3 W6 by rw [hW6.out]; exact sp_setCells y4 _ _ _ (B35.out.trans (B6.out.mono B35.out.size)))
    have N7 := Lib.hid (show NewP W6 W5.heap.size D5 n5 d5 l5 by rw [hW6.out]; exact N6.out.far (by omega) _ _)
    have b7 : W5.heap.size ≤ W6.heap.size := by rw [hW6.out]; exact Nat.le_trans b6 (sp_size_le _ _ _ _)
    clear PM hW6 h1 h2 h3 V6 U6 N6 B6
    obtain ⟨h1, h2, h3⟩ := HC3.out _ B36.out
    go_upto_region 20 with (first
      | (go_at_call 16; refine (RM.out _ B36.out).mono ?_; rintro e w8 ⟨n6, d6, D6, rfl, p6, f6, hb⟩; have B8 := Lib.hid hb; have P8 := Lib.hid p6; have F8 := Lib.hid f6; have U8 := Lib.hid (U7.out.grow hb); clear hb p6 f6)
      | (refine sp_store_as (op := ⟨none, .store 24 (.tmp 13) (.tmp 113), _, _, _, _⟩) rfl 24 (.tmp 13) (.tmp 113) rfl g5 0 #[.int .i64 K5, .int .i64 Y5, .slice D6 n6 d6] rfl rfl U8.out.th RS.out (sp_one _ _ _ _ _) ?_; intro W8 hW8)
      | fail)
    have b8 := B8.out.size
    have X8 := Lib.hid (show SBox W8 g4 K5 Y5 D5 n5 d5 by rw [hW8.out]; exact sbox_far (X6.out.grow B8.out) (by omega) _ _)
    have Y8 := Lib.hid (show SBox W8 g5 K5 Y5 D6 n6 d6 by rw [hW8.out]; exact sbox_put U8.out _ _ _ _ _)
    have B38 := Lib.hid (show Below W3.heap.size W3 W8 by rw [hW8.out]; exact sp_setCells y5 _ _ _ (B36.out.trans (B8.out.mono B36.out.size)))
    have N8 := Lib.hid (show NewP W8 W5.heap.size D5 n5 d5 l5 by rw [hW8.out]; exact (N7.out.below B8.out).far (by omega) _ _)
    have P9 := Lib.hid (show Prs W8 W8.heap.size D6 n6 l5 by rw [hW8.out]; exact (P8.out.farX F8.out (by omega) _ _).more (sp_size_le _ _ _ _))
    have hn6 : n6 ≤ maxLen := by
      have h6 : n6 ≤ 1000 := by rw [← P9.out.len]; exact hl5
      unfold maxLen; omega
    have IM := Lib.hid (lis_any K5 Y5 K5 Y5 d5 d6 true N8.out.prs P9.out hn5 hn6 (sameB_self _))
    clear hW8 h1 h2 h3 X6 U7 B36 N7 RM U8 B8 P8 F8 P9
    obtain ⟨h1, h2, h3⟩ := X8.out
    obtain ⟨i1, i2, i3⟩ := Y8.out
    go_wp2_with fail
    refine IM.out.mono ?_
    rintro e w9 ⟨rfl, hb⟩
    have B9 := Lib.hid (B38.out.trans (hb.mono B38.out.size))
    have X9 := Lib.hid (X8.out.grow hb)
    have T9 := Lib.hid ((N8.out.below hb).rowT)
    have y9 := Nat.le_trans B38.out.size hb.size
    clear hb h1 h2 h3 i1 i2 i3 X8 Y8 N8 B38 IM hn6 hl5 hL5 hq
    go_upto_region 22 with fail
    go_wp2
    go_loopw [21] (fun i wr => ∃ j : Nat, j ≤ n5 ∧ i = .int .i64 j ∧ Hid (Below W3.heap.size W3 wr) ∧ Hid (SBox wr g4 K5 Y5 D5 n5 d5) ∧ Hid (RowT wr W5.heap.size D5 n5)) (fun i _ => n5 - (intOf i).toNat)
    case atStart => exact ⟨0, by omega, rfl, B9, X9, T9⟩
    case round =>
      obtain ⟨j, hj, rfl, HB, HX, HT⟩ := hrel
      by_cases hlt : j < n5
      · have hltI : (j : Int) < (n5 : Int) := by omega
        obtain ⟨gD, rfl, hgD, ht⟩ := HT.out (by omega)
        have TH := Lib.hid (there_mid ht hlt)
        obtain ⟨h1, h2, h3⟩ := HX.out
        clear ht
        go_wp2_with (first
          | (refine sp_store_as (op := ⟨none, .store 46 (.tmp 134) (.tmp 133), _, _, _, _⟩) rfl 46 (.tmp 134) (.tmp 133) rfl gD (j * 2) #[.string ⟨#[63]⟩, .string ⟨#[]⟩] rfl rfl TH.out HPS.out (by simp [Value.oneCell']) ?_; intro wS hS)
          | fail)
        have B10 := Lib.hid (show Below W3.heap.size W3 wS by rw [hS.out]; exact sp_setCells (by omega) _ _ _ HB.out)
        have X10 := Lib.hid (show SBox wS g4 K5 Y5 (some ⟨gD, 0, none⟩) n5 d5 by rw [hS.out]; exact sbox_far HX.out (by omega) _ _)
        have T10 := Lib.hid (show RowT wS W5.heap.size (some ⟨gD, 0, none⟩) n5 by rw [hS.out]; exact HT.out.set _ _ _)
        clear hS TH h1 h2 h3
        go_roundw
        case rel => exact ⟨j + 1, by omega, by go_num, B10, X10, T10⟩
        case measure => simp [intOf]; omega
      · have e : j = n5 := by omega
        subst e
        obtain ⟨h1, h2, h3⟩ := HX.out
        obtain ⟨i1, i2, i3⟩ := X3.out.grow HB.out
        obtain ⟨k1, k2, k3⟩ := HC3.out _ HB.out
        go_upto_region 25 with fail
        go_wp2_with fail
        refine (SM.out _ HB.out).mono ?_
        rintro e w11 ⟨rfl, hb⟩
        have B11 := Lib.hid (HB.out.trans (hb.mono HB.out.size))
        clear hb
        go_wp2_with fail
        refine (AW.out _).mono ?_
        rintro e w12 ⟨rfl, hb⟩
        have B12 := Lib.hid (BW0.out.trans ((B11.out.trans (hb.mono B11.out.size)).mono BW0.out.size))
        clear hb
        go_wp2
        go_ret
        exact ⟨rfl, B12.out⟩
  · have hq : m % 4 = 3 := hq
    obtain ⟨⟨v0, e0⟩, hg⟩ : ∃ z, getR ⟨KI, Y, l⟩ k = z := ⟨_, rfl⟩
    have GM := Lib.hid (get_any KI Y k v0 e0 (S3.out.below B35.out) hg)
    have RM := Lib.hid (fun (V : World) (hV : Below W3.heap.size W3 V) => rget_any (w := V) (c := c) KI Y k v0 e0 (H3.out.grow hV) hn hg)
    have SQ := seq_of v0 v0
    rw [decide_eq_true rfl] at SQ
    obtain ⟨h1, h2, h3⟩ := X3.out.grow B35.out
    clear hg
    go_wp2_with fail
    refine GM.out.mono ?_
    rintro e w6 ⟨rfl, hb⟩
    have B6 := Lib.hid (B35.out.trans (hb.mono B35.out.size))
    clear hb h1 h2 h3 hq
    obtain ⟨h1, h2, h3⟩ := HC3.out _ B6.out
    go_wp2_with fail
    refine (RM.out _ B6.out).mono ?_
    rintro e w7 ⟨rfl, hb⟩
    have B7 := Lib.hid (B6.out.trans (hb.mono B6.out.size))
    clear hb h1 h2 h3
    obtain ⟨i1, i2, i3⟩ := X3.out.grow B7.out
    obtain ⟨k1, k2, k3⟩ := HC3.out _ B7.out
    go_wp2_with fail
    refine (SM.out _ B7.out).mono ?_
    rintro e w11 ⟨rfl, hb⟩
    have B11 := Lib.hid (B7.out.trans (hb.mono B7.out.size))
    clear hb
    go_wp2_with fail
    refine (AW.out _).mono ?_
    rintro e w12 ⟨rfl, hb⟩
    have B12 := Lib.hid (BW0.out.trans ((B11.out.trans (hb.mono B11.out.size)).mono BW0.out.size))
    clear hb
    go_wp2
    go_ret
    exact ⟨rfl, B12.out⟩
theorem spDoes_in (KI Y : Int) (A : Option Addr) (n c : Nat) (l : List PairZ) (m : Int) (k o v : ByteArray) (w : World) (hK : -9223372036854775808 ≤ KI ∧ KI ≤ 9223372036854775807) (hY : -9223372036854775808 ≤ Y ∧ Y ≤ 9223372036854775807) (h : Prs w w.heap.size A n l) (hnc : n ≤ c) (hcm : c ≤ maxLen) (hm0 : 0 ≤ m) (hm1 : m < 256) (h1 : k.size ≤ maxLen) (h2 : o.size ≤ maxLen) (h3 : v.size ≤ maxLen) :
    Calls Try.prog 3 #[.agg #[.int .i64 KI, .int .i64 Y, .slice A n c], .int .u8 m, .string k, .string o, .string v] w (fun e w' => e = .returned (.bool true) ∧ Below w.heap.size w w') := spDoes_any KI Y A n c l m k o v w h hm0 hm1
end Go.Proofs.Ytmlkcedhjnmfgaa
