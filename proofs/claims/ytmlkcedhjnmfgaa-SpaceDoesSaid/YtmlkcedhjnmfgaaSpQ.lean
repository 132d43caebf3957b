/- The chapter's examples. -/
import Derived.Test.YtmlkcedhjnmfgaaSpP
namespace Go.Proofs.Ytmlkcedhjnmfgaa
open Go.ChangeShapes Go.WideShapes Go.ChangeAt Go.RowKit
set_option linter.unusedVariables false
set_option linter.unusedSimpArgs false
open Plain Sp
def Sp.lS : List PairZ := [⟨⟨#[97]⟩, ⟨#[50]⟩⟩, ⟨⟨#[98]⟩, ⟨#[49]⟩⟩]
def Sp.lT : List PairZ := [⟨⟨#[97]⟩, ⟨#[51]⟩⟩, ⟨⟨#[98]⟩, ⟨#[49]⟩⟩]
theorem ex_p1 : (putsR [⟨#[97]⟩, ⟨#[49, 50, 51]⟩, ⟨#[98]⟩, ⟨#[52, 53, 54, 55]⟩, ⟨#[99]⟩, ⟨#[]⟩] (newR 2 10)).2 = 120 := by kernel_rfl
theorem ex_p2 : (putsR [⟨#[97]⟩, ⟨#[49, 50, 51]⟩, ⟨#[97]⟩, ⟨#[49, 50, 51, 52, 53, 54, 55, 56]⟩] (newR 2 10)).2 = 0 := by kernel_rfl
theorem ex_p3 : (putsR [⟨#[97]⟩, ⟨#[49, 50, 51]⟩, ⟨#[97]⟩, ⟨#[49, 50, 51, 52, 53, 54, 55, 56, 57, 48]⟩] (newR 2 10)).2 = 120 := by kernel_rfl
theorem ex_p4 : putsR [⟨#[98]⟩, ⟨#[49]⟩, ⟨#[97]⟩, ⟨#[50]⟩] (newR 2 10) = (⟨2, 10, lS⟩, 0) := by kernel_rfl
theorem ex_s1 : swapR ⟨2, 10, lS⟩ ⟨#[97]⟩ ⟨#[49]⟩ ⟨#[51]⟩ = (sp0, 111) := by kernel_rfl
theorem ex_s2 : swapR ⟨2, 10, lS⟩ ⟨#[99]⟩ ⟨#[49]⟩ ⟨#[51]⟩ = (sp0, 110) := by kernel_rfl
theorem ex_s3 : swapR ⟨2, 10, lS⟩ ⟨#[97]⟩ ⟨#[50]⟩ ⟨#[51]⟩ = (⟨2, 10, lT⟩, 0) := by kernel_rfl
theorem ex_g : getR ⟨2, 10, lT⟩ ⟨#[97]⟩ = (⟨#[51]⟩, 0) := by kernel_rfl
theorem ex_l1 : listR ⟨2, 10, lS⟩ ⟨#[]⟩ 1 = [⟨#[97]⟩] := by kernel_rfl
theorem ex_l2 : listR ⟨2, 10, lS⟩ ⟨#[98]⟩ 9 = [⟨#[98]⟩] := by kernel_rfl
theorem ex_u1 : (if mayB ⟨2, 10, lS⟩ then 2 else 0) = 2 := by kernel_rfl
theorem ex_u2 : (if mayB ⟨2, 10, lS⟩ then cnt lS else 0) = 4 := by kernel_rfl
theorem sr_new (w : World) (zs : List ByteArray) (n : Nat) (hn : zs.length = n) (t : TypeId) (g : Nat) (hg : w.heap.size = g) : Sr (w.alloc (.cells (svs zs).toArray t)) (g + 1) (some ⟨g, 0, none⟩) n zs := by
  subst hg hn
  refine ⟨rfl, fun hn => ⟨w.heap.size, 0, rfl, by omega, fun j z hz => ?_⟩⟩
  rw [cell_of_row _ _ _ _ _ _ (heap_alloc_new w _), Nat.zero_add, List.getElem?_toArray, svs, List.getElem?_map, hz]; rfl
theorem lit_put {w0 V : World} (h0 : Below w0.heap.size w0 V) (zs : List ByteArray) (cs : Array Value) (hcs : cs = (svs zs).toArray) (n : Nat) (hn : zs.length = n) (h20 : n ≤ 20) (q : SpZ × Int) (hq : putsR zs (newR 2 10) = q) (t : TypeId) (g : Nat) (hg : V.heap.size = g) :
    Calls Try.prog 42 #[.slice (some ⟨g, 0, none⟩) n n] (V.alloc (.cells cs t)) (fun e w' => ∃ n d D, e = .returned (.tuple #[.agg #[.int .i64 q.1.K, .int .i64 q.1.Y, .slice D n d], .int .i64 q.2]) ∧ NewP w' w0.heap.size D n d q.1.l ∧ Below w0.heap.size w0 w') := by
  subst hcs
  refine (lput_any n q (sr_new V zs n hn t g hg) (by simp; omega) h20 hq).mono ?_
  rintro e w' ⟨n', d, D, rfl, hn, hb⟩
  have h1 := h0.alloc h0.size (.cells (svs zs).toArray t)
  exact ⟨n', d, D, rfl, hn.rebase h1.size, h1.trans (hb.mono h1.size)⟩
theorem lit_err {w0 V : World} (h0 : Below w0.heap.size w0 V) (zs : List ByteArray) (cs : Array Value) (hcs : cs = (svs zs).toArray) (n : Nat) (hn : zs.length = n) (h20 : n ≤ 20) (x : Int) (hx : (putsR zs (newR 2 10)).2 = x) (t : TypeId) (g : Nat) (hg : V.heap.size = g) :
    Calls Try.prog 42 #[.slice (some ⟨g, 0, none⟩) n n] (V.alloc (.cells cs t)) (fun e w' => ∃ K Y n d D, e = .returned (.tuple #[.agg #[.int .i64 K, .int .i64 Y, .slice D n d], .int .i64 x]) ∧ Below w0.heap.size w0 w') := by
  subst hx
  refine (lit_put h0 zs cs hcs n hn h20 _ rfl t g hg).mono ?_
  rintro e w' ⟨n', d, D, rfl, _, hb⟩
  exact ⟨_, _, n', d, D, rfl, hb⟩
theorem swap_err {w : World} {n c : Nat} {A : Option Addr} {l : List PairZ} (K Y : Int) (k o v : ByteArray) (x : Int) (h : Spc w A n c l) (hr : swapR ⟨K, Y, l⟩ k o v = (sp0, x)) :
    Calls Try.prog 13 #[.agg #[.int .i64 K, .int .i64 Y, .slice A n c], .string k, .string o, .string v] w (fun e w' => ∃ n d D, e = .returned (.tuple #[.agg #[.int .i64 0, .int .i64 0, .slice D n d], .int .i64 x]) ∧ Below w.heap.size w w') := by
  refine (swap_any K Y k o v _ h hr).mono ?_
  rintro e w' ⟨n, d, D, rfl, _, hb⟩
  exact ⟨n, d, D, rfl, hb⟩
set_option maxRecDepth 100000 in
set_option maxHeartbeats 2000000 in
theorem spawake_any (w : World) : Calls Try.prog 20 #[] w (fun e w' => e = .returned (.bool true) ∧ Below w.heap.size w w') := by
  go_enter Try.func20, Try.ntmps20
  go_wp2_with fail
  refine (lit_err (Below.refl _ w) [⟨#[97]⟩, ⟨#[49, 50, 51]⟩, ⟨#[98]⟩, ⟨#[52, 53, 54, 55]⟩, ⟨#[99]⟩, ⟨#[]⟩] _ rfl 6 rfl (by omega) 120 ex_p1 _ _ rfl).mono ?_
  rintro e w1 ⟨K1, Y1, n1, d1, D1, rfl, hb⟩
  have B1 := Lib.hid (hb.alloc hb.size (.cells #[.int .i64 K1, .int .i64 Y1, .slice D1 n1 d1] 28))
  clear hb
  go_wp2_with fail
  refine (lit_err B1.out [⟨#[97]⟩, ⟨#[49, 50, 51]⟩, ⟨#[97]⟩, ⟨#[49, 50, 51, 52, 53, 54, 55, 56]⟩] _ rfl 4 rfl (by omega) 0 ex_p2 _ _ (by simp)).mono ?_
  rintro e w2 ⟨K2, Y2, n2, d2, D2, rfl, hb⟩
  have B2 := Lib.hid (hb.alloc hb.size (.cells #[.int .i64 K2, .int .i64 Y2, .slice D2 n2 d2] 28))
  clear hb B1
  go_wp2_with fail
  refine (lit_err B2.out [⟨#[97]⟩, ⟨#[49, 50, 51]⟩, ⟨#[97]⟩, ⟨#[49, 50, 51, 52, 53, 54, 55, 56, 57, 48]⟩] _ rfl 4 rfl (by omega) 120 ex_p3 _ _ (by simp)).mono ?_
  rintro e w3 ⟨K3, Y3, n3, d3, D3, rfl, hb⟩
  have B3 := Lib.hid (hb.alloc hb.size (.cells #[.int .i64 K3, .int .i64 Y3, .slice D3 n3 d3] 28))
  clear hb B2
  go_wp2_with fail
  refine (lit_put B3.out [⟨#[98]⟩, ⟨#[49]⟩, ⟨#[97]⟩, ⟨#[50]⟩] _ rfl 4 rfl (by omega) _ ex_p4 _ _ (by simp)).mono ?_
  rintro e w4 ⟨n4, d4, D4, rfl, hn4, hb⟩
  obtain rfl : 2 = n4 := hn4.len
  obtain ⟨g, hg⟩ : ∃ g, w4.heap.size = g := ⟨_, rfl⟩
  obtain ⟨W4, hW4⟩ : ∃ W, W = w4.alloc (.cells #[.int .i64 2, .int .i64 10, .slice D4 2 d4] 28) := ⟨_, rfl⟩
  have B4 := Lib.hid (show Below w.heap.size w W4 by rw [hW4]; exact hb.alloc hb.size _)
  have X4 := Lib.hid (show SBox W4 g 2 10 D4 2 d4 by rw [hW4]; exact sbox_new _ _ _ _ _ _ _ _ hg)
  have N4 := Lib.hid (show NewP W4 w.heap.size D4 2 d4 lS by rw [hW4]; exact hn4.below (below_one _ _))
  have HG := Lib.hid hg
  have HW4 := Lib.hid hW4
  clear hb B3 hn4 hg hW4
  go_upto_region 5 with fail
  rw [HG.out, ← HW4.out]
  obtain ⟨h1, h2, h3⟩ := X4.out
  go_wp2_with fail
  refine (swap_err 2 10 ⟨#[97]⟩ ⟨#[49]⟩ ⟨#[51]⟩ 111 (N4.out.spc (by omega)) ex_s1).mono ?_
  rintro e w5 ⟨n5, d5, D5, rfl, hb⟩
  obtain ⟨W5, hW5⟩ : ∃ W, W = w5.alloc (.cells #[.int .i64 0, .int .i64 0, .slice D5 n5 d5] 28) := ⟨_, rfl⟩
  have B5 := Lib.hid (show Below W4.heap.size W4 W5 by rw [hW5]; exact hb.alloc hb.size _)
  have HW5 := Lib.hid hW5
  clear hb hW5 h1 h2 h3
  go_upto_region 6 with fail
  rw [← HW5.out]
  obtain ⟨h1, h2, h3⟩ := X4.out.grow B5.out
  go_wp2_with fail
  refine (swap_err 2 10 ⟨#[99]⟩ ⟨#[49]⟩ ⟨#[51]⟩ 110 ((N4.out.below B5.out).spc (by omega)) ex_s2).mono ?_
  rintro e w6 ⟨n6, d6, D6, rfl, hb⟩
  obtain ⟨W6, hW6⟩ : ∃ W, W = w6.alloc (.cells #[.int .i64 0, .int .i64 0, .slice D6 n6 d6] 28) := ⟨_, rfl⟩
  have B6 := Lib.hid (show Below W4.heap.size W4 W6 by rw [hW6]; exact B5.out.trans ((hb.alloc hb.size _).mono B5.out.size))
  have HW6 := Lib.hid hW6
  clear hb hW6 h1 h2 h3
  go_upto_region 7 with fail
  rw [← HW6.out]
  obtain ⟨h1, h2, h3⟩ := X4.out.grow B6.out
  go_wp2_with fail
  refine (swap_any 2 10 ⟨#[97]⟩ ⟨#[50]⟩ ⟨#[51]⟩ _ ((N4.out.below B6.out).spc (by omega)) ex_s3).mono ?_
  rintro e w7 ⟨n7, d7, D7, rfl, hn7, hb⟩
  obtain rfl : 2 = n7 := hn7.len
  obtain ⟨g7, hg7⟩ : ∃ g, w7.heap.size = g := ⟨_, rfl⟩
  obtain ⟨W7, hW7⟩ : ∃ W, W = w7.alloc (.cells #[.int .i64 2, .int .i64 10, .slice D7 2 d7] 28) := ⟨_, rfl⟩
  have B7 := Lib.hid (show Below W4.heap.size W4 W7 by rw [hW7]; exact B6.out.trans ((hb.alloc hb.size _).mono B6.out.size))
  have X7 := Lib.hid (show SBox W7 g7 2 10 D7 2 d7 by rw [hW7]; exact sbox_new _ _ _ _ _ _ _ _ hg7)
  have N7 := Lib.hid (show NewP W7 W6.heap.size D7 2 d7 lT by rw [hW7]; exact hn7.below (below_one _ _))
  have HG7 := Lib.hid hg7
  have HW7 := Lib.hid hW7
  clear hb hW7 hg7 hn7 h1 h2 h3 B6
  go_upto_region 8 with fail
  rw [HG7.out, ← HW7.out]
  obtain ⟨h1, h2, h3⟩ := X7.out
  go_wp2_with fail
  refine (get_any 2 10 ⟨#[97]⟩ _ _ (N7.out.spc (by omega)) ex_g).mono ?_
  rintro e w8 ⟨rfl, hb⟩
  have B8 := Lib.hid (B7.out.trans (hb.mono B7.out.size))
  clear hb h1 h2 h3
  obtain ⟨h1, h2, h3⟩ := X4.out.grow B8.out
  go_wp2_with fail
  refine (list_any 2 10 ⟨#[]⟩ 1 1 _ ((N4.out.below B8.out).spc (by omega)) (by omega) (by omega) ex_l1 rfl).mono ?_
  rintro e w9 ⟨D9, d9, rfl, ho, hb⟩
  obtain ⟨b9, o9, z9, rfl, _, hz, c9⟩ := (sr_of_own ho).at_ (k := 0) (by omega)
  obtain rfl : ⟨#[97]⟩ = z9 := Option.some.inj hz.out
  have B9 := Lib.hid (B8.out.trans (hb.mono B8.out.size))
  clear hb h1 h2 h3 hz
  have hlt9 : b9 < w9.heap.size := World.block_lt_of_cell? _ _ c9
  have S9 := Lib.hid c9
  obtain ⟨h1, h2, h3⟩ := X4.out.grow B9.out
  clear c9 ho
  go_wp2_with fail
  refine (list_any 2 10 ⟨#[98]⟩ 9 1 _ ((N4.out.below B9.out).spc (by omega)) (by omega) (by omega) ex_l2 rfl).mono ?_
  rintro e w10 ⟨D10, d10, rfl, ho, hb⟩
  obtain ⟨b10, o10, z10, rfl, _, hz, c10⟩ := (sr_of_own ho).at_ (k := 0) (by omega)
  obtain rfl : ⟨#[98]⟩ = z10 := Option.some.inj hz.out
  have B10 := Lib.hid (B9.out.trans (hb.mono B9.out.size))
  have S10 := Lib.hid ((hb.cell (p := ⟨b9, o9 + 0, none⟩) hlt9).trans S9.out)
  have hlt10 : b10 < w10.heap.size := World.block_lt_of_cell? _ _ c10
  have hlt91 : b9 < w10.heap.size := Nat.lt_of_lt_of_le hlt9 hb.size
  have T10 := Lib.hid c10
  clear hb h1 h2 h3 hz c10 ho
  obtain ⟨h1, h2, h3⟩ := X4.out.grow B10.out
  go_wp2_with fail
  refine (used_any 2 10 2 4 ((N4.out.below B10.out).spc (by omega)) ex_u1 ex_u2).mono ?_
  rintro e w11 ⟨rfl, hb⟩
  have B11 := Lib.hid (B4.out.trans ((B10.out.trans (hb.mono B10.out.size)).mono B4.out.size))
  have c1 : w11.cell? ⟨b9, o9, none⟩ = some (.string ⟨#[97]⟩) := (hb.cell (p := ⟨b9, o9 + 0, none⟩) hlt91).trans S10.out
  have c2 : w11.cell? ⟨b10, o10, none⟩ = some (.string ⟨#[98]⟩) := (hb.cell (p := ⟨b10, o10 + 0, none⟩) hlt10).trans T10.out
  clear hb h1 h2 h3
  go_wp2
  go_ret
  exact ⟨rfl, B11.out⟩
end Go.Proofs.Ytmlkcedhjnmfgaa
