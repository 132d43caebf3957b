/- The document's own answer for hmac. -/
import Derived.Test.YtmglhfhcljdfcaaDoorR3
import Derived.Test.YtmglhfhcljdfcaaDoorHmacZ
import Derived.Test.YtmglhfhcljdfcaaDoorTagEq
import Derived.Test.YtmglhfhcljdfcaaDoorHBlk
import Derived.Test.YtmglhfhcljdfcaaDoorHDer
import Derived.Deep.Cut
namespace Go.Proofs.YtmglhfhcljdfcaaDoor
open Go.ChangeShapes Go.WideShapes Go.ChangeAt Go.RowKit
set_option linter.unusedVariables false
open Plain Sha
set_option maxRecDepth 100000 in
set_option maxHeartbeats 2000000 in
theorem refbytes_any (T : List Int) (hl : T.length = 32) (hb : IsBytes T) (w : World) :
    Calls Tryd.prog 43 #[.agg (vals T).toArray] w (Made w T) := by
  obtain ⟨i0, hi0, hz0, hz1, hz2⟩ := info_parts u8_row
  have I0 := Lib.hid hi0
  have I1 := Lib.hid hz0
  have I2 := Lib.hid hz1
  have I3 := Lib.hid hz2
  have HL := Lib.hid hl
  have HB := Lib.hid hb
  obtain ⟨W0, hW0⟩ : ∃ W0, W0 = w.alloc (.cells (vals T).toArray 25) := ⟨_, rfl⟩
  have r0 : Row8 W0 w.heap.size 0 T := by rw [hW0]; exact Row8.new w T _
  have b0 : Below w.heap.size w W0 := by rw [hW0]; exact (Below.refl _ _).alloc (Nat.le_refl _) _
  have s0 : w.heap.size < W0.heap.size := by rw [hW0]; simp
  have HW0 := Lib.hid hW0
  have R0 := Lib.hid r0
  have B0 := Lib.hid b0
  clear hi0 hz0 hz1 hz2 hl hb hW0 r0 b0
  go_enter Tryd.func43, Tryd.ntmps43
  go_wp2
  rw [← HW0.out]
  go_loopw [3, 4] (fun v i wr => ∃ k : Nat, k ≤ 32 ∧ i = .int .i64 k ∧ Hid (wr.ownsRow (w.heap.size + 1) 5 1 v k (vals (T.take k))) ∧ Hid (Below W0.heap.size W0 wr)) (fun _ i _ => 32 - (intOf i).toNat)
  case atStart => exact ⟨0, by omega, rfl, Lib.hid (World.ownsRow_nil _ _ _ _), Lib.hid (Below.refl _ _)⟩
  case round =>
    obtain ⟨k, hk, rfl, HO, HB2⟩ := hrel
    have sr := HB2.out.size
    by_cases hlt : k < 32
    · have hkI : (k : Int) < 32 := by omega
      have RW := R0.out.same (HB2.out.block w.heap.size s0)
      have hc := RW.range k _ (vals_at T k (by rw [HL.out]; exact hlt))
      rw [Nat.zero_add] at hc
      obtain ⟨u, hu⟩ : ∃ u, T.getD k 0 = u := ⟨_, rfl⟩
      rw [hu] at hc
      have HT : Hid (vals (T.take (k + 1)) = vals (T.take k) ++ [.int .u8 u]) := Lib.hid (by rw [take_snoc_getD _ _ (by rw [HL.out]; exact hlt), vals_app, hu]; rfl)
      clear hu RW
      go_wp2_with (at_builtin; refine wpList_append_own _ rfl (.tmp 9) (.tmp 13) 22 rfl (w.heap.size + 1) 5 i0 _ 1 1 Tryd.underlying22 I0.out I1.out I2.out I3.out rfl (by decide) u3 k (vals (T.take k)) rfl (HO.out.alloc _) ⟨wr.heap.size, 0, none⟩ 1 1 [.int .u8 u] rfl rfl (World.news_of_block (cs := #[.int .u8 u]) (t := 5) (fr := (0, 0)) (heap_alloc_new wr _)) (by simp [Value.oneCell']) (by unfold maxLen; omega) (by omega) (by simp; omega) ?_; intro v2 w2 ho2 hg2 _)
      have b2 : Below W0.heap.size W0 w2 := (HB2.out.alloc sr _).grown hg2 (by simp; omega) (fun q hq => by
        have h1 := (HO.out.lt q hq).1
        have h2 : W0.heap.size ≤ w.heap.size + 1 := by rw [HW0.out]; simp
        omega)
      have ho2' : w2.ownsRow (w.heap.size + 1) 5 1 v2 (k + 1) (vals (T.take (k + 1))) := by rw [HT.out]; exact ho2
      clear ho2 hg2
      go_roundw
      case rel => exact ⟨k + 1, by omega, by go_num, Lib.hid ho2', Lib.hid b2⟩
      case measure => simp [intOf]; omega
    · have hk32 : k = 32 := by omega
      have HM : Hid (Made w T (.returned u3) wr) := Lib.hid (made_of (n := k) (by rw [HL.out, hk32]) (by
        have := HO.out
        rw [hk32, List.take_of_length_le (by rw [HL.out]; exact Nat.le_refl _)] at this
        rw [hk32]
        exact own_base this (by omega)) (B0.out.trans (HB2.out.mono B0.out.size)))
      have hge : ¬ (k : Int) < 32 := by omega
      clear hk32 HO HB2
      go_wp2
      go_ret
      exact HM.out
theorem keyZ_at (zs : List Int) (k : Nat) (hk : k < 64) : (keyZ zs).getD k 0 = if k < (shortZ zs).length then (shortZ zs).getD k 0 else 0 := by
  unfold keyZ
  split
  · next h => rw [List.getD_eq_getElem?_getD, List.getElem?_append_left h, ← List.getD_eq_getElem?_getD]
  · next h => rw [List.getD_eq_getElem?_getD, List.getElem?_append_right (by omega), ← List.getD_eq_getElem?_getD, rep_at _ _ _ (by omega)]
theorem blockZ_at (zs : List Int) (x : Int) (k : Nat) (hk : k < 64) : (blockZ zs x).getD k 0 = bits .xor .u8 ((keyZ zs).getD k 0) x := by
  unfold blockZ
  rw [xorZ_at _ _ _ (by rw [keyZ_len]; exact hk) (by rw [List.length_replicate]; exact hk), rep_at 64 k x hk]
set_option maxRecDepth 100000 in
set_option maxHeartbeats 4000000 in
theorem refblock_short {w : World} {B : Nat} {A : Option Addr} {nk : Nat} (c : Nat) {zs : List Int} (x : Int) (hx0 : 0 ≤ x) (hx1 : x < 256) (hz : Bs w B A nk zs) (hB : B ≤ w.heap.size) (hn : nk ≤ 64) :
    Calls Tryd.prog 42 #[.slice A nk c, .int .u8 x] w (Made w (blockZ zs x)) := by
  obtain ⟨i0, hi0, hz0, hz1, hz2⟩ := info_parts u8_row
  have I0 := Lib.hid hi0
  have I1 := Lib.hid hz0
  have I2 := Lib.hid hz1
  have I3 := Lib.hid hz2
  clear hi0 hz0 hz1 hz2
  have g1 : ¬ 64 < (nk : Int) := by omega
  have LK : Hid ((shortZ zs).length = nk) := Lib.hid (by rw [shortZ_of (by rw [hz.len]; exact hn), hz.len])
  have SK : Hid (shortZ zs = zs) := Lib.hid (shortZ_of (by rw [hz.len]; exact hn))
  have ZK : Hid (Bs w B A nk (shortZ zs)) := Lib.hid (by rw [SK.out]; exact hz)
  have QK : Hid (Below w.heap.size w w) := Lib.hid (Below.refl _ _)
  have ZK' : Hid (Bs w w.heap.size A nk (shortZ zs)) := Lib.hid (ZK.out.more hB)
  clear hz ZK SK
  have ZK := ZK'
  clear ZK'
  go_enter Tryd.func42, Tryd.ntmps42
  go_wp2
  go_loopw [5, 6] (fun v i wr => ∃ k : Nat, k ≤ 64 ∧ i = .int .i64 k ∧ Hid (wr.ownsRow w.heap.size 5 1 v k (vals ((blockZ zs x).take k))) ∧ Hid (Below w.heap.size w wr)) (fun _ i _ => 64 - (intOf i).toNat)
  case atStart => exact ⟨0, by omega, rfl, Lib.hid (World.ownsRow_nil _ _ _ _), Lib.hid (Below.refl _ _)⟩
  case round =>
    obtain ⟨k, hk, rfl, HO, HB2⟩ := hrel
    have sr := HB2.out.size
    have sw := QK.out.size
    by_cases hlt : k < 64
    · have hkI : (k : Int) < 64 := by omega
      obtain ⟨u, hu⟩ : ∃ u, (keyZ zs).getD k 0 = u := ⟨_, rfl⟩
      have HT : Hid (vals ((blockZ zs x).take (k + 1)) = vals ((blockZ zs x).take k) ++ [.int .u8 (bits .xor .u8 u x)]) := Lib.hid (by rw [take_snoc_getD _ _ (by rw [blockZ_len]; exact hlt), vals_app, blockZ_at zs x k hlt, hu]; rfl)
      have HU := Lib.hid hu
      clear hu
      have zk := ZK.out.belowM HB2.out (by omega)
      by_cases hkn : k < nk
      · have hknI : (k : Int) < (nk : Int) := by omega
        obtain ⟨b1, o1, u1, hAk, hb1, HU1, hu1, hu1', hc1⟩ := zk.at_ (k := k) hkn
        subst hAk
        have e1 : u1 = u := by rw [← HU1.out, ← HU.out, keyZ_at zs k hlt, if_pos (by rw [LK.out]; exact hkn)]
        subst e1
        clear zk
        go_wp2_with (at_builtin; refine wpList_append_own _ rfl (.tmp 26) (.tmp 30) 22 rfl w.heap.size 5 i0 _ 1 1 Tryd.underlying22 I0.out I1.out I2.out I3.out rfl (by decide) u5 k (vals ((blockZ zs x).take k)) rfl (HO.out.alloc _) ⟨wr.heap.size, 0, none⟩ 1 1 [.int .u8 (bits .xor .u8 u1 x)] rfl rfl (World.news_of_block (cs := #[.int .u8 (bits .xor .u8 u1 x)]) (t := 5) (fr := (0, 0)) (heap_alloc_new wr _)) (by simp [Value.oneCell']) (by unfold maxLen; omega) (by omega) (by simp; omega) ?_; intro v2 w2 ho2 hg2 _)
        have b2' : Below w.heap.size w w2 := (HB2.out.alloc sr _).grown hg2 (by simp; omega) (fun q hq => (HO.out.lt q hq).1)
        have ho2' : w2.ownsRow w.heap.size 5 1 v2 (k + 1) (vals ((blockZ zs x).take (k + 1))) := by rw [HT.out]; exact ho2
        clear ho2 hg2
        go_roundw
        case rel => exact ⟨k + 1, by omega, by go_num, Lib.hid ho2', Lib.hid b2'⟩
        case measure => simp [intOf]; omega
      · have hknI : ¬ (k : Int) < (nk : Int) := by omega
        have e1 : u = 0 := by rw [← HU.out, keyZ_at zs k hlt, if_neg (by rw [LK.out]; exact hkn)]
        subst e1
        clear zk
        go_wp2_with (at_builtin; refine wpList_append_own _ rfl (.tmp 26) (.tmp 30) 22 rfl w.heap.size 5 i0 _ 1 1 Tryd.underlying22 I0.out I1.out I2.out I3.out rfl (by decide) u5 k (vals ((blockZ zs x).take k)) rfl (HO.out.alloc _) ⟨wr.heap.size, 0, none⟩ 1 1 [.int .u8 (bits .xor .u8 0 x)] rfl rfl (World.news_of_block (cs := #[.int .u8 (bits .xor .u8 0 x)]) (t := 5) (fr := (0, 0)) (heap_alloc_new wr _)) (by simp [Value.oneCell']) (by unfold maxLen; omega) (by omega) (by simp; omega) ?_; intro v2 w2 ho2 hg2 _)
        have b2' : Below w.heap.size w w2 := (HB2.out.alloc sr _).grown hg2 (by simp; omega) (fun q hq => (HO.out.lt q hq).1)
        have ho2' : w2.ownsRow w.heap.size 5 1 v2 (k + 1) (vals ((blockZ zs x).take (k + 1))) := by rw [HT.out]; exact ho2
        clear ho2 hg2
        go_roundw
        case rel => exact ⟨k + 1, by omega, by go_num, Lib.hid ho2', Lib.hid b2'⟩
        case measure => simp [intOf]; omega
    · have hk64 : k = 64 := by omega
      have HM : Hid (Made w (blockZ zs x) (.returned u5) wr) := Lib.hid (made_of (n := k) (by rw [blockZ_len, hk64]) (by
        have := HO.out
        rw [hk64, List.take_of_length_le (by rw [blockZ_len]; exact Nat.le_refl _)] at this
        rw [hk64]
        exact own_base this QK.out.size) (QK.out.trans (HB2.out.mono QK.out.size)))
      have hge : ¬ (k : Int) < 64 := by omega
      clear hk64 HO HB2
      go_wp2
      go_ret
      exact HM.out
set_option maxRecDepth 100000 in
set_option maxHeartbeats 4000000 in
theorem refblock_long {w : World} {B : Nat} {A : Option Addr} {n : Nat} (c : Nat) {zs : List Int} (x : Int) (hx0 : 0 ≤ x) (hx1 : x < 256) (hz : Bs w B A n zs) (hB : B ≤ w.heap.size) (hn : 64 < n) (hn2 : n ≤ 10000) :
    Calls Tryd.prog 42 #[.slice A n c, .int .u8 x] w (Made w (blockZ zs x)) := by
  obtain ⟨i0, hi0, hz0, hz1, hz2⟩ := info_parts u8_row
  have I0 := Lib.hid hi0
  have I1 := Lib.hid hz0
  have I2 := Lib.hid hz1
  have I3 := Lib.hid hz2
  clear hi0 hz0 hz1 hz2
  have g1 : 64 < (n : Int) := by omega
  obtain ⟨T, hT⟩ : ∃ T, shaZ zs = T := ⟨_, rfl⟩
  have SK : Hid (shortZ zs = T) := Lib.hid (by rw [← hT]; exact shortZ_long (by rw [hz.len]; exact hn))
  have lT : Hid (T.length = 32) := Lib.hid (by rw [← hT]; exact shaZ_len32 _)
  have bT : Hid (IsBytes T) := Lib.hid (by rw [← hT]; exact shaZ_bytes _)
  have LK : Hid ((shortZ zs).length = 32) := Lib.hid (by rw [SK.out]; exact lT.out)
  have C1 := Lib.hid (refsum_any c hz hB (by omega))
  have HT := Lib.hid hT
  clear hT hz
  go_enter Tryd.func42, Tryd.ntmps42
  go_wp2_with fail
  refine C1.out.mono ?_
  rw [HT.out]
  rintro e w1 ⟨rfl, b1⟩
  have q1 := Lib.hid b1
  clear b1 C1
  go_wp2_with fail
  refine (refbytes_any T lT.out bT.out w1).mono ?_
  intro e wk hm2
  obtain ⟨D2, c2, rfl, ho2, b2, _, _⟩ := hm2.n lT.out
  have ZK : Hid (Bs wk wk.heap.size D2 32 (shortZ zs)) := Lib.hid (by rw [SK.out]; exact Made.bs ho2 bT.out)
  have QK : Hid (Below w.heap.size w wk) := Lib.hid (q1.out.trans (b2.mono q1.out.size))
  clear hm2 ho2 b2 q1
  go_wp2
  go_loopw [5, 6] (fun v i wr => ∃ k : Nat, k ≤ 64 ∧ i = .int .i64 k ∧ Hid (wr.ownsRow wk.heap.size 5 1 v k (vals ((blockZ zs x).take k))) ∧ Hid (Below wk.heap.size wk wr)) (fun _ i _ => 64 - (intOf i).toNat)
  case atStart => exact ⟨0, by omega, rfl, Lib.hid (World.ownsRow_nil _ _ _ _), Lib.hid (Below.refl _ _)⟩
  case round =>
    obtain ⟨k, hk, rfl, HO, HB2⟩ := hrel
    have sr := HB2.out.size
    have sw := QK.out.size
    by_cases hlt : k < 64
    · have hkI : (k : Int) < 64 := by omega
      obtain ⟨u, hu⟩ : ∃ u, (keyZ zs).getD k 0 = u := ⟨_, rfl⟩
      have HT : Hid (vals ((blockZ zs x).take (k + 1)) = vals ((blockZ zs x).take k) ++ [.int .u8 (bits .xor .u8 u x)]) := Lib.hid (by rw [take_snoc_getD _ _ (by rw [blockZ_len]; exact hlt), vals_app, blockZ_at zs x k hlt, hu]; rfl)
      have HU := Lib.hid hu
      clear hu
      have zk := ZK.out.belowM HB2.out (by omega)
      by_cases hkn : k < 32
      · have hknI : (k : Int) < (32 : Int) := by omega
        obtain ⟨b1, o1, u1, hAk, hb1, HU1, hu1, hu1', hc1⟩ := zk.at_ (k := k) hkn
        subst hAk
        have e1 : u1 = u := by rw [← HU1.out, ← HU.out, keyZ_at zs k hlt, if_pos (by rw [LK.out]; exact hkn)]
        subst e1
        clear zk
        go_wp2_with (at_builtin; refine wpList_append_own _ rfl (.tmp 26) (.tmp 30) 22 rfl wk.heap.size 5 i0 _ 1 1 Tryd.underlying22 I0.out I1.out I2.out I3.out rfl (by decide) u5 k (vals ((blockZ zs x).take k)) rfl (HO.out.alloc _) ⟨wr.heap.size, 0, none⟩ 1 1 [.int .u8 (bits .xor .u8 u1 x)] rfl rfl (World.news_of_block (cs := #[.int .u8 (bits .xor .u8 u1 x)]) (t := 5) (fr := (0, 0)) (heap_alloc_new wr _)) (by simp [Value.oneCell']) (by unfold maxLen; omega) (by omega) (by simp; omega) ?_; intro v2 w2 ho2 hg2 _)
        have b2' : Below wk.heap.size wk w2 := (HB2.out.alloc sr _).grown hg2 (by simp; omega) (fun q hq => (HO.out.lt q hq).1)
        have ho2' : w2.ownsRow wk.heap.size 5 1 v2 (k + 1) (vals ((blockZ zs x).take (k + 1))) := by rw [HT.out]; exact ho2
        clear ho2 hg2
        go_roundw
        case rel => exact ⟨k + 1, by omega, by go_num, Lib.hid ho2', Lib.hid b2'⟩
        case measure => simp [intOf]; omega
      · have hknI : ¬ (k : Int) < (32 : Int) := by omega
        have e1 : u = 0 := by rw [← HU.out, keyZ_at zs k hlt, if_neg (by rw [LK.out]; exact hkn)]
        subst e1
        clear zk
        go_wp2_with (at_builtin; refine wpList_append_own _ rfl (.tmp 26) (.tmp 30) 22 rfl wk.heap.size 5 i0 _ 1 1 Tryd.underlying22 I0.out I1.out I2.out I3.out rfl (by decide) u5 k (vals ((blockZ zs x).take k)) rfl (HO.out.alloc _) ⟨wr.heap.size, 0, none⟩ 1 1 [.int .u8 (bits .xor .u8 0 x)] rfl rfl (World.news_of_block (cs := #[.int .u8 (bits .xor .u8 0 x)]) (t := 5) (fr := (0, 0)) (heap_alloc_new wr _)) (by simp [Value.oneCell']) (by unfold maxLen; omega) (by omega) (by simp; omega) ?_; intro v2 w2 ho2 hg2 _)
        have b2' : Below wk.heap.size wk w2 := (HB2.out.alloc sr _).grown hg2 (by simp; omega) (fun q hq => (HO.out.lt q hq).1)
        have ho2' : w2.ownsRow wk.heap.size 5 1 v2 (k + 1) (vals ((blockZ zs x).take (k + 1))) := by rw [HT.out]; exact ho2
        clear ho2 hg2
        go_roundw
        case rel => exact ⟨k + 1, by omega, by go_num, Lib.hid ho2', Lib.hid b2'⟩
        case measure => simp [intOf]; omega
    · have hk64 : k = 64 := by omega
      have HM : Hid (Made w (blockZ zs x) (.returned u5) wr) := Lib.hid (made_of (n := k) (by rw [blockZ_len, hk64]) (by
        have := HO.out
        rw [hk64, List.take_of_length_le (by rw [blockZ_len]; exact Nat.le_refl _)] at this
        rw [hk64]
        exact own_base this QK.out.size) (QK.out.trans (HB2.out.mono QK.out.size)))
      have hge : ¬ (k : Int) < 64 := by omega
      clear hk64 HO HB2
      go_wp2
      go_ret
      exact HM.out
theorem refblock_any {w : World} {B : Nat} {A : Option Addr} {n : Nat} (c : Nat) {zs : List Int} (x : Int) (hx0 : 0 ≤ x) (hx1 : x < 256) (hz : Bs w B A n zs) (hB : B ≤ w.heap.size) (hn2 : n ≤ 10000) :
    Calls Tryd.prog 42 #[.slice A n c, .int .u8 x] w (Made w (blockZ zs x)) := by
  by_cases hn : 64 < n
  · exact refblock_long c x hx0 hx1 hz hB hn hn2
  · exact refblock_short c x hx0 hx1 hz hB (by omega)
end Go.Proofs.YtmglhfhcljdfcaaDoor
