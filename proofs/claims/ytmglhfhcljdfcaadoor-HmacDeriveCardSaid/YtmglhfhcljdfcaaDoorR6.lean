/- The document's own answer for hmac: what is summed up to derive a key; the derived key. -/
import Derived.Test.YtmglhfhcljdfcaaDoorR5
import Derived.ArgAppend
namespace Go.Proofs.YtmglhfhcljdfcaaDoor
open Go.ChangeShapes Go.WideShapes Go.ChangeAt Go.RowKit
set_option linter.unusedVariables false
open Plain Sha
/-- A byte is appended to a slice of bytes that may have room behind it, which is the call's own. -/
theorem wpList_append_byte (w : World) {ops : Array Oper} {rest : List Oper} {o : Oper} {a : Act} {Q : Exit → Act → World → Prop} (hgd : o.guard = none) (s x : Operand)
    (ho : o.op = .call { callee := .builtin .append, args := #[s, x], argTypes := #[22, 22] }) (B0 bw n cap : Nat) (zs : List Int) (hs : a.eval s = .slice (some ⟨bw, 0, none⟩) n cap)
    (hl : zs.length = n) (hc : ∀ j, j < n → w.cell? ⟨bw, j, none⟩ = some (.int .u8 (zs.getD j 0))) (hzb : IsBytes zs) (hlt : bw < w.heap.size) (hB0 : B0 ≤ bw)
    (hspare : n + 1 ≤ cap → (w.cell? ⟨bw, n, none⟩).isSome = true ∧ w.frozen? ⟨bw, n, none⟩ = false)
    (g c : Nat) (u : Int) (hx : a.eval x = .slice (some ⟨g, 0, none⟩) 1 c) (hcu : w.cell? ⟨g, 0, none⟩ = some (.int .u8 u)) (hu0 : 0 ≤ u) (hu1 : u < 256) (hn : n ≤ 1000000)
    (h : ∀ D c' w', Bs w' w'.heap.size D (n + 1) (zs ++ [u]) → Below B0 w w' → wpList Tryd.prog ops Q rest (a.put o.dst (.slice D (n + 1) c')) w') : wpList Tryd.prog ops Q (o :: rest) a w := by
  obtain ⟨i0, hi0, hz0, hz1, hz2⟩ := info_parts u8_row
  have hbb : IsBytes (zs ++ [u]) := hzb.app (by
    intro j hj
    obtain rfl : j = 0 := by simpa using hj
    exact ⟨hu0, hu1⟩)
  refine wpList_append_arg w hgd s x 22 ho 5 i0 _ 1 1 Tryd.underlying22 hi0 hz0 hz1 hz2 rfl (by omega) bw 0 n cap (vals zs) hs (by rw [vals_len, hl]; omega) (fun j v hv => ?_) ⟨g, 0, none⟩ 1 c [.int .u8 u] hx (by simp) (fun j v hv => ?_) (by simp [Value.oneCell']) (fun hr j hj => ?_) (by unfold maxLen; omega) (by omega) (fun hr => ?_) (fun hr v' w' ho' hg' => ?_)
  · have hj : j < n := by have := (List.getElem?_eq_some_iff.1 hv).1; rwa [vals_len, hl] at this
    rw [vals_at zs j (by omega)] at hv
    injection hv with hv
    rw [Nat.zero_add, hc j hj, hv]
  · have hj : j = 0 := by have := (List.getElem?_eq_some_iff.1 hv).1; simpa using this
    subst hj
    simp at hv
    rw [Go.WideShapes.add_plain, ← hv]
    exact hcu
  · have hj0 : j = 0 := by simpa using hj
    subst hj0
    simpa using hspare hr
  · have e : w.setCells bw (0 + n * 1) [.int .u8 u] = w.setCell ⟨bw, n, none⟩ (.int .u8 u) := by simp [World.setCells]
    rw [e]
    have hb : Below B0 w (w.setCell ⟨bw, n, none⟩ (.int .u8 u)) := (Below.refl _ _).setCell hB0 _
    refine h (some ⟨bw, 0, none⟩) cap _ ⟨by rw [List.length_append, hl]; rfl, fun j hj => hbb j (by rw [List.length_append, hl]; exact hj), fun _ => ⟨bw, 0, rfl, by simpa [World.setCell] using hlt, fun j hj => ?_⟩⟩ hb
    rw [Nat.zero_add]
    by_cases hjn : j = n
    · subst hjn
      obtain ⟨h1, h2⟩ := hspare hr
      obtain ⟨v0, hv0⟩ := Option.isSome_iff_exists.1 h1
      rw [World.cell?_setCell_same w ⟨bw, j, none⟩ (.int .u8 u) hv0]
      rw [List.getD_eq_getElem?_getD, List.getElem?_append_right (by omega), hl, Nat.sub_self]
      rfl
    · rw [World.cell?_setCell_other w ⟨bw, n, none⟩ ⟨bw, j, none⟩ _ (fun e => hjn (congrArg Addr.off e).symm), hc j (by omega)]
      rw [List.getD_eq_getElem?_getD, List.getD_eq_getElem?_getD, List.getElem?_append_left (by omega)]
  · obtain ⟨D, c', rfl, _, _⟩ := own_shape ho'
    have ho2 : w'.ownsRow w.heap.size 5 1 (.slice D (n + 1) c') (n + 1) (vals (zs ++ [u])) := by rw [vals_app]; exact ho'
    exact h D c' w' (bs_of_own ho2 hbb) ((Below.refl _ _).grown hg' (by omega) (fun k hk => by cases hk))
theorem bytesW_cells (w : World) (s : ByteArray) : (∀ j, j < s.size → (Go.Lib.bytesWorld w 5 s).cell? ⟨w.heap.size, j, none⟩ = some (.int .u8 ((strZ s).getD j 0))) ∧
    (s.size + 1 ≤ grownCap w s.size 0 5 → ((Go.Lib.bytesWorld w 5 s).cell? ⟨w.heap.size, s.size, none⟩).isSome = true ∧ (Go.Lib.bytesWorld w 5 s).frozen? ⟨w.heap.size, s.size, none⟩ = false) := by
  refine ⟨fun j hj => ?_, fun hr => ?_⟩
  · obtain ⟨b, off, e, _, hc⟩ := (bytesW_bs w s).row (by omega)
    injection e with e
    injection e with e1 e2
    have := hc j hj
    rw [← e1, ← e2, Nat.zero_add] at this
    exact this
  · have hh := Go.Lib.bytesWorld_at_new w 5 s
    have hz : (Go.Lib.bytesCells w 5 s).size = s.size + (grownCap w s.size 0 5 - s.size) := by
      unfold Go.Lib.bytesCells
      rw [Array.size_append, Array.size_map, Array.size_replicate]; rfl
    refine ⟨?_, ?_⟩
    · rw [cell_of_row _ _ _ _ _ _ hh, Array.getElem?_eq_getElem (by omega)]; rfl
    · simp [World.frozen?, hh]
      intro h1
      omega
/-- A slice of bytes is handed back; below the heap's end the world is as it was. -/
def Told (w : World) (N : Nat) (zs : List Int) (e : Ending) (w' : World) : Prop := ∃ D d, e = .returned (.slice D N d) ∧ Bs w' w'.heap.size D N zs ∧ Below w.heap.size w w'
set_option maxRecDepth 100000 in
set_option maxHeartbeats 4000000 in
theorem refform_any {w : World} {B : Nat} {A : Option Addr} {n : Nat} (c : Nat) (s : ByteArray) {xs : List Int} (h : Ns w B A n xs) (hB : B ≤ w.heap.size) (hs : s.size ≤ 1000) (hn : n ≤ 1000) :
    Calls Tryd.prog 44 #[.string s, .slice A n c] w (Told w (s.size + 1 + 8 * n) (formZ s xs)) := by
  have hcv : ∀ W : World, (convert 9 22 (.string s)).run Tryd.prog W = .ok (.slice (some ⟨W.heap.size, 0, none⟩) s.size (grownCap W s.size 0 5)) (Go.Lib.bytesWorld W 5 s) := fun W =>
    Go.Lib.run_convert_string_bytes W 9 22 5 s Tryd.underlying9 Tryd.underlying22 Tryd.underlying5
  have HN := Lib.hid h
  have L := Lib.hid h.len
  have B1 := Lib.hid (bytesW_below w s)
  have S1 := Lib.hid (Go.Lib.bytesWorld_size w 5 s)
  have CC := Lib.hid (bytesW_cells w s)
  obtain ⟨W1, hW1⟩ : ∃ W1, Go.Lib.bytesWorld w 5 s = W1 := ⟨_, rfl⟩
  have hcv1 := hcv w
  rw [hW1] at B1 S1 CC hcv1
  have s1 : w.heap.size < W1.heap.size := by rw [S1.out]; omega
  obtain ⟨cp, hcp⟩ : ∃ cp, grownCap w s.size 0 5 = cp := ⟨_, rfl⟩
  rw [hcp] at CC hcv1
  have A1 : Hid (Below w.heap.size w (W1.alloc (.cells #[.int .u8 0] 5))) := Lib.hid (B1.out.alloc (by omega) _)
  have C0 : Hid (∀ j, j < s.size → (W1.alloc (.cells #[.int .u8 0] 5)).cell? ⟨w.heap.size, j, none⟩ = some (.int .u8 ((strZ s).getD j 0))) := Lib.hid (fun j hj => by
    rw [World.cell?_alloc_lt _ _ _ (by exact s1)]; exact CC.out.1 j hj)
  have C1 : Hid (s.size + 1 ≤ cp → ((W1.alloc (.cells #[.int .u8 0] 5)).cell? ⟨w.heap.size, s.size, none⟩).isSome = true ∧ (W1.alloc (.cells #[.int .u8 0] 5)).frozen? ⟨w.heap.size, s.size, none⟩ = false) := Lib.hid (fun hr => by
    have := CC.out.2 hr
    rw [World.cell?_alloc_lt _ _ _ (by exact s1), World.frozen?_of_block (a := ⟨w.heap.size, s.size, none⟩) (Below.heap_alloc W1 _ w.heap.size s1)]
    exact this)
  have C2 : Hid ((W1.alloc (.cells #[.int .u8 0] 5)).cell? ⟨W1.heap.size, 0, none⟩ = some (.int .u8 0)) := Lib.hid (by rw [cell_of_row _ _ _ _ _ _ (heap_alloc_new W1 _)]; rfl)
  have BZ := Lib.hid (strZ_bytes s)
  have LZ := Lib.hid (strZ_len s)
  clear h hcv hW1 hcp CC B1
  go_enter Tryd.func44, Tryd.ntmps44
  go_wp2_with (at_builtin; refine wpList_append_byte _ rfl (.tmp 9) (.tmp 10) rfl w.heap.size w.heap.size s.size cp (strZ s) rfl LZ.out C0.out BZ.out (by simp; omega) (Nat.le_refl _) C1.out W1.heap.size 1 0 rfl C2.out (by omega) (by omega) (by omega) ?_; intro D2 d2 w2 z2 b2)
  have q2 := Lib.hid (A1.out.trans b2)
  have Z2 := Lib.hid z2
  clear z2 b2 hcv1 C0 C1 C2 A1 S1
  go_wp2
  go_loopw [5, 6] (fun v i wr => ∃ k N : Nat, k ≤ n ∧ i = .int .i64 k ∧ Hid (s.size + 1 + 8 * k = N) ∧ ∃ D d, v = .slice D N d ∧ Hid (Bs wr wr.heap.size D N (formZ s (xs.take k))) ∧ Hid (Below w.heap.size w wr)) (fun _ i _ => n - (intOf i).toNat)
  case atStart => exact ⟨0, s.size + 1, by omega, rfl, Lib.hid rfl, D2, d2, rfl, Lib.hid (by simpa [formZ, numsB] using Z2.out), q2⟩
  case round =>
    obtain ⟨k, N, hk, rfl, HNk, D, d, rfl, HB, HBel⟩ := hrel
    have hNb : N ≤ 10000 := by have := HNk.out; omega
    by_cases hlt : k < n
    · obtain ⟨b1, o1, u1, rfl, hb1, HU1, hu1, hu1', hc1⟩ := (HN.out.below HBel.out hB).at_ (k := k) hlt
      have hlI : (k : Int) < n := by omega
      have HT : Hid (formZ s (xs.take k) ++ numB u1 = formZ s (xs.take (k + 1))) := Lib.hid (by rw [formZ_snoc s xs k (by rw [L.out]; exact hlt), HU1.out])
      have sr := HBel.out.size
      go_wp2_with fail
      refine (refputI_any (u1 % 18446744073709551616) 8 (by omega) (by omega) (by omega) (by omega) _).mono ?_
      intro e w3 hm3
      rw [show (8 : Int).toNat = 8 from rfl] at hm3
      obtain ⟨D3, c3, rfl, ho3, b3, _, _⟩ := hm3.n (n := 8) (putZ_len ..)
      have z3 := Lib.hid (Made.bs ho3 (putZ_bytes _ _))
      have y3 := Lib.hid (HB.out.belowM b3 (Nat.le_refl _))
      have q3 := Lib.hid (HBel.out.trans (b3.mono sr))
      have s3 := b3.size
      clear hm3 ho3 b3 HB HBel
      go_wp2_with fail
      refine (refcat_any d c3 y3.out z3.out s3 (Nat.le_refl _) (by omega)).mono ?_
      intro e w4 hm4
      rw [show formZ s (xs.take k) ++ putZ (u1 % 18446744073709551616) 8 = formZ s (xs.take (k + 1)) from HT.out] at hm4
      obtain ⟨D4, c4, rfl, ho4, b4, _, _⟩ := hm4.n (n := N + 8) (by rw [formZ_len, List.length_take, L.out, Nat.min_eq_left (by omega)]; have := HNk.out; omega)
      have z4 := Lib.hid (Made.bs ho4 (formZ_bytes _ _))
      have q4 := Lib.hid (q3.out.trans (b4.mono q3.out.size))
      clear hm4 ho4 b4 y3 z3 q3
      go_wp2
      go_roundw
      case rel => exact ⟨k + 1, N + 8, by omega, by go_num, Lib.hid (by have := HNk.out; omega), D4, c4, rfl, z4, q4⟩
      case measure => simp [intOf]; omega
    · have hkn : k = n := by omega
      have HF : Hid (Bs wr wr.heap.size D N (formZ s xs)) := Lib.hid (by have := HB.out; rwa [hkn, List.take_of_length_le (by rw [L.out]; exact Nat.le_refl _)] at this)
      have hN : N = s.size + 1 + 8 * n := by have := HNk.out; omega
      have hge : ¬ (k : Int) < n := by omega
      clear hkn HB HNk
      subst hN
      go_wp2
      go_ret
      exact ⟨D, d, rfl, HF.out, HBel.out⟩
set_option maxHeartbeats 2000000 in
theorem refderive_any {w : World} {B1 B2 : Nat} {A1 A2 : Option Addr} {n1 n2 : Nat} (c1 c2 : Nat) {ks xs : List Int} (s : ByteArray) (hk : Bs w B1 A1 n1 ks) (hx : Ns w B2 A2 n2 xs) (hB1 : B1 ≤ w.heap.size) (hB2 : B2 ≤ w.heap.size) (hn1 : n1 ≤ 10000) (hs : s.size ≤ 1000) (hn2 : n2 ≤ 1000) :
    Calls Tryd.prog 25 #[.slice A1 n1 c1, .string s, .slice A2 n2 c2] w (Made w (deriveZ ks s xs)) := by
  have C1 := Lib.hid (refform_any c2 s hx hB2 hs hn2)
  have HKEY := Lib.hid hk
  obtain ⟨T, hT⟩ : ∃ T, hmacZ ks (formZ s xs) = T := ⟨_, rfl⟩
  have lT : Hid (T.length = 32) := Lib.hid (by rw [← hT]; exact hmacZ_len _ _)
  have bT : Hid (IsBytes T) := Lib.hid (by rw [← hT]; exact hmacZ_bytes _ _)
  have HT := Lib.hid hT
  have HD : Hid (deriveZ ks s xs = T) := Lib.hid hT
  clear hT hk hx
  rw [HD.out]
  go_enter Tryd.func25, Tryd.ntmps25
  go_wp2_with fail
  refine C1.out.mono ?_
  rintro e w1 ⟨D1, d1, rfl, z1, b1⟩
  have q1 := Lib.hid b1
  have Z1 := Lib.hid z1
  clear b1 z1 C1
  go_wp2_with fail
  refine (refhsum_any c1 d1 (HKEY.out.belowM q1.out hB1) Z1.out (Nat.le_trans hB1 q1.out.size) (Nat.le_refl _) (by omega) (by omega)).mono ?_
  rw [HT.out]
  rintro e w2 ⟨rfl, b2⟩
  have q2 := Lib.hid (q1.out.trans (b2.mono q1.out.size))
  clear b2 Z1 q1
  go_wp2_with fail
  refine (refbytes_any T lT.out bT.out w2).mono ?_
  intro e w3 hm3
  obtain ⟨D3, d3, rfl, ho3, b3, _, _⟩ := hm3.n lT.out
  have HM : Hid (Made w T (.returned (.slice D3 32 d3)) w3) := Lib.hid (made_of (n := 32) lT.out (own_base ho3 q2.out.size) (q2.out.trans (b3.mono q2.out.size)))
  clear hm3 ho3 b3
  go_wp2
  go_ret
  exact HM.out
end Go.Proofs.YtmglhfhcljdfcaaDoor
