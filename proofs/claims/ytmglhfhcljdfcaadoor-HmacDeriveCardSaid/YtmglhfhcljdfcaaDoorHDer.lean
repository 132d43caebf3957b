/- Derived keys: what the program's named and Derive return. -/
import Derived.Test.YtmglhfhcljdfcaaDoorHSum
import Derived.Test.YtmglhfhcljdfcaaDoorOwn
import Derived.Lib.ConvBytes
import Derived.Deep.Cut
namespace Go.Proofs.YtmglhfhcljdfcaaDoor
open Go.ChangeShapes Go.WideShapes Go.ChangeAt Go.RowKit
set_option linter.unusedVariables false
open Plain Sha
/-- A string's bytes as numbers. -/
def strZ (s : ByteArray) : List Int := s.data.toList.map fun c => (c.toNat : Int)
theorem strZ_len (s : ByteArray) : (strZ s).length = s.size := by unfold strZ; rw [List.length_map]; rfl
theorem strZ_bytes (s : ByteArray) : IsBytes (strZ s) := by
  rw [isBytes_iff]
  intro z hz
  simp only [strZ, List.mem_map] at hz
  obtain ⟨c, _, rfl⟩ := hz
  have := c.toNat_lt
  omega
theorem bytesW_below (w : World) (s : ByteArray) : Below w.heap.size w (Go.Lib.bytesWorld w 5 s) :=
  ⟨rfl, rfl, rfl, by rw [Go.Lib.bytesWorld_size]; omega, fun k hk => Go.Lib.bytesWorld_at_old w _ s k hk⟩
theorem bytesW_bs (w : World) (s : ByteArray) : Bs (Go.Lib.bytesWorld w 5 s) (w.heap.size + 1) (some ⟨w.heap.size, 0, none⟩) s.size (strZ s) := by
  refine ⟨strZ_len s, fun j hj => strZ_bytes s j (by rw [strZ_len]; exact hj), fun _ => ⟨w.heap.size, 0, rfl, by omega, fun j hj => ?_⟩⟩
  rw [Nat.zero_add, Go.Lib.bytesWorld_cell w _ s j hj]
  have hj' : j < s.data.toList.length := hj
  simp [strZ, List.getD_eq_getElem?_getD, List.getElem?_map, List.getElem?_eq_getElem hj']
/-- A slice of ints that is read. -/
structure Ns (w : World) (B : Nat) (A : Option Addr) (n : Nat) (xs : List Int) : Prop where
  len : xs.length = n
  rng : ∀ j, j < n → -9223372036854775808 ≤ xs.getD j 0 ∧ xs.getD j 0 ≤ 9223372036854775807
  row : 0 < n → ∃ b off, A = some ⟨b, off, none⟩ ∧ b < B ∧ ∀ j, j < n → w.cell? ⟨b, off + j, none⟩ = some (.int .i64 (xs.getD j 0))
theorem Ns.below {w w' : World} {B B' n : Nat} {A : Option Addr} {xs : List Int} (h : Ns w B A n xs) (hb : Below B' w w') (hB : B ≤ B') : Ns w' B A n xs :=
  ⟨h.len, h.rng, fun hn => by
    obtain ⟨b, off, rfl, hlt, hc⟩ := h.row hn
    exact ⟨b, off, rfl, hlt, fun j hj => (hb.cell (p := ⟨b, off + j, none⟩) (by show b < B'; omega)).trans (hc j hj)⟩⟩
theorem Ns.at_ {w : World} {B n : Nat} {A : Option Addr} {xs : List Int} (h : Ns w B A n xs) {k : Nat} (hk : k < n) :
    ∃ b off u, A = some ⟨b, off, none⟩ ∧ b < B ∧ Hid (xs.getD k 0 = u) ∧ -9223372036854775808 ≤ u ∧ u ≤ 9223372036854775807 ∧ w.cell? ⟨b, off + k, none⟩ = some (.int .i64 u) := by
  obtain ⟨b, off, rfl, hb, hc⟩ := h.row (by omega)
  exact ⟨b, off, _, rfl, hb, rfl, (h.rng k hk).1, (h.rng k hk).2, hc k hk⟩
/-- A number's eight bytes, below 0 as 2^64 more. -/
def numB (x : Int) : List Int := putZ (x % 18446744073709551616) 8
theorem numB_len (x : Int) : (numB x).length = 8 := putZ_len _ _
theorem numB_bytes (x : Int) : IsBytes (numB x) := putZ_bytes _ _
def numsB : List Int → List Int
  | [] => []
  | x :: l => numB x ++ numsB l
theorem numsB_snoc (l : List Int) (x : Int) : numsB (l ++ [x]) = numsB l ++ numB x := by
  induction l with
  | nil => simp [numsB]
  | cons y r ih => simp [numsB, ih]
theorem numsB_len (l : List Int) : (numsB l).length = 8 * l.length := by
  induction l with
  | nil => rfl
  | cons y r ih => simp only [numsB, List.length_append, numB_len, ih, List.length_cons]; omega
theorem numsB_bytes (l : List Int) : IsBytes (numsB l) := by
  induction l with
  | nil => exact IsBytes.nil
  | cons y r ih => exact (numB_bytes y).app ih
/-- What is summed up to derive a key. -/
def formZ (s : ByteArray) (xs : List Int) : List Int := strZ s ++ [0] ++ numsB xs
theorem formZ_len (s : ByteArray) (xs : List Int) : (formZ s xs).length = s.size + 1 + 8 * xs.length := by
  unfold formZ; rw [List.length_append, List.length_append, strZ_len, numsB_len]; rfl
theorem zero_bytes : IsBytes [0] := by unfold IsBytes; decide
theorem formZ_bytes (s : ByteArray) (xs : List Int) : IsBytes (formZ s xs) := ((strZ_bytes s).app zero_bytes).app (numsB_bytes xs)
theorem formZ_snoc (s : ByteArray) (xs : List Int) (k : Nat) (h : k < xs.length) : formZ s (xs.take (k + 1)) = formZ s (xs.take k) ++ numB (xs.getD k 0) := by
  unfold formZ
  rw [take_snoc_getD _ _ h, numsB_snoc]
  simp only [List.append_assoc]
set_option maxHeartbeats 2000000 in
theorem named_any {w : World} {B : Nat} {A : Option Addr} {n : Nat} (c : Nat) (s : ByteArray) {xs : List Int} (h : Ns w B A n xs) (hB : B ≤ w.heap.size) (hs : s.size ≤ 1000) (hn : n ≤ 1000) :
    Calls Tryd.prog 45 #[.string s, .slice A n c] w (Made w (formZ s xs)) := by
  have hcv : ∀ W : World, (convert 9 22 (.string s)).run Tryd.prog W = .ok (.slice (some ⟨W.heap.size, 0, none⟩) s.size (grownCap W s.size 0 5)) (Go.Lib.bytesWorld W 5 s) := fun W =>
    Go.Lib.run_convert_string_bytes W 9 22 5 s Tryd.underlying9 Tryd.underlying22 Tryd.underlying5
  have HN := Lib.hid h
  have L := Lib.hid h.len
  clear h
  have B1 := Lib.hid (bytesW_below w s)
  have Z1 := Lib.hid (bytesW_bs w s)
  have S1 := Lib.hid (Go.Lib.bytesWorld_size w 5 s)
  go_enter Tryd.func45, Tryd.ntmps45
  go_wp2_with fail
  clear hcv
  obtain ⟨W1, hW1⟩ : ∃ W1, Go.Lib.bytesWorld w 5 s = W1 := ⟨_, rfl⟩
  rw [hW1] at B1 Z1 S1
  rw [hW1]
  clear hW1
  have s1 : w.heap.size + 1 ≤ W1.heap.size := by rw [S1.out]; omega
  refine (cat2_any (w := W1.alloc (.cells (vals [0]).toArray 5)) _ 1 22 (Z1.out.alloc s1 _) (bs_new W1 [0] 1 rfl zero_bytes 5 _ rfl) (by simp; omega) (by simp) (by omega) 2 _ (by simp)).mono ?_
  intro e w2 hm2
  obtain ⟨D2, c2, rfl, ho2, hb2, _, _⟩ := hm2.n (n := s.size + 1) (by rw [List.length_append, strZ_len]; rfl)
  have q2 : Below w.heap.size w w2 := ((B1.out.alloc (by omega) _).alloc (by simp; omega) _).trans (hb2.mono (by simp; omega))
  have own2 := own_base ho2 (base' := w.heap.size) (by simp; omega)
  clear hm2 ho2 hb2 S1 Z1 B1
  go_wp2
  go_loopw [5, 15] (fun v i wr => ∃ k : Nat, k ≤ n ∧ i = .int .i64 k ∧ wr.ownsRow w.heap.size 5 1 v (s.size + 1 + 8 * k) (vals (formZ s (xs.take k))) ∧ Below w.heap.size w wr) (fun _ i _ => n - (intOf i).toNat)
  case atStart => exact ⟨0, by omega, rfl, by simpa [formZ, numsB] using own2, q2⟩
  case round =>
    obtain ⟨k, hk, rfl, hown, hbel⟩ := hrel
    by_cases hlt : k < n
    · obtain ⟨b1, o1, u1, rfl, hb1, HU1, hu1, hu1', hc1⟩ := (HN.out.below hbel hB).at_ (k := k) hlt
      have hlI : (k : Int) < n := by omega
      have HT : Hid (vals (formZ s (xs.take (k + 1))) = vals (formZ s (xs.take k)) ++ vals (numB u1)) := Lib.hid (by rw [formZ_snoc s xs k (by rw [L.out]; exact hlt), vals_app, HU1.out])
      have OW := Lib.hid hown
      clear hown
      go_wp2_with fail
      refine (put64_any (u1 % 18446744073709551616) (by omega) (by omega) _).mono ?_
      intro e w3 hm3
      obtain ⟨D3, c3, rfl, ho3, hb3, _, _⟩ := hm3.n (n := 8) (putZ_len ..)
      have z3 := Lib.hid (Made.bs ho3 (putZ_bytes _ _))
      have own3 := Lib.hid (own_below OW.out hb3 (Nat.le_refl _))
      have q3 : Below w.heap.size w w3 := hbel.trans (hb3.mono hbel.size)
      have s3 := q3.size
      clear hm3 ho3 hb3 OW
      go_wp2_with (at_builtin; refine wpList_app _ rfl (.tmp 19) (.tmp 22) 22 rfl w.heap.size 5 1 1 Tryd.underlying22 u8_info (by omega) u5 (s.size + 1 + 8 * k) (vals (formZ s (xs.take k))) rfl own3.out D3 8 c3 (vals (numB u1)) rfl z3.out.lies.1 z3.out.lies.2 (vals_one _) (by unfold maxLen; omega) (by omega) s3 ?_; intro v4 w4 ho4 hg4)
      have q4 : Below w.heap.size w w4 := q3.grown hg4 s3 (fun j hj => (own3.out.lt j hj).1)
      have own4 : w4.ownsRow w.heap.size 5 1 v4 (s.size + 1 + 8 * (k + 1)) (vals (formZ s (xs.take (k + 1)))) := by rw [HT.out]; exact ho4
      clear ho4 hg4
      go_roundw
      case rel => exact ⟨k + 1, by omega, by go_num, own4, q4⟩
      case measure => simp [intOf]; omega
    · have hkn : k = n := by omega
      have HM : Made w (formZ s xs) (.returned u5) wr := made_of (n := s.size + 1 + 8 * k) (by rw [formZ_len, L.out, hkn]) (by rw [hkn, List.take_of_length_le (by rw [L.out]; omega)] at hown; rw [hkn]; exact hown) hbel
      have HM' := Lib.hid HM
      clear HM hkn hown
      go_wp2
      go_ret
      exact HM'.out
/-- What a call hands back that makes a derived key. -/
def Key32 (w : World) (zs : List Int) (e : Ending) (w' : World) : Prop :=
  ∃ g, e = .returned (.slice (some ⟨g, 0, none⟩) 32 32) ∧ Row8 w' g 0 zs ∧ w.heap.size ≤ g ∧ g < w'.heap.size ∧ Below w.heap.size w w'
def deriveZ (key : List Int) (s : ByteArray) (xs : List Int) : List Int := hmacZ key (formZ s xs)
theorem deriveZ_len (key : List Int) (s : ByteArray) (xs : List Int) : (deriveZ key s xs).length = 32 := hmacZ_len _ _
theorem deriveZ_bytes (key : List Int) (s : ByteArray) (xs : List Int) : IsBytes (deriveZ key s xs) := hmacZ_bytes _ _
set_option maxHeartbeats 2000000 in
theorem hderive_any {w : World} {B1 B2 : Nat} {A1 A2 : Option Addr} {n1 n2 : Nat} (c1 c2 : Nat) {ks xs : List Int} (s : ByteArray) (hk : Bs w B1 A1 n1 ks) (hx : Ns w B2 A2 n2 xs) (hB1 : B1 ≤ w.heap.size) (hB2 : B2 ≤ w.heap.size) (hn1 : n1 ≤ 1000000) (hs : s.size ≤ 1000) (hn2 : n2 ≤ 1000) (hF : LaidF w) (hK : LaidK w) :
    Calls Tryd.prog 26 #[.slice A1 n1 c1, .string s, .slice A2 n2 c2] w (Key32 w (deriveZ ks s xs)) := by
  have LX : Hid ((formZ s xs).length = s.size + 1 + 8 * n2) := Lib.hid (by rw [formZ_len, hx.len])
  obtain ⟨T, hT⟩ : ∃ T, hmacZ ks (formZ s xs) = T := ⟨_, rfl⟩
  have lT : Hid (T.length = 32) := Lib.hid (by rw [← hT]; exact hmacZ_len _ _)
  have C1 := Lib.hid (named_any c2 s hx hB2 hs hn2)
  have HT := Lib.hid hT
  have HKEY := Lib.hid hk
  have HF := Lib.hid hF
  have HK := Lib.hid hK
  have HFl := Lib.hid hF.lt
  have HKl := Lib.hid hK.lt
  clear hT hk hx hF hK
  go_enter Tryd.func26, Tryd.ntmps26
  go_wp2_with fail
  refine C1.out.mono ?_
  intro e w1 hm1
  obtain ⟨D1, d1, rfl, ho1, q1, _, _⟩ := hm1.n LX.out
  have z1 := Made.bs ho1 (formZ_bytes s xs)
  clear hm1 ho1
  go_wp2_with fail
  refine (hsum_any c1 d1 (HKEY.out.belowM q1 hB1) z1 (Nat.le_trans hB1 q1.size) (Nat.le_refl _) hn1 (by omega) (HF.out.below q1 HFl.out) (HK.out.below q1 HKl.out)).mono ?_
  rw [HT.out]
  rintro e w2 ⟨rfl, b2⟩
  have q2 := Lib.hid (q1.trans (b2.mono q1.size))
  clear b2 z1 q1
  have G := lT
  go_wp2_with (have g := G; clear g; refine wpList_store_as (op := ⟨none, .store 25 (.tmp 7) (.tmp 12), _, _, _, _⟩) rfl 25 (.tmp 7) (.tmp 12) rfl w2.heap.size 0 (vals T).toArray rfl rfl (tag_there w2 T lT.out) (tag_size T lT.out) (all_oneCell_toArray (vals_one T)) ?_; intro w3 hw3; clear G)
  obtain ⟨r3, b3, s3⟩ := stored_tag lT.out hw3
  have t3 : w3.there w2.heap.size 0 T.length := by
    have h : (w2.alloc (.cells (vals (List.replicate 32 0)).toArray 25)).there w2.heap.size 0 T.length := by
      have h0 := tag_there w2 T lT.out
      rwa [show (vals T).toArray.size = T.length by rw [List.size_toArray, vals_len]] at h0
    rw [hw3.out]
    exact World.there_setCells h _ _ _
  have q3 := q2.out.trans (b3.mono q2.out.size)
  go_ret
  exact ⟨w2.heap.size, rfl, by unfold deriveZ; rw [HT.out]; exact ⟨r3, t3⟩, q2.out.size, s3, q3⟩
end Go.Proofs.YtmglhfhcljdfcaaDoor
