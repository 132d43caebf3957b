/- Lists put together: what the program's Cat returns, of any number of lists. -/
import Derived.Test.YtcihbkdpkhhhcaaXor
namespace Go.Proofs.Ytcihbkdpkhhhcaa
open Go.ChangeShapes Go.WideShapes Go.ChangeAt Go.RowKit
set_option linter.unusedVariables false
def sumTo (N : Nat → Nat) : Nat → Nat
  | 0 => 0
  | k + 1 => sumTo N k + N k
def catTo (Z : Nat → List Int) : Nat → List Int
  | 0 => []
  | k + 1 => catTo Z k ++ Z k
theorem sumTo_le (N : Nat → Nat) : ∀ k m, k ≤ m → sumTo N k ≤ sumTo N m := by
  intro k m h
  induction m with
  | zero => have : k = 0 := by omega
            subst this; exact Nat.le_refl _
  | succ m ih =>
    by_cases hk : k = m + 1
    · subst hk; exact Nat.le_refl _
    · have := ih (by omega)
      show _ ≤ sumTo N m + N m
      omega
theorem catTo_len (Z : Nat → List Int) (N : Nat → Nat) : ∀ k, (∀ j, j < k → (Z j).length = N j) → (catTo Z k).length = sumTo N k := by
  intro k
  induction k with
  | zero => intro _; rfl
  | succ k ih =>
    intro h
    show (catTo Z k ++ Z k).length = sumTo N k + N k
    rw [List.length_append, ih (fun j hj => h j (by omega)), h k (by omega)]
theorem catTo_bytes (Z : Nat → List Int) : ∀ k, (∀ j, j < k → IsBytes (Z j)) → IsBytes (catTo Z k) := by
  intro k
  induction k with
  | zero => intro _; exact IsBytes.nil
  | succ k ih => intro h; exact (ih (fun j hj => h j (by omega))).app (h k (by omega))

/-- The m lists that the slice at A tells of. -/
structure Lists (w : World) (B : Nat) (A : Option Addr) (m : Nat) (As : Nat → Option Addr) (Ns Cs : Nat → Nat) (Zs : Nat → List Int) : Prop where
  row : 0 < m → ∃ b off, A = some ⟨b, off, none⟩ ∧ b < B ∧ ∀ j, j < m → w.cell? ⟨b, off + j, none⟩ = some (.slice (As j) (Ns j) (Cs j))
  bs : ∀ j, j < m → Bs w B (As j) (Ns j) (Zs j)
theorem Lists.below {w w' : World} {B m : Nat} {A : Option Addr} {As : Nat → Option Addr} {Ns Cs : Nat → Nat} {Zs : Nat → List Int} (h : Lists w B A m As Ns Cs Zs) (hb : Below B w w') : Lists w' B A m As Ns Cs Zs :=
  ⟨fun hm => by
    obtain ⟨b, off, rfl, hlt, hc⟩ := h.row hm
    exact ⟨b, off, rfl, hlt, fun j hj => (hb.cell (p := ⟨b, off + j, none⟩) hlt).trans (hc j hj)⟩, fun j hj => (h.bs j hj).below hb⟩
theorem Lists.at_ {w : World} {B m : Nat} {A : Option Addr} {As : Nat → Option Addr} {Ns Cs : Nat → Nat} {Zs : Nat → List Int} (h : Lists w B A m As Ns Cs Zs) {k : Nat} (hk : k < m) :
    ∃ b off, A = some ⟨b, off, none⟩ ∧ b < B ∧ w.cell? ⟨b, off + k, none⟩ = some (.slice (As k) (Ns k) (Cs k)) := by
  obtain ⟨b, off, rfl, hlt, hc⟩ := h.row (by omega)
  exact ⟨b, off, rfl, hlt, hc k hk⟩

theorem cat_any {B : Nat} {A : Option Addr} {m : Nat} (c : Nat) {As : Nat → Option Addr} {Ns Cs : Nat → Nat} {Zs : Nat → List Int} {w : World} (h : Lists w B A m As Ns Cs Zs) (hB : B ≤ w.heap.size) (hm : m ≤ maxLen) (hs : sumTo Ns m ≤ 140737488355328) :
    Calls Try.prog 42 #[.slice A m c] w (Made w (catTo Zs m)) := by
  unfold maxLen at hm
  obtain ⟨i0, hi0, hz0, hz1, hz2⟩ := info_parts u8_row
  have I0 := Lib.hid hi0
  have I1 := Lib.hid hz0
  have I2 := Lib.hid hz1
  have I3 := Lib.hid hz2
  have hle : ∀ k, k ≤ m → sumTo Ns k ≤ 140737488355328 := fun k hk => Nat.le_trans (sumTo_le Ns k m hk) hs
  have HLE := Lib.hid hle
  have HLL : Hid ((catTo Zs m).length = sumTo Ns m) := Lib.hid (catTo_len Zs Ns m (fun j hj => (h.bs j hj).len))
  clear hi0 hz0 hz1 hz2 hle
  go_enter Try.func42, Try.ntmps42
  go_wp2
  go_loop [3, 11] (fun s i => ∃ k : Nat, k ≤ m ∧ i = .int .i64 k ∧ s = .int .i64 (sumTo Ns k : Nat)) (fun _ i => m - (intOf i).toNat)
  case atStart => exact ⟨0, by omega, rfl, rfl⟩
  case round =>
    obtain ⟨k, hk, rfl, rfl⟩ := hrel
    by_cases hlt : k < m
    · obtain ⟨b, off, rfl, hb, hc⟩ := h.at_ hlt
      have h1 := HLE.out (k + 1) (by omega)
      have h2 : sumTo Ns (k + 1) = sumTo Ns k + Ns k := rfl
      have H2 := Lib.hid h2
      have h3 : sumTo Ns k + Ns k ≤ 140737488355328 := by omega
      clear h1 h2
      generalize Ns k = nk at *
      generalize sumTo Ns k = sk at *
      go_wp2
      go_round
      case rel => exact ⟨k + 1, by omega, by go_num, by rw [H2.out]; go_num⟩
      case measure => simp [intOf]; omega
    · have hkm : k = m := by omega
      have h1 := HLE.out k (by omega)
      have HS : Hid (sumTo Ns k = sumTo Ns m) := Lib.hid (by rw [hkm])
      generalize sumTo Ns k = S at *
      clear hkm
      go_wp2_with (at_make; refine wpList_make_own _ rfl _ _ 26 rfl w.heap.size 5 i0 _ 1 Try.underlying26 I0.out I1.out I2.out .i64 .i64 _ S rfl rfl rfl (by rw [I3.out]; omega) (by unfold maxLen; omega) (Nat.le_refl _) ?_; intro w1 ho1 hg1)
      have hb1 : Below w.heap.size w w1 := (Below.refl _ _).grown hg1 (Nat.le_refl _) (by simp)
      clear hg1
      generalize hv0 : Value.slice (some ⟨w.heap.size, 0, none⟩) 0 S = v0 at *
      clear hv0
      go_loopw [6, 24] (fun v i wr => ∃ j : Nat, j ≤ m ∧ i = .int .i64 j ∧ wr.ownsRow w.heap.size 5 1 v (sumTo Ns j) (vals (catTo Zs j)) ∧ Below w.heap.size w wr) (fun _ i _ => m - (intOf i).toNat)
      case atStart => exact ⟨0, by omega, rfl, ho1, hb1⟩
      case round =>
        obtain ⟨j, hj, rfl, hown, hbel⟩ := hrel
        by_cases hltj : j < m
        · obtain ⟨b, off, rfl, hb, hc⟩ := (h.below (hbel.mono hB)).at_ hltj
          have hbj := (h.below (hbel.mono hB)).bs j hltj
          have h1 := HLE.out (j + 1) (by omega)
          have h2 : sumTo Ns (j + 1) = sumTo Ns j + Ns j := rfl
          have H2 := Lib.hid h2
          have H4 : Hid (vals (catTo Zs (j + 1)) = vals (catTo Zs j) ++ vals (Zs j)) := Lib.hid (vals_app _ _)
          have h3 : sumTo Ns j + Ns j ≤ 140737488355328 := by omega
          have HB := Lib.hid hbj
          clear h1 h2 hbj
          generalize Ns j = nj at *
          generalize Cs j = cj at *
          generalize As j = aj at *
          generalize hsj : sumTo Ns j = sj at *
          clear hsj
          go_wp2_with (at_builtin; refine wpList_app _ rfl (.tmp 28) (.tmp 29) 26 rfl w.heap.size 5 1 1 Try.underlying26 u8_info (by omega) u6 sj (vals (catTo Zs j)) rfl hown aj nj cj (vals (Zs j)) rfl HB.out.lies.1 HB.out.lies.2 (vals_one _) (by unfold maxLen; omega) (by omega) hbel.size ?_; intro v2 w2 ho2 hg2)
          go_roundw
          case rel => exact ⟨j + 1, by omega, by go_num, by rw [H2.out, H4.out]; exact ho2, hbel.grown hg2 hbel.size (fun q hq => (hown.lt q hq).1)⟩
          case measure => simp [intOf]; omega
        · have hjm : j = m := by omega
          have HM : Made w (catTo Zs m) (.returned u6) wr := made_of (n := sumTo Ns m) HLL.out (by rw [← hjm]; exact hown) hbel
          have HM' := Lib.hid HM
          clear HM hjm
          go_wp2
          go_ret
          exact HM'.out
/-- One, two, three lists put together, as a caller lays them side by side. -/
theorem cat1_any {B1 : Nat} {A1 : Option Addr} {n1 : Nat} (c1 : Nat) {zs1 : List Int} {w : World} (t : TypeId) (h1 : Bs w B1 A1 n1 zs1) (hB1 : B1 ≤ w.heap.size) (hn : n1 ≤ 140737488355328) (c g : Nat) (hg : w.heap.size = g) :
    Calls Try.prog 42 #[.slice (some ⟨g, 0, none⟩) 1 c] (w.alloc (.cells #[.slice A1 n1 c1] t)) (Made (w.alloc (.cells #[.slice A1 n1 c1] t)) zs1) := by
  subst hg
  have := cat_any (B := w.heap.size + 1) (A := some ⟨w.heap.size, 0, none⟩) (m := 1) c (As := fun j => A1) (Ns := fun j => n1) (Cs := fun j => c1) (Zs := fun j => zs1)
    (w := w.alloc (.cells #[.slice A1 n1 c1] t))
    ⟨fun _ => ⟨w.heap.size, 0, rfl, by omega, fun j hj => by
      have hh : (w.alloc (.cells #[.slice A1 n1 c1] t)).cell? ⟨w.heap.size, 0 + j, none⟩ = (#[Value.slice A1 n1 c1])[0 + j]? := cell_of_row _ _ _ _ _ _ (heap_alloc_new w _)
      rw [hh]
      match j, hj with
      | 0, _ => rfl⟩,
     fun j hj => ((h1.more hB1).alloc (Nat.le_refl _) _).more (by omega)⟩
    (by simp) (by simp [maxLen]) (by show 0 + n1 ≤ _; omega)
  exact this
theorem cat2_any {B1 B2 : Nat} {A1 A2 : Option Addr} {n1 n2 : Nat} (c1 c2 : Nat) {zs1 zs2 : List Int} {w : World} (t : TypeId) (h1 : Bs w B1 A1 n1 zs1) (h2 : Bs w B2 A2 n2 zs2) (hB1 : B1 ≤ w.heap.size) (hB2 : B2 ≤ w.heap.size) (hn : n1 + n2 ≤ 140737488355328) (c g : Nat) (hg : w.heap.size = g) :
    Calls Try.prog 42 #[.slice (some ⟨g, 0, none⟩) 2 c] (w.alloc (.cells #[.slice A1 n1 c1, .slice A2 n2 c2] t)) (Made (w.alloc (.cells #[.slice A1 n1 c1, .slice A2 n2 c2] t)) (zs1 ++ zs2)) := by
  subst hg
  have := cat_any (B := w.heap.size + 1) (A := some ⟨w.heap.size, 0, none⟩) (m := 2) c (As := fun j => if j = 0 then A1 else A2) (Ns := fun j => if j = 0 then n1 else n2) (Cs := fun j => if j = 0 then c1 else c2) (Zs := fun j => if j = 0 then zs1 else zs2)
    (w := w.alloc (.cells #[.slice A1 n1 c1, .slice A2 n2 c2] t))
    ⟨fun _ => ⟨w.heap.size, 0, rfl, by omega, fun j hj => by
      have hh : (w.alloc (.cells #[.slice A1 n1 c1, .slice A2 n2 c2] t)).cell? ⟨w.heap.size, 0 + j, none⟩ = (#[Value.slice A1 n1 c1, .slice A2 n2 c2])[0 + j]? := cell_of_row _ _ _ _ _ _ (heap_alloc_new w _)
      rw [hh]
      match j, hj with
      | 0, _ => rfl
      | 1, _ => rfl⟩,
     fun j hj => by
      match j, hj with
      | 0, _ => exact ((h1.more hB1).alloc (Nat.le_refl _) _).more (by omega)
      | 1, _ => exact ((h2.more hB2).alloc (Nat.le_refl _) _).more (by omega)⟩
    (by simp) (by simp [maxLen]) (by show 0 + n1 + n2 ≤ _; omega)
  exact this
theorem cat3_any {B1 B2 B3 : Nat} {A1 A2 A3 : Option Addr} {n1 n2 n3 : Nat} (c1 c2 c3 : Nat) {zs1 zs2 zs3 : List Int} {w : World} (t : TypeId) (h1 : Bs w B1 A1 n1 zs1) (h2 : Bs w B2 A2 n2 zs2) (h3 : Bs w B3 A3 n3 zs3) (hB1 : B1 ≤ w.heap.size) (hB2 : B2 ≤ w.heap.size) (hB3 : B3 ≤ w.heap.size) (hn : n1 + n2 + n3 ≤ 140737488355328) (c g : Nat) (hg : w.heap.size = g) :
    Calls Try.prog 42 #[.slice (some ⟨g, 0, none⟩) 3 c] (w.alloc (.cells #[.slice A1 n1 c1, .slice A2 n2 c2, .slice A3 n3 c3] t)) (Made (w.alloc (.cells #[.slice A1 n1 c1, .slice A2 n2 c2, .slice A3 n3 c3] t)) (zs1 ++ zs2 ++ zs3)) := by
  subst hg
  have := cat_any (B := w.heap.size + 1) (A := some ⟨w.heap.size, 0, none⟩) (m := 3) c (As := fun j => if j = 0 then A1 else if j = 1 then A2 else A3) (Ns := fun j => if j = 0 then n1 else if j = 1 then n2 else n3) (Cs := fun j => if j = 0 then c1 else if j = 1 then c2 else c3) (Zs := fun j => if j = 0 then zs1 else if j = 1 then zs2 else zs3)
    (w := w.alloc (.cells #[.slice A1 n1 c1, .slice A2 n2 c2, .slice A3 n3 c3] t))
    ⟨fun _ => ⟨w.heap.size, 0, rfl, by omega, fun j hj => by
      have hh : (w.alloc (.cells #[.slice A1 n1 c1, .slice A2 n2 c2, .slice A3 n3 c3] t)).cell? ⟨w.heap.size, 0 + j, none⟩ = (#[Value.slice A1 n1 c1, .slice A2 n2 c2, .slice A3 n3 c3])[0 + j]? := cell_of_row _ _ _ _ _ _ (heap_alloc_new w _)
      rw [hh]
      match j, hj with
      | 0, _ => rfl
      | 1, _ => rfl
      | 2, _ => rfl⟩,
     fun j hj => by
      match j, hj with
      | 0, _ => exact ((h1.more hB1).alloc (Nat.le_refl _) _).more (by omega)
      | 1, _ => exact ((h2.more hB2).alloc (Nat.le_refl _) _).more (by omega)
      | 2, _ => exact ((h3.more hB3).alloc (Nat.le_refl _) _).more (by omega)⟩
    (by simp) (by simp [maxLen]) (by show 0 + n1 + n2 + n3 ≤ _; omega)
  exact this
theorem cat0_any (w : World) (c : Nat) : Calls Try.prog 42 #[.slice none 0 c] w (Made w []) :=
  cat_any (B := 0) (A := none) (m := 0) c (As := fun _ => none) (Ns := fun _ => 0) (Cs := fun _ => 0) (Zs := fun _ => []) ⟨fun h => absurd h (by omega), fun j hj => absurd hj (by omega)⟩ (by omega) (by simp [maxLen]) (by show 0 ≤ _; omega)
end Go.Proofs.Ytcihbkdpkhhhcaa
