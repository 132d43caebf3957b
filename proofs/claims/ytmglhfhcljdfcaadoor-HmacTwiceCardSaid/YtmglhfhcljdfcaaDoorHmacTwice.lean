/- The HMAC is a tag of a tag. -/
import Derived.Test.YtmglhfhcljdfcaaDoorHAwake
import Derived.Test.YtmglhfhcljdfcaaDoorApp
import Derived.Test.YtmglhfhcljdfcaaDoorCat
import Derived.Deep.Cut
import Derived.Deep.DeepCutAuto
namespace Go.Proofs.YtmglhfhcljdfcaaDoor
open Go.ChangeShapes Go.WideShapes Go.ChangeAt Go.RowKit
set_option linter.unusedVariables false
open Plain Sha
theorem row8_set {w : World} {b : Nat} {l : List Int} (h : Row8 w b 0 l) (k : Nat) (x : Int) (hk : k < l.length) : Row8 (w.setCell ⟨b, k, none⟩ (.int .u8 x)) b 0 (l.set k x) := by
  have := h.splice k [x] (by simp; omega)
  have e : splice l k [x] = l.set k x := list_ext_getD (by rw [splice_len (by simp; omega), List.length_set]) (fun j hj => by
    rw [splice_at _ _ _ _ (by simp; omega), getD_set _ _ _ _ hk]
    by_cases e : k = j
    · subst e; rw [if_pos (by simp), if_pos rfl, Nat.sub_self]; rfl
    · rw [if_neg (by simp; omega), if_neg e])
  rw [e, Nat.zero_add] at this
  exact this
theorem row8_other {w : World} {b : Nat} {l : List Int} (h : Row8 w b 0 l) (p : Addr) (v : Value) (hp : p.block ≠ b) : Row8 (w.setCell p v) b 0 l :=
  h.same (Below.heap_setCell w p v b (fun e => hp e.symm))
theorem row8_cell {w : World} {b : Nat} {l : List Int} (h : Row8 w b 0 l) {k : Nat} (hk : k < l.length) {x : Int} (hx : l.getD k 0 = x) : w.cell? ⟨b, k, none⟩ = some (.int .u8 x) ∧ w.frozen? ⟨b, k, none⟩ = false := by
  have h1 := h.range k _ (vals_at l k hk)
  have h2 := h.there k hk
  rw [Nat.zero_add] at h1 h2
  rw [hx] at h1
  exact ⟨h1, h2.2⟩
theorem row8_alloc {w : World} {b : Nat} {l : List Int} (h : Row8 w b 0 l) (hb : b < w.heap.size) (o : Obj) : Row8 (w.alloc o) b 0 l := h.same (Below.heap_alloc _ _ _ hb)
theorem lists2 {w : World} {B1 B2 : Nat} {A1 A2 : Option Addr} {n1 n2 : Nat} (c1 c2 : Nat) {zs1 zs2 : List Int} (t : TypeId) (h1 : Bs w B1 A1 n1 zs1) (h2 : Bs w B2 A2 n2 zs2) (hB1 : B1 ≤ w.heap.size) (hB2 : B2 ≤ w.heap.size) (g : Nat) (hg : w.heap.size = g) :
    Lists (w.alloc (.cells #[.slice A1 n1 c1, .slice A2 n2 c2] t)) (g + 1) (some ⟨g, 0, none⟩) 2 (fun j => if j = 0 then A1 else A2) (fun j => if j = 0 then n1 else n2) (fun j => if j = 0 then c1 else c2) (fun j => if j = 0 then zs1 else zs2) := by
  subst hg
  exact ⟨fun _ => ⟨w.heap.size, 0, rfl, by omega, fun j hj => by
      have hh : (w.alloc (.cells #[.slice A1 n1 c1, .slice A2 n2 c2] t)).cell? ⟨w.heap.size, 0 + j, none⟩ = (#[Value.slice A1 n1 c1, .slice A2 n2 c2])[0 + j]? := cell_of_row _ _ _ _ _ _ (heap_alloc_new w _)
      rw [hh]
      match j, hj with
      | 0, _ => rfl
      | 1, _ => rfl⟩,
     fun j hj => by
      match j, hj with
      | 0, _ => exact ((h1.more hB1).alloc (Nat.le_refl _) _).more (by omega)
      | 1, _ => exact ((h2.more hB2).alloc (Nat.le_refl _) _).more (by omega)⟩
theorem cat_of2 {w : World} {B : Nat} {A A1 A2 : Option Addr} {n1 n2 c1 c2 : Nat} {zs1 zs2 : List Int} (c : Nat) (h : Lists w B A 2 (fun j => if j = 0 then A1 else A2) (fun j => if j = 0 then n1 else n2) (fun j => if j = 0 then c1 else c2) (fun j => if j = 0 then zs1 else zs2)) (hB : B ≤ w.heap.size) (hn : n1 + n2 ≤ 140737488355328) :
    Calls Tryd.prog 28 #[.slice A 2 c] w (Made w (zs1 ++ zs2)) := by
  have := cat_any (B := B) (A := A) (m := 2) c (w := w) h hB (by simp [maxLen]) (by show 0 + n1 + n2 ≤ _; omega)
  exact this
theorem xor_comm8 (x y : Int) (h1 : 0 ≤ x) (h2 : x < 256) (h3 : 0 ≤ y) (h4 : y < 256) : bits .xor .u8 x y = bits .xor .u8 y x := by
  rw [u8_xor x y h1 h2 h3 h4, u8_xor y x h3 h4 h1 h2, Nat.xor_comm]
theorem xor_nought8 (x : Int) (h1 : 0 ≤ x) (h2 : x < 256) : bits .xor .u8 0 x = x := by
  rw [u8_xor 0 x (by omega) (by omega) h1 h2]
  simp; omega
theorem block_at_lo (xs : List Int) (hl : xs.length ≤ 64) (x : Int) (k : Nat) (hk : k < xs.length) : (blockZ xs x).getD k 0 = bits .xor .u8 (xs.getD k 0) x := by
  unfold blockZ
  rw [xorZ_at _ _ _ (by rw [keyZ_len]; omega) (by rw [List.length_replicate]; omega), rep_at 64 k x (by omega)]
  unfold keyZ
  rw [shortZ_of hl]
  congr 1
  rw [List.getD_eq_getElem?_getD, List.getElem?_append_left hk, ← List.getD_eq_getElem?_getD]
theorem block_at_hi (xs : List Int) (x : Int) (h0 : 0 ≤ x) (h1 : x < 256) (k : Nat) (hk : xs.length ≤ k) (hk2 : k < 64) : (blockZ xs x).getD k 0 = x := by
  unfold blockZ
  rw [xorZ_at _ _ _ (by rw [keyZ_len]; omega) (by rw [List.length_replicate]; omega), rep_at 64 k x hk2]
  unfold keyZ
  rw [shortZ_of (by omega), List.getD_eq_getElem?_getD, List.getElem?_append_right hk, ← List.getD_eq_getElem?_getD, rep_at _ _ _ (by omega)]
  exact xor_nought8 x h0 h1
/-- Two rows that the loop fills. -/
structure Blocks2 (w : World) (ib ob : Nat) (xs : List Int) (k : Nat) : Prop where
  ex : ∃ cs ds : List Int, cs.length = 64 ∧ ds.length = 64 ∧ Row8 w ib 0 cs ∧ Row8 w ob 0 ds ∧ (∀ j, j < k → cs.getD j 0 = (blockZ xs 54).getD j 0) ∧ (∀ j, j < k → ds.getD j 0 = (blockZ xs 92).getD j 0)
theorem Blocks2.done {w : World} {ib ob : Nat} {xs : List Int} (h : Blocks2 w ib ob xs 64) : Row8 w ib 0 (blockZ xs 54) ∧ Row8 w ob 0 (blockZ xs 92) := by
  obtain ⟨cs, ds, l1, l2, r1, r2, e1, e2⟩ := h.ex
  have c1 : cs = blockZ xs 54 := list_ext_getD (by rw [l1, blockZ_len]) (fun j hj => e1 j (by omega))
  have c2 : ds = blockZ xs 92 := list_ext_getD (by rw [l2, blockZ_len]) (fun j hj => e2 j (by omega))
  exact ⟨by rw [← c1]; exact r1, by rw [← c2]; exact r2⟩
/-- Round k writes what it writes. -/
theorem Blocks2.step {w w' : World} {ib ob : Nat} {xs : List Int} {k : Nat} (h : Blocks2 w ib ob xs k) (hk : k < 64) (hne : ib ≠ ob) (x y : Int) (hx : x = (blockZ xs 54).getD k 0) (hy : y = (blockZ xs 92).getD k 0)
    (hw : ∀ cs ds : List Int, cs.length = 64 → ds.length = 64 → Row8 w ib 0 cs → Row8 w ob 0 ds → Row8 w' ib 0 (cs.set k x) ∧ Row8 w' ob 0 (ds.set k y)) : Blocks2 w' ib ob xs (k + 1) := by
  obtain ⟨cs, ds, l1, l2, r1, r2, e1, e2⟩ := h.ex
  obtain ⟨s1, s2⟩ := hw cs ds l1 l2 r1 r2
  refine ⟨cs.set k x, ds.set k y, by rw [List.length_set]; exact l1, by rw [List.length_set]; exact l2, s1, s2, fun j hj => ?_, fun j hj => ?_⟩
  · rw [getD_set _ _ _ _ (by omega)]
    split
    · next e => rw [← e, hx]
    · exact e1 j (by omega)
  · rw [getD_set _ _ _ _ (by omega)]
    split
    · next e => rw [← e, hy]
    · exact e2 j (by omega)
theorem set_set (l : List Int) (k : Nat) (x y : Int) : (l.set k x).set k y = l.set k y := by simp
theorem Blocks2.cells {w : World} {ib ob : Nat} {xs : List Int} {k : Nat} (h : Blocks2 w ib ob xs k) (hk : k < 64) :
    (∃ u, w.cell? ⟨ib, k, none⟩ = some (.int .u8 u)) ∧ w.frozen? ⟨ib, k, none⟩ = false ∧ (∃ u, w.cell? ⟨ob, k, none⟩ = some (.int .u8 u)) ∧ w.frozen? ⟨ob, k, none⟩ = false := by
  obtain ⟨cs, ds, l1, l2, r1, r2, e1, e2⟩ := h.ex
  have h1 := row8_cell r1 (k := k) (by omega) rfl
  have h2 := row8_cell r2 (k := k) (by omega) rfl
  exact ⟨⟨_, h1.1⟩, h1.2, ⟨_, h2.1⟩, h2.2⟩
theorem zero_rows (w : World) : Row8 ((w.alloc (.cells (vals (List.replicate 64 0)).toArray 5)).alloc (.cells (vals (List.replicate 64 0)).toArray 5)) w.heap.size 0 (List.replicate 64 0) ∧ Row8 ((w.alloc (.cells (vals (List.replicate 64 0)).toArray 5)).alloc (.cells (vals (List.replicate 64 0)).toArray 5)) (w.heap.size + 1) 0 (List.replicate 64 0) := by
  refine ⟨row8_alloc (Row8.new w _ _) (by simp) _, ?_⟩
  have := Row8.new (w.alloc (.cells (vals (List.replicate 64 0)).toArray 5)) (List.replicate 64 0) 5
  simpa using this
/-- Two new slices of 64 noughts. -/
def TwoNew (w : World) (s5 s6 : Value) (wx : World) : Prop := ∃ ib ob, s5 = .slice (some ⟨ib, 0, none⟩) 64 64 ∧ s6 = .slice (some ⟨ob, 0, none⟩) 64 64 ∧ ib ≠ ob ∧ w.heap.size ≤ ib ∧ w.heap.size ≤ ob ∧ ib < wx.heap.size ∧ ob < wx.heap.size ∧ Row8 wx ib 0 (List.replicate 64 0) ∧ Row8 wx ob 0 (List.replicate 64 0) ∧ Below w.heap.size w wx
theorem twoNew_ab (w w1 : World) (q : Below w.heap.size w w1) : TwoNew w (.slice (some ⟨w1.heap.size, 0, none⟩) 64 64) (.slice (some ⟨w1.heap.size + 1, 0, none⟩) 64 64) ((w1.alloc (.cells (vals (List.replicate 64 0)).toArray 5)).alloc (.cells (vals (List.replicate 64 0)).toArray 5)).drew :=
  ⟨_, _, rfl, rfl, by omega, q.size, by have := q.size; omega, (show w1.heap.size < ((w1.alloc _).alloc _).heap.size by simp; omega), (show w1.heap.size + 1 < ((w1.alloc _).alloc _).heap.size by simp), (zero_rows w1).1.same rfl, (zero_rows w1).2.same rfl, ((q.alloc q.size _).alloc (by have := q.size; simp; omega) _).drew⟩
theorem twoNew_ba (w w1 : World) (q : Below w.heap.size w w1) : TwoNew w (.slice (some ⟨w1.heap.size + 1, 0, none⟩) 64 64) (.slice (some ⟨w1.heap.size, 0, none⟩) 64 64) ((w1.alloc (.cells (vals (List.replicate 64 0)).toArray 5)).alloc (.cells (vals (List.replicate 64 0)).toArray 5)).drew :=
  ⟨_, _, rfl, rfl, by omega, by have := q.size; omega, q.size, (show w1.heap.size + 1 < ((w1.alloc _).alloc _).heap.size by simp), (show w1.heap.size < ((w1.alloc _).alloc _).heap.size by simp; omega), (zero_rows w1).2.same rfl, (zero_rows w1).1.same rfl, ((q.alloc q.size _).alloc (by have := q.size; simp; omega) _).drew⟩
theorem blocks0 {w : World} {ib ob : Nat} (xs : List Int) (h1 : Row8 w ib 0 (List.replicate 64 0)) (h2 : Row8 w ob 0 (List.replicate 64 0)) : Blocks2 w ib ob xs 0 :=
  ⟨_, _, List.length_replicate .., List.length_replicate .., h1, h2, fun j hj => absurd hj (by omega), fun j hj => absurd hj (by omega)⟩
set_option maxRecDepth 100000 in
set_option maxHeartbeats 8000000 in
theorem hmacTwice_in {na nb : Nat} {A0 A1 : Option Addr} (c0 c1 : Nat) {xs bs : List Int} (w : World) (zA : Bs w w.heap.size A0 na xs) (zB : Bs w w.heap.size A1 nb bs)
    (ha : na ≤ 64) (hb : nb ≤ 500) (hF : LaidF w) (hK : LaidK w) :
    Calls Tryd.prog 10 #[.slice A0 na c0, .slice A1 nb c1] w fun e w' => e = .returned (.bool true) ∧ Below w.heap.size w w' := by
  obtain ⟨T, hT⟩ : ∃ T, hmacZ xs bs = T := ⟨_, rfl⟩
  obtain ⟨I, hI⟩ : ∃ I, shaZ (blockZ xs 54 ++ bs) = I := ⟨_, rfl⟩
  have hT2 : shaZ (blockZ xs 92 ++ I) = T := by rw [← hT, ← hI]; rfl
  have lT : Hid (T.length = 32) := Lib.hid (by rw [← hT]; exact hmacZ_len _ _)
  have lI : Hid (I.length = 32) := Lib.hid (by rw [← hI]; exact shaZ_len32 _)
  have bI : Hid (IsBytes I) := Lib.hid (by rw [← hI]; exact shaZ_bytes _)
  have hE : ∀ w, (binOp .eql 25 (.agg (vals T).toArray) (.agg (vals T).toArray)).run Tryd.prog w = .ok (.bool true) w := fun w => by rw [run_tagEq T T lT.out lT.out w, show eqB T T = true by simp [eqB]]
  have hmk : ∀ w : World, (Instr.makeSlice 22 (.int .i64 64) (.int .i64 64)).run Tryd.prog w = .ok (.slice (some ⟨w.heap.size, 0, none⟩) 64 64) (w.alloc (.cells (madeCells #[.int .u8 0] 64) 5)) := make_u8 64 (by omega)
  rw [madeCells_vals] at hmk
  generalize hZ : List.replicate 64 (0 : Int) = Z0 at hmk
  have HZ0 := Lib.hid hZ
  clear hZ
  have g1 : ¬ 64 < (na : Int) := by omega
  have g2 : ¬ 500 < (nb : Int) := by omega
  have B54 := Lib.hid (blockZ_bytes zA.isBytes 54 (by omega) (by omega))
  have B92 := Lib.hid (blockZ_bytes zA.isBytes 92 (by omega) (by omega))
  have ZA := Lib.hid zA
  have ZB := Lib.hid zB
  have LA := Lib.hid zA.len
  have HT := Lib.hid hT
  have HI := Lib.hid hI
  have HT2 := Lib.hid hT2
  have HF := Lib.hid hF
  have HK := Lib.hid hK
  have HFl := Lib.hid hF.lt
  have HKl := Lib.hid hK.lt
  clear hT hI hT2 zA zB hF hK
  go_enter Tryd.func10, Tryd.ntmps10
  go_wp2_with fail
  refine (hmacAwake_any w HF.out HK.out).mono ?_
  rintro e w1 ⟨rfl, b1⟩
  have q1 := Lib.hid b1
  have s1 := b1.size
  clear b1
  have TA := Lib.hid (twoNew_ab w w1 q1.out)
  have TB := Lib.hid (twoNew_ba w w1 q1.out)
  rw [HZ0.out] at TA TB
  go_upto_region 5 with fail
  go_cut [5, 6] (fun s5 s6 wx => TwoNew w s5 s6 wx)
  case first =>
    go_region
    all_goals
      go_wp2_with fail
      go_meet
      first
        | exact TA.out
        | exact TB.out
  case rest =>
    obtain ⟨ib, ob, rfl, rfl, hne, hib, hob, hib2, hob2, r1, r2, q2⟩ := hcut
    have M0 := Lib.hid (blocks0 xs r1 r2)
    have Q2 := Lib.hid q2
    clear r1 r2 q2 TA TB hmk
    go_wp2
    go_loopw [7] (fun i wr => ∃ k : Nat, k ≤ 64 ∧ i = .int .i64 k ∧ Hid (Blocks2 wr ib ob xs k) ∧ Below w.heap.size w wr ∧ ib < wr.heap.size ∧ ob < wr.heap.size) (fun i _ => 64 - (intOf i).toNat)
    case atStart => exact ⟨0, by omega, rfl, M0, Q2.out, hib2, hob2⟩
    case round =>
      obtain ⟨k, hk, rfl, HM, hbel, hi3, ho3⟩ := hrel
      by_cases hlt : k < 64
      · obtain ⟨⟨u1, c1'⟩, f1, ⟨u2, c2'⟩, f2⟩ := HM.out.cells hlt
        have hltI : (k : Int) < 64 := by omega
        have hne' : ob ≠ ib := fun e => hne e.symm
        have QB := Lib.hid hbel
        clear hbel
        by_cases hkn : k < na
        · have hknI : (k : Int) < (na : Int) := by omega
          obtain ⟨b1, o1, u, hA0, hb1, HU, hu0, hu1, hc1⟩ := (ZA.out.belowM QB.out (Nat.le_refl _)).at_ (k := k) hkn
          subst hA0
          have hbi : b1 ≠ ib := by omega
          have hbo : b1 ≠ ob := by omega
          go_upto_region 11 with fail
          obtain ⟨W9, hW9⟩ : ∃ W9, W9 = (wr.setCell ⟨ib, k, none⟩ (.int .u8 54)).setCell ⟨ob, k, none⟩ (.int .u8 92) := ⟨_, rfl⟩
          have d1 : W9.cell? ⟨ib, k, none⟩ = some (.int .u8 54) := by
            rw [hW9, World.cell?_setCell_other _ _ _ _ (fun e => hne (congrArg Addr.block e).symm)]
            obtain ⟨cs, ds, l1, l2, r1, r2, e1, e2⟩ := HM.out.ex
            exact (row8_cell (row8_set r1 k 54 (by omega)) (k := k) (by rw [List.length_set]; omega) (by rw [getD_set _ _ _ _ (by omega), if_pos rfl])).1
          have d2 : W9.cell? ⟨ob, k, none⟩ = some (.int .u8 92) := by
            rw [hW9]
            obtain ⟨cs, ds, l1, l2, r1, r2, e1, e2⟩ := HM.out.ex
            exact (row8_cell (row8_set (row8_other r2 ⟨ib, k, none⟩ (.int .u8 54) hne) k 92 (by omega)) (k := k) (by rw [List.length_set]; omega) (by rw [getD_set _ _ _ _ (by omega), if_pos rfl])).1
          have d3 : W9.cell? ⟨b1, o1 + k, none⟩ = some (.int .u8 u) := by
            rw [hW9, World.cell?_setCell_other _ _ _ _ (fun e => hbo (congrArg Addr.block e).symm), World.cell?_setCell_other _ _ _ _ (fun e => hbi (congrArg Addr.block e).symm)]
            exact hc1
          have f3 : W9.frozen? ⟨ib, k, none⟩ = false := by
            rw [hW9]
            obtain ⟨cs, ds, l1, l2, r1, r2, e1, e2⟩ := HM.out.ex
            exact (row8_cell (row8_other (row8_set r1 k 54 (by omega)) ⟨ob, k, none⟩ (.int .u8 92) hne') (k := k) (by rw [List.length_set]; omega) rfl).2
          have f4 : W9.frozen? ⟨ob, k, none⟩ = false := by
            rw [hW9]
            obtain ⟨cs, ds, l1, l2, r1, r2, e1, e2⟩ := HM.out.ex
            exact (row8_cell (row8_set (row8_other r2 ⟨ib, k, none⟩ (.int .u8 54) hne) k 92 (by omega)) (k := k) (by rw [List.length_set]; omega) rfl).2
          have HS : ∀ W, (∀ cs ds : List Int, cs.length = 64 → ds.length = 64 → Row8 W9 ib 0 cs → Row8 W9 ob 0 ds → Row8 W ib 0 (cs.set k (bits .xor .u8 54 u)) ∧ Row8 W ob 0 (ds.set k (bits .xor .u8 92 u))) → Blocks2 W ib ob xs (k + 1) := fun W hW => by
            refine HM.out.step hlt hne (bits .xor .u8 54 u) (bits .xor .u8 92 u) ?_ ?_ (fun cs ds l1 l2 r1 r2 => ?_)
            · rw [block_at_lo xs (by rw [LA.out]; exact ha) 54 k (by rw [LA.out]; exact hkn), HU.out, xor_comm8 u 54 hu0 hu1 (by omega) (by omega)]
            · rw [block_at_lo xs (by rw [LA.out]; exact ha) 92 k (by rw [LA.out]; exact hkn), HU.out, xor_comm8 u 92 hu0 hu1 (by omega) (by omega)]
            · have := hW (cs.set k 54) (ds.set k 92) (by rw [List.length_set]; exact l1) (by rw [List.length_set]; exact l2)
                (by rw [hW9]; exact row8_other (row8_set r1 k 54 (by omega)) _ _ hne') (by rw [hW9]; exact row8_set (row8_other r2 _ _ hne) k 92 (by omega))
              rwa [set_set, set_set] at this
          have HSS := Lib.hid HS
          have QS : Hid (Below w.heap.size w W9) := Lib.hid (by rw [hW9]; exact (QB.out.setCell hib _).setCell hob _)
          have hi9 : ib < W9.heap.size := by rw [hW9]; simpa [World.setCell] using hi3
          have ho9 : ob < W9.heap.size := by rw [hW9]; simpa [World.setCell] using ho3
          rw [← hW9]
          clear hW9 HS c1' c2' f1 f2 hc1 HM QB HU
          go_region
          all_goals
            go_wp2
            go_roundw
            case rel =>
              refine ⟨k + 1, by omega, by go_num, ?_, ?_, ?_, ?_⟩
              · first
                | exact Lib.hid (HSS.out _ (fun cs ds l1 l2 r1 r2 => ⟨row8_other (row8_set (w := W9.drew) (r1.same rfl) k _ (by omega)) _ _ hne', row8_set (row8_other (w := W9.drew) (r2.same rfl) _ _ hne) k _ (by omega)⟩))
                | exact Lib.hid (HSS.out _ (fun cs ds l1 l2 r1 r2 => ⟨row8_set (row8_other (w := W9.drew) (r1.same rfl) _ _ hne') k _ (by omega), row8_other (row8_set (w := W9.drew) (r2.same rfl) k _ (by omega)) _ _ hne⟩))
              · first
                | exact (QS.out.drew.setCell hib _).setCell hob _
                | exact (QS.out.drew.setCell hob _).setCell hib _
              · simpa [World.setCell] using hi9
              · simpa [World.setCell] using ho9
            case measure => simp [intOf]; omega
        · have hge : ¬ (k : Int) < (na : Int) := by omega
          have HS : Hid (Blocks2 ((wr.setCell ⟨ib, k, none⟩ (.int .u8 54)).setCell ⟨ob, k, none⟩ (.int .u8 92)) ib ob xs (k + 1)) := Lib.hid (HM.out.step hlt hne 54 92 (block_at_hi xs 54 (by omega) (by omega) k (by rw [LA.out]; omega) hlt).symm (block_at_hi xs 92 (by omega) (by omega) k (by rw [LA.out]; omega) hlt).symm (fun cs ds l1 l2 r1 r2 =>
            ⟨row8_other (row8_set r1 k 54 (by omega)) _ _ hne', row8_set (row8_other r2 _ _ hne) k 92 (by omega)⟩))
          have QS : Hid (Below w.heap.size w ((wr.setCell ⟨ib, k, none⟩ (.int .u8 54)).setCell ⟨ob, k, none⟩ (.int .u8 92))) := Lib.hid ((QB.out.setCell hib _).setCell hob _)
          go_wp2
          go_roundw
          case rel => exact ⟨k + 1, by omega, by go_num, HS, QS.out, by simpa [World.setCell] using hi3, by simpa [World.setCell] using ho3⟩
          case measure => simp [intOf]; omega
      · have hk64 : k = 64 := by omega
        obtain ⟨ri, ro⟩ := Blocks2.done (show Blocks2 wr ib ob xs 64 by rw [← hk64]; exact HM.out)
        have RI := Lib.hid ri
        have RO := Lib.hid ro
        have q3 := Lib.hid hbel
        have hge : ¬ (k : Int) < 64 := by omega
        have s3 := hbel.size
        clear hk64 HM hbel ri ro M0 Q2
        go_wp2_with fail
        refine (new_any wr (HF.out.below q3.out HFl.out)).mono ?_
        rintro e w4 ⟨rfl, h4, b4, s4⟩
        have q4 := Lib.hid (q3.out.trans (b4.mono s3))
        have RI4 := Lib.hid (RI.out.same (b4.block ib hi3))
        have RO4 := Lib.hid (RO.out.same (b4.block ob ho3))
        have H4 := Lib.hid h4
        have z4 := b4.size
        clear h4 b4 RI RO q3
        obtain ⟨hb', hhb⟩ : ∃ g, wr.heap.size = g := ⟨_, rfl⟩
        rw [hhb] at s4 z4 H4 hi3 ho3 s3
        simp only [hhb]
        clear hhb
        have ZI4 := Lib.hid (RI4.out.bs B54.out (show ib < w4.heap.size by omega) (n := 64) (blockZ_len xs 54).symm)
        go_wp2_with fail
        refine (write_any H4.out IsBytes.nil 64 ZI4.out (Nat.le_refl _) (by simp) (HK.out.below q4.out HKl.out) (by have := HKl.out; omega)).mono ?_
        rw [List.nil_append]
        rintro e w5 ⟨rfl, h5, g5⟩
        have q5 := Lib.hid (below_hash g5 (by omega) q4.out q4.out.size)
        have RO5 := Lib.hid (RO4.out.same (g5.block ob (by omega) (by simp; omega)))
        have H5 := Lib.hid h5
        have s5 := g5.size
        clear h5 g5 H4 RI4 RO4 ZI4 q4
        go_wp2_with fail
        refine (write_any H5.out B54.out c1 (ZB.out.belowM q5.out (Nat.le_refl _)) q5.out.size (by rw [blockZ_len]; omega) (HK.out.below q5.out HKl.out) (by have := HKl.out; omega)).mono ?_
        rintro e w6 ⟨rfl, h6, g6⟩
        have q6 := Lib.hid (below_hash g6 (by omega) q5.out q5.out.size)
        have RO6 := Lib.hid (RO5.out.same (g6.block ob (by omega) (by simp; omega)))
        have H6 := Lib.hid h6
        have s6 := g6.size
        clear h6 g6 H5 RO5 q5
        go_wp2_with fail
        refine (sum_any H6.out (B54.out.app ZB.out.isBytes) (by rw [List.length_append, blockZ_len, ZB.out.len]; omega) (HK.out.below q6.out HKl.out)).mono ?_
        rw [HI.out]
        rintro e w7 ⟨rfl, b7⟩
        have q7 := Lib.hid (q6.out.trans (b7.mono q6.out.size))
        have RO7 := Lib.hid (RO6.out.same (b7.block ob (by omega)))
        have s7 := b7.size
        clear b7 H6 RO6 q6
        have G := lI
        go_upto_region 16 with (have g := G; clear g; refine wpList_store_as (op := ⟨none, .store 25 (.tmp 9) (.tmp 71), _, _, _, _⟩) rfl 25 (.tmp 9) (.tmp 71) rfl w7.heap.size 0 (vals I).toArray rfl rfl (tag_there w7 I lI.out) (tag_size I lI.out) (all_oneCell_toArray (vals_one I)) ?_; intro w8 hw8; clear G)
        obtain ⟨r8, b8, s8⟩ := stored_tag lI.out hw8
        have q8 := Lib.hid (q7.out.trans (b8.mono q7.out.size))
        have RO8 := Lib.hid (RO7.out.same (b8.block ob (by omega)))
        have ZI8 := Lib.hid (bs_range r8 lI.out bI.out)
        obtain ⟨xb, hxb⟩ : ∃ g, w7.heap.size = g := ⟨_, rfl⟩
        rw [hxb] at ZI8 s8 s7
        simp only [hxb]
        have ZO8 := Lib.hid (RO8.out.bs B92.out (show ob < w8.heap.size by omega) (n := 64) (blockZ_len xs 92).symm)
        clear hw8 hxb r8 b8 RO7 q7
        have hL : Hid ((blockZ xs 92 ++ I).length = 96) := Lib.hid (by rw [List.length_append, blockZ_len, lI.out])
        have S8 := Lib.hid q8.out.size
        have C1 := Lib.hid (hsum_any c0 c1 (ZA.out.belowM q8.out.drew (Nat.le_refl _)) (ZB.out.belowM q8.out.drew (Nat.le_refl _)) S8.out S8.out (by omega) (by omega) (HF.out.below q8.out.drew HFl.out) (HK.out.below q8.out.drew HKl.out))
        have Q8a : Hid (Below w.heap.size w (w8.drew.alloc (.cells #[.slice (some ⟨ob, 0, none⟩) 64 64, .slice (some ⟨xb, 0, none⟩) 32 32] 22))) := Lib.hid (q8.out.drew.alloc S8.out _)
        have C1b := Lib.hid (hsum_any c0 c1 (w := w8.drew.alloc (.cells #[.slice (some ⟨ob, 0, none⟩) 64 64, .slice (some ⟨xb, 0, none⟩) 32 32] 22)) (ZA.out.belowM Q8a.out (Nat.le_refl _)) (ZB.out.belowM Q8a.out (Nat.le_refl _)) Q8a.out.size Q8a.out.size (by omega) (by omega) (HF.out.below Q8a.out HFl.out) (HK.out.below Q8a.out HKl.out))
        rw [HT.out] at C1 C1b
        have LL := Lib.hid (lists2 (w := w8.drew) 64 32 22 ZO8.out.drew ZI8.out.drew (Nat.le_refl _) (show xb + 1 ≤ w8.heap.size from s8) w8.heap.size rfl)
        refine wp_region_noPanic ?_
        refine wp_region_held_drew (S := fun _ => True) (by kernel_rfl) trivial (fun hHeld => ?_)
        refine wpAnyH_take (i := 0) (oi := ⟨some 73, .move (.tmp 0), _, _, _, _⟩) (v := .slice A0 na c0) rfl (by kernel_rfl) (by kernel_rfl) (by kernel_rfl) (fun _ _ _ h => h) (Or.inl ⟨by rfl, fun w hSw => ?_⟩) (by assumption) ?_
        · go_simp
        try simp only [Act.put, List.setIfInBounds_toArray, List.set_cons_zero, List.set_cons_succ]
        refine wpAnyH_take (i := 1) (oi := ⟨some 74, .move (.tmp 1), _, _, _, _⟩) (v := .slice A1 nb c1) rfl (by kernel_rfl) (by kernel_rfl) (by kernel_rfl) (fun _ _ _ h => h) (Or.inl ⟨by rfl, fun w hSw => ?_⟩) (by assumption) ?_
        · go_simp
        try simp only [Act.put, List.setIfInBounds_toArray, List.set_cons_zero, List.set_cons_succ]
        refine wpAnyH_take (i := 3) (oi := ⟨some 76, .move (.tmp 6), _, _, _, _⟩) (v := .slice (some ⟨ob, 0, none⟩) 64 64) rfl (by kernel_rfl) (by kernel_rfl) (by kernel_rfl) (fun _ _ _ h => h) (Or.inl ⟨by rfl, fun w hSw => ?_⟩) (by assumption) ?_
        · go_simp
        try simp only [Act.put, List.setIfInBounds_toArray, List.set_cons_zero, List.set_cons_succ]
        refine wpAnyH_take (i := 4) (oi := ⟨some 77, .slice 25 (.tmp 9) none none none, _, _, _, _⟩) (v := .slice (some ⟨xb, 0, none⟩) 32 32) rfl (by kernel_rfl) (by kernel_rfl) (by kernel_rfl) (fun _ _ _ h => h) (Or.inl ⟨by rfl, fun w hSw => ?_⟩) (by assumption) ?_
        · go_simp
        try simp only [Act.put, List.setIfInBounds_toArray, List.set_cons_zero, List.set_cons_succ]
        refine wpAnyH_ready (rs := [2, 5]) (by kernel_rfl) (by simp) ?_
        refine AllReadyH.cons (o := ⟨some 75, .call { callee := .value (.func 23), args := #[.tmp 73, .tmp 74], argTypes := #[22, 22] }, _, _, _, _⟩) rfl (fun K hK => ?_) (AllReadyH.cons (o := ⟨some 78, .buildSlice 29 2 #[(0, .tmp 76), (1, .tmp 77)], _, _, _, _⟩) rfl (fun K hK => ?_) AllReadyH.nil)
        · go_simp
          refine C1.out.mono ?_
          rintro e wa ⟨rfl, ba⟩
          have qa := Lib.hid (q8.out.drew.trans (ba.mono S8.out))
          have sa : w8.heap.size ≤ wa.heap.size := ba.size
          have LLa := Lib.hid (lists2 (w := wa) 64 32 22 (ZO8.out.drew.belowM ba (Nat.le_refl _)) (ZI8.out.drew.belowM ba (show xb + 1 ≤ w8.heap.size from s8)) sa (by omega) wa.heap.size rfl)
          have qa2 : Hid (Below w.heap.size w (wa.alloc (.cells #[.slice (some ⟨ob, 0, none⟩) 64 64, .slice (some ⟨xb, 0, none⟩) 32 32] 22))) := Lib.hid (qa.out.alloc qa.out.size _)
          have sa2 : wa.heap.size + 1 ≤ (wa.alloc (.cells #[.slice (some ⟨ob, 0, none⟩) 64 64, .slice (some ⟨xb, 0, none⟩) 32 32] 22)).heap.size := by simp
          clear ba
          go_wp2_with fail
          refine hK.out _ _ trivial (fun hHeld2 => ?_)
          clear hK K hHeld
          have hHeld := hHeld2
          clear hHeld2
          try simp only [Act.put, List.setIfInBounds_toArray, List.set_cons_zero, List.set_cons_succ]
          refine wpAnyH_ready (rs := [5]) (by kernel_rfl) (by simp) ?_
          refine AllReadyH.cons (o := ⟨some 78, .buildSlice 29 2 #[(0, .tmp 76), (1, .tmp 77)], _, _, _, _⟩) rfl (fun K hK => ?_) AllReadyH.nil
          go_simp
          refine hK.out _ _ trivial (fun hHeld2 => ?_)
          clear hK K hHeld
          have hHeld := hHeld2
          clear hHeld2
          try simp only [Act.put, List.setIfInBounds_toArray, List.set_cons_zero, List.set_cons_succ]
          obtain ⟨wb, hwb⟩ : ∃ wb, wa.alloc (.cells #[.slice (some ⟨ob, 0, none⟩) 64 64, .slice (some ⟨xb, 0, none⟩) 32 32] 22) = wb := ⟨_, rfl⟩
          rw [hwb] at LLa qa2 sa2 ⊢
          clear hwb
          refine wpAnyH_ready (rs := [6]) (by kernel_rfl) (by simp) ?_
          refine AllReadyH.cons (o := ⟨some 79, .call { callee := .value (.func 28), args := #[.tmp 78], argTypes := #[29] }, _, _, _, _⟩) rfl (fun K hK => ?_) AllReadyH.nil
          go_simp
          refine (cat_of2 2 LLa.out (by omega) (by omega)).mono ?_
          intro e wc hmc
          obtain ⟨Dc, dc, rfl, hoc, bc, _, _⟩ := hmc.n hL.out
          have zc := Lib.hid (Made.bs hoc (B92.out.app bI.out))
          have qc := Lib.hid (qa2.out.trans (bc.mono qa2.out.size))
          clear hmc hoc bc
          go_wp2_with fail
          refine hK.out _ _ trivial (fun hHeld2 => ?_)
          clear hK K hHeld
          have hHeld := hHeld2
          clear hHeld2
          try simp only [Act.put, List.setIfInBounds_toArray, List.set_cons_zero, List.set_cons_succ]
          refine wpAnyH_ready (rs := [7]) (by kernel_rfl) (by simp) ?_
          refine AllReadyH.cons (o := ⟨some 80, .call { callee := .value (.func 14), args := #[.tmp 79], argTypes := #[22] }, _, _, _, _⟩) rfl (fun K hK => ?_) AllReadyH.nil
          go_simp
          refine (sumB_any dc zc.out (Nat.le_refl _) (by omega) (HF.out.below qc.out HFl.out) (HK.out.below qc.out HKl.out)).mono ?_
          rw [HT2.out]
          rintro e wd ⟨rfl, bd⟩
          have qd := Lib.hid (qc.out.trans (bd.mono qc.out.size))
          clear bd
          go_wp2_with fail
          refine hK.out _ _ trivial (fun hHeld2 => ?_)
          clear hK K hHeld
          have hHeld := hHeld2
          clear hHeld2
          try simp only [Act.put, List.setIfInBounds_toArray, List.set_cons_zero, List.set_cons_succ]
          refine wpAnyH_take (i := 8) (oi := ⟨some 81, .binOp .eql 25 (.tmp 75) (.tmp 80) 25, _, _, _, _⟩) (v := .bool true) rfl (by kernel_rfl) (by kernel_rfl) (by kernel_rfl) (fun _ _ _ h => h) (Or.inl ⟨by rfl, fun w hSw => ?_⟩) (by assumption) ?_
          · go_simp
          try simp only [Act.put, List.setIfInBounds_toArray, List.set_cons_zero, List.set_cons_succ]
          refine wpAnyH_take (i := 9) (oi := ⟨some 4, .assign (.tmp 81), _, _, _, _⟩) (v := .bool true) rfl (by kernel_rfl) (by kernel_rfl) (by kernel_rfl) (fun _ _ _ h => h) (Or.inl ⟨by rfl, fun w hSw => ?_⟩) (by assumption) ?_
          · go_simp
          try simp only [Act.put, List.setIfInBounds_toArray, List.set_cons_zero, List.set_cons_succ]
          refine wpAnyH_done (by kernel_rfl) ?_ _
          refine NoPanic.normal ?_
          go_wp2
          go_ret
          exact ⟨rfl, qd.out⟩
        · go_simp
          refine hK.out _ _ trivial (fun hHeld2 => ?_)
          clear hK K hHeld
          have hHeld := hHeld2
          clear hHeld2
          try simp only [Act.put, List.setIfInBounds_toArray, List.set_cons_zero, List.set_cons_succ]
          refine wpAnyH_ready (rs := [2]) (by kernel_rfl) (by simp) ?_
          refine AllReadyH.cons (o := ⟨some 75, .call { callee := .value (.func 23), args := #[.tmp 73, .tmp 74], argTypes := #[22, 22] }, _, _, _, _⟩) rfl (fun K hK => ?_) AllReadyH.nil
          go_simp
          refine C1b.out.mono ?_
          rintro e wa ⟨rfl, ba⟩
          have qa2 := Lib.hid (Q8a.out.trans (ba.mono Q8a.out.size))
          have LLa := Lib.hid (LL.out.below (ba.mono (by show w8.heap.size + 1 ≤ (w8.drew.alloc _).heap.size; simp)))
          have sa2 : w8.heap.size + 1 ≤ wa.heap.size := Nat.le_trans (by show w8.heap.size + 1 ≤ (w8.drew.alloc _).heap.size; simp) ba.size
          clear ba
          go_wp2_with fail
          refine hK.out _ _ trivial (fun hHeld2 => ?_)
          clear hK K hHeld
          have hHeld := hHeld2
          clear hHeld2
          try simp only [Act.put, List.setIfInBounds_toArray, List.set_cons_zero, List.set_cons_succ]
          refine wpAnyH_ready (rs := [6]) (by kernel_rfl) (by simp) ?_
          refine AllReadyH.cons (o := ⟨some 79, .call { callee := .value (.func 28), args := #[.tmp 78], argTypes := #[29] }, _, _, _, _⟩) rfl (fun K hK => ?_) AllReadyH.nil
          go_simp
          refine (cat_of2 2 LLa.out (by omega) (by omega)).mono ?_
          intro e wc hmc
          obtain ⟨Dc, dc, rfl, hoc, bc, _, _⟩ := hmc.n hL.out
          have zc := Lib.hid (Made.bs hoc (B92.out.app bI.out))
          have qc := Lib.hid (qa2.out.trans (bc.mono qa2.out.size))
          clear hmc hoc bc
          go_wp2_with fail
          refine hK.out _ _ trivial (fun hHeld2 => ?_)
          clear hK K hHeld
          have hHeld := hHeld2
          clear hHeld2
          try simp only [Act.put, List.setIfInBounds_toArray, List.set_cons_zero, List.set_cons_succ]
          refine wpAnyH_ready (rs := [7]) (by kernel_rfl) (by simp) ?_
          refine AllReadyH.cons (o := ⟨some 80, .call { callee := .value (.func 14), args := #[.tmp 79], argTypes := #[22] }, _, _, _, _⟩) rfl (fun K hK => ?_) AllReadyH.nil
          go_simp
          refine (sumB_any dc zc.out (Nat.le_refl _) (by omega) (HF.out.below qc.out HFl.out) (HK.out.below qc.out HKl.out)).mono ?_
          rw [HT2.out]
          rintro e wd ⟨rfl, bd⟩
          have qd := Lib.hid (qc.out.trans (bd.mono qc.out.size))
          clear bd
          go_wp2_with fail
          refine hK.out _ _ trivial (fun hHeld2 => ?_)
          clear hK K hHeld
          have hHeld := hHeld2
          clear hHeld2
          try simp only [Act.put, List.setIfInBounds_toArray, List.set_cons_zero, List.set_cons_succ]
          refine wpAnyH_take (i := 8) (oi := ⟨some 81, .binOp .eql 25 (.tmp 75) (.tmp 80) 25, _, _, _, _⟩) (v := .bool true) rfl (by kernel_rfl) (by kernel_rfl) (by kernel_rfl) (fun _ _ _ h => h) (Or.inl ⟨by rfl, fun w hSw => ?_⟩) (by assumption) ?_
          · go_simp
          try simp only [Act.put, List.setIfInBounds_toArray, List.set_cons_zero, List.set_cons_succ]
          refine wpAnyH_take (i := 9) (oi := ⟨some 4, .assign (.tmp 81), _, _, _, _⟩) (v := .bool true) rfl (by kernel_rfl) (by kernel_rfl) (by kernel_rfl) (fun _ _ _ h => h) (Or.inl ⟨by rfl, fun w hSw => ?_⟩) (by assumption) ?_
          · go_simp
          try simp only [Act.put, List.setIfInBounds_toArray, List.set_cons_zero, List.set_cons_succ]
          refine wpAnyH_done (by kernel_rfl) ?_ _
          refine NoPanic.normal ?_
          go_wp2
          go_ret
          exact ⟨rfl, qd.out⟩
set_option maxRecDepth 100000 in
set_option maxHeartbeats 2000000 in
theorem hmacTwice_out (A0 A1 : Option Addr) (na nb c0 c1 : Nat) (w : World) (hF : LaidF w) (hK : LaidK w) (h : 64 < (na : Int) ∨ (¬ 64 < (na : Int) ∧ 500 < (nb : Int))) :
    Calls Tryd.prog 10 #[.slice A0 na c0, .slice A1 nb c1] w fun e w' => e = .returned (.bool true) ∧ Below w.heap.size w w' := by
  rcases h with h | ⟨h1, h2⟩
  all_goals
    go_enter Tryd.func10, Tryd.ntmps10
    go_wp2_with fail
    refine (hmacAwake_any w hF hK).mono ?_
    rintro e w1 ⟨rfl, b1⟩
    go_wp2
    go_ret
    exact ⟨rfl, b1⟩
theorem hmacTwice_any (a0 : Option Addr) (len0 cap0 : Nat) (z0 : List Int) (a1 : Option Addr) (len1 cap1 : Nat) (z1 : List Int) (w : World)
    (w0 : IsRow .u8 w a0 len0 cap0 z0) (w1 : IsRow .u8 w a1 len1 cap1 z1) (hF : LaidF w) (hK : LaidK w) :
    Calls Tryd.prog 10 #[.slice a0 len0 cap0, .slice a1 len1 cap1] w fun e w' => e = .returned (.bool true) ∧ Below w.heap.size w w' := by
  by_cases h : 64 < (len0 : Int) ∨ (¬ 64 < (len0 : Int) ∧ 500 < (len1 : Int))
  · exact hmacTwice_out a0 a1 len0 len1 cap0 cap1 w hF hK h
  · exact hmacTwice_in cap0 cap1 w w0.bs.1 w1.bs.1 (by omega) (by omega) hF hK
end Go.Proofs.YtmglhfhcljdfcaaDoor
