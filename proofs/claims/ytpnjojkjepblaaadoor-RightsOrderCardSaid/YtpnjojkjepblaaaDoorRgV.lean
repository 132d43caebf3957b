/- What a line leaves; its serials; which line leaves no more than another one. -/
import Derived.Test.YtpnjojkjepblaaaDoorRgL
import Derived.OwnWalk
namespace Go.Proofs.YtpnjojkjepblaaaDoor
open Go.ChangeShapes Go.WideShapes Go.ChangeAt Go.RowKit
set_option linter.unusedVariables false
open Plain
def leR (l : List GrantZ) : Int := if lineB l then lvR l else 0
def leX (l : List GrantZ) : Int := if lineB l then lvX l else 0
def leE (l : List GrantZ) : Int := if lineB l then 0 else 2
theorem line_val {w : World} {B m : Nat} {A : Option Addr} {l : List GrantZ} (c : Nat) (q : Bool) (h : Grants w B A m l) (hB : B ≤ w.heap.size) (hm : m ≤ maxLen) (hq : lineB l = q) : Calls Tryd.prog 15 #[.slice A m c] w (fun e w' => e = .returned (.bool q) ∧ Below w.heap.size w w') := by
  subst hq
  exact line_any c h hB hm
set_option maxHeartbeats 1000000 in
theorem leaves_any {w : World} {B m : Nat} {A : Option Addr} {l : List GrantZ} (c : Nat) (h : Grants w B A m l) (hB : B ≤ w.heap.size) (hm : m ≤ maxLen) : Calls Tryd.prog 13 #[.slice A m c] w (fun e w' => e = .returned (.tuple #[.int .u8 (leR l), .int .i64 (leX l), .int .i64 (leE l)]) ∧ Below w.heap.size w w') := by
  have HM := Lib.hid hm
  unfold maxLen at hm
  obtain ⟨q, hq⟩ : ∃ q, lineB l = q := ⟨_, rfl⟩
  have HQ := Lib.hid hq
  have HG := Lib.hid h
  have HB := Lib.hid hB
  clear hq h hB
  cases q
  · have H1 : Hid (leR l = 0) := Lib.hid (by simp [leR, HQ.out])
    have H2 : Hid (leX l = 0) := Lib.hid (by simp [leX, HQ.out])
    have H3 : Hid (leE l = 2) := Lib.hid (by simp [leE, HQ.out])
    go_enter Tryd.func13, Tryd.ntmps13
    go_wp2_with (go_at_call 15; refine (line_val c _ HG.out HB.out HM.out HQ.out).mono ?_; rintro e w' ⟨rfl, hb2⟩)
    go_ret3
    rw [H1.out, H2.out, H3.out]
    exact ⟨rfl, hb2⟩
  · have H1 : Hid (leR l = lvR l) := Lib.hid (by simp [leR, HQ.out])
    have H2 : Hid (leX l = lvX l) := Lib.hid (by simp [leX, HQ.out])
    have H3 : Hid (leE l = 0) := Lib.hid (by simp [leE, HQ.out])
    go_enter Tryd.func13, Tryd.ntmps13
    go_wp2_with (go_at_call 15; refine (line_val c _ HG.out HB.out HM.out HQ.out).mono ?_; rintro e w1 ⟨rfl, hb2⟩)
    have HW := Lib.hid hb2
    clear hb2
    go_loopw [2, 3, 11] (fun r x i wr => ∃ k : Nat, k ≤ m ∧ i = .int .i64 k ∧ wr = w1 ∧ ∃ R X : Int, Hid (lvR (l.take k) = R) ∧ Hid (lvX (l.take k) = X) ∧ r = .int .u8 R ∧ x = .int .i64 X) (fun _ _ i _ => m - (intOf i).toNat)
    case atStart => exact ⟨0, by omega, rfl, rfl, _, _, rfl, rfl, rfl, rfl⟩
    case round =>
      obtain ⟨k, hk, rfl, rfl, R, X, HR, HX, rfl, rfl⟩ := hrel
      by_cases hlt : k < m
      · have hltI : (k : Int) < (m : Int) := by omega
        obtain ⟨b, off, g, rfl, hb, HK, hgo, c0, c1, c2⟩ := (HG.out.belowM HW.out HB.out).at_ hlt
        have HR2 : Hid (lvR (l.take (k + 1)) = bits .and .u8 R g.r) := Lib.hid (by
          have := lvR_bound (l.take k)
          rw [HR.out] at this
          rw [take_snocG l k g HK.out, lvR_snoc, HR.out, bits_and this.1 (by omega) hgo.r.1 hgo.r.2])
        have HX2 : Hid (lvX (l.take (k + 1)) = min X g.x) := Lib.hid (by rw [take_snocG l k g HK.out, lvX_snoc, HX.out])
        clear hgo
        go_wp2
        go_roundw
        case rel => exact ⟨k + 1, by omega, by go_num, by trivial, _, _, HR2, HX2, rfl, rfl⟩
        case measure => simp [intOf]; omega
      · have hkm : k = m := by omega
        have HT : Hid (R = lvR l ∧ X = lvX l) := Lib.hid (by
          have hl := HG.out.len
          rw [← HR.out, ← HX.out, hkm, ← hl, List.take_length]; exact ⟨rfl, rfl⟩)
        clear hkm
        go_wp2
        go_ret3
        rw [H1.out, H2.out, H3.out, HT.out.1, HT.out.2]
        exact ⟨rfl, HW.out⟩
/-- Numbers as values; the n numbers that the slice at A holds. -/
def ivs (zs : List Int) : List Value := zs.map (Value.int .i64)
theorem ivs_len (zs : List Int) : (ivs zs).length = zs.length := by simp [ivs]
structure Ir (w : World) (B : Nat) (A : Option Addr) (n : Nat) (zs : List Int) : Prop where
  len : zs.length = n
  row : 0 < n → ∃ b off, A = some ⟨b, off, none⟩ ∧ b < B ∧ ∀ j, j < n → w.cell? ⟨b, off + j, none⟩ = some (.int .i64 (zs.getD j 0))
theorem Ir.below {w w' : World} {B B' n : Nat} {A : Option Addr} {zs : List Int} (h : Ir w B A n zs) (hb : Below B' w w') (hB : B ≤ B') : Ir w' B A n zs :=
  ⟨h.len, fun hn => by
    obtain ⟨b, off, rfl, hlt, hc⟩ := h.row hn
    exact ⟨b, off, rfl, hlt, fun j hj => (hb.cell (p := ⟨b, off + j, none⟩) (by show b < B'; omega)).trans (hc j hj)⟩⟩
theorem Ir.at_ {w : World} {B n : Nat} {A : Option Addr} {zs : List Int} (h : Ir w B A n zs) {k : Nat} (hk : k < n) : ∃ b off, A = some ⟨b, off, none⟩ ∧ b < B ∧ w.cell? ⟨b, off + k, none⟩ = some (.int .i64 (zs.getD k 0)) := by
  obtain ⟨b, off, rfl, hb, hc⟩ := h.row (by omega)
  exact ⟨b, off, rfl, hb, hc k hk⟩
def sv (l : List GrantZ) : List Int := l.map (·.s)
theorem sv_len (l : List GrantZ) : (sv l).length = l.length := by simp [sv]
theorem sv_at {l : List GrantZ} {k : Nat} {g : GrantZ} (h : l[k]? = some g) : (sv l).getD k 0 = g.s := by
  simp [sv, List.getD_eq_getElem?_getD, List.getElem?_map, h]
theorem ivs_set (l : List Int) (k : Nat) (x : Int) : (ivs l).toArray.setIfInBounds k (.int .i64 x) = (ivs (l.set k x)).toArray := by
  simp [ivs, List.map_set]
theorem ivs_made (n : Nat) : madeCells #[Value.int .i64 0] n = (ivs (List.replicate n 0)).toArray := by
  unfold madeCells ivs
  apply Array.ext
  · simp
  · intro i h1 h2
    simp [Nat.mod_one]
theorem ivs_at (l : List Int) (k : Nat) (h : k < l.length) : (ivs l)[k]? = some (.int .i64 (l.getD k 0)) := by
  simp [ivs, List.getElem?_map, List.getD_eq_getElem?_getD, List.getElem?_eq_getElem h]
theorem i64_row : (Tryd.prog.info? 3).map (fun i => (i.zero, i.size, i.bytes)) = some (some (.int .i64 0), 1, 8) := by kernel_rfl
theorem make_i64 (n : Nat) (hn : n ≤ 4096) (w : World) : (Instr.makeSlice 31 (.int .i64 (n : Int)) (.int .i64 (n : Int))).run Tryd.prog w = .ok (.slice (some ⟨w.heap.size, 0, none⟩) n n) (w.alloc (.cells (madeCells #[.int .i64 0] n) 3)) :=
  run_make_row' (P := Tryd.prog) 31 3 (.int .i64 0) 8 Tryd.underlying31 i64_row rfl .i64 .i64 n (by omega) (by omega) w
/-- The serials of a row of grants, as they are handed back. -/
def Sers (w : World) (l : List GrantZ) (m : Nat) (e : Ending) (w' : World) : Prop :=
  ∃ A c, e = .returned (.slice A m c) ∧ Below w.heap.size w w' ∧ Ir w' w'.heap.size A m (sv l)
set_option maxHeartbeats 1000000 in
theorem serials_any {w : World} {B m : Nat} {A : Option Addr} {l : List GrantZ} (c : Nat) (h : Grants w B A m l) (hB : B ≤ w.heap.size) (hm : m ≤ 4096) : Calls Tryd.prog 14 #[.slice A m c] w (Sers w l m) := by
  have HG := Lib.hid h
  have HB := Lib.hid hB
  have hmk := make_i64 m hm
  rw [ivs_made] at hmk
  clear h hB
  go_enter Tryd.func14, Tryd.ntmps14
  go_wp2
  clear hmk
  go_loopw [10] (fun i wr => ∃ k : Nat, k ≤ m ∧ i = .int .i64 k ∧ ∃ cs : List Int, Hid (cs.length = m) ∧ Hid (∀ j, j < k → cs.getD j 0 = (sv l).getD j 0) ∧ wr = w.alloc (.cells (ivs cs).toArray 3)) (fun i _ => m - (intOf i).toNat)
  case atStart => exact ⟨0, by omega, rfl, _, Lib.hid (List.length_replicate ..), Lib.hid (fun j hj => absurd hj (by omega)), rfl⟩
  case round =>
    obtain ⟨k, hk, rfl, cs, HC, HX, rfl⟩ := hrel
    by_cases hlt : k < m
    · have hltI : (k : Int) < (m : Int) := by omega
      obtain ⟨b, off, g, rfl, hb, HK, _, c0, c1, c2⟩ := HG.out.at_ hlt
      have hb1' : b < w.heap.size := by have := HB.out; omega
      obtain ⟨u3, hu3⟩ : ∃ u3, (ivs cs)[k]? = some u3 := ⟨_, List.getElem?_eq_getElem (by rw [ivs_len, HC.out]; exact hlt)⟩
      have HV := Lib.hid (ivs_set cs k g.s)
      have HZ : Hid (∀ j, j < k + 1 → (cs.set k g.s).getD j 0 = (sv l).getD j 0) := Lib.hid (fun j hj => by
        rw [getD_set _ _ _ _ (by rw [HC.out]; exact hlt)]
        split
        · next h => subst h; rw [sv_at HK.out]
        · exact HX.out j (by omega))
      go_wp2
      go_roundw
      case rel => exact ⟨k + 1, by omega, by go_num, _, Lib.hid (by rw [List.length_set]; exact HC.out), HZ, by rw [← HV.out, ← List.setIfInBounds_toArray]⟩
      case measure => simp [intOf]; omega
    · have hkm : k = m := by omega
      have HT : Hid (cs = sv l) := Lib.hid (by
        have hl := HG.out.len
        refine List.ext_getElem? fun j => ?_
        by_cases hj : j < m
        · have := HX.out j (by omega)
          rw [List.getD_eq_getElem?_getD, List.getD_eq_getElem?_getD] at this
          rw [List.getElem?_eq_getElem (by rw [HC.out]; exact hj), List.getElem?_eq_getElem (by rw [sv_len, hl]; exact hj)] at this ⊢
          simpa using this
        · rw [List.getElem?_eq_none (by rw [HC.out]; omega), List.getElem?_eq_none (by rw [sv_len, hl]; omega)])
      clear hkm
      go_wp2
      go_ret
      refine ⟨_, _, rfl, (Below.refl _ _).alloc (Nat.le_refl _) _, HT.out ▸ HC.out, fun hn => ⟨w.heap.size, 0, rfl, by simp, fun j hj => ?_⟩⟩
      rw [cell_of_row _ _ _ _ _ _ (heap_alloc_new w _), Nat.zero_add, List.getElem?_toArray, ivs_at _ _ (by rw [HC.out]; exact hj), HT.out]
end Go.Proofs.YtpnjojkjepblaaaDoor
