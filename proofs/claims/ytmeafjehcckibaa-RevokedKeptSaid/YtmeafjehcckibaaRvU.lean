/- Union and Add, the program's and the document's. -/
import Derived.Test.YtmeafjehcckibaaRvD
namespace Go.Proofs.Ytmeafjehcckibaa
open Go.ChangeShapes Go.WideShapes Go.ChangeAt Go.RowKit
set_option linter.unusedVariables false
set_option linter.unusedSimpArgs false
open Plain
/-- A row that came in: where it stands, what it holds, its room. -/
structure Rw (w : World) (A : Option Addr) (n c : Nat) (zs : List Int) : Prop where
  ir : Ir w w.heap.size A n zs
  nc : n ≤ c
  cm : c ≤ maxLen
theorem Rw.below {w w' : World} {A : Option Addr} {n c : Nat} {zs : List Int} (h : Rw w A n c zs) (hb : Below w.heap.size w w') : Rw w' A n c zs :=
  ⟨(h.ir.below hb (Nat.le_refl _)).more hb.size, h.nc, h.cm⟩
theorem Rw.quiet {w w' : World} {A : Option Addr} {n c : Nat} {zs : List Int} (h : Rw w A n c zs) (hq : ∃ m, w' = w.drewN m) : Rw w' A n c zs := by
  obtain ⟨m, rfl⟩ := hq
  exact ⟨h.ir.drewN m, h.nc, h.cm⟩
theorem rw_own {w : World} {base c n : Nat} {t : TypeId} {A : Option Addr} {zs : List Int} (h : w.ownsRow base t 1 (.slice A n c) n (ivs zs)) (h1 : n ≤ c) (h2 : c ≤ maxLen) : Rw w A n c zs := ⟨ir_of_own h, h1, h2⟩
set_option maxRecDepth 100000 in
set_option maxHeartbeats 2000000 in
theorem union_any {w : World} {n1 n2 c1 c2 : Nat} {A1 A2 : Option Addr} {za zb : List Int} (p : List Int × Int) (h1 : Rw w A1 n1 c1 za) (h2 : Rw w A2 n2 c2 zb) (hp : unP za zb = p) :
    Calls Try.prog 19 #[.slice A1 n1 c1, .slice A2 n2 c2] w (GivesI w p) := by
  have H1 := Lib.hid h1
  have H2 := Lib.hid h2
  have HP := Lib.hid hp
  obtain ⟨qa, hqa⟩ : ∃ q, setB za = q := ⟨_, rfl⟩
  obtain ⟨qb, hqb⟩ : ∃ q, setB zb = q := ⟨_, rfl⟩
  have C1 := Lib.hid (may_any c1 h1.ir)
  have C2 := Lib.hid (may_any c2 h2.ir)
  rw [hqa] at C1
  rw [hqb] at C2
  have HQA := Lib.hid hqa
  have HQB := Lib.hid hqb
  clear h1 h2 hp hqa hqb
  cases qa
  · have HE : Hid (p = ([], 2)) := Lib.hid (by rw [← HP.out]; unfold unP; rw [HQA.out]; rfl)
    go_enter Try.func19, Try.ntmps19
    go_wp2_with (go_at_call 12; refine C1.out.mono ?_; rintro e w' ⟨rfl, rfl⟩)
    go_ret2
    exact gives_nil HE.out (Below.refl _ _)
  cases qb
  · have HE : Hid (p = ([], 2)) := Lib.hid (by rw [← HP.out]; unfold unP; rw [HQA.out, HQB.out]; rfl)
    go_enter Try.func19, Try.ntmps19
    go_wp2_with (first
      | (go_at_call_of 12 (Value.slice A1 n1 c1); refine C1.out.mono ?_; rintro e w' ⟨rfl, rfl⟩)
      | (go_at_call_of 12 (Value.slice A2 n2 c2); refine C2.out.mono ?_; rintro e w' ⟨rfl, rfl⟩))
    go_ret2
    exact gives_nil HE.out (Below.refl _ _)
  have l1 : n1 ≤ 32 := by rw [← H1.out.ir.len]; exact (set_rise HQA.out).1
  have l2 : n2 ≤ 32 := by rw [← H2.out.ir.len]; exact (set_rise HQB.out).1
  have C3 := Lib.hid (merged_any H1.out.ir H2.out.ir (Nat.le_refl _) (Nat.le_refl _) (by omega) (by omega) H1.out.nc H2.out.nc H1.out.cm H2.out.cm)
  obtain ⟨M, hM⟩ : ∃ M, mrg za zb = M := ⟨_, rfl⟩
  obtain ⟨m, hm⟩ : ∃ m, M.length = m := ⟨_, rfl⟩
  have HL := Lib.hid hm
  have HM := Lib.hid hM
  rw [hM] at C3
  have hm64 : m ≤ 64 := by
    have := mrg_len za zb
    rw [hM, hm, H1.out.ir.len, H2.out.ir.len] at this
    omega
  clear hM hm
  by_cases h32 : 32 < m
  · have HE : Hid (p = ([], 4)) := Lib.hid (by
      rw [← HP.out]; unfold unP; rw [HQA.out, HQB.out, HM.out, HL.out]
      simp only [Bool.and_self, if_true]
      rw [if_neg (by omega)])
    have hI : 32 < (m : Int) := by omega
    go_enter Try.func19, Try.ntmps19
    go_wp2_with (first
      | (go_at_call_of 12 (Value.slice A1 n1 c1); refine C1.out.mono ?_; rintro e w' ⟨rfl, rfl⟩)
      | (go_at_call_of 12 (Value.slice A2 n2 c2); refine C2.out.mono ?_; rintro e w' ⟨rfl, rfl⟩)
      | (go_at_call 26; refine C3.out.mono ?_; intro e w3 hm3; obtain ⟨D3, d3, rfl, ho3, hb3, _, _⟩ := hm3.n HL.out; have B3 := Lib.hid hb3; have O3 := Lib.hid ho3; clear hm3 hb3 ho3))
    go_ret2
    exact gives_nil HE.out B3.out
  · have HE : Hid (p = (M, 0)) := Lib.hid (by
      rw [← HP.out]; unfold unP; rw [HQA.out, HQB.out, HM.out, HL.out]
      simp only [Bool.and_self, if_true]
      rw [if_pos (by omega)])
    have hI : ¬ (32 < (m : Int)) := by omega
    go_enter Try.func19, Try.ntmps19
    go_wp2_with (first
      | (go_at_call_of 12 (Value.slice A1 n1 c1); refine C1.out.mono ?_; rintro e w' ⟨rfl, rfl⟩)
      | (go_at_call_of 12 (Value.slice A2 n2 c2); refine C2.out.mono ?_; rintro e w' ⟨rfl, rfl⟩)
      | (go_at_call 26; refine C3.out.mono ?_; intro e w3 hm3; obtain ⟨D3, d3, rfl, ho3, hb3, _, _⟩ := hm3.n HL.out; have B3 := Lib.hid hb3; have O3 := Lib.hid ho3; clear hm3 hb3 ho3))
    go_ret2
    exact gives_of O3.out B3.out HE.out
set_option maxRecDepth 100000 in
theorem add_any10 {w : World} {n1 c1 : Nat} {A1 : Option Addr} {za : List Int} (x : Int) (p : List Int × Int) (h1 : Rw w A1 n1 c1 za) (hp : addP za x = p) :
    Calls Try.prog 9 #[.slice A1 n1 c1, .int .i64 x] w (GivesI w p) := by
  obtain ⟨W1, hW1⟩ : ∃ W, W = w.alloc (.cells (ivs [x]).toArray 3) := ⟨_, rfl⟩
  have b1 : Below w.heap.size w W1 := by rw [hW1]; exact (Below.refl _ _).alloc (Nat.le_refl _) _
  have s1 : w.heap.size + 1 = W1.heap.size := by rw [hW1]; simp
  have r1 : Rw W1 (some ⟨w.heap.size, 0, none⟩) 1 1 [x] := ⟨by rw [← s1, hW1]; exact ir_new w [x] 1 rfl _ _ rfl, Nat.le_refl _, by simp [maxLen]⟩
  have C1 := Lib.hid (union_any p (h1.below b1) r1 (by rw [add_un]; exact hp))
  have HW := Lib.hid hW1
  have HB := Lib.hid b1
  clear h1 hp b1 s1 r1 hW1
  go_enter Try.func9, Try.ntmps9
  go_wp2_with fail
  have e : w.alloc (.cells #[.int .i64 x] 3) = W1 := HW.out.symm
  rw [e]
  clear e
  refine C1.out.mono ?_
  rintro e w2 ⟨D2, d2, rfl, ho2, hb2, hd1, hd2⟩
  have HO := Lib.hid ho2
  have HB2 := Lib.hid hb2
  clear ho2 hb2
  go_wp2
  go_ret2
  exact ⟨D2, d2, rfl, own_base HO.out HB.out.size, HB.out.trans (HB2.out.mono HB.out.size), hd1, hd2⟩
end Go.Proofs.Ytmeafjehcckibaa
