/- The document's own Union. -/
import Derived.Test.YtmeafjehcckibaaRvE
namespace Go.Proofs.Ytmeafjehcckibaa
open Go.ChangeShapes Go.WideShapes Go.ChangeAt Go.RowKit
set_option linter.unusedVariables false
set_option linter.unusedSimpArgs false
open Plain
def UnSt (w : World) (n : Nat) (za zb : List Int) (v i : Value) (wr : World) : Prop :=
  ∃ k q d : Nat, ∃ D : Option Addr, k ≤ n ∧ q ≤ 32 ∧ i = .int .i64 k ∧ v = .slice D q d ∧ wr.ownsRow w.heap.size 3 1 (.slice D q d) q (ivs (mrg za (zb.take k))) ∧ Below w.heap.size w wr
theorem un_more {za zb : List Int} {k : Nat} {z : Int} (ha : setB za = true) (hb : setB zb = true) (hk : zb[k]? = some z) (hl : (mrg za (zb.take k)).length ≤ 32) :
    ((mrg za (zb.take (k + 1))).length ≤ 32 → addP (mrg za (zb.take k)) z = (mrg za (zb.take (k + 1)), 0)) ∧ (¬ (mrg za (zb.take (k + 1))).length ≤ 32 → addP (mrg za (zb.take k)) z = ([], 4) ∧ unP za zb = ([], 4)) := by
  have ra := (set_rise ha).2
  have rb := (set_rise hb).2
  have hz := rise_mem rb (List.mem_of_getElem? hk)
  have hs : serB z = true := by simp [serB, hz.1, hz.2]
  have hm : setB (mrg za (zb.take k)) = true := set_of hl (mrg_rise _ _ 0 ra (rise_take k rb))
  have e := mrg_more ra rb hk
  unfold addP
  rw [hm, hs, e]
  simp only [Bool.and_self, if_true]
  refine ⟨fun h => by rw [if_pos h], fun h => ⟨by rw [if_neg h], ?_⟩⟩
  unfold unP
  rw [ha, hb]
  simp only [Bool.and_self, if_true]
  have := mrg_part ra rb (k + 1)
  rw [if_neg (by omega)]
set_option maxRecDepth 100000 in
set_option maxHeartbeats 4000000 in
theorem refunion_any {w : World} {B1 B2 n1 n2 c1 c2 : Nat} {A1 A2 : Option Addr} {za zb : List Int} (p : List Int × Int) (h1 : Ir w B1 A1 n1 za) (h2 : Ir w B2 A2 n2 zb) (hB1 : B1 ≤ w.heap.size) (hB2 : B2 ≤ w.heap.size) (hn1 : n1 ≤ maxLen) (hn2 : n2 ≤ maxLen) (hp : unP za zb = p) :
    Calls Try.prog 20 #[.slice A1 n1 c1, .slice A2 n2 c2] w (GivesI w p) := by
  have L1 := Lib.hid h1.len
  have L2 := Lib.hid h2.len
  have H1 := Lib.hid h1
  have H2 := Lib.hid h2
  have HP := Lib.hid hp
  obtain ⟨qa, hqa⟩ : ∃ q, setB za = q := ⟨_, rfl⟩
  obtain ⟨qb, hqb⟩ : ∃ q, setB zb = q := ⟨_, rfl⟩
  have C1 := Lib.hid (refmay10_any c1 h1 hn1)
  have C2 := Lib.hid (fun (w1 : World) (hq : ∃ m, w1 = w.drewN m) => refmay10_any (w := w1) c2 (by obtain ⟨m, rfl⟩ := hq; exact h2.drewN m) hn2)
  rw [hqa] at C1
  rw [hqb] at C2
  have HQA := Lib.hid hqa
  have HQB := Lib.hid hqb
  clear h1 h2 hp hqa hqb hn1 hn2
  cases qa
  · have HE : Hid (p = ([], 2)) := Lib.hid (by rw [← HP.out]; unfold unP; rw [HQA.out]; rfl)
    go_enter Try.func20, Try.ntmps20
    go_wp2_with (go_at_call 13; refine C1.out.mono ?_; rintro e w1 ⟨rfl, hq1⟩; have Q1 := Lib.hid hq1; clear hq1)
    go_ret2
    exact gives_nil HE.out (below_quiet Q1.out)
  cases qb
  · have HE : Hid (p = ([], 2)) := Lib.hid (by rw [← HP.out]; unfold unP; rw [HQA.out, HQB.out]; rfl)
    go_enter Try.func20, Try.ntmps20
    go_wp2_with (first
      | (go_at_call_of 13 (Value.slice A1 n1 c1); refine C1.out.mono ?_; rintro e w1 ⟨rfl, hq1⟩; have Q1 := Lib.hid hq1; clear hq1)
      | (go_at_call_of 13 (Value.slice A2 n2 c2); refine (C2.out w1 Q1.out).mono ?_; rintro e w2 ⟨rfl, hq2⟩; have Q2 := Lib.hid (quiet_two Q1.out hq2); clear hq2))
    go_ret2
    exact gives_nil HE.out (below_quiet Q2.out)
  have l1 : n1 ≤ 32 := by rw [← L1.out]; exact (set_rise HQA.out).1
  have l2 : n2 ≤ 32 := by rw [← L2.out]; exact (set_rise HQB.out).1
  go_enter Try.func20, Try.ntmps20
  go_upto_region 3 with (first
    | (go_at_call_of 13 (Value.slice A1 n1 c1); refine C1.out.mono ?_; rintro e w1 ⟨rfl, hq1⟩; have Q1 := Lib.hid hq1; clear hq1)
    | (go_at_call_of 13 (Value.slice A2 n2 c2); refine (C2.out w1 Q1.out).mono ?_; rintro e w2 ⟨rfl, hq2⟩; have Q2 := Lib.hid (quiet_two Q1.out hq2); clear hq2))
  have b2 := below_quiet Q2.out
  have hs2 := b2.size
  have OW0 := Lib.hid (own_noneI w2 w.heap.size hs2)
  have BA : Hid (Below w2.heap.size w2 (w2.alloc (.cells #[] 3))) := Lib.hid ((Below.refl _ _).alloc (Nat.le_refl _) _)
  have HL1 := Lib.hid ((H1.out.below (b2.mono hB1) (Nat.le_refl _)).below BA.out (Nat.le_trans hB1 hs2)).lies
  have HB2 := Lib.hid b2
  clear b2
  go_upto_region 4 with (at_builtin; refine wpList_app _ rfl (.tmp 18) (.tmp 19) 22 rfl w.heap.size 3 1 8 Try.underlying22 int_info (by omega) _ 0 (ivs []) rfl OW0.out A1 n1 c1 (ivs za) rfl HL1.out.1 HL1.out.2 (iv_one _) (by unfold maxLen; omega) (by omega) (Nat.le_trans hs2 BA.out.size) ?_; intro v3 w3 ho3 hg3)
  have b3 : Below w.heap.size w w3 := (HB2.out.alloc hs2 _).grown hg3 (Nat.le_trans hs2 BA.out.size) (fun q hq => (OW0.out.lt q hq).1)
  rw [Nat.zero_add] at ho3
  change w3.ownsRow w.heap.size 3 1 v3 n1 (ivs za) at ho3
  obtain ⟨D3, d3, rfl, _, _⟩ := own_shape ho3
  have ST0 : UnSt w n2 za zb (.slice D3 n1 d3) (.int .i64 0) w3 := ⟨0, n1, d3, D3, by omega, by omega, rfl, rfl, by rw [List.take_zero, mrg_r]; exact ho3, b3⟩
  clear ho3 hg3 b3
  go_wp2
  go_loopw [6, 7] (fun v i wr => UnSt w n2 za zb v i wr) (fun _ i _ => n2 - (intOf i).toNat)
  case atStart => exact ST0
  case round =>
    obtain ⟨k, q, d, D, hk, hq, rfl, rfl, hown, hbel⟩ := hrel
    have HO := Lib.hid hown
    have HB := Lib.hid hbel
    have hsz := hbel.size
    have LCS : Hid ((mrg za (zb.take k)).length = q) := Lib.hid (by have := hown.1; rw [ivs_len] at this; omega)
    clear hown hbel ST0
    by_cases hlt : k < n2
    · have hltI : (k : Int) < (n2 : Int) := by omega
      have hjl : k < zb.length := by rw [L2.out]; exact hlt
      obtain ⟨b, off, rfl, hb, hc⟩ := (H2.out.below HB.out hB2).at_ hlt
      have HU := Lib.hid (un_more HQA.out HQB.out (getD_some hjl) (by rw [LCS.out]; exact hq))
      generalize zb.getD k 0 = z at *
      by_cases h32 : (mrg za (zb.take (k + 1))).length ≤ 32
      · have C3 := Lib.hid (refadd_any (c := d) z _ (ir_of_own HO.out) (Nat.le_refl _) (by unfold maxLen; omega) (HU.out.1 h32))
        obtain ⟨m, hm⟩ : ∃ m, (mrg za (zb.take (k + 1))).length = m := ⟨_, rfl⟩
        have HL := Lib.hid hm
        rw [hm] at h32
        clear hm
        go_wp2_with (go_at_call 10; refine C3.out.mono ?_; intro e w5 hg5; obtain ⟨D5, d5, rfl, ho5, hb5, _, _⟩ := hg5.n rfl rfl HL.out; have O5 := Lib.hid ho5; have B5 := Lib.hid hb5; clear hg5 ho5 hb5)
        have ST : UnSt w n2 za zb (.slice D5 m d5) (.int .i64 ((k : Int) + 1)) w5 := ⟨k + 1, m, d5, D5, by omega, h32, by go_num, rfl, own_base O5.out hsz, HB.out.trans (B5.out.mono hsz)⟩
        go_roundw
        case rel => exact ST
        case measure => simp [intOf]; omega
      · have C3 := Lib.hid (refadd_any (c := d) z _ (ir_of_own HO.out) (Nat.le_refl _) (by unfold maxLen; omega) (HU.out.2 h32).1)
        have HE : Hid (p = ([], 4)) := Lib.hid (by rw [← HP.out]; exact (HU.out.2 h32).2)
        clear h32
        go_wp2_with (go_at_call 10; refine C3.out.mono ?_; intro e w5 hg5; obtain ⟨D5, d5, rfl, ho5, hb5, _, _⟩ := hg5.n (n := 0) rfl rfl rfl; have B5 := Lib.hid hb5; clear hg5 ho5 hb5)
        go_ret2
        exact gives_nil HE.out (HB.out.trans (B5.out.mono hsz))
    · have HE : Hid (p = (mrg za (zb.take k), 0)) := Lib.hid (by
        have e : zb.take k = zb := List.take_of_length_le (by rw [L2.out]; omega)
        have hl := LCS.out
        rw [e] at hl ⊢
        rw [← HP.out]; unfold unP; rw [HQA.out, HQB.out]
        simp only [Bool.and_self, if_true]
        rw [if_pos (by omega)])
      go_wp2
      go_ret2
      exact gives_of HO.out HB.out HE.out
end Go.Proofs.Ytmeafjehcckibaa
