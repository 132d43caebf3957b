/- Whether payloads are many; their frames, one behind the other, and where each ends. -/
import Derived.Test.YtcihbkdpkhhhcaaDoorFAwake
namespace Go.Proofs.YtcihbkdpkhhhcaaDoor
open Go.ChangeShapes Go.WideShapes Go.ChangeAt Go.RowKit
set_option linter.unusedVariables false
open Plain Sha
/-- What long returns: where it says no, the lengths, each counted as 20 more, are at most 2000. -/
def LongF (Ns : Nat → Nat) (m : Nat) (w : World) (e : Ending) (w' : World) : Prop := ∃ b : Bool, e = .returned (.bool b) ∧ w = w' ∧ (b = false → sumTo Ns m + 20 * m ≤ 2000)
set_option maxHeartbeats 2000000 in
theorem flong_any {B : Nat} {A : Option Addr} {m : Nat} (c : Nat) {As : Nat → Option Addr} {Ns Cs : Nat → Nat} {Zs : Nat → List Int} {w : World} (h : Lists w B A m As Ns Cs Zs) (hm : m ≤ maxLen) (hN : ∀ j, j < m → Ns j ≤ 140737488355328) :
    Calls Tryd.prog 19 #[.slice A m c] w (LongF Ns m w) := by
  unfold maxLen at hm
  have HL := Lib.hid h
  have HN := Lib.hid hN
  clear h hN
  go_enter Tryd.func19, Tryd.ntmps19
  go_wp2
  go_loop [3, 4] (fun v i => ∃ k S : Nat, k ≤ m ∧ i = .int .i64 k ∧ v = .int .i64 S ∧ Hid (sumTo Ns k + 20 * k = S) ∧ S ≤ 2000) (fun _ i => m - (intOf i).toNat)
  case atStart => exact ⟨0, 0, by omega, rfl, rfl, Lib.hid rfl, by omega⟩
  case round =>
    obtain ⟨k, S, hk, rfl, rfl, HS, hS⟩ := hrel
    by_cases hlt : k < m
    · obtain ⟨b1, o1, rfl, hb1, hc1⟩ := HL.out.at_ hlt
      obtain ⟨N, hNe⟩ : ∃ N, Ns k = N := ⟨_, rfl⟩
      have hNb : N ≤ 140737488355328 := by rw [← hNe]; exact HN.out k hlt
      rw [hNe] at hc1
      have HNe := Lib.hid hNe
      clear hNe
      by_cases hbig : 2000 < S + N + 20
      · have hbI : 2000 < (S : Int) + (N : Int) + 20 := by omega
        go_wp2
        go_ret
        exact ⟨true, rfl, rfl, fun h => by cases h⟩
      · have hbI : ¬ 2000 < (S : Int) + (N : Int) + 20 := by omega
        go_wp2
        go_round
        case rel => exact ⟨k + 1, S + N + 20, by omega, by go_num, by go_num, Lib.hid (by show sumTo Ns k + Ns k + 20 * (k + 1) = _; rw [HNe.out, ← HS.out]; omega), by omega⟩
        case measure => simp [intOf]; omega
    · have hkm : k = m := by omega
      have HE : Hid (sumTo Ns m + 20 * m ≤ 2000) := Lib.hid (by rw [← hkm, HS.out]; exact hS)
      clear hkm
      go_wp2
      go_ret
      exact ⟨false, rfl, rfl, fun _ => HE.out⟩
/-- How long the first k frames are. -/
def EN (Ns : Nat → Nat) : Nat → Nat := sumTo (fun j => Ns j + 12)
def FZ (Zs : Nat → List Int) : Nat → List Int := catTo (fun j => frameZ (Zs j))
theorem EN_succ (Ns : Nat → Nat) (k : Nat) : EN Ns (k + 1) = EN Ns k + (Ns k + 12) := rfl
theorem FZ_succ (Zs : Nat → List Int) (k : Nat) : FZ Zs (k + 1) = FZ Zs k ++ frameZ (Zs k) := rfl
theorem EN_eq (Ns : Nat → Nat) : ∀ k, EN Ns k = sumTo Ns k + 12 * k
  | 0 => rfl
  | k + 1 => by rw [EN_succ, EN_eq Ns k]; show _ = sumTo Ns k + Ns k + 12 * (k + 1); omega
theorem EN_le (Ns : Nat → Nat) (k m : Nat) (h : k ≤ m) : EN Ns k ≤ EN Ns m := sumTo_le _ k m h
theorem FZ_len {Ns : Nat → Nat} {Zs : Nat → List Int} (k : Nat) (h : ∀ j, j < k → (Zs j).length = Ns j) : (FZ Zs k).length = EN Ns k :=
  catTo_len _ _ k (fun j hj => by rw [frameZ_len, h j hj])
theorem joinZ_range (Zs : Nat → List Int) : ∀ k, joinZ ((List.range k).map Zs) = FZ Zs k
  | 0 => rfl
  | k + 1 => by rw [List.range_succ, List.map_append, joinZ_app, joinZ_range Zs k, FZ_succ]; simp [joinZ]
theorem take_range (Zs : Nat → List Int) (k m : Nat) (h : k ≤ m) : ((List.range m).map Zs).take k = (List.range k).map Zs := by
  rw [← List.map_take, List.take_range, Nat.min_eq_left h]
def endsV (Ns : Nat → Nat) (k : Nat) : List Value := (List.range k).map fun j => .int .i64 ((EN Ns (j + 1) : Nat) : Int)
theorem endsV_succ (Ns : Nat → Nat) (k : Nat) : endsV Ns (k + 1) = endsV Ns k ++ [.int .i64 ((EN Ns (k + 1) : Nat) : Int)] := by simp [endsV, List.range_succ]
theorem kinds_ne {W : World} {b1 b2 n1 n2 s1 s2 : Nat} {t1 t2 : TypeId} {v1 v2 : Value} {xs1 xs2 : List Value} (h1 : W.ownsRow b1 t1 s1 v1 n1 xs1) (h2 : W.ownsRow b2 t2 s2 v2 n2 xs2) (hne : t1 ≠ t2) : v1.ownBlock = none ∨ v1.ownBlock ≠ v2.ownBlock := by
  cases ho : v1.ownBlock with
  | none => exact .inl rfl
  | some g =>
    refine .inr (fun e => ?_)
    obtain ⟨c1, f1, e1⟩ := own_kind h1 g ho
    obtain ⟨c2, f2, e2⟩ := own_kind h2 g e.symm
    rw [e1] at e2
    injection e2 with e2
    injection e2 with _ e2
    exact hne e2
theorem int_row' : (Tryd.prog.info? 3).map (fun i => (i.zero, i.size, i.bytes)) = some (some (.int .i64 0), 1, 8) := by kernel_rfl
set_option maxRecDepth 100000 in
set_option maxHeartbeats 4000000 in
theorem fjoin_any {A : Option Addr} {m : Nat} (c : Nat) {B : Nat} {As : Nat → Option Addr} {Ns Cs : Nat → Nat} {Zs : Nat → List Int} {w : World} (h : Lists w B A m As Ns Cs Zs) (hB : B ≤ w.heap.size) (hs : sumTo Ns m + 20 * m ≤ 2000) (hF : LaidF w) (hK : LaidK w) :
    Calls Tryd.prog 20 #[.slice A m c] w fun e w' => ∃ v1 v2, e = .returned (.tuple #[v1, v2]) ∧ w'.ownsRow w.heap.size 5 1 v1 (EN Ns m) (vals (FZ Zs m)) ∧ w'.ownsRow w.heap.size 3 1 v2 m (endsV Ns m) ∧ Below w.heap.size w w' := by
  obtain ⟨i0, hi0, hz0, hz1, hz2⟩ := info_parts int_row'
  have I0 := Lib.hid hi0
  have I1 := Lib.hid hz0
  have I2 := Lib.hid hz1
  have I3 := Lib.hid hz2
  have HL := Lib.hid h
  have HFl := Lib.hid hF.lt
  have HKl := Lib.hid hK.lt
  have HF := Lib.hid hF
  have HK := Lib.hid hK
  have HE : Hid (∀ k, k ≤ m → EN Ns k ≤ 2000 ∧ sumTo Ns k ≤ 2000) := Lib.hid (fun k hk => by have h1 := EN_le Ns k m hk; have h2 := EN_eq Ns m; have h3 := sumTo_le Ns k m hk; omega)
  have hm : m ≤ 100 := by omega
  clear hi0 hz0 hz1 hz2 h hF hK hs
  go_enter Tryd.func20, Tryd.ntmps20
  go_wp2
  go_loopw [4, 5, 6] (fun v1 v2 i wr => ∃ k : Nat, k ≤ m ∧ i = .int .i64 (k : Int) ∧ Hid (wr.ownsRow w.heap.size 5 1 v1 (EN Ns k) (vals (FZ Zs k))) ∧ Hid (wr.ownsRow w.heap.size 3 1 v2 k (endsV Ns k)) ∧ Hid (Below w.heap.size w wr)) (fun _ _ i _ => m - (intOf i).toNat)
  case atStart => exact ⟨0, by omega, rfl, Lib.hid (World.ownsRow_nil _ _ _ _), Lib.hid (World.ownsRow_nil _ _ _ _), Lib.hid (Below.refl _ _)⟩
  case round =>
    obtain ⟨k, hk, rfl, HA, HI, HB⟩ := hrel
    by_cases hlt : k < m
    · obtain ⟨b1, o1, rfl, hb1, hc1⟩ := (HL.out.below (HB.out.mono hB)).at_ hlt
      have hbk := Lib.hid ((HL.out.below (HB.out.mono hB)).bs k hlt)
      have he1 := (HE.out k hk)
      have he2 := (HE.out (k + 1) (by omega)).1
      have he3 := (HE.out (k + 1) (by omega)).2
      have HE2 : Hid (EN Ns (k + 1) = EN Ns k + (Ns k + 12)) := Lib.hid rfl
      have hnk : Ns k ≤ 2000 := by have : sumTo Ns (k + 1) = sumTo Ns k + Ns k := rfl; omega
      have HFS : Hid (vals (FZ Zs (k + 1)) = vals (FZ Zs k) ++ vals (frameZ (Zs k))) := Lib.hid (by rw [FZ_succ, vals_app])
      have HES : Hid (endsV Ns (k + 1) = endsV Ns k ++ [.int .i64 ((EN Ns (k + 1) : Nat) : Int)]) := Lib.hid (endsV_succ Ns k)
      have BZ : Hid (IsBytes (frameZ (Zs k))) := Lib.hid (frameZ_bytes hbk.out.isBytes)
      obtain ⟨E1, hE1⟩ : ∃ E1, EN Ns k = E1 := ⟨_, rfl⟩
      obtain ⟨E2, hE2⟩ : ∃ E2, EN Ns (k + 1) = E2 := ⟨_, rfl⟩
      obtain ⟨N, hNe⟩ : ∃ N, Ns k = N := ⟨_, rfl⟩
      obtain ⟨C, hCe⟩ : ∃ C, Cs k = C := ⟨_, rfl⟩
      obtain ⟨Z, hZe⟩ : ∃ Z, frameZ (Zs k) = Z := ⟨_, rfl⟩
      rw [hNe, hCe] at hc1
      rw [hNe] at hbk hnk
      rw [hE1] at HA he1
      have HA' : Hid (wr.ownsRow w.heap.size 5 1 u4 E1 (vals (FZ Zs k))) := HA
      have hE12 : E2 = E1 + (N + 12) := by rw [← hE2, HE2.out, hE1, hNe]
      rw [hE2] at he2 HES
      have HES' : Hid (endsV Ns (k + 1) = endsV Ns k ++ [.int .i64 ((E1 : Int) + ((N : Int) + 12))]) := Lib.hid (by rw [HES.out, hE12]; congr 3)
      have sr := HB.out.size
      have C1 := Lib.hid (fseal_any C hbk.out (Nat.le_trans hB sr) (by omega) (HF.out.below HB.out HFl.out) (HK.out.below HB.out HKl.out))
      rw [hZe] at C1 BZ HFS
      have HRe : Hid (EN Ns (k + 1) = E2) := Lib.hid hE2
      clear hE1 hE2 hNe hCe hZe HE2 HA he3
      go_wp2_with fail
      refine C1.out.mono ?_
      rintro e w1 ⟨D, d, rfl, o1, b1, h4, h5⟩
      have q1 := Lib.hid (HB.out.trans (b1.mono sr))
      have OA := Lib.hid (own_below HA'.out b1 (Nat.le_refl _))
      have OI := Lib.hid (own_below HI.out b1 (Nat.le_refl _))
      have z1 : Hid (Bs w1 w1.heap.size D (N + 12) Z) := Lib.hid (bs_of_own o1 BZ.out)
      clear o1 b1 C1 h5
      have hsz1 : Hid (w.heap.size ≤ w1.heap.size) := Lib.hid q1.out.size
      go_wp2_with (first
        | (at_builtin; refine wpList_app _ rfl (.tmp 23) (.tmp 24) 22 rfl w.heap.size 5 1 1 Tryd.underlying22 u8_info (by omega) u4 E1 (vals (FZ Zs k)) rfl OA.out D (N + 12) d (vals Z) rfl z1.out.lies.1 z1.out.lies.2 (vals_one _) (by unfold maxLen; omega) (by omega) hsz1.out ?_; intro v2 w2 ho2 hg2; have P2 := Lib.hid ho2; have G2 := Lib.hid hg2; have OI2 := Lib.hid (OI.out.kept hg2 (kinds_ne OI.out OA.out (by decide))); have q2 := Lib.hid (q1.out.grown hg2 q1.out.size (fun q hq => (OA.out.lt q hq).1)); clear ho2 hg2; obtain ⟨va, vc, rfl, hva, hvc⟩ := own_shape P2.out)
        | (at_builtin; refine wpList_append_own _ rfl (.tmp 26) (.tmp 29) 40 rfl w.heap.size 3 i0 _ 1 8 Tryd.underlying40 I0.out I1.out I2.out I3.out rfl (by decide) u5 k (endsV Ns k) rfl (OI2.out.alloc _) ⟨w2.heap.size, 0, none⟩ 1 1 [.int .i64 ((E1 : Int) + ((N : Int) + 12))] rfl rfl (World.news_of_block (cs := #[.int .i64 ((E1 : Int) + ((N : Int) + 12))]) (t := 3) (fr := (0, 0)) (heap_alloc_new w2 _)) (by simp [Value.oneCell']) (by unfold maxLen; omega) (by omega) (by have := q2.out.size; simp; omega) ?_; intro v3 w3 ho3 hg3 _))
      have hx := kinds_ne (P2.out.alloc (.cells #[.int .i64 ((E1 : Int) + ((N : Int) + 12))] 3)) (OI2.out.alloc (.cells #[.int .i64 ((E1 : Int) + ((N : Int) + 12))] 3)) (by decide)
      have q3 := Lib.hid ((q2.out.alloc q2.out.size _).grown hg3 (by have := q2.out.size; simp; omega) (fun q hq => (OI2.out.lt q hq).1))
      have P3 : Hid (w3.ownsRow w.heap.size 5 1 (.slice va (E1 + (N + 12)) vc) (EN Ns (k + 1)) (vals (FZ Zs (k + 1)))) := Lib.hid (by
        rw [HFS.out, HRe.out, hE12]
        exact (P2.out.alloc _).kept hg3 hx)
      have I4 : Hid (w3.ownsRow w.heap.size 3 1 v3 (k + 1) (endsV Ns (k + 1))) := Lib.hid (by rw [HES'.out]; exact ho3)
      clear hx ho3 hg3
      go_roundw
      case rel => exact ⟨k + 1, by omega, by go_num, P3, I4, q3⟩
      case measure => simp [intOf]; omega
    · obtain rfl : k = m := by omega
      go_wp2
      go_ret2
      exact ⟨_, _, rfl, HA.out, HI.out, HB.out⟩
end Go.Proofs.YtcihbkdpkhhhcaaDoor
