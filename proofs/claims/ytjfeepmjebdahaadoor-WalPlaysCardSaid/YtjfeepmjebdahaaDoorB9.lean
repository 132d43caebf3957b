/- Texts of the proof, one behind the other: VZ VLaw VAwake VWake VAdds. -/
import Derived.Test.YtjfeepmjebdahaaDoorB8
import Derived.Test.YtjfeepmjebdahaaDoorB4
import Derived.Test.YtjfeepmjebdahaaDoorB5
import Derived.Test.YtjfeepmjebdahaaDoorB6
import Derived.Laws.BytesString
import Derived.Laws.BytesArg
import Derived.Lib.SlBytesConst
/- Plain facts on records: what is torn, what lasts, what a disk's records are. -/
namespace Go.Proofs.YtjfeepmjebdahaaDoor
open Go.ChangeShapes Go.WideShapes Go.ChangeAt Go.RowKit
set_option linter.unusedVariables false
open Plain Sha
/-- The frame with which a beginning of bytes begins. -/
theorem first_take (l : List Int) (j : Nat) : firstZ (l.take j) = match firstZ l with
    | some m => if m + 12 ≤ j then some m else none
    | none => none := by
  by_cases h4 : j < 4
  · have e : firstZ (l.take j) = none := first_short (by rw [List.length_take]; omega)
    rw [e]
    cases hf : firstZ l with
    | none => rfl
    | some m => simp only; rw [if_neg (by omega)]
  have hl : lenZ (l.take j) = lenZ l := by unfold lenZ; rw [List.take_take, Nat.min_eq_left (by omega)]
  by_cases hj : lenZ l + 12 ≤ j
  · have e1 : ((l.take j).drop (4 + lenZ l)).take 8 = (l.drop (4 + lenZ l)).take 8 := by
      rw [List.drop_take, List.take_take, Nat.min_eq_left (by omega)]
    have e2 : (l.take j).take (4 + lenZ l) = l.take (4 + lenZ l) := by rw [List.take_take, Nat.min_eq_left (by omega)]
    have hiff : IsFrame (l.take j) ↔ IsFrame l := by
      unfold IsFrame
      rw [hl, e1, e2, List.length_take]
      constructor
      · rintro ⟨a, b, c, d⟩; exact ⟨by omega, b, by omega, d⟩
      · rintro ⟨a, b, c, d⟩; exact ⟨by omega, b, by omega, d⟩
    by_cases hf : IsFrame l
    · rw [firstZ_yes hf, firstZ_yes (hiff.2 hf), hl]
      simp only
      rw [if_pos hj]
    · rw [firstZ_no hf, firstZ_no (fun h => hf (hiff.1 h))]
  · have e : firstZ (l.take j) = none := firstZ_no (fun h => by have := h.2.2.1; rw [hl, List.length_take] at this; omega)
    rw [e]
    by_cases hf : IsFrame l
    · rw [firstZ_yes hf]
      simp only
      rw [if_neg hj]
    · rw [firstZ_no hf]
theorem framesF_take (bs : List Int) (k : Nat) : ∀ (fuel off : Nat), framesF (bs.take k) fuel off = (framesF bs fuel off).takeWhile (fun x => decide (x.1 + (x.2 + 12) ≤ k))
  | 0, _ => rfl
  | fuel + 1, off => by
    have h : firstZ ((bs.take k).drop off) = match firstZ (bs.drop off) with
        | some m => if m + 12 ≤ k - off then some m else none
        | none => none := by rw [List.drop_take]; exact first_take _ _
    cases hf : firstZ (bs.drop off) with
    | none => rw [hf] at h; rw [framesF_no h, framesF_no hf]; rfl
    | some m =>
      rw [hf] at h
      simp only at h
      rw [framesF_yes hf]
      by_cases hk : m + 12 ≤ k - off
      · rw [if_pos hk] at h
        rw [framesF_yes h, framesF_take bs k fuel (off + (m + 12)), List.takeWhile_cons, if_pos (decide_eq_true (by show off + (m + 12) ≤ k; omega))]
      · rw [if_neg hk] at h
        rw [framesF_no h, List.takeWhile_cons, if_neg (by simp; omega)]
/-- More fuel than bytes changes nothing. -/
theorem framesF_fuel (bs : List Int) : ∀ (f1 f2 off : Nat), bs.length < off + f1 → bs.length < off + f2 → framesF bs f1 off = framesF bs f2 off
  | f1, f2, off, h1, h2 => by
    cases hf : firstZ (bs.drop off) with
    | none => rw [framesF_no hf, framesF_no hf]
    | some m =>
      obtain ⟨hfr, hm⟩ := firstZ_some hf
      have hm12 : m + 12 ≤ bs.length - off := by have := hfr.2.2.1; rwa [← hm, List.length_drop] at this
      obtain ⟨g1, rfl⟩ : ∃ k, f1 = k + 1 := ⟨f1 - 1, by omega⟩
      obtain ⟨g2, rfl⟩ : ∃ k, f2 = k + 1 := ⟨f2 - 1, by omega⟩
      rw [framesF_yes hf, framesF_yes hf, framesF_fuel bs g1 g2 (off + (m + 12)) (by omega) (by omega)]
termination_by f1 => f1
theorem framesZ_take (bs : List Int) (k : Nat) (hk : k ≤ bs.length) : framesZ (bs.take k) = (framesZ bs).takeWhile (fun x => decide (x.1 + (x.2 + 12) ≤ k)) := by
  unfold framesZ
  rw [← framesF_take]
  exact framesF_fuel _ _ _ _ (by omega) (by rw [List.length_take]; omega)
theorem lastZ_take (bs : List Int) (k : Nat) (hk : k ≤ bs.length) : lastZ bs k = (framesZ (bs.take k)).length := by rw [framesZ_take bs k hk]; rfl
theorem recs_join {l : List (List Int)} {q : List Int} (hq : firstZ q = none) (hl : ∀ z ∈ l, z.length ≤ 65536) : recsZ (joinZ l ++ q) = l := (frames_all l q hq hl).1
theorem used_join {l : List (List Int)} {q : List Int} (hq : firstZ q = none) (hl : ∀ z ∈ l, z.length ≤ 65536) : usedZ (joinZ l ++ q) = (joinZ l).length := (frames_all l q hq hl).2
theorem last_join {l : List (List Int)} {q : List Int} (j : Nat) (hj : j ≤ l.length) (hl : ∀ z ∈ l, z.length ≤ 65536) : lastZ (joinZ l ++ q) (joinZ (l.take j)).length = j := by
  have e : joinZ l = joinZ (l.take j) ++ joinZ (l.drop j) := by rw [← joinZ_app, List.take_append_drop]
  rw [lastZ_take _ _ (by rw [e, List.append_assoc, List.length_append]; omega), e, List.append_assoc, take_at _ _ rfl]
  have h := recs_join (l := l.take j) (q := []) (first_short (by simp)) (fun z hz => hl z (List.mem_of_mem_take hz))
  have h2 := congrArg List.length h
  rw [List.append_nil] at h2
  unfold recsZ at h2
  rw [List.length_map, List.length_take, Nat.min_eq_left hj] at h2
  exact h2
theorem first_nil : firstZ [] = none := first_short (by simp)
/-- A disk whose bytes are frames, and a torn rest. -/
structure Holds (s : DiskZ) (l : List (List Int)) (q : List Int) : Prop where
  all : allZ s = joinZ l ++ q
  torn : firstZ q = none
  short : ∀ z ∈ l, z.length ≤ 65536
theorem Holds.recs {s : DiskZ} {l : List (List Int)} {q : List Int} (h : Holds s l q) : recsZ (allZ s) = l := by rw [h.all]; exact recs_join h.torn h.short
theorem Holds.used {s : DiskZ} {l : List (List Int)} {q : List Int} (h : Holds s l q) : usedZ (allZ s) = (joinZ l).length := by rw [h.all]; exact used_join h.torn h.short
theorem Holds.cut {s : DiskZ} {l : List (List Int)} {q : List Int} (h : Holds s l q) : (allZ s).length - usedZ (allZ s) = q.length := by rw [h.used, h.all, List.length_append]; omega
theorem recS_up (s : DiskZ) : (recS s).up = s.up := by unfold recS; split <;> rfl
theorem Holds.recover {s : DiskZ} {l : List (List Int)} {q : List Int} (h : Holds s l q) : Holds (recS s) l [] := by
  refine ⟨?_, first_nil, h.short⟩
  unfold recS
  rw [h.used]
  split
  · rw [allZ_flat, h.all, take_at _ _ rfl, List.append_nil]
  · next hlt =>
    rw [h.all, List.length_append] at hlt
    rw [h.all, List.eq_nil_of_length_eq_zero (l := q) (by omega)]
theorem Holds.add {s : DiskZ} {l : List (List Int)} (h : Holds s l []) (hu : s.up = true) {z : List Int} (hz : z.length ≤ 65536) : Holds (dWrite s (frameZ z)).2 (l ++ [z]) [] := by
  refine ⟨?_, first_nil, fun y hy => ?_⟩
  · have := h.all
    unfold dWrite
    rw [if_pos hu]
    unfold allZ at this ⊢
    rw [List.flatten_append, ← List.append_assoc, this, joinZ_app]
    simp [joinZ]
  · rcases List.mem_append.1 hy with hy | hy
    · exact h.short y hy
    · obtain rfl := List.mem_singleton.1 hy; exact hz
theorem dWrite_up (s : DiskZ) (z : List Int) : (dWrite s z).2.up = s.up := by unfold dWrite; split <;> rfl
theorem dWrite_code {s : DiskZ} (z : List Int) (hu : s.up = true) : (dWrite s z).1 = 0 := by unfold dWrite; rw [if_pos hu]
theorem dSync_up (s : DiskZ) : (dSync s).2.up = s.up := by unfold dSync; split <;> rfl
theorem dSync_code {s : DiskZ} (hu : s.up = true) : (dSync s).1 = 0 := by unfold dSync; rw [if_pos hu]
theorem Holds.sync {s : DiskZ} {l : List (List Int)} {q : List Int} (h : Holds s l q) : Holds (dSync s).2 l q := by
  refine ⟨?_, h.torn, h.short⟩
  unfold dSync
  split
  · rw [allZ_flat]; exact h.all
  · exact h.all
end Go.Proofs.YtjfeepmjebdahaaDoor
/- What the laws of the layer ask of records: whether they are some texts; whether one list begins another; whether they are many. -/
namespace Go.Proofs.YtjfeepmjebdahaaDoor
open Go.ChangeShapes Go.WideShapes Go.ChangeAt Go.RowKit
set_option linter.unusedVariables false
open Plain Sha
theorem run_strB {w : World} {B n : Nat} {A : Option Addr} (c : Nat) {zs : List Int} (h : Bs w B A n zs) : (convert 27 9 (.slice A n c)).run Tryd.prog w = .ok (.string (strOfNums zs)) w := by
  cases A with
  | none =>
    have hn : n = 0 := h.lies.2 rfl
    subst hn
    have hz : zs = [] := List.eq_nil_of_length_eq_zero h.len
    subst hz
    exact run_convert_bytes_nil w _ 5 Tryd.underlying27 Tryd.underlying5 _ _ _ Tryd.underlying9
  | some a =>
    rcases Nat.eq_zero_or_pos n with h0 | h0
    · subst h0
      have hz : zs = [] := List.eq_nil_of_length_eq_zero h.len
      subst hz
      rw [run_convert_bytes_string w _ _ 5 _ _ _ Tryd.underlying27 Tryd.underlying5 Tryd.underlying9, run_bytesToString w a 0 c [] (by simp [loadCells, loadCellsFrom])]
      rfl
    · obtain ⟨b, off, e, _, hc⟩ := h.row h0
      rw [e]
      exact run_convert_bytes_arg w _ 5 Tryd.underlying27 Tryd.underlying5 b off n c zs h.len hc _ Tryd.underlying9
/-- Texts that stand in a row. -/
structure TextRow (w : World) (A : Option Addr) (n : Nat) (Ss : List ByteArray) : Prop where
  len : Ss.length = n
  cell : ∀ k s, Ss[k]? = some s → ∃ b off, A = some ⟨b, off, none⟩ ∧ w.cell? ⟨b, off + k, none⟩ = some (.string s)
set_option maxRecDepth 100000 in
set_option maxHeartbeats 2000000 in
theorem are_any {w : World} {A1 A2 : Option Addr} {n : Nat} (c1 c2 : Nat) {ps : List Piece} {Ss : List ByteArray} (h1 : PieceRow w A1 n ps) (h2 : TextRow w A2 n Ss) (hn : n ≤ 1000000000) (he : ps.map (fun p => strOfNums p.zs) = Ss) :
    Calls Tryd.prog 45 #[.slice A1 n c1, .slice A2 n c2] w (Quiet (.bool true) w) := by
  have H1 := Lib.hid h1
  have H2 := Lib.hid h2
  have HE := Lib.hid he
  clear h1 h2 he
  go_enter Tryd.func45, Tryd.ntmps45
  go_wp2
  go_loopw [5] (fun i wr => ∃ k m : Nat, k ≤ n ∧ i = .int .i64 (k : Int) ∧ wr = w.drewN m) (fun i _ => n - (intOf i).toNat)
  case atStart => exact ⟨0, 0, by omega, rfl, rfl⟩
  case round =>
    obtain ⟨k, m, hk, rfl, rfl⟩ := hrel
    by_cases hlt : k < n
    · obtain ⟨p, hp⟩ : ∃ p, ps[k]? = some p := ⟨_, List.getElem?_eq_getElem (by rw [H1.out.len]; exact hlt)⟩
      obtain ⟨st, hst⟩ : ∃ st, Ss[k]? = some st := ⟨_, List.getElem?_eq_getElem (by rw [H2.out.len]; exact hlt)⟩
      obtain ⟨b1, o1, rfl, e1, z1, m1⟩ := H1.out.cell k p hp
      obtain ⟨b2, o2, rfl, e2⟩ := H2.out.cell k st hst
      have hz : strOfNums p.zs = st := by
        have := congrArg (·[k]?) HE.out
        simpa [List.getElem?_map, hp, hst] using this
      obtain ⟨pA, pn, pc, pz⟩ := p
      have hz : strOfNums pz = st := hz
      have e1 : (w.drewN m).drew.cell? ⟨b1, o1 + k, none⟩ = some (.slice pA pn pc) := e1
      have e2 : (w.drewN m).drew.cell? ⟨b2, o2 + k, none⟩ = some (.string st) := e2
      have e3 : (convert 27 9 (.slice pA pn pc)).run Tryd.prog (w.drewN m).drew = .ok (.string st) (w.drewN m).drew := by
        have := run_strB pc (z1.drewN (m + 1))
        rwa [hz] at this
      have hkI : (k : Int) < (n : Int) := by omega
      clear z1 m1 hp hst hz
      go_wp2
      go_upto_region 6 with fail
      refine Late.region (fun w' => w'.cell? ⟨b1, o1 + k, none⟩ = some (.slice pA pn pc) ∧ w'.cell? ⟨b2, o2 + k, none⟩ = some (.string st) ∧ (convert 27 9 (.slice pA pn pc)).run Tryd.prog w' = .ok (.string st) w') [] (by kernel_rfl) ⟨e1, e2, e3⟩ (fun hHeld => ?_)
      refine Late.take (i := 0) (oi := ⟨some 17, Op.move (Operand.tmp 0), _, _, _, _⟩) (v := ?_) rfl (by kernel_rfl) (by kernel_rfl) (by kernel_rfl) (by kernel_rfl) (fun _ _ _ h => h) (Or.inl ⟨by rfl, fun w hSw => ?_⟩) (by assumption) ?_
      rotate_left
      · (obtain ⟨s1, s2, s3⟩ := hSw; go_simp; try with_reducible rfl)
      try simp only [Act.put, List.setIfInBounds_toArray, List.set_cons_zero, List.set_cons_succ]
      refine Late.take (i := 1) (oi := ⟨some 18, Op.move (Operand.tmp 5), _, _, _, _⟩) (v := ?_) rfl (by kernel_rfl) (by kernel_rfl) (by kernel_rfl) (by kernel_rfl) (fun _ _ _ h => h) (Or.inl ⟨by rfl, fun w hSw => ?_⟩) (by assumption) ?_
      rotate_left
      · (obtain ⟨s1, s2, s3⟩ := hSw; go_simp; try with_reducible rfl)
      try simp only [Act.put, List.setIfInBounds_toArray, List.set_cons_zero, List.set_cons_succ]
      refine Late.take (i := 2) (oi := ⟨some 19, Op.indexAddr 33 (Operand.tmp 17) (Operand.tmp 18), _, _, _, _⟩) (v := ?_) rfl (by kernel_rfl) (by kernel_rfl) (by kernel_rfl) (by kernel_rfl) (fun _ _ _ h => h) (Or.inl ⟨by rfl, fun w hSw => ?_⟩) (by assumption) ?_
      rotate_left
      · (obtain ⟨s1, s2, s3⟩ := hSw; go_simp; try with_reducible rfl)
      try simp only [Act.put, List.setIfInBounds_toArray, List.set_cons_zero, List.set_cons_succ]
      refine Late.take (i := 3) (oi := ⟨some 20, Op.load 27 (Operand.tmp 19), _, _, _, _⟩) (v := ?_) rfl (by kernel_rfl) (by kernel_rfl) (by kernel_rfl) (by kernel_rfl) (fun _ _ _ h => h) (Or.inl ⟨by rfl, fun w hSw => ?_⟩) (by assumption) ?_
      rotate_left
      · (obtain ⟨s1, s2, s3⟩ := hSw; go_simp; try with_reducible rfl)
      try simp only [Act.put, List.setIfInBounds_toArray, List.set_cons_zero, List.set_cons_succ]
      refine Late.take (i := 5) (oi := ⟨some 22, Op.move (Operand.tmp 1), _, _, _, _⟩) (v := ?_) rfl (by kernel_rfl) (by kernel_rfl) (by kernel_rfl) (by kernel_rfl) (fun _ _ _ h => h) (Or.inl ⟨by rfl, fun w hSw => ?_⟩) (by assumption) ?_
      rotate_left
      · (obtain ⟨s1, s2, s3⟩ := hSw; go_simp; try with_reducible rfl)
      try simp only [Act.put, List.setIfInBounds_toArray, List.set_cons_zero, List.set_cons_succ]
      refine Late.take (i := 6) (oi := ⟨some 23, Op.move (Operand.tmp 5), _, _, _, _⟩) (v := ?_) rfl (by kernel_rfl) (by kernel_rfl) (by kernel_rfl) (by kernel_rfl) (fun _ _ _ h => h) (Or.inl ⟨by rfl, fun w hSw => ?_⟩) (by assumption) ?_
      rotate_left
      · (obtain ⟨s1, s2, s3⟩ := hSw; go_simp; try with_reducible rfl)
      try simp only [Act.put, List.setIfInBounds_toArray, List.set_cons_zero, List.set_cons_succ]
      refine Late.take (i := 7) (oi := ⟨some 24, Op.indexAddr 89 (Operand.tmp 22) (Operand.tmp 23), _, _, _, _⟩) (v := ?_) rfl (by kernel_rfl) (by kernel_rfl) (by kernel_rfl) (by kernel_rfl) (fun _ _ _ h => h) (Or.inl ⟨by rfl, fun w hSw => ?_⟩) (by assumption) ?_
      rotate_left
      · (obtain ⟨s1, s2, s3⟩ := hSw; go_simp; try with_reducible rfl)
      try simp only [Act.put, List.setIfInBounds_toArray, List.set_cons_zero, List.set_cons_succ]
      refine Late.take (i := 8) (oi := ⟨some 25, Op.load 9 (Operand.tmp 24), _, _, _, _⟩) (v := ?_) rfl (by kernel_rfl) (by kernel_rfl) (by kernel_rfl) (by kernel_rfl) (fun _ _ _ h => h) (Or.inl ⟨by rfl, fun w hSw => ?_⟩) (by assumption) ?_
      rotate_left
      · (obtain ⟨s1, s2, s3⟩ := hSw; go_simp; try with_reducible rfl)
      try simp only [Act.put, List.setIfInBounds_toArray, List.set_cons_zero, List.set_cons_succ]
      refine Late.one (i := 4) (o := ⟨some 21, Op.convert 27 9 (Operand.tmp 20), _, _, _, _⟩) (by kernel_rfl) rfl (fun K hK => ?_)
      have hh := hHeld
      obtain ⟨s1, s2, s3⟩ := hh
      have s4 : (convert 27 9 (.slice pA pn pc)).run Tryd.prog (w.drewN (m + 1)) = .ok (.string st) (w.drewN (m + 1)) := s3
      go_simp
      refine hK.out _ _ (⟨s1, s2, s3⟩) (fun hHeld2 => ?_)
      clear hK K hHeld
      have hHeld := hHeld2
      clear hHeld2
      try simp only [Act.put, List.setIfInBounds_toArray, List.set_cons_zero, List.set_cons_succ]
      refine Late.take (i := 9) (oi := ⟨some 26, Op.binOp BinOp.neq 9 (Operand.tmp 21) (Operand.tmp 25) 9, _, _, _, _⟩) (v := ?_) rfl (by kernel_rfl) (by kernel_rfl) (by kernel_rfl) (by kernel_rfl) (fun _ _ _ h => h) (Or.inl ⟨by rfl, fun w hSw => ?_⟩) (by assumption) ?_
      rotate_left
      · (obtain ⟨s1, s2, s3⟩ := hSw; go_simp; try with_reducible rfl)
      try simp only [Act.put, List.setIfInBounds_toArray, List.set_cons_zero, List.set_cons_succ]
      refine Late.done (by kernel_rfl) ?_ _
      refine NoPanic.normal ?_
      go_wp2
      go_roundw
      case rel => exact ⟨k + 1, m + 1, by omega, by go_num, rfl⟩
      case measure => simp [intOf]; omega
    · obtain rfl : k = n := by omega
      go_wp2
      go_ret
      exact ⟨rfl, _, rfl⟩
set_option maxRecDepth 100000 in
set_option maxHeartbeats 2000000 in
theorem begin_any {w : World} {A1 A2 : Option Addr} {n1 n2 : Nat} (c1 c2 : Nat) {ps1 ps2 : List Piece} (h1 : PieceRow w A1 n1 ps1) (h2 : PieceRow w A2 n2 ps2) (hn : n1 ≤ 1000000000) (he : ∃ t, ps2.map (·.zs) = ps1.map (·.zs) ++ t) :
    Calls Tryd.prog 28 #[.slice A1 n1 c1, .slice A2 n2 c2] w (Quiet (.bool true) w) := by
  have hle : n1 ≤ n2 := by
    obtain ⟨t, ht⟩ := he
    have := congrArg List.length ht
    rw [List.length_append, List.length_map, List.length_map, h1.len, h2.len] at this
    omega
  have H1 := Lib.hid h1
  have H2 := Lib.hid h2
  have HE : Hid (∀ (k : Nat) (p q : Piece), ps1[k]? = some p → ps2[k]? = some q → p.zs = q.zs) := Lib.hid (fun k p q hp hq => by
    obtain ⟨t, ht⟩ := he
    have hk : k < ps1.length := (List.getElem?_eq_some_iff.1 hp).1
    have := congrArg (·[k]?) ht
    simp only [List.getElem?_map, hq, Option.map_some] at this
    rw [List.getElem?_append_left (by simpa using hk), List.getElem?_map, hp] at this
    simpa using this.symm)
  clear h1 h2 he
  have hleI : ¬ (n2 : Int) < (n1 : Int) := by omega
  have hleD : decide (n2 < n1) = false := decide_eq_false (by omega)
  go_enter Tryd.func28, Tryd.ntmps28
  go_wp2
  go_loopw [5] (fun i wr => ∃ k m : Nat, k ≤ n1 ∧ i = .int .i64 (k : Int) ∧ wr = w.drewN m) (fun i _ => n1 - (intOf i).toNat)
  case atStart => exact ⟨0, 0, by omega, rfl, rfl⟩
  case round =>
    obtain ⟨k, m, hk, rfl, rfl⟩ := hrel
    by_cases hlt : k < n1
    · obtain ⟨p, hp⟩ : ∃ p, ps1[k]? = some p := ⟨_, List.getElem?_eq_getElem (by rw [H1.out.len]; exact hlt)⟩
      obtain ⟨q, hq⟩ : ∃ q, ps2[k]? = some q := ⟨_, List.getElem?_eq_getElem (by rw [H2.out.len]; omega)⟩
      obtain ⟨b1, o1, rfl, e1, z1, m1⟩ := H1.out.cell k p hp
      obtain ⟨b2, o2, rfl, e2, z2, m2⟩ := H2.out.cell k q hq
      have hz := HE.out k p q hp hq
      obtain ⟨pA, pn, pc, pz⟩ := p
      obtain ⟨qA, qn, qc, qz⟩ := q
      have hz : pz = qz := hz
      subst hz
      have e1 : w.cell? ⟨b1, o1 + k, none⟩ = some (.slice pA pn pc) := e1
      have e2 : w.cell? ⟨b2, o2 + k, none⟩ = some (.slice qA qn qc) := e2
      have hkI : (k : Int) < (n1 : Int) := by omega
      have S2 : Hid (∀ x, Calls Tryd.prog 29 #[.slice pA pn pc, .slice qA qn qc] (w.drewN x) (Quiet (.bool true) (w.drewN x))) := Lib.hid (fun x => by
        have := same_any pc qc (z1.drewN x) (z2.drewN x) m1 m2
        rwa [eqB_self] at this)
      clear z1 z2 m1 m2 hp hq
      go_wp2
      go_region_with ((go_at_call 29; refine (S2.out _).mono ?_; rintro e w9 ⟨rfl, m9, rfl⟩))
      all_goals
        go_wp2
        go_roundw
        case rel => exact ⟨k + 1, _, by omega, by go_num, rfl⟩
        case measure => simp [intOf]; omega
    · obtain rfl : k = n1 := by omega
      go_wp2
      go_ret
      exact ⟨rfl, _, rfl⟩
/-- What long returns: where it says no, the lengths, each counted as 40 more, are at most 2000. -/
def LongW (Ns : Nat → Nat) (m : Nat) (w : World) (e : Ending) (w' : World) : Prop := ∃ b : Bool, e = .returned (.bool b) ∧ w = w' ∧ (b = false → sumTo Ns m + 40 * m ≤ 2000)
set_option maxRecDepth 100000 in
set_option maxHeartbeats 2000000 in
theorem wlong_any {B : Nat} {A : Option Addr} {m : Nat} (c : Nat) {As : Nat → Option Addr} {Ns Cs : Nat → Nat} {Zs : Nat → List Int} {w : World} (h : Lists w B A m As Ns Cs Zs) (hm : m ≤ maxLen) (hN : ∀ j, j < m → Ns j ≤ 140737488355328) :
    Calls Tryd.prog 25 #[.slice A m c] w (LongW Ns m w) := by
  unfold maxLen at hm
  have HL := Lib.hid h
  have HN := Lib.hid hN
  clear h hN
  go_enter Tryd.func25, Tryd.ntmps25
  go_wp2
  go_loop [3, 4] (fun v i => ∃ k S : Nat, k ≤ m ∧ i = .int .i64 k ∧ v = .int .i64 S ∧ Hid (sumTo Ns k + 40 * k = S) ∧ S ≤ 2000) (fun _ i => m - (intOf i).toNat)
  case atStart => exact ⟨0, 0, by omega, rfl, rfl, Lib.hid rfl, by omega⟩
  case round =>
    obtain ⟨k, S, hk, rfl, rfl, HS, hS⟩ := hrel
    by_cases hlt : k < m
    · obtain ⟨b1, o1, rfl, hb1, hc1⟩ := HL.out.at_ hlt
      obtain ⟨N, hNe⟩ : ∃ N, Ns k = N := ⟨_, rfl⟩
      have hNb : N ≤ 140737488355328 := by rw [← hNe]; exact HN.out k hlt
      rw [hNe] at hc1
      have HNe := Lib.hid hNe
      clear hNe
      by_cases hbig : 2000 < S + N + 40
      · have hbI : 2000 < (S : Int) + (N : Int) + 40 := by omega
        go_wp2
        go_ret
        exact ⟨true, rfl, rfl, fun h => by cases h⟩
      · have hbI : ¬ 2000 < (S : Int) + (N : Int) + 40 := by omega
        go_wp2
        go_round
        case rel => exact ⟨k + 1, S + N + 40, by omega, by go_num, by go_num, Lib.hid (by show sumTo Ns k + Ns k + 40 * (k + 1) = _; rw [HNe.out, ← HS.out]; omega), by omega⟩
        case measure => simp [intOf]; omega
    · have hkm : k = m := by omega
      have HE : Hid (sumTo Ns m + 40 * m ≤ 2000) := Lib.hid (by rw [← hkm, HS.out]; exact hS)
      clear hkm
      go_wp2
      go_ret
      exact ⟨false, rfl, rfl, fun _ => HE.out⟩
/-- Lists that came in, as pieces. -/
def piecesOf (m : Nat) (As : Nat → Option Addr) (Ns Cs : Nat → Nat) (Zs : Nat → List Int) : List Piece := (List.range m).map fun j => ⟨As j, Ns j, Cs j, Zs j⟩
theorem piecesOf_zs (m : Nat) (As : Nat → Option Addr) (Ns Cs : Nat → Nat) (Zs : Nat → List Int) : (piecesOf m As Ns Cs Zs).map (·.zs) = (List.range m).map Zs := by unfold piecesOf; rw [List.map_map]; rfl
theorem lists_row {w : World} {B : Nat} {A : Option Addr} {m : Nat} {As : Nat → Option Addr} {Ns Cs : Nat → Nat} {Zs : Nat → List Int} (h : Lists w B A m As Ns Cs Zs) (hB : B ≤ w.heap.size) (hN : ∀ j, j < m → Ns j ≤ 140737488355328) : PieceRow w A m (piecesOf m As Ns Cs Zs) := by
  refine ⟨by unfold piecesOf; simp, fun k p hk => ?_⟩
  have hlt : k < m := by have := (List.getElem?_eq_some_iff.1 hk).1; unfold piecesOf at this; simpa using this
  have hp : p = ⟨As k, Ns k, Cs k, Zs k⟩ := by unfold piecesOf at hk; simpa [hlt] using hk.symm
  subst hp
  obtain ⟨b, off, rfl, _, hc⟩ := h.at_ hlt
  exact ⟨b, off, rfl, hc, (h.bs k hlt).more hB, Nat.le_trans (hN k hlt) (by unfold maxLen; omega)⟩
theorem PieceRow.drop {w : World} {A R : Option Addr} {n k : Nat} {ps : List Piece} (h : PieceRow w A n ps) (hR : CutAt A R k (n - k)) : PieceRow w R (n - k) (ps.drop k) := by
  refine ⟨by rw [List.length_drop, h.len], fun j p hj => ?_⟩
  rw [List.getElem?_drop] at hj
  have hlt : k + j < n := by rw [← h.len]; exact (List.getElem?_eq_some_iff.1 hj).1
  obtain ⟨b, off, rfl, hc, hb, hm⟩ := h.cell _ _ hj
  exact ⟨b, off + k, hR b off rfl (by omega), by rw [Nat.add_assoc]; exact hc, hb, hm⟩
end Go.Proofs.YtjfeepmjebdahaaDoor
/- A wal and its disk, for straight examples; the chapter's examples. -/
namespace Go.Proofs.YtjfeepmjebdahaaDoor
open Go.ChangeShapes Go.WideShapes Go.ChangeAt Go.RowKit
set_option linter.unusedVariables false
open Plain Sha
def Wal (w0 w : World) (b d : Nat) (s : DiskZ) : Prop := ∃ K, WalAt w b d K ∧ Grown w0 w d K s
section
variable {w0 w w' W : World} {b d : Nat} {s s' : DiskZ} {x : Int}
theorem Wal.bel (h : Wal w0 w b d s) : Below w0.heap.size w0 w := by obtain ⟨K, _, h⟩ := h; exact h.at_.bel
theorem Wal.below (h : Wal w0 w b d s) (hb : Below w.heap.size w w') : Wal w0 w' b d s := by
  obtain ⟨K, h1, h2⟩ := h
  exact ⟨K, h1.below hb, h2.below hb⟩
theorem Wal.alloc (h : Wal w0 w b d s) (o : Obj) : Wal w0 (w.alloc o) b d s := h.below ((Below.refl _ _).alloc (Nat.le_refl _) _)
theorem Wal.quiet (h : Wal w0 w b d s) (hq : ∃ n, w' = w.drewN n) : Wal w0 w' b d s := by
  obtain ⟨n, rfl⟩ := hq
  exact h.below ⟨rfl, rfl, rfl, Nat.le_refl _, fun _ _ => rfl⟩
theorem wal_did {K : Nat → Prop} {e : Ending} (h1 : WalAt w b d K) (h2 : Grown w0 w d K s) (hd : Did w d K (x, s') e w') : e = .returned (.int .i64 x) ∧ Wal w0 w' b d s' := by
  obtain ⟨h3, K', h4, h5, h6⟩ := h2.did hd
  exact ⟨h3, K', h1.did h5 h6, h4⟩
theorem wal_new (h : AtK w0 w d (fun k => k = d) s) (hF : LaidF w0) (hK : LaidK w0) :
    Calls Tryd.prog 10 #[.pointer (some ⟨d, 0, none⟩)] w (fun e w' => e = .returned (.pointer (some ⟨w.heap.size, 0, none⟩)) ∧ Wal w0 w' w.heap.size d s) :=
  (newwal_any w d).mono fun e w' ⟨h1, h2, h3, h4, h5⟩ => ⟨h1, fun k => k = d, ⟨h4, h5, fun e => by have := h.dk.lt d rfl; omega⟩, ⟨h.below h2, hF, hK⟩⟩
theorem wal_add {A : Option Addr} {n : Nat} (c : Nat) {zs : List Int} (h : Wal w0 w b d s) (hb : Below w.heap.size w W) (hz : Stands W (fun k => w.heap.size ≤ k ∨ k < w0.heap.size) ⟨A, n, n, zs⟩) (hl : n ≤ 65536) (hr : dWrite s (frameZ zs) = (x, s')) (hs : Small s) :
    Calls Tryd.prog 22 #[.pointer (some ⟨b, 0, none⟩), .slice A n c] W (fun e w' => e = .returned (.int .i64 x) ∧ Wal w0 w' b d s') := by
  obtain ⟨K, h1, h2⟩ := h
  have hlt := h2.at_.dk.lt
  have hnew := h2.at_.new
  have h3 := h1.below hb
  have h4 := h2.below hb
  exact (waladd_any c h3 h4 hs (hz.more (fun k hk _ hKk => by have := hlt k hKk; have := hnew k hKk; omega)) hl).mono fun e w' hd => by rw [hr] at hd; exact wal_did h3 h4 hd
theorem wal_sync (h : Wal w0 w b d s) (hr : dSync s = (x, s')) (hs : Small s) :
    Calls Tryd.prog 23 #[.pointer (some ⟨b, 0, none⟩)] w (fun e w' => e = .returned (.int .i64 x) ∧ Wal w0 w' b d s') := by
  obtain ⟨K, h1, h2⟩ := h
  exact (walsync_any h1 h2.at_.dk hs).mono fun e w' hd => by rw [hr] at hd; exact wal_did h1 h2 hd
theorem wal_crash (keep torn : Int) (h : Wal w0 w b d s) (hr : dCrash s keep torn = (x, s')) (hs : Small s) (k1 : -9223372036854775808 ≤ keep ∧ keep ≤ 9223372036854775807) (k2 : -9223372036854775808 ≤ torn ∧ torn ≤ 9223372036854775807) :
    Calls Tryd.prog 26 #[.pointer (some ⟨d, 0, none⟩), .int .i64 keep, .int .i64 torn] w (fun e w' => e = .returned (.int .i64 x) ∧ Wal w0 w' b d s') := by
  obtain ⟨K, h1, h2⟩ := h
  exact (crash_any keep torn h2.at_.dk hs k1 k2).mono fun e w' hd => by rw [hr] at hd; exact wal_did h1 h2 hd
theorem wal_start (h : Wal w0 w b d s) (hr : dStart s = (x, s')) :
    Calls Tryd.prog 27 #[.pointer (some ⟨d, 0, none⟩)] w (fun e w' => e = .returned (.int .i64 x) ∧ Wal w0 w' b d s') := by
  obtain ⟨K, h1, h2⟩ := h
  exact (start_any h2.at_.dk).mono fun e w' hd => by rw [hr] at hd; exact wal_did h1 h2 hd
theorem wal_write {B n : Nat} {A : Option Addr} (c : Nat) {zs : List Int} (h : Wal w0 w b d s) (hr : dWrite s zs = (x, s')) (hz : Bs w B A n zs) (hB : B ≤ w.heap.size) (hn : n ≤ 1000000) (hs : Small s) :
    Calls Tryd.prog 30 #[.pointer (some ⟨d, 0, none⟩), .slice A n c] w (fun e w' => e = .returned (.int .i64 x) ∧ Wal w0 w' b d s') := by
  obtain ⟨K, h1, h2⟩ := h
  exact (dkwrite_any c h2.at_.dk hz hB hn hs).mono fun e w' hd => by rw [hr] at hd; exact wal_did h1 h2 hd
theorem wal_bytes (h : Wal w0 w b d s) (hs : Small s) :
    Calls Tryd.prog 17 #[.pointer (some ⟨d, 0, none⟩)] w (fun e w' => ∃ A c, e = .returned (.slice A (allZ s).length c) ∧ Below w.heap.size w w' ∧ Wal w0 w' b d s) := by
  have hW := h
  obtain ⟨K, h1, h2⟩ := h
  exact (told_any h2.at_.dk hs).mono fun e w' ⟨A, n, c, h3, h4, _, _, _, _, h5⟩ => ⟨A, c, by rw [h3, h4], h5, hW.below h5⟩
theorem wal_last {k : Nat} (h : Wal w0 w b d s) (hs : Small s) (hk : lastZ (allZ s) s.zs.length = k) :
    Calls Tryd.prog 14 #[.pointer (some ⟨b, 0, none⟩)] w (fun e w' => e = .returned (.int .i64 (k : Nat)) ∧ Below w.heap.size w w' ∧ Wal w0 w' b d s) := by
  have hW := h
  obtain ⟨K, h1, h2⟩ := h
  exact (walast_any h1 h2 hs).mono fun e w' ⟨h3, h4⟩ => ⟨by rw [h3, hk], h4, hW.below h4⟩
theorem wal_recs {l : List (List Int)} (h : Wal w0 w b d s) (hs : Small s) (hl : recsZ (allZ s) = l) :
    Calls Tryd.prog 11 #[.pointer (some ⟨b, 0, none⟩)] w (fun e w' => ∃ A c ps, e = .returned (.slice A ps.length c) ∧ ps.map (·.zs) = l ∧ PieceRow w' A ps.length ps ∧ Below w.heap.size w w' ∧ Wal w0 w' b d s) := by
  have hW := h
  obtain ⟨K, h1, h2⟩ := h
  refine (walrecs_any h1 h2 hs).mono fun e w' ⟨h3, v, ps, h4, h5, h6, h7⟩ => ?_
  obtain ⟨A, c, rfl, _, _⟩ := own_shape h5
  exact ⟨A, c, ps, h4, by rw [h7, hl], pieceRow_of h5 h6, h3, hW.below h3⟩
theorem wal_recover {l : List (List Int)} {q : List Int} {k : Nat} (h : Wal w0 w b d s) (hs : Small s) (hu : s.up = true) (hh : Holds s l q) (hq : q.length = k) :
    Calls Tryd.prog 21 #[.pointer (some ⟨b, 0, none⟩)] w (fun e w' => ∃ A c ps, e = .returned (.tuple #[.slice A ps.length c, .int .i64 (k : Nat), .int .i64 0]) ∧ ps.map (·.zs) = l ∧ PieceRow w' A ps.length ps ∧ Wal w0 w' b d (recS s)) := by
  obtain ⟨K, h1, h2⟩ := h
  refine (walrecover_up h1 h2 hs hu).mono fun e w' ⟨v, ps, K', h3, h4, h5, h6, h7⟩ => ?_
  obtain ⟨A, c, rfl, _, _⟩ := own_shape h7.own
  exact ⟨A, c, ps, by rw [h3, hh.cut, hq], by rw [h7.zs, hh.recs], pieceRow_of h7.own h7.all, K', h1.did h5 h6, ⟨⟨h4, fun k hk => (h6 k hk).elim (h2.at_.new k) (fun e => Nat.le_trans h2.at_.bel.size e), h2.at_.bel.trans (h5.below h2.at_.bel.size h2.at_.new)⟩, h2.f, h2.k⟩⟩
end
theorem PieceRow.below {w w' : World} {A : Option Addr} {n : Nat} {ps : List Piece} (h : PieceRow w A n ps) (hb : Below w.heap.size w w') : PieceRow w' A n ps := by
  refine ⟨h.len, fun k p hk => ?_⟩
  obtain ⟨b, off, h1, h2, h3, h4⟩ := h.cell k p hk
  exact ⟨b, off, h1, (hb.cell (p := ⟨b, off + k, none⟩) (World.block_lt_of_cell? _ _ h2)).trans h2, (h3.below hb).more hb.size, h4⟩
theorem stands_new (w : World) (zs : List Int) (n : Nat) (fr : Nat × Nat) (hn : zs.length = n) (hb : IsBytes zs) (hm : n ≤ maxLen) (F : Nat → Prop) (hF : F w.heap.size) : Stands (w.alloc (.cells (vals zs).toArray 5 fr)) F ⟨some ⟨w.heap.size, 0, none⟩, n, n, zs⟩ :=
  ⟨hn, hb, Nat.le_refl _, hm, fun h0 => ⟨w.heap.size, 0, rfl, hF, fun j hj => by
    have hj : j < n := hj
    rw [World.cell?_alloc_mark w _ _ fr, Nat.zero_add]
    have h1 : j < zs.length := by omega
    simp only [vals, List.getElem?_toArray, List.getElem?_map, List.getElem?_eq_getElem h1, Option.map_some, List.getD_eq_getElem?_getD, Option.getD_some]⟩⟩
theorem textRow_new (w : World) (Ss : List ByteArray) (n : Nat) (hn : Ss.length = n) (t : TypeId) : TextRow (w.alloc (.cells (Ss.map Value.string).toArray t)) (some ⟨w.heap.size, 0, none⟩) n Ss :=
  ⟨hn, fun k s hk => ⟨w.heap.size, 0, rfl, by
    have hh := heap_alloc_new w (.cells (Ss.map Value.string).toArray t)
    rw [Nat.zero_add]
    rw [cell_of_row _ _ _ _ _ _ hh]
    simp [hk]⟩⟩
end Go.Proofs.YtjfeepmjebdahaaDoor
/- The chapter's examples of a wal. -/
namespace Go.Proofs.YtjfeepmjebdahaaDoor
open Go.ChangeShapes Go.WideShapes Go.ChangeAt Go.RowKit
set_option linter.unusedVariables false
open Plain Sha
theorem atk_first (w0 w : World) (hb : Below w0.heap.size w0 w) : Calls Tryd.prog 9 #[] w (fun e w' => e = .returned (.pointer (some ⟨w.heap.size, 0, none⟩)) ∧ AtK w0 w' w.heap.size (fun k => k = w.heap.size) ⟨true, [], []⟩ ∧ Below w.heap.size w w') :=
  (newdisk_any w).mono fun e w' ⟨h1, h2, h3, h4⟩ => ⟨h1, ⟨h4, fun k hk => (by have := hb.size; omega), hb.trans (h2.mono hb.size)⟩, h2⟩
theorem texts {ps : List Piece} {l : List (List Int)} {Ss : List ByteArray} (h : ps.map (·.zs) = l) (he : l.map strOfNums = Ss) : ps.map (fun p => strOfNums p.zs) = Ss := by rw [← he, ← h, List.map_map]; rfl
set_option maxRecDepth 100000 in
set_option maxHeartbeats 4000000 in
theorem wawake_any (w : World) (hF : LaidF w) (hK : LaidK w) : Calls Tryd.prog 24 #[] w (fun e w' => e = .returned (.bool true) ∧ Below w.heap.size w w') := by
  obtain ⟨fa, hfa⟩ : ∃ fa, frameZ [97] = fa := ⟨_, rfl⟩
  obtain ⟨fb, hfb⟩ : ∃ fb, frameZ [98, 99] = fb := ⟨_, rfl⟩
  obtain ⟨fd, hfd⟩ : ∃ fd, frameZ [100] = fd := ⟨_, rfl⟩
  have la : fa.length = 13 := by rw [← hfa, frameZ_len]; rfl
  have lb : fb.length = 14 := by rw [← hfb, frameZ_len]; rfl
  have ld : fd.length = 13 := by rw [← hfd, frameZ_len]; rfl
  have t5 : firstZ (fb.take 5) = none := by
    have := torn (zs := [98, 99]) (by simp) [] 5 (by simp)
    rwa [List.append_nil, hfb] at this
  have sh : ∀ z ∈ ([[97], [98, 99]] : List (List Int)), z.length ≤ 65536 := by intro z hz; simp at hz; rcases hz with rfl | rfl <;> simp
  have sh1 : ∀ z ∈ ([[97]] : List (List Int)), z.length ≤ 65536 := by intro z hz; simp at hz; subst hz; simp
  have h3 : Holds ⟨true, fa, [fb]⟩ [[97], [98, 99]] [] := ⟨by simp [allZ, joinZ, hfa, hfb], first_nil, sh⟩
  have h5 : Holds ⟨true, fa ++ fb.take 5, []⟩ [[97]] (fb.take 5) := ⟨by simp [allZ, joinZ, hfa], t5, sh1⟩
  have h6 : recS ⟨true, fa ++ fb.take 5, []⟩ = ⟨true, fa, []⟩ := by
    unfold recS
    rw [h5.used, h5.all]
    have hj : joinZ [[97]] = fa := by simp [joinZ, hfa]
    rw [hj, if_pos (by rw [List.length_append, List.length_take]; omega), take_at _ _ rfl]
  have h6' : Holds ⟨true, fa, []⟩ [[97]] [] := ⟨by simp [allZ, joinZ, hfa], first_nil, sh1⟩
  have h7 : Holds ⟨true, fa, [fd]⟩ [[97], [100]] [] := by
    have := h6'.add rfl (z := [100]) (by simp)
    rw [hfd] at this
    exact this
  have HL3 : Hid (lastZ (allZ ⟨true, fa, [fb]⟩) fa.length = 1) := Lib.hid (by
    have h := last_join (l := [[97], [98, 99]]) (q := []) 1 (by simp) sh
    rw [← h3.all] at h
    have e : (joinZ (List.take 1 [[97], [98, 99]])) = fa := by simp [joinZ, hfa]
    rwa [e] at h)
  have HCr : Hid (dCrash ⟨true, fa, [fb]⟩ 0 5 = (0, ⟨false, fa ++ fb.take 5, []⟩)) := Lib.hid (by
    have e : (max (min (5 : Int) ((fb.length : Int) - 1)) 0).toNat = 5 := by rw [lb]; rfl
    unfold dCrash leftZ
    rw [if_pos rfl, if_neg (by omega), if_neg (by simp)]
    simp only [Int.toNat_zero, List.take_zero, List.getD_cons_zero, List.nil_append, List.flatten_singleton, e])
  have HR3 := Lib.hid h3.recs
  have HR7 := Lib.hid h7.recs
  have HH5 := Lib.hid h5
  have HH6 := Lib.hid h6
  have SM : Hid (∀ (u : Bool) (a : List Int) (l : List (List Int)), a.length ≤ 18 → l.flatten.length ≤ 14 → l.length ≤ 1 → Small ⟨u, a, l⟩) := Lib.hid (fun u a l h1 h2 h3 => ⟨by simp only [allZ, List.length_append]; omega, by simp only; omega⟩)
  have HA := Lib.hid hfa
  have HB := Lib.hid hfb
  have HD := Lib.hid hfd
  have HLa := Lib.hid la
  have HLb := Lib.hid lb
  have HLd := Lib.hid ld
  have HF := Lib.hid hF
  have HK := Lib.hid hK
  have H5l : Hid ((fb.take 5).length = 5) := Lib.hid (by rw [List.length_take]; omega)
  clear h3 h5 h6 h6' h7 sh sh1 t5 la lb ld hfa hfb hfd hF hK
  have hcv := fun (w : World) (C : Array Value) (n c : Nat) => Go.Lib.run_convert_bytes_const (P := Tryd.prog) w 27 5 C n c Tryd.underlying27 Tryd.underlying5
  go_enter Tryd.func24, Tryd.ntmps24
  go_wp2_with fail
  refine (atk_first w w (Below.refl _ _)).mono ?_
  rintro e w1 ⟨rfl, k1, b1⟩
  have K1 := Lib.hid k1
  clear k1 b1
  go_wp2_with fail
  refine (wal_new K1.out HF.out HK.out).mono ?_
  rintro e w2 ⟨rfl, h⟩
  have H2 := Lib.hid h
  clear h
  obtain ⟨b, hb⟩ : ∃ b, w1.heap.size = b := ⟨_, rfl⟩
  obtain ⟨d, hd⟩ : ∃ d, w.heap.size = d := ⟨_, rfl⟩
  rw [hb, hd] at H2 ⊢
  clear hb K1
  go_wp2_with fail
  refine (wal_add 1 (zs := [97]) (x := 0) (s' := ⟨true, [], [fa]⟩) H2.out ((Below.refl _ _).alloc (Nat.le_refl _) _) (stands_new w2 [97] 1 _ rfl (lit_bytes rfl) (by simp [maxLen]) _ (.inl (Nat.le_refl _))) (by omega) (by rw [HA.out]; rfl) (SM.out _ _ _ (by simp) (by simp) (by simp))).mono ?_
  rintro e w3 ⟨rfl, h⟩
  have H3 := Lib.hid h
  clear h
  go_wp2_with fail
  refine (wal_sync (x := 0) (s' := ⟨true, fa, []⟩) H3.out (by simp [dSync]) (SM.out _ _ _ (by simp) (by simp [HLa.out]) (by simp))).mono ?_
  rintro e w4 ⟨rfl, h⟩
  have H4 := Lib.hid h
  clear h
  go_wp2_with fail
  refine (wal_add 2 (zs := [98, 99]) (x := 0) (s' := ⟨true, fa, [fb]⟩) H4.out ((Below.refl _ _).alloc (Nat.le_refl _) _) (stands_new w4 [98, 99] 2 _ rfl (lit_bytes rfl) (by simp [maxLen]) _ (.inl (Nat.le_refl _))) (by omega) (by rw [HB.out]; rfl) (SM.out _ _ _ (by simp [HLa.out]) (by simp) (by simp))).mono ?_
  rintro e w5 ⟨rfl, h⟩
  have H5 := Lib.hid h
  clear h
  go_wp2_with fail
  refine (wal_last H5.out (SM.out _ _ _ (by simp [HLa.out]) (by simp [HLb.out]) (by simp)) HL3.out).mono ?_
  rintro e w6 ⟨rfl, _, h⟩
  have H6 := Lib.hid h
  clear h
  go_wp2_with fail
  refine (wal_recs H6.out (SM.out _ _ _ (by simp [HLa.out]) (by simp [HLb.out]) (by simp)) HR3.out).mono ?_
  rintro e w7 ⟨A7, c7, ps7, rfl, z7, r7, _, h⟩
  have H7 := Lib.hid h
  have Z7 := Lib.hid z7
  have R7 := Lib.hid r7
  obtain ⟨n7, hn7⟩ : ∃ n7, ps7.length = n7 := ⟨_, rfl⟩
  have e7 : n7 = 2 := by rw [← hn7]; have := congrArg List.length z7; simpa using this
  subst e7
  rw [hn7] at R7 ⊢
  clear h z7 r7 hn7
  go_wp2_with fail
  refine (are_any c7 2 (R7.out.below ((Below.refl _ _).alloc (Nat.le_refl _) _)) (textRow_new w7 [⟨#[97]⟩, ⟨#[98, 99]⟩] 2 rfl 9) (by omega) (texts Z7.out rfl)).mono ?_
  rintro e v7 ⟨rfl, hq⟩
  have H8 := Lib.hid ((H7.out.alloc _).quiet hq)
  clear hq
  go_wp2_with fail
  refine (wal_crash 0 5 (x := 0) (s' := ⟨false, fa ++ fb.take 5, []⟩) H8.out HCr.out (SM.out _ _ _ (by simp [HLa.out]) (by simp [HLb.out]) (by simp)) (by omega) (by omega)).mono ?_
  rintro e w9 ⟨rfl, h⟩
  have H9 := Lib.hid h
  clear h
  go_wp2_with fail
  refine (wal_add 1 (zs := [100]) (x := 60) (s' := ⟨false, fa ++ fb.take 5, []⟩) H9.out ((Below.refl _ _).alloc (Nat.le_refl _) _) (stands_new w9 [100] 1 _ rfl (lit_bytes rfl) (by simp [maxLen]) _ (.inl (Nat.le_refl _))) (by omega) rfl (SM.out _ _ _ (by simp [HLa.out]; omega) (by simp) (by simp))).mono ?_
  rintro e w10 ⟨rfl, h⟩
  have H10 := Lib.hid h
  clear h
  go_wp2_with fail
  refine (wal_start (x := 0) (s' := ⟨true, fa ++ fb.take 5, []⟩) H10.out rfl).mono ?_
  rintro e w11 ⟨rfl, h⟩
  have H11 := Lib.hid h
  clear h
  go_wp2_with fail
  refine (wal_recover H11.out (SM.out _ _ _ (by simp [HLa.out]; omega) (by simp) (by simp)) rfl HH5.out H5l.out).mono ?_
  rintro e w12 ⟨A12, c12, ps12, rfl, z12, r12, h⟩
  rw [HH6.out] at h
  have H12 := Lib.hid h
  have Z12 := Lib.hid z12
  have R12 := Lib.hid r12
  obtain ⟨n12, hn12⟩ : ∃ n12, ps12.length = n12 := ⟨_, rfl⟩
  have e12 : n12 = 1 := by rw [← hn12]; have := congrArg List.length z12; simpa using this
  subst e12
  rw [hn12] at R12 ⊢
  clear h z12 r12 hn12
  go_wp2_with fail
  refine (are_any c12 1 (R12.out.below ((Below.refl _ _).alloc (Nat.le_refl _) _)) (textRow_new w12 [⟨#[97]⟩] 1 rfl 9) (by omega) (texts Z12.out rfl)).mono ?_
  rintro e v12 ⟨rfl, hq⟩
  have H13 := Lib.hid ((H12.out.alloc _).quiet hq)
  clear hq
  go_wp2_with fail
  refine (wal_add 1 (zs := [100]) (x := 0) (s' := ⟨true, fa, [fd]⟩) H13.out ((Below.refl _ _).alloc (Nat.le_refl _) _) (stands_new v12 [100] 1 _ rfl (lit_bytes rfl) (by simp [maxLen]) _ (.inl (Nat.le_refl _))) (by omega) (by rw [HD.out]; rfl) (SM.out _ _ _ (by simp [HLa.out]) (by simp) (by simp))).mono ?_
  rintro e w14 ⟨rfl, h⟩
  have H14 := Lib.hid h
  clear h
  go_wp2_with fail
  refine (wal_recs H14.out (SM.out _ _ _ (by simp [HLa.out]) (by simp [HLd.out]) (by simp)) HR7.out).mono ?_
  rintro e w15 ⟨A15, c15, ps15, rfl, z15, r15, _, h⟩
  have H15 := Lib.hid h
  have Z15 := Lib.hid z15
  have R15 := Lib.hid r15
  obtain ⟨n15, hn15⟩ : ∃ n15, ps15.length = n15 := ⟨_, rfl⟩
  have e15 : n15 = 2 := by rw [← hn15]; have := congrArg List.length z15; simpa using this
  subst e15
  rw [hn15] at R15 ⊢
  clear h z15 r15 hn15
  go_wp2_with fail
  refine (are_any c15 2 (R15.out.below ((Below.refl _ _).alloc (Nat.le_refl _) _)) (textRow_new w15 [⟨#[97]⟩, ⟨#[100]⟩] 2 rfl 9) (by omega) (texts Z15.out rfl)).mono ?_
  rintro e v15 ⟨rfl, hq⟩
  have H16 := Lib.hid ((H15.out.alloc (.cells (([⟨#[97]⟩, ⟨#[100]⟩] : List ByteArray).map Value.string).toArray 9)).quiet hq).bel
  clear hq
  go_wp2
  go_ret
  exact ⟨rfl, H16.out⟩
end Go.Proofs.YtjfeepmjebdahaaDoor
/- Records that are added, one behind the other; calls that tell records which are kept. -/
namespace Go.Proofs.YtjfeepmjebdahaaDoor
open Go.ChangeShapes Go.WideShapes Go.ChangeAt Go.RowKit
set_option linter.unusedVariables false
open Plain Sha
/-- A disk to which the first k records were added. -/
def sAdd (s : DiskZ) (Zs : Nat → List Int) (k : Nat) : DiskZ := ⟨s.up, s.zs, s.ws ++ (List.range k).map (fun j => frameZ (Zs j))⟩
def L0 (Zs : Nat → List Int) (k : Nat) : List (List Int) := (List.range k).map Zs
theorem sAdd_zero (s : DiskZ) (Zs : Nat → List Int) : sAdd s Zs 0 = s := by unfold sAdd; simp
theorem sAdd_succ {s : DiskZ} (Zs : Nat → List Int) (k : Nat) (hu : s.up = true) : dWrite (sAdd s Zs k) (frameZ (Zs k)) = (0, sAdd s Zs (k + 1)) := by
  unfold dWrite sAdd
  rw [if_pos hu, List.range_succ, List.map_append, List.append_assoc]; rfl
theorem flat_range (Zs : Nat → List Int) : ∀ k, ((List.range k).map (fun j => frameZ (Zs j))).flatten = FZ Zs k
  | 0 => rfl
  | k + 1 => by rw [List.range_succ, List.map_append, List.flatten_append, flat_range Zs k, FZ_succ]; simp
theorem sAdd_all (s : DiskZ) (Zs : Nat → List Int) (k : Nat) : allZ (sAdd s Zs k) = allZ s ++ FZ Zs k := by
  unfold allZ sAdd
  rw [List.flatten_append, flat_range, List.append_assoc]
theorem L0_len (Zs : Nat → List Int) (k : Nat) : (L0 Zs k).length = k := by unfold L0; simp
theorem L0_take (Zs : Nat → List Int) (k m : Nat) (h : k ≤ m) : (L0 Zs m).take k = L0 Zs k := take_range Zs k m h
theorem sAdd_holds {s : DiskZ} {l : List (List Int)} (h : Holds s l []) (Zs : Nat → List Int) (k : Nat) (hz : ∀ j, j < k → (Zs j).length ≤ 65536) : Holds (sAdd s Zs k) (l ++ L0 Zs k) [] := by
  refine ⟨?_, first_nil, fun z hz2 => ?_⟩
  · rw [sAdd_all, h.all, joinZ_app, List.append_nil, List.append_nil]
    unfold L0
    rw [joinZ_range]
  · rcases List.mem_append.1 hz2 with h2 | h2
    · exact h.short z h2
    · unfold L0 at h2
      obtain ⟨j, hj, rfl⟩ := List.mem_map.1 h2
      exact hz j (List.mem_range.1 hj)
theorem sAdd_len {s : DiskZ} {Ns : Nat → Nat} {Zs : Nat → List Int} {k : Nat} (hl : ∀ j, j < k → (Zs j).length = Ns j) : (allZ (sAdd s Zs k)).length = (allZ s).length + EN Ns k := by
  rw [sAdd_all, List.length_append, FZ_len k hl]
theorem sAdd_small {s : DiskZ} {Ns : Nat → Nat} {Zs : Nat → List Int} {k : Nat} (hl : ∀ j, j < k → (Zs j).length = Ns j) (h1 : (allZ s).length + EN Ns k ≤ 1000000) (h2 : s.ws.length + k ≤ 1000000) : Small (sAdd s Zs k) :=
  ⟨by rw [sAdd_len hl]; exact h1, by unfold sAdd; simpa using h2⟩
theorem first_less {q : List Int} (h : q.length < 12) : firstZ q = none := firstZ_no (fun hf => by have := hf.2.2.1; omega)
theorem recS_small {s : DiskZ} (h : Small s) : Small (recS s) := by
  unfold recS
  split
  · exact ⟨by rw [allZ_flat, List.length_take]; have := h.bytes; omega, by simp⟩
  · exact h
theorem Grown.to {w0 w w' : World} {d : Nat} {K K' : Nat → Prop} {s s' : DiskZ} (h : Grown w0 w d K s) (h4 : Dk w' d K' s') (h5 : Moved K w w') (h6 : Newer w K K') : Grown w0 w' d K' s' :=
  ⟨⟨h4, fun k hk => (h6 k hk).elim (h.at_.new k) (fun e => Nat.le_trans h.at_.bel.size e), h.at_.bel.trans (h5.below h.at_.bel.size h.at_.new)⟩, h.f, h.k⟩
section
variable {w0 w w' W : World} {b d : Nat} {s s' : DiskZ} {x : Int} {K : Nat → Prop}
theorem wal_recover2 {l : List (List Int)} {q : List Int} {k m : Nat} (h1 : WalAt w b d K) (h2 : Grown w0 w d K s) (hs : Small s) (hu : s.up = true) (hh : Holds s l q) (hq : q.length = k) (hm : l.length = m) :
    Calls Tryd.prog 21 #[.pointer (some ⟨b, 0, none⟩)] w (fun e w' => ∃ A c ps K', e = .returned (.tuple #[.slice A m c, .int .i64 (k : Nat), .int .i64 0]) ∧ WalAt w' b d K' ∧ Grown w0 w' d K' (recS s) ∧ Moved K w w' ∧ Newer w K K' ∧ RecsAt w' K' w.heap.size (.slice A m c) ps l) := by
  refine (walrecover_up h1 h2 hs hu).mono fun e w' ⟨v, ps, K', h3, h4, h5, h6, h7⟩ => ?_
  rw [hh.recs] at h7
  have e1 : ps.length = m := by have := congrArg List.length h7.zs; rw [List.length_map, hm] at this; exact this
  obtain ⟨A, c, rfl, _, _⟩ := own_shape h7.own
  rw [e1] at h3 h7
  exact ⟨A, c, ps, K', by rw [h3, hh.cut, hq], h1.did h5 h6, h2.to h4 h5 h6, h5, h6, h7⟩
theorem wal_recs2 {l : List (List Int)} {m : Nat} (h1 : WalAt w b d K) (h2 : Grown w0 w d K s) (hs : Small s) (hl : recsZ (allZ s) = l) (hm : l.length = m) :
    Calls Tryd.prog 11 #[.pointer (some ⟨b, 0, none⟩)] w (fun e w' => ∃ A c ps, e = .returned (.slice A m c) ∧ WalAt w' b d K ∧ Grown w0 w' d K s ∧ Below w.heap.size w w' ∧ RecsAt w' K w.heap.size (.slice A m c) ps l) := by
  refine (walrecs_any h1 h2 hs).mono fun e w' h => ?_
  obtain ⟨hb, v, ps, h4, h5⟩ := h.at_ h2.at_.dk.lt
  rw [hl] at h5
  have e1 : ps.length = m := by have := congrArg List.length h5.zs; rw [List.length_map, hm] at this; exact this
  obtain ⟨A, c, rfl, _, _⟩ := own_shape h5.own
  rw [e1] at h4 h5
  exact ⟨A, c, ps, h4, h1.below hb, h2.below hb, hb, h5⟩
theorem RecsAt.row {B m : Nat} {A : Option Addr} {c : Nat} {ps : List Piece} {l : List (List Int)} (h : RecsAt w K B (.slice A m c) ps l) (hm : l.length = m) : PieceRow w A m ps := by
  have e1 : ps.length = m := by have := congrArg List.length h.zs; rw [List.length_map, hm] at this; exact this
  have ho := h.own
  rw [e1] at ho
  exact pieceRow_of ho h.all
theorem PieceRow.drewN {A : Option Addr} {n : Nat} {ps : List Piece} (h : PieceRow w A n ps) (k : Nat) : PieceRow (w.drewN k) A n ps := h.below ⟨rfl, rfl, rfl, Nat.le_refl _, fun _ _ => rfl⟩
theorem RecsAt.drewN {B : Nat} {v : Value} {ps : List Piece} {Z : List (List Int)} (h : RecsAt w K B v ps Z) (k : Nat) : RecsAt (w.drewN k) K B v ps Z := h.below ⟨rfl, rfl, rfl, Nat.le_refl _, fun _ _ => rfl⟩
end
/-- So much may lists of records weigh. -/
theorem weigh {Ns : Nat → Nat} {m : Nat} (h : sumTo Ns m + 40 * m ≤ 2000) : m ≤ 50 ∧ (∀ k, k ≤ m → EN Ns k ≤ 2000) ∧ ∀ j, j < m → Ns j ≤ 2000 := by
  refine ⟨by omega, fun k hk => ?_, fun j hj => ?_⟩
  · have h1 := EN_eq Ns k; have h2 := sumTo_le Ns k m hk; omega
  · have h1 := sumTo_le Ns (j + 1) m (by omega); have : sumTo Ns (j + 1) = sumTo Ns j + Ns j := rfl; omega
end Go.Proofs.YtjfeepmjebdahaaDoor
