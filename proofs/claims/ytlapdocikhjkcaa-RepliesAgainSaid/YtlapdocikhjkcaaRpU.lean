/- Ask, Note: one contract for all that may come. -/
import Derived.Test.YtlapdocikhjkcaaRpT
namespace Go.Proofs.Ytlapdocikhjkcaa
open Go.ChangeShapes Go.WideShapes Go.ChangeAt Go.RowKit
set_option linter.unusedVariables false
set_option linter.unusedSimpArgs false
open Plain Sha Au Rp
theorem last_z (l : List LX) (t : Int) : (lastX l t).z = (findG LastZ.c (l.map LX.z) t).getD x0.z := by
  unfold lastX
  rw [find_z]
  cases findG LX.c l t <;> rfl
theorem last_same {l l' : List LX} (e : l'.map LX.z = l.map LX.z) (t : Int) : (lastX l' t).z = (lastX l t).z := by rw [last_z, last_z, e]
theorem may_same {l l' : List LX} (e : l'.map LX.z = l.map LX.z) : mayG LX.c LX.id l' = mayG LX.c LX.id l := by rw [← may_z, ← may_z, e]
/-- What is told, plain. -/
def askQ (l : List LX) (t id : Int) : RepZ × Bool × Int :=
  if (mayG LX.c LX.id l && askB t id) = false then (r0.z, false, 2)
  else if id < (lastX l t).id then (r0.z, false, 140)
  else if (lastX l t).id < id then (r0.z, false, 0)
  else ((lastX l t).r.z, true, 0)
theorem askQ_same {l l' : List LX} (e : l'.map LX.z = l.map LX.z) (t id : Int) : askQ l' t id = askQ l t id := by
  have h := last_same e t
  have h1 : (lastX l' t).id = (lastX l t).id := congrArg LastZ.id h
  have h2 : (lastX l' t).r.z = (lastX l t).r.z := congrArg LastZ.r h
  unfold askQ
  rw [may_same e, h1, h2]
theorem last_ok {w : World} {B n : Nat} {A : Option Addr} {l : List LX} (h : Las w B A n l) (t : Int) : XOk w B (lastX l t) := by
  unfold lastX
  cases ho : findG LX.c l t with
  | none => exact x0_ok w B
  | some y => exact h.ok y (find_c ho).2
theorem last_kn {l : List LX} {M : Nat} (h : ∀ x, x ∈ l → x.r.kn ≤ M) (t : Int) : (lastX l t).r.kn ≤ M := by
  unfold lastX
  cases ho : findG LX.c l t with
  | none => exact Nat.zero_le _
  | some y => exact h y (find_c ho).2
/-- The program's Ask. -/
def AskOk (w : World) (z : RepZ) (kb : Bool) (er : Int) (e : Ending) (w' : World) : Prop :=
  ∃ RP : RX, e = .returned (.tuple #[.agg (rc RP).toArray, .bool kb, .int .i64 er]) ∧ RP.z = z ∧ w'.ownsRow w.heap.size 9 1 (.slice RP.A RP.kn RP.kc) RP.kn (svs RP.ks) ∧ ROk w' w'.heap.size RP ∧ Below w.heap.size w w'
theorem ask_all {w : World} {B n : Nat} {A : Option Addr} {l : List LX} (c : Nat) (t id : Int) (z : RepZ) (kb : Bool) (er : Int) (h : Las w B A n l) (hB : B ≤ w.heap.size) (hn : n ≤ 9223372036854775807) (hk : ∀ x, x ∈ l → x.r.kn ≤ 100000) (hq : askQ l t id = (z, kb, er)) :
    Calls Try.prog 10 #[.slice A n c, .int .i64 t, .int .i64 id] w (AskOk w z kb er) := by
  have hnone : ∀ {z : RepZ} {kb : Bool} {er : Int} {e : Ending} {w' : World}, (r0.z, false, er) = (z, kb, er) → e = .returned (.tuple #[.agg (rc r0).toArray, .bool false, .int .i64 er]) ∧ Below w.heap.size w w' → AskOk w z kb er e w' := by
    intro z kb er e w' he ⟨h1, h2⟩
    injection he with e1 e2
    injection e2 with e2 e3
    subst e1 e2
    exact ⟨r0, h1, rfl, World.ownsRow_nil _ _ _ _, r0_ok _ _, h2⟩
  unfold askQ at hq
  cases hm : mayG LX.c LX.id l with
  | false =>
    rw [hm] at hq
    simp only [Bool.false_and, if_true] at hq
    obtain rfl : (2 : Int) = er := congrArg (fun p => p.2.2) hq
    exact (ask_bad1 c t id h hB hn hm).mono fun e w' hp => hnone hq hp
  | true =>
    cases ha : askB t id with
    | false =>
      rw [hm, ha] at hq
      simp only [Bool.and_false, if_true] at hq
      obtain rfl : (2 : Int) = er := congrArg (fun p => p.2.2) hq
      exact (ask_bad2 c t id h hB hn hm ha).mono fun e w' hp => hnone hq hp
    | true =>
      rw [hm, ha] at hq
      simp only [Bool.and_true, Bool.true_eq_false, if_false] at hq
      by_cases h1 : id < (lastX l t).id
      · rw [if_pos h1] at hq
        obtain rfl : (140 : Int) = er := congrArg (fun p => p.2.2) hq
        exact (ask_stale c t id _ h hB hn hm ha rfl h1).mono fun e w' hp => hnone hq hp
      · rw [if_neg h1] at hq
        by_cases h2 : (lastX l t).id < id
        · rw [if_pos h2] at hq
          obtain rfl : (0 : Int) = er := congrArg (fun p => p.2.2) hq
          exact (ask_next c t id _ h hB hn hm ha rfl h2).mono fun e w' hp => hnone hq hp
        · rw [if_neg h2] at hq
          injection hq with e1 e2
          injection e2 with e2 e3
          subst e1 e2 e3
          have hok := (last_ok h t)
          refine (ask_again c t id _ h hB hn hm ha rfl (by omega) (hok.r.more hB) (last_kn hk t)).mono fun e w' hp => ?_
          obtain ⟨D, d, he, ho, hb⟩ := hp
          obtain ⟨_, _, ee, k1, k2⟩ := own_shapeA ho
          injection ee with q1 q2 q3
          subst q1 q3
          exact ⟨CopyX (lastX l t).r D d, he, rfl, ho, ⟨hok.r.err, hok.r.n, hok.r.g, k1, k2, sr_of_own ho⟩, hb⟩
/-- The document's Ask. -/
theorem rask_all {w : World} {B n : Nat} {A : Option Addr} {l : List LX} (c : Nat) (t id : Int) (z : RepZ) (kb : Bool) (er : Int) (h : Las w B A n l) (hB : B ≤ w.heap.size) (hn : n ≤ 9223372036854775807) (hq : askQ l t id = (z, kb, er)) :
    Calls Try.prog 11 #[.slice A n c, .int .i64 t, .int .i64 id] w (fun e w' => ∃ RS : RX, e = .returned (.tuple #[.agg (rc RS).toArray, .bool kb, .int .i64 er]) ∧ RS.z = z ∧ ROk w' w'.heap.size RS ∧ Below w.heap.size w w') := by
  have hnone : ∀ {z : RepZ} {kb : Bool} {er : Int} {e : Ending} {w' : World}, (r0.z, false, er) = (z, kb, er) → e = .returned (.tuple #[.agg (rc r0).toArray, .bool false, .int .i64 er]) ∧ Below w.heap.size w w' → ∃ RS : RX, e = .returned (.tuple #[.agg (rc RS).toArray, .bool kb, .int .i64 er]) ∧ RS.z = z ∧ ROk w' w'.heap.size RS ∧ Below w.heap.size w w' := by
    intro z kb er e w' he ⟨h1, h2⟩
    injection he with e1 e2
    injection e2 with e2 e3
    subst e1 e2
    exact ⟨r0, h1, rfl, r0_ok _ _, h2⟩
  unfold askQ at hq
  cases hm : mayG LX.c LX.id l with
  | false =>
    rw [hm] at hq
    simp only [Bool.false_and, if_true] at hq
    obtain rfl : (2 : Int) = er := congrArg (fun p => p.2.2) hq
    exact (rask_bad1 c t id h hB hn hm).mono fun e w' hp => hnone hq hp
  | true =>
    cases ha : askB t id with
    | false =>
      rw [hm, ha] at hq
      simp only [Bool.and_false, if_true] at hq
      obtain rfl : (2 : Int) = er := congrArg (fun p => p.2.2) hq
      exact (rask_bad2 c t id h hB hn hm ha).mono fun e w' hp => hnone hq hp
    | true =>
      rw [hm, ha] at hq
      simp only [Bool.and_true, Bool.true_eq_false, if_false] at hq
      cases ho : findG LX.c l t with
      | none =>
        have hl : lastX l t = x0 := by unfold lastX; rw [ho]; rfl
        have hid := (askB_iff.1 ha).2.2.1
        have h0 : x0.id = 0 := rfl
        rw [hl, h0, if_neg (by omega), if_pos (by omega)] at hq
        obtain rfl : (0 : Int) = er := congrArg (fun p => p.2.2) hq
        exact (rask_next2 c t id none h hB hn hm ha ho rfl).mono fun e w' hp => hnone hq hp
      | some x =>
        have hl : lastX l t = x := by unfold lastX; rw [ho]; rfl
        rw [hl] at hq
        by_cases h1 : id < x.id
        · rw [if_pos h1] at hq
          obtain rfl : (140 : Int) = er := congrArg (fun p => p.2.2) hq
          exact (rask_stale c t id _ h hB hn hm ha ho x rfl h1).mono fun e w' hp => hnone hq hp
        · rw [if_neg h1] at hq
          by_cases h2 : x.id < id
          · rw [if_pos h2] at hq
            obtain rfl : (0 : Int) = er := congrArg (fun p => p.2.2) hq
            exact (rask_next1 c t id _ h hB hn hm ha ho x rfl h2).mono fun e w' hp => hnone hq hp
          · rw [if_neg h2] at hq
            injection hq with e1 e2
            injection e2 with e2 e3
            subst e1 e2 e3
            have hok := h.ok x (find_c ho).2
            exact (rask_again c t id _ h hB hn hm ha ho x rfl (by omega)).mono fun e w' hp => ⟨x.r, hp.1, rfl, hok.r.grow hp.2 hB, hp.2⟩
/-- A note's error, plain. -/
def noteE (l : List LX) (t id : Int) : Int := if (mayG LX.c LX.id l && askB t id) = false then 2 else if id ≤ (lastX l t).id then 140 else 0
theorem noteE_same {l l' : List LX} (e : l'.map LX.z = l.map LX.z) (t id : Int) : noteE l' t id = noteE l t id := by
  have h := last_same e t
  have h1 : (lastX l' t).id = (lastX l t).id := congrArg LastZ.id h
  unfold noteE
  rw [may_same e, h1]
/-- The table that comes back. -/
def noteZ (L : List LastZ) (er : Int) (x : LastZ) : List LastZ := if er = 0 then insG LastZ.c x L else []
def NoteAll (w : World) (er : Int) (L : List LastZ) (e : Ending) (w' : World) : Prop :=
  ∃ A m d l', e = .returned (.tuple #[.slice A m d, .int .i64 er]) ∧ l'.map LX.z = L ∧ Las w' w'.heap.size A m l' ∧ (0 < m → ∃ g, A = some ⟨g, 0, none⟩ ∧ w.heap.size ≤ g ∧ ∀ x, x ∈ l' → KW w' w.heap.size g x.r) ∧ Below w.heap.size w w'
theorem note_all {w : World} {B n : Nat} {A : Option Addr} {l : List LX} {r : RX} (c : Nat) (t id : Int) (er : Int) (h : Las w B A n l) (hB : B ≤ w.heap.size) (hr : ROk w B r) (hn : n ≤ 9223372036854775807) (hnc : n ≤ c) (hcm : c ≤ maxLen) (hk : ∀ x, x ∈ l → x.r.kn ≤ 100000) (hrn : r.kn ≤ 100000) (hq : noteE l t id = er) :
    Calls Try.prog 20 #[.slice A n c, .int .i64 t, .int .i64 id, .agg (rc r).toArray] w (NoteAll w er (noteZ (l.map LX.z) er ⟨t, id, r.z⟩)) := by
  have hnone : ∀ {er : Int} {e : Ending} {w' : World}, er ≠ 0 → e = .returned (.tuple #[.slice none 0 0, .int .i64 er]) ∧ Below w.heap.size w w' → NoteAll w er (noteZ (l.map LX.z) er ⟨t, id, r.z⟩) e w' := by
    intro er e w' h0 ⟨h1, h2⟩
    exact ⟨none, 0, 0, [], h1, by unfold noteZ; rw [if_neg h0]; rfl, Las.nil, fun h => absurd h (by omega), h2⟩
  unfold noteE at hq
  cases hm : mayG LX.c LX.id l with
  | false =>
    rw [hm] at hq
    simp only [Bool.false_and, if_true] at hq
    subst hq
    exact (note_bad1 c t id h hB hr hn hm).mono fun e w' hp => hnone (by decide) hp
  | true =>
    cases ha : askB t id with
    | false =>
      rw [hm, ha] at hq
      simp only [Bool.and_false, if_true] at hq
      subst hq
      exact (note_bad2 c t id h hB hr hn hm ha).mono fun e w' hp => hnone (by decide) hp
    | true =>
      rw [hm, ha] at hq
      simp only [Bool.and_true, Bool.true_eq_false, if_false] at hq
      by_cases h1 : id ≤ (lastX l t).id
      · rw [if_pos h1] at hq
        subst hq
        exact (note_stale c t id _ h hB hr hn hm ha rfl h1).mono fun e w' hp => hnone (by decide) hp
      · rw [if_neg h1] at hq
        subst hq
        refine (note_ok c t id _ h hB hr hn hnc hcm hm ha rfl h1 hk hrn).mono fun e w' hp => ?_
        obtain ⟨g, m, d, l', he, hz, ho, hx, hkw, hb⟩ := hp
        have hL := las_of_own ho hx
        refine ⟨some ⟨g, 0, none⟩, m, d, l', he, ?_, hL, fun h0 => ⟨g, rfl, (ho.lt g rfl).1, hkw⟩, hb⟩
        rw [hz, ins_z]
        unfold noteZ
        rw [if_pos rfl]
        rfl
/-- The document's. -/
theorem rnote_all {w : World} {B n : Nat} {A : Option Addr} {l : List LX} {r : RX} (c : Nat) (t id : Int) (er : Int) (h : Las w B A n l) (hB : B ≤ w.heap.size) (hr : ROk w B r) (hn : n ≤ 9223372036854775807) (hq : noteE l t id = er) :
    Calls Try.prog 21 #[.slice A n c, .int .i64 t, .int .i64 id, .agg (rc r).toArray] w (fun e w' => ∃ A m d l', e = .returned (.tuple #[.slice A m d, .int .i64 er]) ∧ l'.map LX.z = noteZ (l.map LX.z) er ⟨t, id, r.z⟩ ∧ Las w' w'.heap.size A m l' ∧ Below w.heap.size w w') := by
  have hnone : ∀ {er : Int} {e : Ending} {w' : World}, er ≠ 0 → e = .returned (.tuple #[.slice none 0 0, .int .i64 er]) ∧ Below w.heap.size w w' → ∃ A m d l', e = .returned (.tuple #[.slice A m d, .int .i64 er]) ∧ l'.map LX.z = noteZ (l.map LX.z) er ⟨t, id, r.z⟩ ∧ Las w' w'.heap.size A m l' ∧ Below w.heap.size w w' := by
    intro er e w' h0 ⟨h1, h2⟩
    exact ⟨none, 0, 0, [], h1, by unfold noteZ; rw [if_neg h0]; rfl, Las.nil, h2⟩
  have hyes : ∀ {e : Ending} {w' : World}, askB t id = true → MadeD w (insG LX.c (⟨t, id, r⟩ : LX) l) e w' → ∃ A m d l', e = .returned (.tuple #[.slice A m d, .int .i64 0]) ∧ l'.map LX.z = noteZ (l.map LX.z) 0 ⟨t, id, r.z⟩ ∧ Las w' w'.heap.size A m l' ∧ Below w.heap.size w w' := by
    intro e w' ha ⟨D, m, d, he, ho, hb⟩
    have hb' := askB_iff.1 ha
    refine ⟨D, m, d, insG LX.c ⟨t, id, r⟩ l, he, by rw [ins_z]; unfold noteZ; rw [if_pos rfl]; rfl, las_of_own ho (fun x hx => ?_), hb⟩
    have hx2 : x = (⟨t, id, r⟩ : LX) ∨ x ∈ l := by
      unfold insG at hx
      rcases List.mem_append.1 hx with hx | hx
      · exact .inr ((List.takeWhile_sublist _).subset hx)
      · rcases List.mem_cons.1 hx with hx | hx
        · exact .inl hx
        · exact .inr ((List.dropWhile_sublist _).subset hx)
    rcases hx2 with hx2 | hx2
    · subst hx2
      exact ⟨by unfold InA; dsimp only; omega, by unfold InA; dsimp only; omega, hr.grow hb hB⟩
    · exact (h.ok x hx2).grow hb hB
  unfold noteE at hq
  cases hm : mayG LX.c LX.id l with
  | false =>
    rw [hm] at hq
    simp only [Bool.false_and, if_true] at hq
    subst hq
    exact (rnote_bad1 c t id h hB hr hn hm).mono fun e w' hp => hnone (by decide) hp
  | true =>
    cases ha : askB t id with
    | false =>
      rw [hm, ha] at hq
      simp only [Bool.and_false, if_true] at hq
      subst hq
      exact (rnote_bad2 c t id h hB hr hn hm ha).mono fun e w' hp => hnone (by decide) hp
    | true =>
      rw [hm, ha] at hq
      simp only [Bool.and_true, Bool.true_eq_false, if_false] at hq
      cases ho : findG LX.c l t with
      | none =>
        have hl : lastX l t = x0 := by unfold lastX; rw [ho]; rfl
        have hid := (askB_iff.1 ha).2.2.1
        have h0 : x0.id = 0 := rfl
        rw [hl, h0, if_neg (by omega)] at hq
        subst hq
        exact (rnote_new c t id none h hB hr hn hm ha ho rfl).mono fun e w' hp => hyes ha hp
      | some x =>
        have hl : lastX l t = x := by unfold lastX; rw [ho]; rfl
        rw [hl] at hq
        by_cases h1 : id ≤ x.id
        · rw [if_pos h1] at hq
          subst hq
          exact (rnote_stale c t id _ x h hB hr hn hm ha ho rfl h1).mono fun e w' hp => hnone (by decide) hp
        · rw [if_neg h1] at hq
          subst hq
          exact (rnote_ok c t id _ h hB hr hn hm ha ho x rfl h1).mono fun e w' hp => hyes ha hp
end Go.Proofs.Ytlapdocikhjkcaa
