/- Note: one contract for all that may come, with where what comes back stands. -/
import Derived.Test.YtlapdocikhjkcaaRpU
namespace Go.Proofs.Ytlapdocikhjkcaa
open Go.ChangeShapes Go.WideShapes Go.ChangeAt Go.RowKit
set_option linter.unusedVariables false
set_option linter.unusedSimpArgs false
open Plain Sha Au Rp
theorem xok_keep {w w' : World} {base g : Nat} {x : LX} (h : XOk w w.heap.size x) (hk : KW w base g x.r) (hb : ∀ b, base ≤ b → w'.heap[b]? = w.heap[b]?) (hs : w.heap.size ≤ w'.heap.size) : XOk w' w'.heap.size x :=
  ⟨h.c, h.id, ⟨h.r.err, h.r.n, h.r.g, h.r.kc, h.r.km, h.r.ks.len, fun h0 => by
    obtain ⟨b, off, hA, hlt, hc⟩ := h.r.ks.row h0
    obtain ⟨b2, hA2, hb2, _⟩ := hk.own h0
    rw [hA] at hA2
    injection hA2 with hA2
    injection hA2 with e1 e2
    subst e1 e2
    exact ⟨b, 0, hA, Nat.lt_of_lt_of_le hlt hs, fun j z hz => (World.cell?_of_block (a := ⟨b, 0 + j, none⟩) (hb b hb2)).trans (hc j z hz)⟩⟩⟩
theorem KW.keep {w w' : World} {base g : Nat} {x : RX} (h : KW w base g x) (hb : ∀ b, base ≤ b → w'.heap[b]? = w.heap[b]?) (hs : w.heap.size ≤ w'.heap.size) : KW w' base g x := ⟨fun h0 => by
  obtain ⟨b, h1, h2, h3, h4, h5⟩ := h.own h0
  exact ⟨b, h1, h2, h3, Nat.lt_of_lt_of_le h4 hs, there_same h5 (hb b h2)⟩⟩
theorem KW.setCell {w : World} {base g : Nat} {x : RX} (h : KW w base g x) (b k : Nat) (v : Value) : KW (w.setCell ⟨b, k, none⟩ v) base g x := ⟨fun h0 => by
  obtain ⟨b2, h1, h2, h3, h4, h5⟩ := h.own h0
  exact ⟨b2, h1, h2, h3, by simpa using h4, World.there_setCells h5 b k [v]⟩⟩
def NoteAl2 (w : World) (er : Int) (L : List LastZ) (e : Ending) (w' : World) : Prop :=
  ∃ A m d l', e = .returned (.tuple #[.slice A m d, .int .i64 er]) ∧ l'.map LX.z = L ∧ w'.ownsRow w.heap.size 53 77 (.slice A m d) m (xvs l') ∧ (∀ x, x ∈ l' → XOk w' w'.heap.size x) ∧ (∀ x g, x ∈ l' → A = some ⟨g, 0, none⟩ → KW w' w.heap.size g x.r) ∧ Below w.heap.size w w'
theorem note_al2 {w : World} {B n : Nat} {A : Option Addr} {l : List LX} {r : RX} (c : Nat) (t id : Int) (er : Int) (h : Las w B A n l) (hB : B ≤ w.heap.size) (hr : ROk w B r) (hn : n ≤ 9223372036854775807) (hnc : n ≤ c) (hcm : c ≤ maxLen) (hk : ∀ x, x ∈ l → x.r.kn ≤ 100000) (hrn : r.kn ≤ 100000) (hq : noteE l t id = er) :
    Calls Try.prog 20 #[.slice A n c, .int .i64 t, .int .i64 id, .agg (rc r).toArray] w (NoteAl2 w er (noteZ (l.map LX.z) er ⟨t, id, r.z⟩)) := by
  have hnone : ∀ {er : Int} {e : Ending} {w' : World}, er ≠ 0 → e = .returned (.tuple #[.slice none 0 0, .int .i64 er]) ∧ Below w.heap.size w w' → NoteAl2 w er (noteZ (l.map LX.z) er ⟨t, id, r.z⟩) e w' := by
    intro er e w' h0 ⟨h1, h2⟩
    exact ⟨none, 0, 0, [], h1, by unfold noteZ; rw [if_neg h0]; rfl, World.ownsRow_nil _ _ _ _, fun x hx => by simp at hx, fun x g hx => by simp at hx, h2⟩
  unfold noteE at hq
  cases hm : mayG LX.c LX.id l with
  | false =>
    rw [hm] at hq
    simp only [Bool.false_and, if_true] at hq
    subst hq
    exact (note_bad1 c t id h hB hr hn hm).mono fun e w' hp => hnone (by decide) hp
  | true =>
    cases ha : askB t id with
    | false =>
      rw [hm, ha] at hq
      simp only [Bool.and_false, if_true] at hq
      subst hq
      exact (note_bad2 c t id h hB hr hn hm ha).mono fun e w' hp => hnone (by decide) hp
    | true =>
      rw [hm, ha] at hq
      simp only [Bool.and_true, Bool.true_eq_false, if_false] at hq
      by_cases h1 : id ≤ (lastX l t).id
      · rw [if_pos h1] at hq
        subst hq
        exact (note_stale c t id _ h hB hr hn hm ha rfl h1).mono fun e w' hp => hnone (by decide) hp
      · rw [if_neg h1] at hq
        subst hq
        refine (note_ok c t id _ h hB hr hn hnc hcm hm ha rfl h1 hk hrn).mono fun e w' hp => ?_
        obtain ⟨g, m, d, l', he, hz, ho, hx, hkw, hb⟩ := hp
        refine ⟨some ⟨g, 0, none⟩, m, d, l', he, ?_, ho, hx, fun x g' hx' hg => by
          injection hg with hg
          injection hg with hg
          subst hg
          exact hkw x hx', hb⟩
        rw [hz, ins_z]
        unfold noteZ
        rw [if_pos rfl]
        rfl
/-- The document's. -/
theorem rnote_al2 {w : World} {B n : Nat} {A : Option Addr} {l : List LX} {r : RX} (c : Nat) (t id : Int) (er : Int) (h : Las w B A n l) (hB : B ≤ w.heap.size) (hr : ROk w B r) (hn : n ≤ 9223372036854775807) (hq : noteE l t id = er) :
    Calls Try.prog 21 #[.slice A n c, .int .i64 t, .int .i64 id, .agg (rc r).toArray] w (fun e w' => ∃ A m d l', e = .returned (.tuple #[.slice A m d, .int .i64 er]) ∧ l'.map LX.z = noteZ (l.map LX.z) er ⟨t, id, r.z⟩ ∧ w'.ownsRow w.heap.size 40 77 (.slice A m d) m (xvs l') ∧ (∀ x, x ∈ l' → XOk w B x) ∧ Below w.heap.size w w') := by
  have hnone : ∀ {er : Int} {e : Ending} {w' : World}, er ≠ 0 → e = .returned (.tuple #[.slice none 0 0, .int .i64 er]) ∧ Below w.heap.size w w' → ∃ A m d l', e = .returned (.tuple #[.slice A m d, .int .i64 er]) ∧ l'.map LX.z = noteZ (l.map LX.z) er ⟨t, id, r.z⟩ ∧ w'.ownsRow w.heap.size 40 77 (.slice A m d) m (xvs l') ∧ (∀ x, x ∈ l' → XOk w B x) ∧ Below w.heap.size w w' := by
    intro er e w' h0 ⟨h1, h2⟩
    exact ⟨none, 0, 0, [], h1, by unfold noteZ; rw [if_neg h0]; rfl, World.ownsRow_nil _ _ _ _, fun x hx => by simp at hx, h2⟩
  have hyes : ∀ {e : Ending} {w' : World}, askB t id = true → MadeD w (insG LX.c (⟨t, id, r⟩ : LX) l) e w' → ∃ A m d l', e = .returned (.tuple #[.slice A m d, .int .i64 0]) ∧ l'.map LX.z = noteZ (l.map LX.z) 0 ⟨t, id, r.z⟩ ∧ w'.ownsRow w.heap.size 40 77 (.slice A m d) m (xvs l') ∧ (∀ x, x ∈ l' → XOk w B x) ∧ Below w.heap.size w w' := by
    intro e w' ha ⟨D, m, d, he, ho, hb⟩
    have hb' := askB_iff.1 ha
    refine ⟨D, m, d, insG LX.c ⟨t, id, r⟩ l, he, by rw [ins_z]; unfold noteZ; rw [if_pos rfl]; rfl, ho, fun x hx => ?_, hb⟩
    have hx2 : x = (⟨t, id, r⟩ : LX) ∨ x ∈ l := by
      unfold insG at hx
      rcases List.mem_append.1 hx with hx | hx
      · exact .inr ((List.takeWhile_sublist _).subset hx)
      · rcases List.mem_cons.1 hx with hx | hx
        · exact .inl hx
        · exact .inr ((List.dropWhile_sublist _).subset hx)
    rcases hx2 with hx2 | hx2
    · subst hx2
      exact ⟨by unfold InA; dsimp only; omega, by unfold InA; dsimp only; omega, hr⟩
    · exact h.ok x hx2
  unfold noteE at hq
  cases hm : mayG LX.c LX.id l with
  | false =>
    rw [hm] at hq
    simp only [Bool.false_and, if_true] at hq
    subst hq
    exact (rnote_bad1 c t id h hB hr hn hm).mono fun e w' hp => hnone (by decide) hp
  | true =>
    cases ha : askB t id with
    | false =>
      rw [hm, ha] at hq
      simp only [Bool.and_false, if_true] at hq
      subst hq
      exact (rnote_bad2 c t id h hB hr hn hm ha).mono fun e w' hp => hnone (by decide) hp
    | true =>
      rw [hm, ha] at hq
      simp only [Bool.and_true, Bool.true_eq_false, if_false] at hq
      cases ho : findG LX.c l t with
      | none =>
        have hl : lastX l t = x0 := by unfold lastX; rw [ho]; rfl
        have hid := (askB_iff.1 ha).2.2.1
        have h0 : x0.id = 0 := rfl
        rw [hl, h0, if_neg (by omega)] at hq
        subst hq
        exact (rnote_new c t id none h hB hr hn hm ha ho rfl).mono fun e w' hp => hyes ha hp
      | some x =>
        have hl : lastX l t = x := by unfold lastX; rw [ho]; rfl
        rw [hl] at hq
        by_cases h1 : id ≤ x.id
        · rw [if_pos h1] at hq
          subst hq
          exact (rnote_stale c t id _ x h hB hr hn hm ha ho rfl h1).mono fun e w' hp => hnone (by decide) hp
        · rw [if_neg h1] at hq
          subst hq
          exact (rnote_ok c t id _ h hB hr hn hm ha ho x rfl h1).mono fun e w' hp => hyes ha hp
end Go.Proofs.Ytlapdocikhjkcaa
