/- What the calls make of a space, as plain values: for the statements without the document's answer. -/
import Derived.Test.YtmlkcedhjnmfgaaSpQ
import Derived.Test.YtmlkcedhjnmfgaaSpO
import Derived.Test.YtmlkcedhjnmfgaaSpN
namespace Go.Proofs.Ytmlkcedhjnmfgaa
open Go.ChangeShapes Go.WideShapes Go.ChangeAt Go.RowKit
set_option linter.unusedVariables false
set_option linter.unusedSimpArgs false
open Plain Sp
theorem fit_zero {s : SpZ} {r : SpZ × Int} (hr : fitR s = r) (h : r.2 ≠ 0) : r = (sp0, 120) := by
  subst hr
  unfold fitR at h ⊢
  split at h
  · simp at h
  · next hf => rw [if_neg hf]
theorem put_zero {s : SpZ} {k v : ByteArray} {r : SpZ × Int} (hr : putR s k v = r) (h : r.2 ≠ 0) : r.1 = sp0 ∧ (r.2 = 2 ∨ r.2 = 120) := by
  unfold putR at hr
  split at hr
  · have := fit_zero hr h; subst this; exact ⟨rfl, .inr rfl⟩
  · subst hr; exact ⟨rfl, .inl rfl⟩
theorem put_len {s : SpZ} {k v : ByteArray} {r : SpZ × Int} (hr : putR s k v = r) : r.1.l.length ≤ 64 := by
  by_cases h : r.2 = 0
  · exact (may_parts (may_put hr h)).2.2.2.1
  · rw [(put_zero hr h).1]; simp [sp0]
theorem put_ok {s : SpZ} {k v : ByteArray} {r : SpZ × Int} (hr : putR s k v = r) (h : r.2 = 0) : mayB s = true ∧ keyB k = true ∧ valB v = true ∧ r.1 = ⟨s.K, s.Y, insP s.l k v⟩ := by
  unfold putR at hr
  split at hr
  · next hb =>
    simp only [Bool.and_eq_true] at hb
    refine ⟨hb.1.1, hb.1.2, hb.2, ?_⟩
    unfold fitR at hr
    split at hr
    · rw [← hr]
    · subst hr; simp at h
  · subst hr; simp at h
theorem put_order {s : SpZ} {a x b y : ByteArray} {r1 r2 : SpZ × Int} (hab : a ≠ b) (h1 : putR s a x = r1) (h2 : putR s b y = r2) (e1 : r1.2 = 0) (e2 : r2.2 = 0) : putR r1.1 b y = putR r2.1 a x := by
  have m1 := may_put h1 e1
  have m2 := may_put h2 e2
  obtain ⟨_, ka, va, f1⟩ := put_ok h1 e1
  obtain ⟨_, kb, vb, f2⟩ := put_ok h2 e2
  unfold putR
  rw [m1, m2, ka, va, kb, vb, f1, f2]
  simp only [Bool.and_self, if_true]
  rw [ins_comm s.l x y hab]
theorem NewP.pre {w : World} {base n d : Nat} {D : Option Addr} {l : List PairZ} {z : PairZ} (h : NewP w base D (n + 1) d (l ++ [z])) (hl : l.length = n) (hn : n ≤ 1000) : Spc w D n d l := by
  have h1 := (h.front (a := n) (by omega)).prs
  rw [List.take_left' hl] at h1
  exact ⟨h1, by have := h.nd; omega, h.dm, hn⟩
theorem sbox_far {W : World} {b g : Nat} {K Y : Int} {A : Option Addr} {n c : Nat} (h : SBox W b K Y A n c) (hne : b ≠ g) (o : Nat) (vs : List Value) : SBox (W.setCells g o vs) b K Y A n c :=
  ⟨(World.cell?_of_block (a := ⟨b, 0, none⟩) (sp_heap hne vs o W)).trans h.1, (World.cell?_of_block (a := ⟨b, 1, none⟩) (sp_heap hne vs o W)).trans h.2.1, (World.cell?_of_block (a := ⟨b, 2, none⟩) (sp_heap hne vs o W)).trans h.2.2⟩
theorem svar_far {W : World} {b : Nat} (h : SVar W b) (g o : Nat) (vs : List Value) : SVar (W.setCells g o vs) b := ⟨World.there_setCells h.th g o vs, Nat.lt_of_lt_of_le h.lt (sp_setCells (Nat.zero_le _) vs o W (Below.refl 0 W)).size⟩
theorem sbox_put {W : World} {b : Nat} (h : SVar W b) (K Y : Int) (A : Option Addr) (n c : Nat) : SBox (W.setCells b 0 [.int .i64 K, .int .i64 Y, .slice A n c]) b K Y A n c := by
  have := World.rangeAt_setCells_same W b 0 [.int .i64 K, .int .i64 Y, .slice A n c] h.th
  exact ⟨this 0 _ rfl, this 1 _ rfl, this 2 _ rfl⟩
end Go.Proofs.Ytmlkcedhjnmfgaa
