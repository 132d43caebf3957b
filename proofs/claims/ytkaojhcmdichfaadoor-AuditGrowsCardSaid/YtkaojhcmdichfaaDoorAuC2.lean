/- Acts that came in; the chain of acts. -/
import Derived.Test.YtkaojhcmdichfaaDoorAuA
namespace Go.Proofs.YtkaojhcmdichfaaDoor
open Go.ChangeShapes Go.WideShapes Go.ChangeAt Go.RowKit
set_option linter.unusedVariables false
set_option linter.unusedSimpArgs false
open Plain Sha Au
structure AOk (x : AZ) : Prop where
  args : ArgsOk x.st x.op x.tn x.a x.b x.c
def ac (x : AZ) : List Value := [.int .i64 x.st, .int .u8 x.op, .int .i64 x.tn, .int .i64 x.a, .int .i64 x.b, .int .i64 x.c]
/-- The cells of a row of acts. -/
def avs : List AZ → List Value
  | [] => []
  | x :: l => ac x ++ avs l
theorem avs_len : ∀ l, (avs l).length = l.length * 6
  | [] => rfl
  | x :: l => by simp only [avs, List.length_append, List.length_cons, avs_len l, ac, List.length_nil]; omega
theorem avs_at : ∀ (l : List AZ) (j : Nat) (x : AZ), l[j]? = some x → ∀ i, i < 6 → (avs l)[j * 6 + i]? = (ac x)[i]?
  | [], j, x, h, i, hi => by simp at h
  | a :: l, 0, x, h, i, hi => by
    obtain rfl : a = x := by simpa using h
    simp only [avs]
    rw [Nat.zero_mul, Nat.zero_add, List.getElem?_append_left (by simpa [ac] using hi)]
  | a :: l, j + 1, x, h, i, hi => by
    have := avs_at l j x (by simpa using h) i hi
    simp only [avs]
    have hl : (ac a).length = 6 := rfl
    rw [List.getElem?_append_right (by rw [hl]; omega), hl, show (j + 1) * 6 + i - 6 = j * 6 + i by omega]
    exact this
/-- The n acts that the slice at A holds; what it reads lies below block B. -/
structure Ats (w : World) (B : Nat) (A : Option Addr) (n : Nat) (l : List AZ) : Prop where
  len : l.length = n
  row : 0 < n → ∃ b off, A = some ⟨b, off, none⟩ ∧ b < B ∧ ∀ i u, (avs l)[i]? = some u → w.cell? ⟨b, off + i, none⟩ = some u
  ok : ∀ x, x ∈ l → AOk x
section
variable {w w' : World} {B B' n : Nat} {A : Option Addr} {l : List AZ}
theorem Ats.below (h : Ats w B A n l) (hb : Below B' w w') (hB : B ≤ B') : Ats w' B A n l :=
  ⟨h.len, fun hn => by
    obtain ⟨b, off, rfl, hlt, hc⟩ := h.row hn
    exact ⟨b, off, rfl, hlt, fun i u hu => ((hb.mono hB).cell (p := ⟨b, off + i, none⟩) hlt).trans (hc i u hu)⟩, h.ok⟩
theorem Ats.at_ (h : Ats w B A n l) {k : Nat} (hk : k < n) :
    ∃ b off x, A = some ⟨b, off, none⟩ ∧ b < B ∧ Hid (l[k]? = some x) ∧ AOk x ∧ w.cell? ⟨b, off + k * 6, none⟩ = some (.int .i64 x.st) ∧ w.cell? ⟨b, off + k * 6 + 1, none⟩ = some (.int .u8 x.op) ∧ w.cell? ⟨b, off + k * 6 + 2, none⟩ = some (.int .i64 x.tn) ∧ w.cell? ⟨b, off + k * 6 + 3, none⟩ = some (.int .i64 x.a) ∧ w.cell? ⟨b, off + k * 6 + 4, none⟩ = some (.int .i64 x.b) ∧ w.cell? ⟨b, off + k * 6 + 5, none⟩ = some (.int .i64 x.c) := by
  obtain ⟨b, off, rfl, hb, hc⟩ := h.row (by omega)
  have hl := h.len
  have hg : l[k]? = some l[k] := List.getElem?_eq_getElem (by omega)
  have c := fun i hi => avs_at l k _ hg i hi
  exact ⟨b, off, l[k], rfl, hb, hg, h.ok _ (List.getElem_mem ..), hc (k * 6) _ (c 0 (by omega)), by rw [Nat.add_assoc]; exact hc _ _ (c 1 (by omega)), by rw [Nat.add_assoc]; exact hc _ _ (c 2 (by omega)), by rw [Nat.add_assoc]; exact hc _ _ (c 3 (by omega)), by rw [Nat.add_assoc]; exact hc _ _ (c 4 (by omega)), by rw [Nat.add_assoc]; exact hc _ _ (c 5 (by omega))⟩
end
theorem chain_ok : ∀ (l : List AZ), l.length ≤ 100000 → (∀ x, x ∈ l → AOk x) → ∀ g, g ∈ chainZ l → LOk g := by
  intro l
  suffices H : ∀ k, k ≤ l.length → l.length ≤ 100000 → (∀ x, x ∈ l → AOk x) → ∀ g, g ∈ chainZ (l.take k) → LOk g from fun h1 h2 => by
    have := H l.length (Nat.le_refl _) h1 h2
    rwa [List.take_length] at this
  intro k
  induction k with
  | zero => intro _ _ _ g hg; simp [chainZ] at hg
  | succ k ih =>
    intro hk hl ho
    have hx : l[k]? = some l[k] := List.getElem?_eq_getElem (by omega)
    rw [chain_take l k _ hx]
    exact add_ok (ih (by omega) hl ho) (by rw [chain_len, List.length_take]; omega) (ho _ (List.getElem_mem ..)).args
set_option maxRecDepth 100000 in
set_option maxHeartbeats 4000000 in
theorem chain_any {w : World} {B n : Nat} {A : Option Addr} (c : Nat) {l : List AZ} (h : Ats w B A n l) (hB : B ≤ w.heap.size) (hn : n ≤ 1000) (hF : LaidF w) (hK : LaidK w) :
    Calls Tryd.prog 16 #[.slice A n c] w (MadeL w (chainZ l) n) := by
  have H := Lib.hid h
  have HN := Lib.hid h.len
  have HF0 := Lib.hid hF
  have HK0 := Lib.hid hK
  have HOK : Hid (∀ k, ∀ g, g ∈ chainZ (l.take k) → LOk g) := Lib.hid (fun k => chain_ok _ (by have := h.len; simp only [List.length_take]; omega) (fun x hx => h.ok x (List.mem_of_mem_take hx)))
  have HCL : Hid (∀ k, k ≤ n → (chainZ (l.take k)).length = k) := Lib.hid (fun k hk => by rw [chain_len, List.length_take, h.len]; omega)
  have own0 := World.ownsRow_nil w w.heap.size 26 71
  clear h hF hK
  go_enter Tryd.func16, Tryd.ntmps16
  go_wp2
  go_loopw [3, 4] (fun v i wr => ∃ k : Nat, k ≤ n ∧ i = .int .i64 k ∧ ∃ D d, v = .slice D k d ∧ Hid (wr.ownsRow w.heap.size 26 71 (.slice D k d) k (lvs (chainZ (l.take k)))) ∧ Below w.heap.size w wr ∧ Hid (k ≤ d ∧ d ≤ maxLen)) (fun _ i _ => n - (intOf i).toNat)
  case atStart => exact ⟨0, by omega, rfl, none, 0, rfl, own0, Below.refl _ _, ⟨Nat.le_refl _, by simp [maxLen]⟩⟩
  case round =>
    obtain ⟨k, hk, rfl, D, d, rfl, HOW, hbel, HD⟩ := hrel
    by_cases hlt : k < n
    · obtain ⟨b, off, x, rfl, hb, HX, hxo, c0, c1, c2, c3, c4, c5⟩ := (H.out.below hbel hB).at_ hlt
      have hlI : (k : Int) < n := by omega
      have hbw : b < wr.heap.size := by have := hbel.size; omega
      have HC : Hid (∀ W, Below wr.heap.size wr W → W.cell? ⟨b, off + k * 6, none⟩ = some (.int .i64 x.st) ∧ W.cell? ⟨b, off + k * 6 + 1, none⟩ = some (.int .u8 x.op) ∧ W.cell? ⟨b, off + k * 6 + 2, none⟩ = some (.int .i64 x.tn) ∧ W.cell? ⟨b, off + k * 6 + 3, none⟩ = some (.int .i64 x.a) ∧ W.cell? ⟨b, off + k * 6 + 4, none⟩ = some (.int .i64 x.b) ∧ W.cell? ⟨b, off + k * 6 + 5, none⟩ = some (.int .i64 x.c)) := Lib.hid (fun W hW =>
        ⟨(hW.cell (p := ⟨b, off + k * 6, none⟩) hbw).trans c0, (hW.cell (p := ⟨b, off + k * 6 + 1, none⟩) hbw).trans c1, (hW.cell (p := ⟨b, off + k * 6 + 2, none⟩) hbw).trans c2, (hW.cell (p := ⟨b, off + k * 6 + 3, none⟩) hbw).trans c3, (hW.cell (p := ⟨b, off + k * 6 + 4, none⟩) hbw).trans c4, (hW.cell (p := ⟨b, off + k * 6 + 5, none⟩) hbw).trans c5⟩)
      have HL0 := Lib.hid (lks_of_own HOW.out (HOK.out k))
      have HXO := Lib.hid hxo
      have HST : Hid (chainZ (l.take (k + 1)) = addZ (chainZ (l.take k)) x.st x.op x.tn x.a x.b x.c) := Lib.hid (chain_take l k x HX.out)
      have HBW := Lib.hid hbel
      have C0 : Hid (Below wr.heap.size wr wr.drew) := Lib.hid (Below.refl _ _).drew
      clear c0 c1 c2 c3 c4 c5 hxo hbel
      go_upto_region 5 with fail
      refine Late.region (fun w' => Below wr.heap.size wr w') [] (by kernel_rfl) C0.out (fun hHeld => ?_)
      refine Late.take (i := 0) (oi := ⟨some 11, Op.move (Operand.tmp 3), _, _, _, _⟩) (v := ?_) rfl (by kernel_rfl) (by kernel_rfl) (by kernel_rfl) (by kernel_rfl) (fun _ _ _ h => h) (Or.inl ⟨by rfl, fun w hSw => ?_⟩) (by assumption) ?_
      rotate_left
      · (have s1 := hSw; go_simp; try with_reducible rfl)
      try simp only [Act.put, List.setIfInBounds_toArray, List.set_cons_zero, List.set_cons_succ]
      refine Late.take (i := 1) (oi := ⟨some 12, Op.move (Operand.tmp 0), _, _, _, _⟩) (v := ?_) rfl (by kernel_rfl) (by kernel_rfl) (by kernel_rfl) (by kernel_rfl) (fun _ _ _ h => h) (Or.inl ⟨by rfl, fun w hSw => ?_⟩) (by assumption) ?_
      rotate_left
      · (have s1 := hSw; go_simp; try with_reducible rfl)
      try simp only [Act.put, List.setIfInBounds_toArray, List.set_cons_zero, List.set_cons_succ]
      refine Late.take (i := 2) (oi := ⟨some 13, Op.move (Operand.tmp 4), _, _, _, _⟩) (v := ?_) rfl (by kernel_rfl) (by kernel_rfl) (by kernel_rfl) (by kernel_rfl) (fun _ _ _ h => h) (Or.inl ⟨by rfl, fun w hSw => ?_⟩) (by assumption) ?_
      rotate_left
      · (have s1 := hSw; go_simp; try with_reducible rfl)
      try simp only [Act.put, List.setIfInBounds_toArray, List.set_cons_zero, List.set_cons_succ]
      refine Late.take (i := 3) (oi := ⟨some 14, Op.indexAddr 38 (Operand.tmp 12) (Operand.tmp 13), _, _, _, _⟩) (v := ?_) rfl (by kernel_rfl) (by kernel_rfl) (by kernel_rfl) (by kernel_rfl) (fun _ _ _ h => h) (Or.inl ⟨by rfl, fun w hSw => ?_⟩) (by assumption) ?_
      rotate_left
      · (have s1 := hSw; go_simp; try with_reducible rfl)
      try simp only [Act.put, List.setIfInBounds_toArray, List.set_cons_zero, List.set_cons_succ]
      refine Late.take (i := 4) (oi := ⟨some 15, Op.fieldAddr 41 (Operand.tmp 14) 0, _, _, _, _⟩) (v := ?_) rfl (by kernel_rfl) (by kernel_rfl) (by kernel_rfl) (by kernel_rfl) (fun _ _ _ h => h) (Or.inl ⟨by rfl, fun w hSw => ?_⟩) (by assumption) ?_
      rotate_left
      · (have s1 := hSw; go_simp; try with_reducible rfl)
      try simp only [Act.put, List.setIfInBounds_toArray, List.set_cons_zero, List.set_cons_succ]
      refine Late.take (i := 5) (oi := ⟨some 16, Op.load 3 (Operand.tmp 15), _, _, _, _⟩) (v := ?_) rfl (by kernel_rfl) (by kernel_rfl) (by kernel_rfl) (by kernel_rfl) (fun _ _ _ h => h) (Or.inl ⟨by rfl, fun w hSw => ?_⟩) (by assumption) ?_
      rotate_left
      · (have s1 := hSw; obtain ⟨q0, q1, q2, q3, q4, q5⟩ := HC.out _ hSw; go_simp; try with_reducible rfl)
      try simp only [Act.put, List.setIfInBounds_toArray, List.set_cons_zero, List.set_cons_succ]
      refine Late.take (i := 6) (oi := ⟨some 17, Op.move (Operand.tmp 0), _, _, _, _⟩) (v := ?_) rfl (by kernel_rfl) (by kernel_rfl) (by kernel_rfl) (by kernel_rfl) (fun _ _ _ h => h) (Or.inl ⟨by rfl, fun w hSw => ?_⟩) (by assumption) ?_
      rotate_left
      · (have s1 := hSw; go_simp; try with_reducible rfl)
      try simp only [Act.put, List.setIfInBounds_toArray, List.set_cons_zero, List.set_cons_succ]
      refine Late.take (i := 7) (oi := ⟨some 18, Op.move (Operand.tmp 4), _, _, _, _⟩) (v := ?_) rfl (by kernel_rfl) (by kernel_rfl) (by kernel_rfl) (by kernel_rfl) (fun _ _ _ h => h) (Or.inl ⟨by rfl, fun w hSw => ?_⟩) (by assumption) ?_
      rotate_left
      · (have s1 := hSw; go_simp; try with_reducible rfl)
      try simp only [Act.put, List.setIfInBounds_toArray, List.set_cons_zero, List.set_cons_succ]
      refine Late.take (i := 8) (oi := ⟨some 19, Op.indexAddr 38 (Operand.tmp 17) (Operand.tmp 18), _, _, _, _⟩) (v := ?_) rfl (by kernel_rfl) (by kernel_rfl) (by kernel_rfl) (by kernel_rfl) (fun _ _ _ h => h) (Or.inl ⟨by rfl, fun w hSw => ?_⟩) (by assumption) ?_
      rotate_left
      · (have s1 := hSw; go_simp; try with_reducible rfl)
      try simp only [Act.put, List.setIfInBounds_toArray, List.set_cons_zero, List.set_cons_succ]
      refine Late.take (i := 9) (oi := ⟨some 20, Op.fieldAddr 41 (Operand.tmp 19) 1, _, _, _, _⟩) (v := ?_) rfl (by kernel_rfl) (by kernel_rfl) (by kernel_rfl) (by kernel_rfl) (fun _ _ _ h => h) (Or.inl ⟨by rfl, fun w hSw => ?_⟩) (by assumption) ?_
      rotate_left
      · (have s1 := hSw; go_simp; try with_reducible rfl)
      try simp only [Act.put, List.setIfInBounds_toArray, List.set_cons_zero, List.set_cons_succ]
      refine Late.take (i := 10) (oi := ⟨some 21, Op.load 5 (Operand.tmp 20), _, _, _, _⟩) (v := ?_) rfl (by kernel_rfl) (by kernel_rfl) (by kernel_rfl) (by kernel_rfl) (fun _ _ _ h => h) (Or.inl ⟨by rfl, fun w hSw => ?_⟩) (by assumption) ?_
      rotate_left
      · (have s1 := hSw; obtain ⟨q0, q1, q2, q3, q4, q5⟩ := HC.out _ hSw; go_simp; try with_reducible rfl)
      try simp only [Act.put, List.setIfInBounds_toArray, List.set_cons_zero, List.set_cons_succ]
      refine Late.take (i := 11) (oi := ⟨some 22, Op.move (Operand.tmp 0), _, _, _, _⟩) (v := ?_) rfl (by kernel_rfl) (by kernel_rfl) (by kernel_rfl) (by kernel_rfl) (fun _ _ _ h => h) (Or.inl ⟨by rfl, fun w hSw => ?_⟩) (by assumption) ?_
      rotate_left
      · (have s1 := hSw; go_simp; try with_reducible rfl)
      try simp only [Act.put, List.setIfInBounds_toArray, List.set_cons_zero, List.set_cons_succ]
      refine Late.take (i := 12) (oi := ⟨some 23, Op.move (Operand.tmp 4), _, _, _, _⟩) (v := ?_) rfl (by kernel_rfl) (by kernel_rfl) (by kernel_rfl) (by kernel_rfl) (fun _ _ _ h => h) (Or.inl ⟨by rfl, fun w hSw => ?_⟩) (by assumption) ?_
      rotate_left
      · (have s1 := hSw; go_simp; try with_reducible rfl)
      try simp only [Act.put, List.setIfInBounds_toArray, List.set_cons_zero, List.set_cons_succ]
      refine Late.take (i := 13) (oi := ⟨some 24, Op.indexAddr 38 (Operand.tmp 22) (Operand.tmp 23), _, _, _, _⟩) (v := ?_) rfl (by kernel_rfl) (by kernel_rfl) (by kernel_rfl) (by kernel_rfl) (fun _ _ _ h => h) (Or.inl ⟨by rfl, fun w hSw => ?_⟩) (by assumption) ?_
      rotate_left
      · (have s1 := hSw; go_simp; try with_reducible rfl)
      try simp only [Act.put, List.setIfInBounds_toArray, List.set_cons_zero, List.set_cons_succ]
      refine Late.take (i := 14) (oi := ⟨some 25, Op.fieldAddr 41 (Operand.tmp 24) 2, _, _, _, _⟩) (v := ?_) rfl (by kernel_rfl) (by kernel_rfl) (by kernel_rfl) (by kernel_rfl) (fun _ _ _ h => h) (Or.inl ⟨by rfl, fun w hSw => ?_⟩) (by assumption) ?_
      rotate_left
      · (have s1 := hSw; go_simp; try with_reducible rfl)
      try simp only [Act.put, List.setIfInBounds_toArray, List.set_cons_zero, List.set_cons_succ]
      refine Late.take (i := 15) (oi := ⟨some 26, Op.load 3 (Operand.tmp 25), _, _, _, _⟩) (v := ?_) rfl (by kernel_rfl) (by kernel_rfl) (by kernel_rfl) (by kernel_rfl) (fun _ _ _ h => h) (Or.inl ⟨by rfl, fun w hSw => ?_⟩) (by assumption) ?_
      rotate_left
      · (have s1 := hSw; obtain ⟨q0, q1, q2, q3, q4, q5⟩ := HC.out _ hSw; go_simp; try with_reducible rfl)
      try simp only [Act.put, List.setIfInBounds_toArray, List.set_cons_zero, List.set_cons_succ]
      refine Late.take (i := 16) (oi := ⟨some 27, Op.move (Operand.tmp 0), _, _, _, _⟩) (v := ?_) rfl (by kernel_rfl) (by kernel_rfl) (by kernel_rfl) (by kernel_rfl) (fun _ _ _ h => h) (Or.inl ⟨by rfl, fun w hSw => ?_⟩) (by assumption) ?_
      rotate_left
      · (have s1 := hSw; go_simp; try with_reducible rfl)
      try simp only [Act.put, List.setIfInBounds_toArray, List.set_cons_zero, List.set_cons_succ]
      refine Late.take (i := 17) (oi := ⟨some 28, Op.move (Operand.tmp 4), _, _, _, _⟩) (v := ?_) rfl (by kernel_rfl) (by kernel_rfl) (by kernel_rfl) (by kernel_rfl) (fun _ _ _ h => h) (Or.inl ⟨by rfl, fun w hSw => ?_⟩) (by assumption) ?_
      rotate_left
      · (have s1 := hSw; go_simp; try with_reducible rfl)
      try simp only [Act.put, List.setIfInBounds_toArray, List.set_cons_zero, List.set_cons_succ]
      refine Late.take (i := 18) (oi := ⟨some 29, Op.indexAddr 38 (Operand.tmp 27) (Operand.tmp 28), _, _, _, _⟩) (v := ?_) rfl (by kernel_rfl) (by kernel_rfl) (by kernel_rfl) (by kernel_rfl) (fun _ _ _ h => h) (Or.inl ⟨by rfl, fun w hSw => ?_⟩) (by assumption) ?_
      rotate_left
      · (have s1 := hSw; go_simp; try with_reducible rfl)
      try simp only [Act.put, List.setIfInBounds_toArray, List.set_cons_zero, List.set_cons_succ]
      refine Late.take (i := 19) (oi := ⟨some 30, Op.fieldAddr 41 (Operand.tmp 29) 3, _, _, _, _⟩) (v := ?_) rfl (by kernel_rfl) (by kernel_rfl) (by kernel_rfl) (by kernel_rfl) (fun _ _ _ h => h) (Or.inl ⟨by rfl, fun w hSw => ?_⟩) (by assumption) ?_
      rotate_left
      · (have s1 := hSw; go_simp; try with_reducible rfl)
      try simp only [Act.put, List.setIfInBounds_toArray, List.set_cons_zero, List.set_cons_succ]
      refine Late.take (i := 20) (oi := ⟨some 31, Op.load 3 (Operand.tmp 30), _, _, _, _⟩) (v := ?_) rfl (by kernel_rfl) (by kernel_rfl) (by kernel_rfl) (by kernel_rfl) (fun _ _ _ h => h) (Or.inl ⟨by rfl, fun w hSw => ?_⟩) (by assumption) ?_
      rotate_left
      · (have s1 := hSw; obtain ⟨q0, q1, q2, q3, q4, q5⟩ := HC.out _ hSw; go_simp; try with_reducible rfl)
      try simp only [Act.put, List.setIfInBounds_toArray, List.set_cons_zero, List.set_cons_succ]
      refine Late.take (i := 21) (oi := ⟨some 32, Op.move (Operand.tmp 0), _, _, _, _⟩) (v := ?_) rfl (by kernel_rfl) (by kernel_rfl) (by kernel_rfl) (by kernel_rfl) (fun _ _ _ h => h) (Or.inl ⟨by rfl, fun w hSw => ?_⟩) (by assumption) ?_
      rotate_left
      · (have s1 := hSw; go_simp; try with_reducible rfl)
      try simp only [Act.put, List.setIfInBounds_toArray, List.set_cons_zero, List.set_cons_succ]
      refine Late.take (i := 22) (oi := ⟨some 33, Op.move (Operand.tmp 4), _, _, _, _⟩) (v := ?_) rfl (by kernel_rfl) (by kernel_rfl) (by kernel_rfl) (by kernel_rfl) (fun _ _ _ h => h) (Or.inl ⟨by rfl, fun w hSw => ?_⟩) (by assumption) ?_
      rotate_left
      · (have s1 := hSw; go_simp; try with_reducible rfl)
      try simp only [Act.put, List.setIfInBounds_toArray, List.set_cons_zero, List.set_cons_succ]
      refine Late.take (i := 23) (oi := ⟨some 34, Op.indexAddr 38 (Operand.tmp 32) (Operand.tmp 33), _, _, _, _⟩) (v := ?_) rfl (by kernel_rfl) (by kernel_rfl) (by kernel_rfl) (by kernel_rfl) (fun _ _ _ h => h) (Or.inl ⟨by rfl, fun w hSw => ?_⟩) (by assumption) ?_
      rotate_left
      · (have s1 := hSw; go_simp; try with_reducible rfl)
      try simp only [Act.put, List.setIfInBounds_toArray, List.set_cons_zero, List.set_cons_succ]
      refine Late.take (i := 24) (oi := ⟨some 35, Op.fieldAddr 41 (Operand.tmp 34) 4, _, _, _, _⟩) (v := ?_) rfl (by kernel_rfl) (by kernel_rfl) (by kernel_rfl) (by kernel_rfl) (fun _ _ _ h => h) (Or.inl ⟨by rfl, fun w hSw => ?_⟩) (by assumption) ?_
      rotate_left
      · (have s1 := hSw; go_simp; try with_reducible rfl)
      try simp only [Act.put, List.setIfInBounds_toArray, List.set_cons_zero, List.set_cons_succ]
      refine Late.take (i := 25) (oi := ⟨some 36, Op.load 3 (Operand.tmp 35), _, _, _, _⟩) (v := ?_) rfl (by kernel_rfl) (by kernel_rfl) (by kernel_rfl) (by kernel_rfl) (fun _ _ _ h => h) (Or.inl ⟨by rfl, fun w hSw => ?_⟩) (by assumption) ?_
      rotate_left
      · (have s1 := hSw; obtain ⟨q0, q1, q2, q3, q4, q5⟩ := HC.out _ hSw; go_simp; try with_reducible rfl)
      try simp only [Act.put, List.setIfInBounds_toArray, List.set_cons_zero, List.set_cons_succ]
      refine Late.take (i := 26) (oi := ⟨some 37, Op.move (Operand.tmp 0), _, _, _, _⟩) (v := ?_) rfl (by kernel_rfl) (by kernel_rfl) (by kernel_rfl) (by kernel_rfl) (fun _ _ _ h => h) (Or.inl ⟨by rfl, fun w hSw => ?_⟩) (by assumption) ?_
      rotate_left
      · (have s1 := hSw; go_simp; try with_reducible rfl)
      try simp only [Act.put, List.setIfInBounds_toArray, List.set_cons_zero, List.set_cons_succ]
      refine Late.take (i := 27) (oi := ⟨some 38, Op.move (Operand.tmp 4), _, _, _, _⟩) (v := ?_) rfl (by kernel_rfl) (by kernel_rfl) (by kernel_rfl) (by kernel_rfl) (fun _ _ _ h => h) (Or.inl ⟨by rfl, fun w hSw => ?_⟩) (by assumption) ?_
      rotate_left
      · (have s1 := hSw; go_simp; try with_reducible rfl)
      try simp only [Act.put, List.setIfInBounds_toArray, List.set_cons_zero, List.set_cons_succ]
      refine Late.take (i := 28) (oi := ⟨some 39, Op.indexAddr 38 (Operand.tmp 37) (Operand.tmp 38), _, _, _, _⟩) (v := ?_) rfl (by kernel_rfl) (by kernel_rfl) (by kernel_rfl) (by kernel_rfl) (fun _ _ _ h => h) (Or.inl ⟨by rfl, fun w hSw => ?_⟩) (by assumption) ?_
      rotate_left
      · (have s1 := hSw; go_simp; try with_reducible rfl)
      try simp only [Act.put, List.setIfInBounds_toArray, List.set_cons_zero, List.set_cons_succ]
      refine Late.take (i := 29) (oi := ⟨some 40, Op.fieldAddr 41 (Operand.tmp 39) 5, _, _, _, _⟩) (v := ?_) rfl (by kernel_rfl) (by kernel_rfl) (by kernel_rfl) (by kernel_rfl) (fun _ _ _ h => h) (Or.inl ⟨by rfl, fun w hSw => ?_⟩) (by assumption) ?_
      rotate_left
      · (have s1 := hSw; go_simp; try with_reducible rfl)
      try simp only [Act.put, List.setIfInBounds_toArray, List.set_cons_zero, List.set_cons_succ]
      refine Late.take (i := 30) (oi := ⟨some 41, Op.load 3 (Operand.tmp 40), _, _, _, _⟩) (v := ?_) rfl (by kernel_rfl) (by kernel_rfl) (by kernel_rfl) (by kernel_rfl) (fun _ _ _ h => h) (Or.inl ⟨by rfl, fun w hSw => ?_⟩) (by assumption) ?_
      rotate_left
      · (have s1 := hSw; obtain ⟨q0, q1, q2, q3, q4, q5⟩ := HC.out _ hSw; go_simp; try with_reducible rfl)
      try simp only [Act.put, List.setIfInBounds_toArray, List.set_cons_zero, List.set_cons_succ]
      refine Late.one (i := 31) (o := ⟨some 42, Op.call { callee := Callee.value (Operand.func 6), args := #[Operand.tmp 11, Operand.tmp 16, Operand.tmp 21, Operand.tmp 26, Operand.tmp 31, Operand.tmp 36, Operand.tmp 41], argTypes := #[22, 3, 5, 3, 3, 3, 3] }, _, _, _, _⟩) (by kernel_rfl) rfl (fun K hK => ?_)
      go_simp
      refine (add_any d (HL0.out.below C0.out (Nat.le_refl _)) C0.out.size (by omega) x.st x.op x.tn x.a x.b x.c HXO.out.args (HF0.out.below (HBW.out.trans (C0.out.mono HBW.out.size)) HF0.out.lt) (HK0.out.below (HBW.out.trans (C0.out.mono HBW.out.size)) HK0.out.lt)).mono ?_
      rintro e v1 ⟨D2, d2, rfl, ho, hb, h3, h4⟩
      have C1 := Lib.hid (C0.out.trans (hb.mono C0.out.size))
      have HD2 : Hid (k + 1 ≤ d2 ∧ d2 ≤ maxLen) := Lib.hid ⟨h3, h4⟩
      clear hb h3 h4
      refine hK.out _ _ (C1.out) (fun hHeld2 => ?_)
      clear hK K hHeld
      have hHeld := hHeld2
      clear hHeld2
      try simp only [Act.put, List.setIfInBounds_toArray, List.set_cons_zero, List.set_cons_succ]
      refine Late.take (i := 32) (oi := ⟨some 3, Op.assign (Operand.tmp 42), _, _, _, _⟩) (v := ?_) rfl (by kernel_rfl) (by kernel_rfl) (by kernel_rfl) (by kernel_rfl) (fun _ _ _ h => h) (Or.inl ⟨by rfl, fun w hSw => ?_⟩) (by assumption) ?_
      rotate_left
      · (have s1 := hSw; go_simp; try with_reducible rfl)
      try simp only [Act.put, List.setIfInBounds_toArray, List.set_cons_zero, List.set_cons_succ]
      refine Late.done (by kernel_rfl) ?_ _
      refine NoPanic.normal ?_
      have HB2 := Lib.hid (HBW.out.trans (C1.out.mono HBW.out.size))
      have HO2 := Lib.hid (own_base ho HBW.out.size)
      clear hHeld C1 C0 ho
      go_wp2
      go_roundw
      case rel => exact ⟨k + 1, by omega, by go_num, D2, d2, rfl, by rw [HST.out]; exact HO2.out, HB2.out, HD2.out⟩
      case measure => simp [intOf]; omega
    · have hkn : k = n := by omega
      have HM : Hid (MadeL w (chainZ l) n (.returned (.slice D k d)) wr) := Lib.hid (by
        have ho := HOW.out
        rw [List.take_of_length_le (by rw [HN.out]; omega)] at ho
        rw [hkn] at ho ⊢
        exact ⟨D, d, rfl, ho, hbel, by have := HD.out; omega, HD.out.2⟩)
      clear hkn
      go_wp2
      go_ret
      exact HM.out
end Go.Proofs.YtkaojhcmdichfaaDoor
