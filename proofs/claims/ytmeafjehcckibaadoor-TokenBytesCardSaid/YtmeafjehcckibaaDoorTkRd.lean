/- What the program reads of bytes. -/
import Derived.Test.YtmeafjehcckibaaDoorTkN2
import Derived.Test.YtmeafjehcckibaaDoorB6
import Derived.Test.YtmeafjehcckibaaDoorB1
namespace Go.Proofs.YtmeafjehcckibaaDoor
open Go.ChangeShapes Go.WideShapes Go.ChangeAt Go.RowKit
set_option linter.unusedVariables false
set_option linter.unusedSimpArgs false
open Plain Sha
/-- The grant of a place, the line of so many, the tag behind it, as they are read. -/
def grA (zs : List Int) (i : Nat) : GrantZ := ⟨IntKind.u8.wrap (numA zs (16 + 24 * (i : Int))), numA zs (16 + 24 * (i : Int) + 8), numA zs (16 + 24 * (i : Int) + 16)⟩
def lineA (zs : List Int) : Nat → List GrantZ
  | 0 => []
  | k + 1 => lineA zs k ++ [grA zs k]
theorem lineA_len (zs : List Int) (k : Nat) : (lineA zs k).length = k := by
  induction k with
  | zero => rfl
  | succ k ih => simp [lineA, ih]
def cntA (zs : List Int) : Nat := (min (numA zs 8) 4).toNat
def tagA (zs : List Int) (off : Nat) : List Int := (zs.drop off).take 32 ++ (List.replicate 32 (0 : Int)).drop ((zs.drop off).take 32).length
theorem tagA_len (zs : List Int) (off : Nat) : (tagA zs off).length = 32 := by
  unfold tagA
  rw [List.length_append, List.length_drop, List.length_replicate]
  have : ((zs.drop off).take 32).length ≤ 32 := by rw [List.length_take]; omega
  omega
theorem tagA_bytes (zs : List Int) (off : Nat) (h : IsBytes zs) : IsBytes (tagA zs off) := by
  unfold tagA
  rw [isBytes_iff] at h
  refine IsBytes.app (isBytes_iff.2 fun z hz => h z (List.mem_of_mem_drop (List.mem_of_mem_take hz))) (isBytes_iff.2 fun z hz => ?_)
  have := List.mem_of_mem_drop hz
  rw [List.mem_replicate] at this
  omega
def readP (zs : List Int) : PTok := ⟨numA zs 0, lineA zs (cntA zs), tagA zs (16 + 24 * cntA zs)⟩
theorem grA_ok (zs : List Int) (i : Nat) : GOk (grA zs i) := by
  refine ⟨?_, numA_in _ _, numA_in _ _⟩
  show 0 ≤ IntKind.u8.wrap _ ∧ IntKind.u8.wrap _ < 256
  have := IntKind.wrap_u8 (numA zs (16 + 24 * (i : Int)))
  rw [this]; omega
theorem lineA_ok (zs : List Int) (k : Nat) : ∀ g, g ∈ lineA zs k → GOk g := by
  induction k with
  | zero => intro g hg; simp [lineA] at hg
  | succ k ih =>
    intro g hg
    rcases List.mem_append.1 hg with hg | hg
    · exact ih g hg
    · rw [List.mem_singleton] at hg; subst hg; exact grA_ok zs k
theorem Box.g1 {w : World} {b : Nat} {t : TokZ} (h : Box w b t) : w.frozen? ⟨b, 1, none⟩ = false := by have := (h.there 1 (by omega)).2; rwa [Nat.zero_add] at this
theorem own_far {w : World} {base n size : Nat} {t : TypeId} {v : Value} {xs : List Value} (h : w.ownsRow base t size v n xs) {p : Addr} (hp : p.block < base) (u : Value) : (w.setCell p u).ownsRow base t size v n xs := by
  rcases h.2 with ⟨rfl, rfl⟩ | ⟨g, cap, cur, rfl, hb, hh, h1, h2, h3, h4⟩
  · exact ⟨h.1, .inl ⟨rfl, rfl⟩⟩
  · exact ⟨h.1, .inr ⟨g, cap, cur, rfl, hb, (Below.heap_setCell w p u g (fun e => by omega)).trans hh, h1, h2, h3, h4⟩⟩
theorem own_farS {base n size : Nat} {t : TypeId} {v : Value} {xs : List Value} {b : Nat} (hb : b < base) : ∀ (vs : List Value) (o : Nat) {w : World}, w.ownsRow base t size v n xs → (w.setCells b o vs).ownsRow base t size v n xs
  | [], _, _, h => h
  | u :: r, o, w, h => by rw [World.setCells]; exact own_farS hb r (o + 1) (own_far h (p := ⟨b, o, none⟩) hb u)
theorem Box.setPart {w : World} {b : Nat} {t : TokZ} (h : Box w b t) {p : List Int} (hp : p.length ≤ 32) : Box (w.setCells b 2 (vals p)) b { t with T := p ++ t.T.drop p.length } := by
  refine ⟨fun j v hv => ?_, World.there_setCells h.there _ _ _, by simp [h.len]; omega⟩
  match j, hv with
  | 0, hv =>
    rw [World.cell?_setCells_out b (vals p) 2 w ⟨b, 0 + 0, none⟩ (fun _ _ => .inl (by show 0 + 0 < 2; omega))]
    exact h.range 0 v hv
  | 1, hv =>
    rw [World.cell?_setCells_out b (vals p) 2 w ⟨b, 0 + 1, none⟩ (fun _ _ => .inl (by show 0 + 1 < 2; omega))]
    exact h.range 1 v hv
  | j + 2, hv =>
    have hv' : (vals (p ++ t.T.drop p.length))[j]? = some v := hv
    rw [vals_app] at hv'
    by_cases hj : j < p.length
    · rw [List.getElem?_append_left (by rw [vals_len]; exact hj)] at hv'
      have := World.rangeAt_setCells_same w b 2 (vals p) (by rw [vals_len]; exact there_sub h.tagThere (Nat.le_refl _) (by omega)) j v hv'
      rwa [show 0 + (j + 2) = 2 + j from by omega]
    · rw [List.getElem?_append_right (by rw [vals_len]; omega), vals_len] at hv'
      rw [show 0 + (j + 2) = 2 + j from by omega, World.cell?_setCells_out b (vals p) 2 w ⟨b, 2 + j, none⟩ (fun _ _ => .inr (by rw [vals_len]; show 2 + p.length ≤ 2 + j; omega))]
      refine h.tag j v ?_
      simp only [vals, List.getElem?_map, List.getElem?_drop] at hv' ⊢
      rwa [show p.length + (j - p.length) = j by omega] at hv'
set_option maxRecDepth 100000 in
set_option maxHeartbeats 8000000 in
theorem read_any {w : World} {B n : Nat} {A : Option Addr} (c : Nat) {zs : List Int} (h : Bs w B A n zs) (hB : B ≤ w.heap.size) (hn : n ≤ 100000) (hnc : n ≤ c) :
    Calls Tryd.prog 19 #[.slice A n c] w (fun e w' => ∃ t l, e = .returned (.agg (tv t).toArray) ∧ Tok w' w'.heap.size t l ∧ pt t l = readP zs ∧ Below w.heap.size w w' ∧ (∀ b off, t.A = some ⟨b, off, none⟩ → w.heap.size ≤ b)) := by
  have hnm : n ≤ maxLen := by unfold maxLen; omega
  obtain ⟨W1, hW1⟩ : ∃ W, W = w.alloc (.cells (tv tok0).toArray 26) := ⟨_, rfl⟩
  have b1 : Below w.heap.size w W1 := by rw [hW1]; exact (Below.refl _ _).alloc (Nat.le_refl _) _
  have s1 : W1.heap.size = w.heap.size + 1 := by rw [hW1]; simp
  have R1 : Hid (Box W1 w.heap.size tok0) := Lib.hid (by rw [hW1]; exact box_new w tok0 rep32 _ _ rfl)
  have HZ : Hid (∀ W, Below w.heap.size w W → Bs W B A n zs) := Lib.hid (fun W hW => h.belowM hW hB)
  have HBY := Lib.hid h.isBytes
  have HLZ := Lib.hid h.len
  have HB1 := Lib.hid b1
  have HW1 := Lib.hid hW1
  have NUM : Hid (∀ (W : World) (x : Int), Below w.heap.size w W → InR x → Calls Tryd.prog 30 #[.slice A n c, .int .i64 x] W (Quiet (.int .i64 (numA zs x)) W)) := Lib.hid (fun W x hW hx => number_any c (h.belowM hW hB) hnm x hx)
  have Z0 : InR 0 := ⟨by decide, by decide⟩
  have Z8 : InR 8 := ⟨by decide, by decide⟩
  obtain ⟨tn, htn⟩ : ∃ x, numA zs 0 = x := ⟨_, rfl⟩
  obtain ⟨cn, hcn⟩ : ∃ x, numA zs 8 = x := ⟨_, rfl⟩
  have HTN := Lib.hid htn
  have HCN := Lib.hid hcn
  have HTI : Hid (InR tn) := Lib.hid (by rw [← htn]; exact numA_in _ _)
  have Z0' := Lib.hid Z0
  have Z8' := Lib.hid Z8
  clear h hW1 b1 htn hcn hnm Z0 Z8
  obtain ⟨t0, ht0⟩ : ∃ t : TokZ, t = ⟨tn, none, 0, 0, List.replicate 32 0⟩ := ⟨_, rfl⟩
  have HT0 := Lib.hid ht0
  have HL0 : Hid (t0.T.length = 32) := Lib.hid (by rw [ht0]; rfl)
  clear ht0
  have G1 := HL0
  go_enter Tryd.func19, Tryd.ntmps19
  go_upto_region 1 with fail
  simp only [zTok]
  rw [← HW1.out]
  go_upto_region 2 with (first
    | (have g := G1; clear g; go_at_call 30; refine (NUM.out _ 0 HB1.out Z0'.out).mono ?_; rw [HTN.out]; rintro e w2 ⟨rfl, m2, rfl⟩; clear G1; have TH := Lib.hid (box_thereN (W1.drewN m2) HL0.out 26 (w.heap.size + 1) s1); have G2 := HL0; have G3 := TH)
    | (have g := G2; clear g; refine wpList_exec (op := ⟨some 8, .build 26 #[(0, .tmp 7)], _, _, _, _⟩) rfl (.agg (tv t0).toArray) (by rw [HT0.out]; kernel_rfl) ?_; clear G2)
    | (have g := G3; clear g; refine wpList_store_as (op := ⟨none, .store 26 (.tmp 3) (.tmp 8), _, _, _, _⟩) rfl 26 (.tmp 3) (.tmp 8) rfl (w.heap.size + 1) 0 (tv t0).toArray rfl rfl TH.out (tok_sizeA HL0.out) (tok_one _) ?_; intro w3 hw3; clear G3))
  obtain ⟨x3, b3, s3⟩ := box_stored HL0.out (show (W1.drewN m2).heap.size = w.heap.size + 1 from s1) hw3
  have bd : Below W1.heap.size W1 (W1.drewN m2) := below_drewN (Below.refl _ _) m2
  have b13 : Below W1.heap.size W1 w3 := bd.trans b3
  have B3 := Lib.hid (HB1.out.trans (b13.mono HB1.out.size))
  have X3 := Lib.hid x3
  have R3 := Lib.hid (R1.out.below b13 (by omega))
  clear hw3 x3 b3 b13 bd TH
  go_upto_region 3 with (go_at_call 30; refine (NUM.out _ 8 B3.out Z8'.out).mono ?_; rw [HCN.out]; rintro e w4 ⟨rfl, m4, rfl⟩)
  have B4 := Lib.hid (below_drewN B3.out m4)
  have X4 : Hid (Box (w3.drewN m4) (w.heap.size + 1) t0) := Lib.hid ⟨X3.out.range, X3.out.there, X3.out.len⟩
  have R4 : Hid (Box (w3.drewN m4) w.heap.size tok0) := Lib.hid ⟨R3.out.range, R3.out.there, R3.out.len⟩
  have s4 : w.heap.size + 2 ≤ (w3.drewN m4).heap.size := s3
  generalize w3.drewN m4 = w5 at *
  clear X3 R3 B3 R1 HW1 s3
  have HKC : Hid ((min cn 4).toNat = cntA zs) := Lib.hid (by unfold cntA; rw [HCN.out])
  have hK4 : (min cn 4).toNat ≤ 4 := by omega
  obtain ⟨K, hK⟩ : ∃ K, (min cn 4).toNat = K := ⟨_, rfl⟩
  have hKI : ∀ k : Nat, k ≤ K → ((k : Int) < min cn 4 ↔ k < K) := fun k hk => by omega
  have HKI := Lib.hid hKI
  have HKK : Hid (cntA zs = K) := Lib.hid (by rw [← HKC.out, hK])
  have hK4' : K ≤ 4 := by omega
  clear hKI hK hK4 HKC
  obtain ⟨mn, hmn⟩ : ∃ x, min cn 4 = x := ⟨_, rfl⟩
  rw [hmn] at HKI
  simp only [hmn]
  clear hmn
  go_loopw [12] (fun i wr => ∃ k : Nat, k ≤ K ∧ i = .int .i64 k ∧ ∃ D d, Hid (Box wr (w.heap.size + 1) ⟨tn, D, k, d, List.replicate 32 0⟩) ∧ Hid (wr.ownsRow (w.heap.size + 2) 44 3 (.slice D k d) k (gv (lineA zs k))) ∧ Hid (Below w.heap.size w wr) ∧ Hid (Box wr w.heap.size tok0)) (fun i _ => K - (intOf i).toNat)
  case atStart =>
    have e0 := HT0.out
    exact ⟨0, by omega, rfl, none, 0, Lib.hid (by rw [← e0]; exact X4.out), Lib.hid (World.ownsRow_nil _ _ _ _), B4, R4⟩
  case round =>
    obtain ⟨k, hk, rfl, D, d, HX, HO, HQ, HR⟩ := hrel
    clear X4 R4 B4
    by_cases hlt : k < K
    · have hltI : (k : Int) < mn := (HKI.out k hk).2 hlt
      have hk4 : (k : Int) < 4 := by omega
      obtain ⟨g, hg⟩ : ∃ g, grA zs k = g := ⟨_, rfl⟩
      have HG1 : Hid (IntKind.u8.wrap (numA zs (16 + 24 * (k : Int))) = g.r) := Lib.hid (by rw [← hg]; rfl)
      have HG2 : Hid (numA zs (16 + 24 * (k : Int) + 8) = g.x) := Lib.hid (by rw [← hg]; rfl)
      have HG3 : Hid (numA zs (16 + 24 * (k : Int) + 16) = g.s) := Lib.hid (by rw [← hg]; rfl)
      have HGL : Hid (gv (lineA zs (k + 1)) = gv (lineA zs k) ++ gv [g]) := Lib.hid (by rw [← hg, ← gv_app]; rfl)
      have I1 : Hid (InR (16 + 24 * (k : Int))) := Lib.hid (by unfold InR; omega)
      have I2 : Hid (InR (16 + 24 * (k : Int) + 8)) := Lib.hid (by unfold InR; omega)
      have I3 : Hid (InR (16 + 24 * (k : Int) + 16)) := Lib.hid (by unfold InR; omega)
      have C1 : Hid (∀ W, Below wr.heap.size wr W → W.cell? ⟨w.heap.size + 1, 1, none⟩ = some (.slice D k d)) := Lib.hid (fun W hW => (HX.out.grow hW).c1)
      have hub := HX.out.lt
      have HW2 : Hid (IntKind.i64.wrap (16 + 24 * (k : Int) + 8) = 16 + 24 * (k : Int) + 8) := Lib.hid (by have := IntKind.wrap_i64 (16 + 24 * (k : Int) + 8); rw [this]; omega)
      have HW3 : Hid (IntKind.i64.wrap (16 + 24 * (k : Int) + 16) = 16 + 24 * (k : Int) + 16) := Lib.hid (by have := IntKind.wrap_i64 (16 + 24 * (k : Int) + 16); rw [this]; omega)
      have HGK : Hid (GOk g) := Lib.hid (by rw [← hg]; exact grA_ok zs k)
      clear hg
      go_upto_region 6 with fail
      refine Late.region (fun w' => Below wr.heap.size wr w') [16, 17, 18] (by kernel_rfl) (Below.refl _ _).drew (fun hHeld => ?_)
      refine Late.takeT 8 (i := 0) (oi := ⟨some 18, Op.fieldAddr 26 (Operand.tmp 3) 1, _, _, _, _⟩) (v := ?_) rfl (by kernel_rfl) (by kernel_rfl) (by kernel_rfl) (by kernel_rfl) (by kernel_rfl) (fun _ _ _ h => h) (Or.inl ⟨by rfl, fun w hSw => ?_⟩) (by assumption) ?_
      rotate_left
      · (have s1 := hSw; go_simp; try with_reducible rfl)
      try simp only [Act.put, List.setIfInBounds_toArray, List.set_cons_zero, List.set_cons_succ]
      refine Late.takeT 8 (i := 1) (oi := ⟨some 19, Op.load 22 (Operand.tmp 18), _, _, _, _⟩) (v := ?_) rfl (by kernel_rfl) (by kernel_rfl) (by kernel_rfl) (by kernel_rfl) (by kernel_rfl) (fun _ _ _ h => h) (Or.inl ⟨by rfl, fun w hSw => ?_⟩) (by assumption) ?_
      rotate_left
      · (have s1 := hSw; have c := C1.out _ hSw; go_simp; try with_reducible rfl)
      try simp only [Act.put, List.setIfInBounds_toArray, List.set_cons_zero, List.set_cons_succ]
      refine Late.takeT 8 (i := 2) (oi := ⟨some 20, Op.move (Operand.tmp 0), _, _, _, _⟩) (v := ?_) rfl (by kernel_rfl) (by kernel_rfl) (by kernel_rfl) (by kernel_rfl) (by kernel_rfl) (fun _ _ _ h => h) (Or.inl ⟨by rfl, fun w hSw => ?_⟩) (by assumption) ?_
      rotate_left
      · (have s1 := hSw; go_simp; try with_reducible rfl)
      try simp only [Act.put, List.setIfInBounds_toArray, List.set_cons_zero, List.set_cons_succ]
      refine Late.takeT 8 (i := 3) (oi := ⟨some 21, Op.move (Operand.tmp 5), _, _, _, _⟩) (v := ?_) rfl (by kernel_rfl) (by kernel_rfl) (by kernel_rfl) (by kernel_rfl) (by kernel_rfl) (fun _ _ _ h => h) (Or.inl ⟨by rfl, fun w hSw => ?_⟩) (by assumption) ?_
      rotate_left
      · (have s1 := hSw; go_simp; try with_reducible rfl)
      try simp only [Act.put, List.setIfInBounds_toArray, List.set_cons_zero, List.set_cons_succ]
      refine Late.takeT 8 (i := 6) (oi := ⟨some 24, Op.move (Operand.tmp 0), _, _, _, _⟩) (v := ?_) rfl (by kernel_rfl) (by kernel_rfl) (by kernel_rfl) (by kernel_rfl) (by kernel_rfl) (fun _ _ _ h => h) (Or.inl ⟨by rfl, fun w hSw => ?_⟩) (by assumption) ?_
      rotate_left
      · (have s1 := hSw; go_simp; try with_reducible rfl)
      try simp only [Act.put, List.setIfInBounds_toArray, List.set_cons_zero, List.set_cons_succ]
      refine Late.takeT 8 (i := 7) (oi := ⟨some 25, Op.move (Operand.tmp 5), _, _, _, _⟩) (v := ?_) rfl (by kernel_rfl) (by kernel_rfl) (by kernel_rfl) (by kernel_rfl) (by kernel_rfl) (fun _ _ _ h => h) (Or.inl ⟨by rfl, fun w hSw => ?_⟩) (by assumption) ?_
      rotate_left
      · (have s1 := hSw; go_simp; try with_reducible rfl)
      try simp only [Act.put, List.setIfInBounds_toArray, List.set_cons_zero, List.set_cons_succ]
      refine Late.takeT 8 (i := 8) (oi := ⟨some 26, Op.binOp BinOp.add 3 (Operand.tmp 25) (Operand.const (Value.int IntKind.i64 8)) 3, _, _, _, _⟩) (v := ?_) rfl (by kernel_rfl) (by kernel_rfl) (by kernel_rfl) (by kernel_rfl) (by kernel_rfl) (fun _ _ _ h => h) (Or.inl ⟨by rfl, fun w hSw => ?_⟩) (by assumption) ?_
      rotate_left
      · (have s1 := hSw; go_simp; try with_reducible rfl)
      try simp only [Act.put, List.setIfInBounds_toArray, List.set_cons_zero, List.set_cons_succ]
      refine Late.takeT 8 (i := 10) (oi := ⟨some 28, Op.move (Operand.tmp 0), _, _, _, _⟩) (v := ?_) rfl (by kernel_rfl) (by kernel_rfl) (by kernel_rfl) (by kernel_rfl) (by kernel_rfl) (fun _ _ _ h => h) (Or.inl ⟨by rfl, fun w hSw => ?_⟩) (by assumption) ?_
      rotate_left
      · (have s1 := hSw; go_simp; try with_reducible rfl)
      try simp only [Act.put, List.setIfInBounds_toArray, List.set_cons_zero, List.set_cons_succ]
      refine Late.takeT 8 (i := 11) (oi := ⟨some 29, Op.move (Operand.tmp 5), _, _, _, _⟩) (v := ?_) rfl (by kernel_rfl) (by kernel_rfl) (by kernel_rfl) (by kernel_rfl) (by kernel_rfl) (fun _ _ _ h => h) (Or.inl ⟨by rfl, fun w hSw => ?_⟩) (by assumption) ?_
      rotate_left
      · (have s1 := hSw; go_simp; try with_reducible rfl)
      try simp only [Act.put, List.setIfInBounds_toArray, List.set_cons_zero, List.set_cons_succ]
      refine Late.takeT 8 (i := 12) (oi := ⟨some 30, Op.binOp BinOp.add 3 (Operand.tmp 29) (Operand.const (Value.int IntKind.i64 16)) 3, _, _, _, _⟩) (v := ?_) rfl (by kernel_rfl) (by kernel_rfl) (by kernel_rfl) (by kernel_rfl) (by kernel_rfl) (fun _ _ _ h => h) (Or.inl ⟨by rfl, fun w hSw => ?_⟩) (by assumption) ?_
      rotate_left
      · (have s1 := hSw; go_simp; try with_reducible rfl)
      try simp only [Act.put, List.setIfInBounds_toArray, List.set_cons_zero, List.set_cons_succ]
      refine Late.one (i := 4) (o := ⟨some 22, Op.call { callee := Callee.value (Operand.func 30), args := #[Operand.tmp 20, Operand.tmp 21], argTypes := #[27, 3] }, _, _, _, _⟩) (by kernel_rfl) rfl (fun K hK => ?_)
      go_simp
      refine (NUM.out _ _ (HQ.out.trans (hHeld.mono HQ.out.size)) I1.out).mono ?_
      rintro e wa ⟨rfl, hqa⟩
      have hba : Below wr.heap.size wr wa := by
        obtain ⟨ma, rfl⟩ := hqa
        exact below_drewN hHeld ma
      clear hqa
      refine hK.out _ _ (hba) (fun hHeld2 => ?_)
      clear hK K hHeld
      have hHeld := hHeld2
      clear hHeld2
      try simp only [Act.put, List.setIfInBounds_toArray, List.set_cons_zero, List.set_cons_succ]
      refine Late.takeT 8 (i := 5) (oi := ⟨some 23, Op.convert 3 5 (Operand.tmp 22), _, _, _, _⟩) (v := ?_) rfl (by kernel_rfl) (by kernel_rfl) (by kernel_rfl) (by kernel_rfl) (by kernel_rfl) (fun _ _ _ h => h) (Or.inl ⟨by rfl, fun w hSw => ?_⟩) (by assumption) ?_
      rotate_left
      · (have s1 := hSw; go_simp; try with_reducible rfl)
      try simp only [Act.put, List.setIfInBounds_toArray, List.set_cons_zero, List.set_cons_succ]
      refine Late.one (i := 9) (o := ⟨some 27, Op.call { callee := Callee.value (Operand.func 30), args := #[Operand.tmp 24, Operand.tmp 26], argTypes := #[27, 3] }, _, _, _, _⟩) (by kernel_rfl) rfl (fun K hK => ?_)
      go_simp
      rw [HW2.out]
      refine (NUM.out _ _ (HQ.out.trans (hHeld.mono HQ.out.size)) I2.out).mono ?_
      rw [HG2.out]
      rintro e wb ⟨rfl, hqb⟩
      have hbb : Below wr.heap.size wr wb := by
        obtain ⟨mb, rfl⟩ := hqb
        exact below_drewN hHeld mb
      clear hqb
      refine hK.out _ _ (hbb) (fun hHeld2 => ?_)
      clear hK K hHeld
      have hHeld := hHeld2
      clear hHeld2
      try simp only [Act.put, List.setIfInBounds_toArray, List.set_cons_zero, List.set_cons_succ]
      refine Late.one (i := 13) (o := ⟨some 31, Op.call { callee := Callee.value (Operand.func 30), args := #[Operand.tmp 28, Operand.tmp 30], argTypes := #[27, 3] }, _, _, _, _⟩) (by kernel_rfl) rfl (fun K hK => ?_)
      go_simp
      rw [HW3.out]
      refine (NUM.out _ _ (HQ.out.trans (hHeld.mono HQ.out.size)) I3.out).mono ?_
      rw [HG3.out]
      rintro e wc ⟨rfl, hqc⟩
      have hbc : Below wr.heap.size wr wc := by
        obtain ⟨mc, rfl⟩ := hqc
        exact below_drewN hHeld mc
      clear hqc
      refine hK.out _ _ (hbc) (fun hHeld2 => ?_)
      clear hK K hHeld
      have hHeld := hHeld2
      clear hHeld2
      try simp only [Act.put, List.setIfInBounds_toArray, List.set_cons_zero, List.set_cons_succ]
      refine Late.one (i := 14) (o := ⟨some 32, Op.build 44 #[(0, Operand.tmp 23), (1, Operand.tmp 27), (2, Operand.tmp 31)], _, _, _, _⟩) (by kernel_rfl) rfl (fun K hK => ?_)
      simp only [HG1.out]
      go_simp
      refine hK.out _ _ (hHeld) (fun hHeld2 => ?_)
      clear hK K hHeld
      have hHeld := hHeld2
      clear hHeld2
      try simp only [Act.put, List.setIfInBounds_toArray, List.set_cons_zero, List.set_cons_succ]
      refine Late.one (i := 15) (o := ⟨some 33, Op.buildSlice 22 1 #[(0, Operand.tmp 32)], _, _, _, _⟩) (by kernel_rfl) rfl (fun K hK => ?_)
      go_simp
      refine hK.out _ _ (hHeld.alloc hHeld.size _) (fun hHeld2 => ?_)
      clear hK K hHeld
      have hHeld := hHeld2
      clear hHeld2
      try simp only [Act.put, List.setIfInBounds_toArray, List.set_cons_zero, List.set_cons_succ]
      refine Late.end_ (i := 16) (o := ⟨some 34, Op.call { callee := Callee.builtin Builtin.append, args := #[Operand.tmp 19, Operand.tmp 33], argTypes := #[22, 22] }, _, _, _, _⟩) (by kernel_rfl) rfl rfl (fun K hK => ?_)
      have ownA := own_below HO.out hHeld (Nat.le_refl _)
      have hz8 := hHeld.size
      refine step_app (wc.alloc (.cells #[.int .u8 g.r, .int .i64 g.x, .int .i64 g.s] 44)) rfl (.tmp 19) (.tmp 33) 22 rfl (w.heap.size + 2) 44 3 24 Tryd.underlying22 grant_info (by omega) (.slice D k d) k (gv (lineA zs k)) (by rfl) ownA (some ⟨wc.heap.size, 0, none⟩) 1 1 (gv [g]) (by rfl) ((grants_new wc [g] 44 _ rfl (fun x hx => by rw [List.mem_singleton] at hx; subst hx; exact HGK.out)).lies.1) (fun h => by cases h) (gv_one [g]) (by unfold maxLen; omega) (by omega) (by omega) ?_
      intro v9 w9 ho9 hg9 _
      have b9 := (Below.refl (w.heap.size + 2) _).grown hg9 (by omega) (fun q hq => (ownA.lt q hq).1)
      have x9 := (HX.out.grow hHeld).below b9 (by omega)
      have r9 := (HR.out.grow hHeld).below b9 (by omega)
      have q9 := (HQ.out.trans (hHeld.mono HQ.out.size)).trans (b9.mono (by omega))
      obtain ⟨A9, c9, rfl, h91, h92⟩ := own_shapeG ho9
      rw [← HGL.out] at ho9
      have c9' := x9.c1
      have f9' := x9.g1
      refine hK.out _ _ ?_
      clear hK K
      try simp only [Act.put, List.setIfInBounds_toArray, List.set_cons_zero, List.set_cons_succ]
      refine Late.end_ (i := 17) (o := ⟨some 35, Op.fieldAddr 26 (Operand.tmp 3) 1, _, _, _, _⟩) (by kernel_rfl) rfl rfl (fun K hK => ?_)
      go_simp
      refine hK.out _ _ ?_
      clear hK K
      try simp only [Act.put, List.setIfInBounds_toArray, List.set_cons_zero, List.set_cons_succ]
      refine Late.end_ (i := 18) (o := ⟨none, Op.store 22 (Operand.tmp 35) (Operand.tmp 34), _, _, _, _⟩) (by kernel_rfl) rfl rfl (fun K hK => ?_)
      go_simp
      refine hK.out _ _ ?_
      clear hK K
      try simp only [Act.put]
      refine Late.done (by kernel_rfl) ?_ _
      refine NoPanic.normal ?_
      have X10 := Lib.hid (x9.setLine A9 (k + 1) c9)
      have Q10 := Lib.hid (q9.setCell (p := ⟨w.heap.size + 1, 1, none⟩) (by show w.heap.size ≤ w.heap.size + 1; omega) (.slice A9 (k + 1) c9))
      have R10 := Lib.hid (r9.farC (p := ⟨w.heap.size + 1, 1, none⟩) (by show w.heap.size + 1 ≠ w.heap.size; omega) (.slice A9 (k + 1) c9))
      have O10 : Hid ((w9.setCell ⟨w.heap.size + 1, 1, none⟩ (.slice A9 (k + 1) c9)).ownsRow (w.heap.size + 2) 44 3 (.slice A9 (k + 1) c9) (k + 1) (gv (lineA zs (k + 1)))) := Lib.hid (own_far ho9 (by show w.heap.size + 1 < w.heap.size + 2; omega) _)
      generalize w9.setCell ⟨w.heap.size + 1, 1, none⟩ (.slice A9 (k + 1) c9) = w10 at *
      clear x9 q9 r9 ho9 hg9 b9 c9' f9' hHeld ownA hz8
      go_wp2
      go_roundw
      case rel => exact ⟨k + 1, by omega, by go_num, A9, c9, X10, O10, Q10, R10⟩
      case measure => simp [intOf]; omega
    · have hkK : k = K := by omega
      subst hkK
      have hnI : ¬ ((k : Int) < mn) := fun h => hlt ((HKI.out k hk).1 h)
      obtain ⟨off, hoff⟩ : ∃ off : Nat, off = min n (16 + 24 * k) := ⟨_, rfl⟩
      have hoI : min (n : Int) (16 + 24 * (k : Int)) = (off : Int) := by omega
      have HW1 : Hid (IntKind.i64.wrap (24 * (k : Int)) = 24 * (k : Int)) := Lib.hid (by have := IntKind.wrap_i64 (24 * (k : Int)); rw [this]; omega)
      have HW2 : Hid (IntKind.i64.wrap (16 + 24 * (k : Int)) = 16 + 24 * (k : Int)) := Lib.hid (by have := IntKind.wrap_i64 (16 + 24 * (k : Int)); rw [this]; omega)
      obtain ⟨A2, hcut, hcat⟩ := cut_l A n c off (off : Int) rfl (by omega) hnc
      have ZB := Lib.hid ((HZ.out wr HQ.out).cut (k := off) (m := n - off) (by omega) A2 hcat)
      obtain ⟨p, hp⟩ : ∃ p, (zs.drop off).take 32 = p := ⟨_, rfl⟩
      have hpl : p.length = Nat.min (n - off) 32 := by rw [← hp, List.length_take, List.length_drop, HLZ.out]; exact Nat.min_comm _ _
      have hp32 : p.length ≤ 32 := by rw [hpl]; exact Nat.min_le_right _ _
      have HPZ : Hid (∀ j, j < p.length → ((zs.drop off).take (n - off)).getD j 0 = p.getD j 0) := Lib.hid (fun j hj => by
        have h1 : j < n - off := by rw [hpl] at hj; exact Nat.lt_of_lt_of_le hj (Nat.min_le_left _ _)
        rw [← hp]
        simp only [List.getD_eq_getElem?_getD, List.getElem?_take, h1, if_true, show j < 32 by omega])
      have HTA : Hid (p ++ (List.replicate 32 (0 : Int)).drop p.length = tagA zs (16 + 24 * k)) := Lib.hid (by
        have e : (zs.drop off).take 32 = (zs.drop (16 + 24 * k)).take 32 := by
          by_cases h : 16 + 24 * k ≤ n
          · rw [show off = 16 + 24 * k by omega]
          · rw [show off = n by omega, List.drop_of_length_le (by rw [HLZ.out]; exact Nat.le_refl _), List.drop_of_length_le (by rw [HLZ.out]; omega)]
        unfold tagA
        rw [← e, hp])
      have C1 : Hid (∀ W, Below wr.heap.size wr W → W.cell? ⟨w.heap.size + 1, 1, none⟩ = some (.slice D k d)) := Lib.hid (fun W hW => (HX.out.grow hW).c1)
      have HPL := Lib.hid hpl
      have HP32 := Lib.hid hp32
      have hoff2 : off ≤ n := by omega
      clear hp hpl hcat hp32 hoff
      go_upto_region 8 with fail
      refine Late.region (fun w' => Below wr.heap.size wr w') [12] (by kernel_rfl) (Below.refl _ _).drew (fun hHeld => ?_)
      refine Late.takeT 8 (i := 0) (oi := ⟨some 37, Op.fieldAddr 26 (Operand.tmp 3) 2, _, _, _, _⟩) (v := ?_) rfl (by kernel_rfl) (by kernel_rfl) (by kernel_rfl) (by kernel_rfl) (by kernel_rfl) (fun _ _ _ h => h) (Or.inl ⟨by rfl, fun w hSw => ?_⟩) (by assumption) ?_
      rotate_left
      · (have s1 := hSw; go_simp; try with_reducible rfl)
      try simp only [Act.put, List.setIfInBounds_toArray, List.set_cons_zero, List.set_cons_succ]
      refine Late.takeT 8 (i := 1) (oi := ⟨some 38, Op.slice 24 (Operand.tmp 37) none none none, _, _, _, _⟩) (v := ?_) rfl (by kernel_rfl) (by kernel_rfl) (by kernel_rfl) (by kernel_rfl) (by kernel_rfl) (fun _ _ _ h => h) (Or.inl ⟨by rfl, fun w hSw => ?_⟩) (by assumption) ?_
      rotate_left
      · (have s1 := hSw; go_simp; try with_reducible rfl)
      try simp only [Act.put, List.setIfInBounds_toArray, List.set_cons_zero, List.set_cons_succ]
      refine Late.takeT 8 (i := 2) (oi := ⟨some 39, Op.move (Operand.tmp 0), _, _, _, _⟩) (v := ?_) rfl (by kernel_rfl) (by kernel_rfl) (by kernel_rfl) (by kernel_rfl) (by kernel_rfl) (fun _ _ _ h => h) (Or.inl ⟨by rfl, fun w hSw => ?_⟩) (by assumption) ?_
      rotate_left
      · (have s1 := hSw; go_simp; try with_reducible rfl)
      try simp only [Act.put, List.setIfInBounds_toArray, List.set_cons_zero, List.set_cons_succ]
      refine Late.takeT 8 (i := 3) (oi := ⟨some 40, Op.move (Operand.tmp 0), _, _, _, _⟩) (v := ?_) rfl (by kernel_rfl) (by kernel_rfl) (by kernel_rfl) (by kernel_rfl) (by kernel_rfl) (fun _ _ _ h => h) (Or.inl ⟨by rfl, fun w hSw => ?_⟩) (by assumption) ?_
      rotate_left
      · (have s1 := hSw; go_simp; try with_reducible rfl)
      try simp only [Act.put, List.setIfInBounds_toArray, List.set_cons_zero, List.set_cons_succ]
      refine Late.takeT 8 (i := 4) (oi := ⟨some 41, Op.call { callee := Callee.builtin Builtin.len, args := #[Operand.tmp 40], argTypes := #[27] }, _, _, _, _⟩) (v := ?_) rfl (by kernel_rfl) (by kernel_rfl) (by kernel_rfl) (by kernel_rfl) (by kernel_rfl) (fun _ _ _ h => h) (Or.inl ⟨by rfl, fun w hSw => ?_⟩) (by assumption) ?_
      rotate_left
      · (have s1 := hSw; go_simp; try with_reducible rfl)
      try simp only [Act.put, List.setIfInBounds_toArray, List.set_cons_zero, List.set_cons_succ]
      refine Late.takeT 8 (i := 5) (oi := ⟨some 42, Op.fieldAddr 26 (Operand.tmp 3) 1, _, _, _, _⟩) (v := ?_) rfl (by kernel_rfl) (by kernel_rfl) (by kernel_rfl) (by kernel_rfl) (by kernel_rfl) (fun _ _ _ h => h) (Or.inl ⟨by rfl, fun w hSw => ?_⟩) (by assumption) ?_
      rotate_left
      · (have s1 := hSw; go_simp; try with_reducible rfl)
      try simp only [Act.put, List.setIfInBounds_toArray, List.set_cons_zero, List.set_cons_succ]
      refine Late.takeT 8 (i := 6) (oi := ⟨some 43, Op.load 22 (Operand.tmp 42), _, _, _, _⟩) (v := ?_) rfl (by kernel_rfl) (by kernel_rfl) (by kernel_rfl) (by kernel_rfl) (by kernel_rfl) (fun _ _ _ h => h) (Or.inl ⟨by rfl, fun w hSw => ?_⟩) (by assumption) ?_
      rotate_left
      · (have s1 := hSw; have c := C1.out _ hSw; go_simp; try with_reducible rfl)
      try simp only [Act.put, List.setIfInBounds_toArray, List.set_cons_zero, List.set_cons_succ]
      refine Late.takeT 8 (i := 7) (oi := ⟨some 44, Op.call { callee := Callee.builtin Builtin.len, args := #[Operand.tmp 43], argTypes := #[22] }, _, _, _, _⟩) (v := ?_) rfl (by kernel_rfl) (by kernel_rfl) (by kernel_rfl) (by kernel_rfl) (by kernel_rfl) (fun _ _ _ h => h) (Or.inl ⟨by rfl, fun w hSw => ?_⟩) (by assumption) ?_
      rotate_left
      · (have s1 := hSw; go_simp; try with_reducible rfl)
      try simp only [Act.put, List.setIfInBounds_toArray, List.set_cons_zero, List.set_cons_succ]
      refine Late.takeT 8 (i := 8) (oi := ⟨some 45, Op.binOp BinOp.mul 3 (Operand.const (Value.int IntKind.i64 24)) (Operand.tmp 44) 3, _, _, _, _⟩) (v := ?_) rfl (by kernel_rfl) (by kernel_rfl) (by kernel_rfl) (by kernel_rfl) (by kernel_rfl) (fun _ _ _ h => h) (Or.inl ⟨by rfl, fun w hSw => ?_⟩) (by assumption) ?_
      rotate_left
      · (have s1 := hSw; go_simp; try with_reducible rfl)
      try simp only [Act.put, List.setIfInBounds_toArray, List.set_cons_zero, List.set_cons_succ]
      refine Late.takeT 8 (i := 9) (oi := ⟨some 46, Op.binOp BinOp.add 3 (Operand.const (Value.int IntKind.i64 16)) (Operand.tmp 45) 3, _, _, _, _⟩) (v := ?_) rfl (by kernel_rfl) (by kernel_rfl) (by kernel_rfl) (by kernel_rfl) (by kernel_rfl) (fun _ _ _ h => h) (Or.inl ⟨by rfl, fun w hSw => ?_⟩) (by assumption) ?_
      rotate_left
      · (have s1 := hSw; go_simp; try with_reducible rfl)
      try simp only [Act.put, List.setIfInBounds_toArray, List.set_cons_zero, List.set_cons_succ]
      refine Late.takeT 8 (i := 10) (oi := ⟨some 47, Op.call { callee := Callee.builtin Builtin.min, args := #[Operand.tmp 41, Operand.tmp 46], argTypes := #[3, 3] }, _, _, _, _⟩) (v := ?_) rfl (by kernel_rfl) (by kernel_rfl) (by kernel_rfl) (by kernel_rfl) (by kernel_rfl) (fun _ _ _ h => h) (Or.inl ⟨by rfl, fun w hSw => ?_⟩) (by assumption) ?_
      rotate_left
      · (have s1 := hSw; go_simp; try with_reducible rfl)
      try simp only [Act.put, List.setIfInBounds_toArray, List.set_cons_zero, List.set_cons_succ]
      simp only [HW1.out, HW2.out, hoI]
      refine Late.takeT 8 (i := 11) (oi := ⟨some 48, Op.slice 27 (Operand.tmp 39) (some (Operand.tmp 47)) none none, _, _, _, _⟩) (v := .slice A2 (n - off) (c - off)) rfl (by kernel_rfl) (by kernel_rfl) (by kernel_rfl) (by kernel_rfl) (by kernel_rfl) (fun _ _ _ h => h) (Or.inl ⟨by rfl, fun w hSw => by simp [execOp, Act.eval, Instr.sliceAt, hcut]⟩) (by assumption) ?_
      try simp only [Act.put, List.setIfInBounds_toArray, List.set_cons_zero, List.set_cons_succ]
      refine Late.end_ (i := 12) (o := ⟨some 49, Op.call { callee := Callee.builtin Builtin.copy, args := #[Operand.tmp 38, Operand.tmp 48], argTypes := #[27, 27] }, _, _, _, _⟩) (by kernel_rfl) rfl rfl (fun K hK => ?_)
      refine step_copy_as (w := wr.drew) rfl (.tmp 38) (.tmp 48) 27 27 rfl 5 Tryd.underlying27 (by kernel_rfl) (some ⟨w.heap.size + 1, 2, none⟩) A2 32 32 (n - off) (c - off) (by rfl) (by rfl) (w.heap.size + 1) 2 (vals p) (by rw [vals_len]; exact HPL.out) (by rw [vals_len]; exact there_sub (HX.out.grow hHeld).tagThere (Nat.le_refl _) (by have := HP32.out; omega)) (fun h0 => ⟨rfl, ?_⟩) (vals_one _) ?_
      · obtain ⟨zb, zo, hz, _, hzc⟩ := ZB.out.row (by have h1 := HPL.out; rw [vals_len, h1] at h0; exact Nat.lt_of_lt_of_le h0 (Nat.min_le_left _ _))
        refine ⟨_, hz, fun j v hv => ?_⟩
        have hj : j < p.length := by have := (List.getElem?_eq_some_iff.1 hv).1; rwa [vals_len] at this
        rw [vals_at p j hj] at hv
        injection hv with hv
        have hj2 : j < n - off := by have := HPL.out; rw [this] at hj; exact Nat.lt_of_lt_of_le hj (Nat.min_le_left _ _)
        rw [Go.WideShapes.add_plain, ← hv, ← HPZ.out j hj]
        exact hzc j hj2
      intro w8 hw8
      refine hK.out _ _ ?_
      clear hK K
      try simp only [Act.put, List.setIfInBounds_toArray, List.set_cons_zero, List.set_cons_succ]
      refine Late.done (by kernel_rfl) ?_ _
      refine NoPanic.normal ?_
      have X8 := Lib.hid (show Box w8 (w.heap.size + 1) ⟨tn, D, k, d, p ++ (List.replicate 32 (0 : Int)).drop p.length⟩ by
        rw [hw8.out]
        exact (HX.out.grow hHeld).setPart HP32.out)
      have Q8 := Lib.hid (below_storeH (HQ.out.trans (hHeld.mono HQ.out.size)) (by omega) hw8)
      have R8 := Lib.hid ((HR.out.grow hHeld).farH (by omega) hw8)
      have O8 : Hid (w8.ownsRow (w.heap.size + 2) 44 3 (.slice D k d) k (gv (lineA zs k))) := Lib.hid (by
        rw [hw8.out]
        exact own_farS (by omega) _ _ (own_below HO.out hHeld (Nat.le_refl _)))
      clear hw8 HX HQ HR HO hHeld ZB hcut C1
      obtain ⟨u, hu⟩ : ∃ u : TokZ, (⟨tn, D, k, d, p ++ (List.replicate 32 (0 : Int)).drop p.length⟩ : TokZ) = u := ⟨_, rfl⟩
      rw [hu] at X8
      have HU := Lib.hid hu
      clear hu
      have TH := Lib.hid (R8.out.thereA X8.out.len)
      have G1 := X8
      have G2 := TH
      go_wp2_with (first
    | (have g := G1; clear g; refine wpList_load_mid (op := ⟨some 50, .load 26 (.tmp 3), _, _, _, _⟩) rfl 26 (.tmp 3) rfl (w.heap.size + 1) 0 rfl (tv u) _ X8.out.range Tryd.underlying26 rfl (tok_size X8.out.len) ?_; clear G1)
    | (have g := G2; clear g; refine wpList_store_as (op := ⟨none, .store 26 (.tmp 2) (.tmp 50), _, _, _, _⟩) rfl 26 (.tmp 2) (.tmp 50) rfl (w.heap.size) 0 (tv u).toArray rfl rfl TH.out (tok_sizeA X8.out.len) (tok_one _) ?_; intro w9 hw9; clear G2))
      have R9 := R8.out.storeH X8.out.len hw9
      have q9 := below_storeH Q8.out (Nat.le_refl _) hw9
      have z9 := size_storeH hw9
      have O9 : w9.ownsRow (w.heap.size + 2) 44 3 (.slice D k d) k (gv (lineA zs k)) := by
        rw [hw9.out]
        exact own_farS (by omega) _ _ O8.out
      obtain ⟨e1, e2, e3, e4, e5⟩ : u.tn = tn ∧ u.A = D ∧ u.m = k ∧ u.c = d ∧ u.T = p ++ (List.replicate 32 (0 : Int)).drop p.length := by rw [← HU.out]; exact ⟨rfl, rfl, rfl, rfl, rfl⟩
      have hd : k ≤ d ∧ d ≤ maxLen := by
        obtain ⟨_, _, hv, h1, h2⟩ := own_shapeG O9
        injection hv with _ _ hv
        subst hv
        exact ⟨h1, h2⟩
      have K9 : Tok w9 w9.heap.size u (lineA zs k) := by
        refine ⟨X8.out.len, by rw [e5, HTA.out]; exact tagA_bytes _ _ HBY.out, by rw [e1]; exact HTI.out, ?_, by rw [e3, e4]; exact hd.1, by rw [e4]; exact hd.2⟩
        rw [e2, e3]
        exact grants_of_own O9 (lineA_ok zs k)
      have KP : pt u (lineA zs k) = readP zs := by
        unfold pt readP
        rw [e1, e5, HTA.out, HKK.out, HTN.out]
      exact bodyPost_ret (v := .agg (tv u).toArray) (results_mid (p := 2) (ty := 26) rfl _ _ w.heap.size 0 (tv u) _ rfl R9.range Tryd.underlying26 rfl (tok_size X8.out.len)) rfl ⟨u, rfl, lineA zs k, K9, KP, q9, fun b off hq => by rw [e2] at hq; have := (O9.lt b (by rw [hq]; rfl)).1; omega⟩
end Go.Proofs.YtmeafjehcckibaaDoor
