/- Texts of the proof, one behind the other: R1 R2 R3 RBytes. -/
import Derived.Test.YtlknjaoamkcmjaaB2
import Derived.Test.YtlknjaoamkcmjaaB1
import Derived.Test.YtlknjaoamkcmjaaB3
import Derived.Deep.Cut
/- The document's own answer for sha: turns, constants, a message with its end. -/
namespace Go.Proofs.Ytlknjaoamkcmjaa
open Go.ChangeShapes Go.WideShapes Go.ChangeAt Go.RowKit
set_option linter.unusedVariables false
open Plain Sha
theorem chx_bits (e f g : Nat) (he : e < 4294967296) (hf : f < 4294967296) (hg : g < 4294967296) :
    bits .xor .u32 (bits .and .u32 (e : Int) (f : Int)) (bits .and .u32 (bits .xor .u32 IntKind.u32.max (e : Int)) (g : Int)) = ((ch e f g : Nat) : Int) := by
  have e1 : bits .xor .u32 IntKind.u32.max (e : Int) = ((4294967295 - e : Nat) : Int) := by
    have := u32_xor_nat 4294967295 e (by omega) he
    rw [xor_ones e he] at this
    exact this
  rw [e1, u32_and_nat _ _ he hf, u32_and_nat _ _ (by omega) hg, u32_xor_nat _ _ (and_lt hf) (and_lt hg)]
  congr 1
  unfold ch
  rw [← xor_ones e he]
  apply Nat.eq_of_testBit_eq
  intro i
  simp only [Nat.testBit_xor, Nat.testBit_and, Nat.testBit_or]
  have h1 : Nat.testBit 4294967295 i = decide (i < 32) := by rw [show (4294967295 : Nat) = 2 ^ 32 - 1 from rfl, Nat.testBit_two_pow_sub_one]
  rw [h1]
  by_cases hi : i < 32
  · simp only [hi, decide_true]
    cases e.testBit i <;> cases f.testBit i <;> cases g.testBit i <;> rfl
  · have : e.testBit i = false := Nat.testBit_lt_two_pow (Nat.lt_of_lt_of_le he (Nat.pow_le_pow_right (by omega : 2 > 0) (by omega : 32 ≤ i)))
    simp [hi, this]
theorem mjx_bits (a b c : Nat) (ha : a < 4294967296) (hb : b < 4294967296) (hc : c < 4294967296) :
    bits .xor .u32 (bits .xor .u32 (bits .and .u32 (a : Int) (b : Int)) (bits .and .u32 (a : Int) (c : Int))) (bits .and .u32 (b : Int) (c : Int)) = ((mj a b c : Nat) : Int) := by
  rw [u32_and_nat _ _ ha hb, u32_and_nat _ _ ha hc, u32_and_nat _ _ hb hc, u32_xor_nat _ _ (and_lt hb) (and_lt hc), u32_xor_nat _ _ (xor_lt (and_lt hb) (and_lt hc)) (and_lt hc)]
  congr 1
  unfold mj
  apply Nat.eq_of_testBit_eq
  intro i
  simp only [Nat.testBit_xor, Nat.testBit_and, Nat.testBit_or]
  cases a.testBit i <;> cases b.testBit i <;> cases c.testBit i <;> rfl
theorem orN (x k : Nat) (hx : x < 4294967296) (hk : k ≤ 31) (p q : Int) (hp : p = 2 ^ k) (hq : q = 2 ^ (32 - k)) : bits .or .u32 ((x : Int) / p) ((x : Int) * q % 4294967296) = ((rotN x k : Nat) : Int) := by
  subst hp hq
  exact or_split x k hx hk
theorem tmod_nat' (N : Nat) : ((N : Int)).tmod 64 = ((N % 64 : Nat) : Int) := by
  rw [Int.tmod_eq_emod_of_nonneg (by omega)]; omega
/-- A slice's length. -/
def lenOf : Value → Nat
  | .slice _ n _ => n
  | _ => 0
end Go.Proofs.Ytlknjaoamkcmjaa
/- The document's own answer for sha: a block's schedule. -/
namespace Go.Proofs.Ytlknjaoamkcmjaa
open Go.ChangeShapes Go.WideShapes Go.ChangeAt Go.RowKit
set_option linter.unusedVariables false
open Plain Sha
theorem u32_row' : (Try.prog.info? 65).map (fun i => (i.zero, i.size, i.bytes)) = some (some (.int .u32 0), 1, 4) := by kernel_rfl
/-- What a call hands back that makes a row of numbers. -/
def Made32 (w : World) (l : List Nat) (e : Ending) (w' : World) : Prop :=
  ∃ g c, e = .returned (.slice (some ⟨g, 0, none⟩) l.length c) ∧ (∀ j, j < l.length → w'.cell? ⟨g, j, none⟩ = some (.int .u32 ((l.getD j 0 : Nat) : Int))) ∧ w.heap.size ≤ g ∧ g < w'.heap.size ∧ Below w.heap.size w w'
theorem own32_cells {w : World} {base n : Nat} {v : Value} {l : List Nat} (h : w.ownsRow base 65 1 v n (u32s l)) (hn : 0 < n) :
    ∃ g cap, v = .slice (some ⟨g, 0, none⟩) n cap ∧ base ≤ g ∧ g < w.heap.size ∧ ∀ j, j < l.length → w.cell? ⟨g, j, none⟩ = some (.int .u32 ((l.getD j 0 : Nat) : Int)) := by
  obtain ⟨g, cap, hv, hb, hlt⟩ := h.form hn
  refine ⟨g, cap, hv, hb, hlt, fun j hj => ?_⟩
  have := h.cells (g := g) (by rw [hv]; rfl) j _ (u32s_at l j hj)
  rw [Go.WideShapes.add_plain] at this
  simpa using this
theorem takeN_snoc (l : List Nat) (k : Nat) (h : k < l.length) : l.take (k + 1) = l.take k ++ [l.getD k 0] := by
  rw [List.take_succ_eq_append_getElem h]
  simp [List.getD_eq_getElem?_getD, List.getElem?_eq_getElem h]
theorem u32s_app (a b : List Nat) : u32s (a ++ b) = u32s a ++ u32s b := by simp [u32s]
theorem ors1 (x : Nat) (h : x < 4294967296) : bits .xor .u32 (bits .xor .u32 (bits .or .u32 ((x : Int) / 131072) ((x : Int) * 32768 % 4294967296)) (bits .or .u32 ((x : Int) / 524288) ((x : Int) * 8192 % 4294967296))) ((x : Int) / 1024) = ((sg1 x : Nat) : Int) := by
  rw [orN x 17 h (by omega) 131072 32768 rfl rfl, orN x 19 h (by omega) 524288 8192 rfl rfl, sg1_bits x h]
theorem ors0 (x : Nat) (h : x < 4294967296) : bits .xor .u32 (bits .xor .u32 (bits .or .u32 ((x : Int) / 128) ((x : Int) * 33554432 % 4294967296)) (bits .or .u32 ((x : Int) / 262144) ((x : Int) * 16384 % 4294967296))) ((x : Int) / 8) = ((sg0 x : Nat) : Int) := by
  rw [orN x 7 h (by omega) 128 33554432 rfl rfl, orN x 18 h (by omega) 262144 16384 rfl rfl, sg0_bits x h]
theorem schedTo_snoc (ws : List Nat) (hl : ws.length = 16) (k : Nat) : schedTo ws (k + 1) = schedTo ws k ++ [wAt ws (16 + k)] := by
  apply list_ext_N
  · rw [List.length_append, schedTo_len ws hl, schedTo_len ws hl]; rfl
  · intro j hj
    rw [schedTo_len ws hl] at hj
    rw [sched_at ws hl (k + 1) j hj]
    by_cases h : j < 16 + k
    · rw [getD_app_lt (by rw [schedTo_len ws hl]; exact h), sched_at ws hl k j h]
    · rw [getD_app_at (by rw [schedTo_len ws hl]; omega), show j = 16 + k by omega]
end Go.Proofs.Ytlknjaoamkcmjaa
/- The document's own answer for sha: the tag of bytes. -/
namespace Go.Proofs.Ytlknjaoamkcmjaa
open Go.ChangeShapes Go.WideShapes Go.ChangeAt Go.RowKit
set_option linter.unusedVariables false
open Plain Sha
theorem grown_set {W V : World} {nb : Nat} (h : W.grownBy V (some nb)) (k : Nat) (v : Value) : W.grownBy (V.setCell ⟨nb, k, none⟩ v) (some nb) := grown_setCells [v] k V h
theorem grown_drewN {W V : World} {nb : Nat} (h : W.grownBy V (some nb)) (m : Nat) : W.grownBy (V.drewN m) (some nb) := ⟨h.os, h.tape, h.output, h.size, h.block⟩
theorem grown_drew {W V : World} {nb : Nat} (h : W.grownBy V (some nb)) : W.grownBy V.drew (some nb) := ⟨h.os, h.tape, h.output, h.size, h.block⟩
theorem grown_below {W V U : World} {nb : Nat} (h : W.grownBy V (some nb)) (hb : Below V.heap.size V U) : W.grownBy U (some nb) :=
  ⟨hb.os.trans h.os, hb.tape.trans h.tape, hb.output.trans h.output, Nat.le_trans h.size hb.size, fun i hi hne => (hb.block i (Nat.lt_of_lt_of_le hi h.size)).trans (h.block i hi hne)⟩
theorem Bs.keepB {w w' : World} {B n : Nat} {A : Option Addr} {zs : List Int} (h : Bs w B A n zs) (hk : ∀ b off, A = some ⟨b, off, none⟩ → b < B → w'.heap[b]? = w.heap[b]?) : Bs w' B A n zs :=
  ⟨h.len, h.rng, fun hn => by
    obtain ⟨b, off, e, hb, hc⟩ := h.row hn
    exact ⟨b, off, e, hb, fun j hj => (World.cell?_of_block (a := ⟨b, off + j, none⟩) (hk b off e hb)).trans (hc j hj)⟩⟩
theorem row32_keep {w w' : World} {b : Nat} {l : List Nat} (h : Row32 w b l) (e : w'.heap[b]? = w.heap[b]?) : Row32 w' b l :=
  ⟨fun j hj => (World.cell?_of_block (a := ⟨b, j, none⟩) e).trans (h.cells j hj), fun j hj => (World.frozen?_of_block (a := ⟨b, j, none⟩) e).trans (h.free j hj)⟩
theorem row8_setR {w : World} {b : Nat} {l : List Int} (h : Row8 w b 0 l) (k : Nat) (x : Int) (hk : k < l.length) : Row8 (w.setCell ⟨b, k, none⟩ (.int .u8 x)) b 0 (l.set k x) := by
  have := h.splice k [x] (by simp; omega)
  have e : splice l k [x] = l.set k x := list_ext_getD (by rw [splice_len (by simp; omega), List.length_set]) (fun j hj => by
    rw [splice_at _ _ _ _ (by simp; omega), getD_set _ _ _ _ hk]
    by_cases e : k = j
    · subst e; rw [if_pos (by simp), if_pos rfl, Nat.sub_self]; rfl
    · rw [if_neg (by simp; omega), if_neg e])
  rw [e, Nat.zero_add] at this
  exact this
theorem row8_cellR {w : World} {b : Nat} {l : List Int} (h : Row8 w b 0 l) {k : Nat} (hk : k < l.length) {x : Int} (hx : l.getD k 0 = x) : w.cell? ⟨b, k, none⟩ = some (.int .u8 x) ∧ w.frozen? ⟨b, k, none⟩ = false := by
  have h1 := h.range k _ (vals_at l k hk)
  have h2 := h.there k hk
  rw [Nat.zero_add] at h1 h2
  rw [hx] at h1
  exact ⟨h1, h2.2⟩
theorem wordsAt_piece (ms : List Int) (q : Nat) : wordsAt ((ms.drop (64 * q)).take 64) 0 = wordsAt ms q := by
  unfold wordsAt
  apply List.map_congr_left
  intro t ht
  have ht : t < 16 := by simpa using ht
  congr 2
  rw [Nat.mul_zero, Nat.zero_add, List.drop_take, List.take_take, List.drop_drop]
  congr 1
  omega
theorem blk_list (v : H8) (sa sb sc sd se sf sg sh : Nat) : ((((((((v.list.set 0 ((v.a + sa) % 4294967296)).set 1 ((v.b + sb) % 4294967296)).set 2 ((v.c + sc) % 4294967296)).set 3 ((v.d + sd) % 4294967296)).set 4 ((v.e + se) % 4294967296)).set 5 ((v.f + sf) % 4294967296)).set 6 ((v.g + sg) % 4294967296)).set 7 ((v.h + sh) % 4294967296)) = (addV v ⟨sa, sb, sc, sd, se, sf, sg, sh⟩).list := by
  simp [H8.list, addV]
/-- What the state is ahead of block q. -/
def Ahead (W3 wr : World) (nb : Nat) (v : H8) : Prop := W3.grownBy wr (some nb) ∧ Row32 wr nb v.list
end Go.Proofs.Ytlknjaoamkcmjaa
/- The document's own way from a tag to bytes. -/
namespace Go.Proofs.Ytlknjaoamkcmjaa
open Go.ChangeShapes Go.WideShapes Go.ChangeAt Go.RowKit
set_option linter.unusedVariables false
open Plain Sha
end Go.Proofs.Ytlknjaoamkcmjaa
