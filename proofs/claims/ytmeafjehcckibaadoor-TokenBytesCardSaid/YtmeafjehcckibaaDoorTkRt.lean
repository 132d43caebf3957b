/- The document's own tag of a token. -/
import Derived.Test.YtmeafjehcckibaaDoorTkRn
import Derived.Test.YtmeafjehcckibaaDoorB7
import Derived.Test.YtmeafjehcckibaaDoorB6
import Derived.Test.YtmeafjehcckibaaDoorB3
namespace Go.Proofs.YtmeafjehcckibaaDoor
open Go.ChangeShapes Go.WideShapes Go.ChangeAt Go.RowKit
set_option linter.unusedVariables false
set_option linter.unusedSimpArgs false
open Plain Sha
/-- An empty row of bytes of the call's own. -/
def sfOwn0 (base : Nat) : SF := ⟨fun v w => ∃ b, v = .slice (some ⟨b, 0, none⟩) 0 0 ∧ w.ownsRow base 5 1 v 0 (vals []), fun v w w' ⟨b, e, h⟩ hb => ⟨b, e, own_below h hb (Nat.le_refl _)⟩⟩
theorem sfOwn0_new (w : World) (base : Nat) (hb : base ≤ w.heap.size) : (sfOwn0 base).F (.slice (some ⟨w.heap.size, 0, none⟩) 0 0) (w.alloc (.cells #[] 5)) := ⟨_, rfl, own_nil8 w base hb⟩
/-- Bytes that stand. -/
def sfBs (n : Nat) (zs : List Int) : SF := ⟨fun v w => ∃ D c, v = .slice D n c ∧ Bs w w.heap.size D n zs, fun v w w' ⟨D, c, e, h⟩ hb => ⟨D, c, e, (h.below hb).more hb.size⟩⟩
theorem sfBs_of {n : Nat} {zs : List Int} {D : Option Addr} {c : Nat} {w : World} (h : Bs w w.heap.size D n zs) : (sfBs n zs).F (.slice D n c) w := ⟨D, c, rfl, h⟩
theorem fold_snoc (T : List Int) (l : List GrantZ) (k : Nat) (g : GrantZ) (h : l[k]? = some g) : (l.take (k + 1)).foldl nextZ T = nextZ ((l.take k).foldl nextZ T) g := by
  rw [take_snocG l k g h, List.foldl_append]; rfl
/-- A token's tag by its first grants. -/
def tkTo (ks : List Int) (tn : Int) (l : List GrantZ) (k : Nat) : List Int := tokTag ks tn (l.take k)
theorem tkTo_step (ks : List Int) (tn : Int) (l : List GrantZ) (k : Nat) (g : GrantZ) (h0 : 0 < k) (hg : l[k]? = some g) : tkTo ks tn l (k + 1) = nextZ (tkTo ks tn l k) g := by
  have hk : k < l.length := (List.getElem?_eq_some_iff.1 hg).1
  unfold tkTo
  rw [take_snocG l k g hg]
  cases hl : l.take k with
  | nil => rw [List.take_eq_nil_iff] at hl; rcases hl with rfl | rfl
           · omega
           · simp at hk
  | cons a r =>
    show (r ++ [g]).foldl nextZ _ = nextZ (r.foldl nextZ _) g
    rw [List.foldl_append]; rfl
theorem tkTo_one (ks : List Int) (tn : Int) (l : List GrantZ) (g : GrantZ) (hg : l[0]? = some g) : tkTo ks tn l 1 = hmacZ ks (numB tn ++ numsB (gN g)) := by
  unfold tkTo
  rw [take_snocG l 0 g hg]; rfl
theorem tkTo_len (ks : List Int) (tn : Int) (l : List GrantZ) (k : Nat) : (tkTo ks tn l k).length = 32 := tokTag_len _ _ _
theorem tkTo_bytes (ks : List Int) (tn : Int) (l : List GrantZ) (k : Nat) : IsBytes (tkTo ks tn l k) := tokTag_bytes _ _ _
end Go.Proofs.YtmeafjehcckibaaDoor
