/- What was written is read back, plainly. -/
import Derived.Test.YtcihbkdpkhhhcaaWBad
import Derived.Test.YtcihbkdpkhhhcaaNum
namespace Go.Proofs.Ytcihbkdpkhhhcaa
open Go.ChangeShapes Go.WideShapes Go.ChangeAt Go.RowKit
set_option linter.unusedVariables false
open Plain
theorem n64_len' (n : Int) : (n64 n).length = 8 := putZ_len ..
theorem n64_bytes' (n : Int) : IsBytes (n64 n) := putZ_bytes _ _
theorem intZ_n64' (n : Int) (h0 : -9223372036854775808 ≤ n) (h1 : n ≤ 9223372036854775807) : intZ (n64 n) = n := by
  unfold intZ n64
  rw [numZ_putZ 8 _ (by omega) (by omega)]
  unfold wrap64
  omega
theorem take_app {α : Type} (a b : List α) {n : Nat} (h : a.length = n) : (a ++ b).take n = a := by subst h; exact List.take_left
theorem drop_app {α : Type} (a b : List α) {n : Nat} (h : a.length = n) : (a ++ b).drop n = b := by subst h; exact List.drop_left
theorem tk_app {α : Type} (k : Nat) (okf : List Int → List Int → Bool) (val : List Int → α) (nv : α) (p q : List Int) (hp : p.length = k) (ho : okf p q = true) : tk k okf val nv (0, p ++ q) = (val p, 0, q) := by
  rw [tk_ok _ _ _ _ _ (by rw [List.length_append]; omega) (by rw [take_app p q hp, drop_app p q hp]; exact ho), take_app p q hp, drop_app p q hp]
def bytesFn (zs : List Int) : List Int := putZ (zs.length : Nat) 4
theorem bytesF_small {zs : List Int} (h : zs.length ≤ 65536) : bytesF zs = bytesFn zs ++ zs := by
  unfold bytesF bytesFn
  rw [show ((zs.length : Nat) : Int) % 4294967296 = (zs.length : Nat) by omega]
theorem bytesFn_len (zs : List Int) : (bytesFn zs).length = 4 := putZ_len ..
theorem bytesFn_num {zs : List Int} (h : zs.length ≤ 65536) : numZ (bytesFn zs) = (zs.length : Nat) := numZ_putZ 4 _ (by omega) (by omega)
theorem rLen_app {zs q : List Int} (h : zs.length ≤ 65536) : rLen (0, bytesFn zs ++ q) = (((zs.length : Nat) : Int), (0 : Int), q) := by
  unfold rLen
  rw [tk_app 4 _ _ _ _ _ (bytesFn_len zs) (by rw [bytesFn_num h]; simp; omega), bytesFn_num h]
theorem rBytes_app {zs q : List Int} (h : zs.length ≤ 65536) : rBytes (0, bytesF zs ++ q) = (zs, 0, q) := by
  rw [bytesF_small h, List.append_assoc]
  unfold rBytes
  rw [rLen_app h]
  simp only [Int.toNat_natCast]
  rw [tk_app zs.length yes2 id [] zs q rfl rfl]
  rfl
theorem flag_app (n : Int) (q : List Int) : rFlag (0, [if oddB n then 1 else 0] ++ q) = (oddB n, 0, q) := by
  unfold rFlag
  rw [tk_app 1 _ _ _ _ _ rfl (by cases oddB n <;> rfl)]
  cases oddB n <;> rfl
/-- A field's facts that its bytes hang on. -/
structure FZ (f : FieldZ) : Prop where
  n : -9223372036854775808 ≤ f.n ∧ f.n ≤ 9223372036854775807
  zs : f.zs.length ≤ 65536
  tag : f.tag.length = 32
theorem back_field {f : FieldZ} (h : FZ f) (q : List Int) : backR f (0, fieldB f ++ q) = (true, 0, q) := by
  unfold backR fieldB
  by_cases k0 : f.kind = 0
  · rw [if_pos k0, if_pos k0]
    rw [show rByte (0, [f.n % 256] ++ q) = (f.n % 256, 0, q) from tk_app 1 _ _ _ _ _ rfl rfl]
    simp
  by_cases k1 : f.kind = 1
  · rw [if_neg k0, if_neg k0, if_pos k1, if_pos k1]
    rw [show rInt (0, n64 f.n ++ q) = (f.n, 0, q) from by unfold rInt; rw [tk_app 8 _ _ _ _ _ (n64_len' _) rfl, intZ_n64' _ h.n.1 h.n.2]]
    simp
  by_cases k2 : f.kind = 2
  · rw [if_neg k0, if_neg k0, if_neg k1, if_neg k1, if_pos k2, if_pos k2]
    rw [flag_app]
    simp
  by_cases k3 : f.kind = 3
  · rw [if_neg k0, if_neg k0, if_neg k1, if_neg k1, if_neg k2, if_neg k2, if_pos k3, if_pos k3]
    rw [rBytes_app h.zs, eqB_self]
  by_cases k4 : f.kind = 4
  · rw [if_neg k0, if_neg k0, if_neg k1, if_neg k1, if_neg k2, if_neg k2, if_neg k3, if_neg k3, if_pos k4, if_pos k4]
    rw [rBytes_app h.zs, eqB_self]
  by_cases k5 : f.kind = 5
  · rw [if_neg k0, if_neg k0, if_neg k1, if_neg k1, if_neg k2, if_neg k2, if_neg k3, if_neg k3, if_neg k4, if_neg k4, if_pos k5, if_pos k5]
    rw [show rTag (0, f.tag ++ q) = (f.tag, 0, q) from tk_app 32 _ _ _ _ _ h.tag rfl, eqB_self]
  rw [if_neg k0, if_neg k0, if_neg k1, if_neg k1, if_neg k2, if_neg k2, if_neg k3, if_neg k3, if_neg k4, if_neg k4, if_neg k5, if_neg k5]
  rfl
theorem tk_badst {α : Type} (k : Nat) (okf : List Int → List Int → Bool) (val : List Int → α) (nv : α) : tk k okf val nv (40, []) = (nv, 40, []) := tk_bad _ _ _ _ _ _ (by decide)
theorem back_bad (f : FieldZ) : (backR f (40, [])).2 = (40, []) := by
  unfold backR rByte rInt rFlag rBytes rLen rTag
  repeat' split
  all_goals simp only [tk_badst]
theorem rBytes_cut {zs : List Int} (h : zs.length ≤ 65536) (j : Nat) (hj : j < (bytesF zs).length) : (rBytes (0, (bytesF zs).take j)).2 = (40, []) := by
  rw [bytesF_small h] at hj ⊢
  rw [List.length_append, bytesFn_len] at hj
  by_cases h4 : j < 4
  · have : rLen (0, (bytesFn zs ++ zs).take j) = (0, 40, []) := tk_short _ _ _ _ _ (by rw [List.length_take]; omega)
    unfold rBytes
    rw [this]
    simp only
    rw [tk_badst]
  · have e : (bytesFn zs ++ zs).take j = bytesFn zs ++ zs.take (j - 4) := by
      rw [List.take_append, bytesFn_len, List.take_of_length_le (by rw [bytesFn_len]; omega)]
    unfold rBytes
    rw [e, rLen_app h]
    simp only [Int.toNat_natCast]
    rw [tk_short _ _ _ _ _ (by rw [List.length_take]; omega)]
theorem fieldB_len (f : FieldZ) (h : f.tag.length = 32) : (fieldB f).length = if f.kind = 0 then 1 else if f.kind = 1 then 8 else if f.kind = 2 then 1 else if f.kind = 3 then 4 + f.zs.length else if f.kind = 4 then 4 + f.zs.length else if f.kind = 5 then 32 else 0 := by
  unfold fieldB
  by_cases k0 : f.kind = 0
  · rw [if_pos k0, if_pos k0]
    rfl
  by_cases k1 : f.kind = 1
  · rw [if_neg k0, if_neg k0, if_pos k1, if_pos k1]
    exact n64_len' _
  by_cases k2 : f.kind = 2
  · rw [if_neg k0, if_neg k0, if_neg k1, if_neg k1, if_pos k2, if_pos k2]
    rfl
  by_cases k3 : f.kind = 3
  · rw [if_neg k0, if_neg k0, if_neg k1, if_neg k1, if_neg k2, if_neg k2, if_pos k3, if_pos k3]
    unfold bytesF; rw [List.length_append, putZ_len]
  by_cases k4 : f.kind = 4
  · rw [if_neg k0, if_neg k0, if_neg k1, if_neg k1, if_neg k2, if_neg k2, if_neg k3, if_neg k3, if_pos k4, if_pos k4]
    unfold bytesF; rw [List.length_append, putZ_len]
  by_cases k5 : f.kind = 5
  · rw [if_neg k0, if_neg k0, if_neg k1, if_neg k1, if_neg k2, if_neg k2, if_neg k3, if_neg k3, if_neg k4, if_neg k4, if_pos k5, if_pos k5]
    exact h
  rw [if_neg k0, if_neg k0, if_neg k1, if_neg k1, if_neg k2, if_neg k2, if_neg k3, if_neg k3, if_neg k4, if_neg k4, if_neg k5, if_neg k5]
  rfl
theorem back_cut {f : FieldZ} (h : FZ f) (j : Nat) (hj : j < (fieldB f).length) : (backR f (0, (fieldB f).take j)).2 = (40, []) := by
  rw [fieldB_len f h.tag] at hj
  unfold backR fieldB
  by_cases k0 : f.kind = 0
  · rw [if_pos k0] at hj; rw [if_pos k0, if_pos k0]
    rw [show rByte (0, [f.n % 256].take j) = (0, 40, []) from tk_short _ _ _ _ _ (by rw [List.length_take]; omega)]
  by_cases k1 : f.kind = 1
  · rw [if_neg k0, if_pos k1] at hj; rw [if_neg k0, if_neg k0, if_pos k1, if_pos k1]
    rw [show rInt (0, (n64 f.n).take j) = (0, 40, []) from tk_short _ _ _ _ _ (by rw [List.length_take]; omega)]
  by_cases k2 : f.kind = 2
  · rw [if_neg k0, if_neg k1, if_pos k2] at hj; rw [if_neg k0, if_neg k0, if_neg k1, if_neg k1, if_pos k2, if_pos k2]
    rw [show rFlag (0, [if oddB f.n then 1 else 0].take j) = (false, 40, []) from tk_short _ _ _ _ _ (by rw [List.length_take]; omega)]
  by_cases k3 : f.kind = 3
  · rw [if_neg k0, if_neg k1, if_neg k2, if_pos k3] at hj; rw [if_neg k0, if_neg k0, if_neg k1, if_neg k1, if_neg k2, if_neg k2, if_pos k3, if_pos k3]
    exact rBytes_cut h.zs j (by rw [bytesF_small h.zs, List.length_append, bytesFn_len]; omega)
  by_cases k4 : f.kind = 4
  · rw [if_neg k0, if_neg k1, if_neg k2, if_neg k3, if_pos k4] at hj; rw [if_neg k0, if_neg k0, if_neg k1, if_neg k1, if_neg k2, if_neg k2, if_neg k3, if_neg k3, if_pos k4, if_pos k4]
    exact rBytes_cut h.zs j (by rw [bytesF_small h.zs, List.length_append, bytesFn_len]; omega)
  by_cases k5 : f.kind = 5
  · rw [if_neg k0, if_neg k1, if_neg k2, if_neg k3, if_neg k4, if_pos k5] at hj; rw [if_neg k0, if_neg k0, if_neg k1, if_neg k1, if_neg k2, if_neg k2, if_neg k3, if_neg k3, if_neg k4, if_neg k4, if_pos k5, if_pos k5]
    rw [show rTag (0, f.tag.take j) = (List.replicate 32 0, 40, []) from tk_short _ _ _ _ _ (by rw [List.length_take]; omega)]
  rw [if_neg k0, if_neg k1, if_neg k2, if_neg k3, if_neg k4, if_neg k5] at hj
  rw [if_neg k0, if_neg k0, if_neg k1, if_neg k1, if_neg k2, if_neg k2, if_neg k3, if_neg k3, if_neg k4, if_neg k4, if_neg k5, if_neg k5]
  omega
/-- All fields, one behind the other. -/
def formB (F : Nat → FieldZ) : Nat → List Int := catTo (fun j => fieldB (F j))
def formN (F : Nat → FieldZ) : Nat → Nat := sumTo (fun j => (fieldB (F j)).length)
theorem formB_len (F : Nat → FieldZ) (k : Nat) : (formB F k).length = formN F k := catTo_len _ _ k (fun _ _ => rfl)
theorem formN_le (F : Nat → FieldZ) {k m : Nat} (h : k ≤ m) : formN F k ≤ formN F m := sumTo_le _ k m h
theorem formN_succ (F : Nat → FieldZ) (k : Nat) : formN F (k + 1) = formN F k + (fieldB (F k)).length := rfl
theorem formB_succ (F : Nat → FieldZ) (k : Nat) : formB F (k + 1) = formB F k ++ fieldB (F k) := rfl
theorem formB_drop (F : Nat → FieldZ) (k : Nat) : ∀ m, k < m → (formB F m).drop (formN F k) = fieldB (F k) ++ (formB F m).drop (formN F (k + 1)) := by
  intro m
  induction m with
  | zero => intro h; omega
  | succ m ih =>
    intro h
    rw [formB_succ]
    by_cases hk : k = m
    · subst hk
      rw [drop_app _ _ (formB_len F k), List.drop_of_length_le (l := formB F k ++ fieldB (F k)) (by rw [List.length_append, formB_len, formN_succ]; omega), List.append_nil]
    · have h1 := formN_le F (show k ≤ m by omega)
      have h2 := formN_le F (show k + 1 ≤ m by omega)
      rw [List.drop_append_of_le_length (by rw [formB_len]; exact h1), ih (by omega), List.drop_append_of_le_length (by rw [formB_len]; exact h2), List.append_assoc]
/-- The reader's state behind k of m fields, of the form cut to c bytes. -/
def cutSt (F : Nat → FieldZ) (m c k : Nat) : Int × List Int := if formN F k ≤ c then (0, ((formB F m).take c).drop (formN F k)) else (40, [])
theorem cut_step {F : Nat → FieldZ} {m c k : Nat} (hk : k < m) (hF : FZ (F k)) : (backR (F k) (cutSt F m c k)).2 = cutSt F m c (k + 1) := by
  unfold cutSt
  have hs := formN_succ F k
  by_cases h0 : formN F k ≤ c
  · rw [if_pos h0, List.drop_take, formB_drop F k m hk]
    by_cases h1 : formN F (k + 1) ≤ c
    · rw [if_pos h1, List.take_append, List.take_of_length_le (by omega), back_field hF, List.drop_take, show c - formN F k - (fieldB (F k)).length = c - formN F (k + 1) by omega]
    · rw [if_neg h1, List.take_append_of_le_length (by omega)]
      exact back_cut hF _ (by omega)
  · rw [if_neg h0, if_neg (by omega)]
    exact back_bad _
theorem fieldB_le {f : FieldZ} (h : f.tag.length = 32) : (fieldB f).length ≤ f.zs.length + 40 := by
  rw [fieldB_len f h]
  repeat' split
  all_goals omega
theorem form_small {F : Nat → FieldZ} : ∀ k, (∀ j, j < k → (F j).tag.length = 32 ∧ (F j).zs.length = (F j).len) → formN F k ≤ gsum F k := by
  intro k
  induction k with
  | zero => intro _; exact Nat.le_refl _
  | succ k ih =>
    intro h
    have h1 := ih (fun j hj => h j (by omega))
    have h2 := fieldB_le (h k (by omega)).1
    have h3 := (h k (by omega)).2
    rw [formN_succ]
    show _ ≤ gsum F k + (F k).len + 40
    omega
end Go.Proofs.Ytcihbkdpkhhhcaa
