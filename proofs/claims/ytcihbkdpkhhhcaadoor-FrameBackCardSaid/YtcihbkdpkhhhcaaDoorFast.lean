/- The hash, reckoned fast: for the kernel; it is the same. The tags of the examples; of up to 200 noughts all are unlike. -/
import Derived.Test.YtcihbkdpkhhhcaaDoorSha
namespace Go.Proofs.YtcihbkdpkhhhcaaDoor.Sha
open Go.Proofs.YtcihbkdpkhhhcaaDoor.Plain
set_option linter.unusedVariables false
/-- A number is reckoned out ahead of what hangs on it. -/
def fz {α : Sort _} (n : Nat) (f : Nat → α) : α := match n with | 0 => f 0 | m + 1 => f (m + 1)
theorem fz_eq {α : Sort _} (n : Nat) (f : Nat → α) : fz n f = f n := by cases n <;> rfl
def frot (x p q : Nat) : Nat := Nat.add (Nat.div x p) (Nat.mul (Nat.mod x p) q)
def fx3 (x a a' b b' c c' : Nat) : Nat := Nat.xor (Nat.xor (frot x a a') (frot x b b')) (frot x c c')
def fs0 (x : Nat) : Nat := Nat.xor (Nat.xor (frot x 128 33554432) (frot x 262144 16384)) (Nat.div x 8)
def fs1 (x : Nat) : Nat := Nat.xor (Nat.xor (frot x 131072 32768) (frot x 524288 8192)) (Nat.div x 1024)
def fch (e f g : Nat) : Nat := Nat.lor (Nat.land e f) (Nat.land (Nat.sub 4294967295 e) g)
def fmj (a b c : Nat) : Nat := Nat.lor (Nat.lor (Nat.land a b) (Nat.land a c)) (Nat.land b c)
def fgo (a b c d e f g h : Nat) (w0 w1 w2 w3 w4 w5 w6 w7 w8 w9 w10 w11 w12 w13 w14 w15 : Nat) : List Nat → List Nat
 | [] => [a, b, c, d, e, f, g, h]
 | k :: l =>
   fz (Nat.mod (Nat.add (Nat.add (Nat.add (Nat.add h (fx3 e 64 67108864 2048 2097152 33554432 128)) (fch e f g)) k) w0) 4294967296) fun t1 =>
   fz (Nat.mod (Nat.add (Nat.add t1 (fx3 a 4 1073741824 8192 524288 4194304 1024)) (fmj a b c)) 4294967296) fun a' =>
   fz (Nat.mod (Nat.add d t1) 4294967296) fun e' =>
   fz (Nat.mod (Nat.add (Nat.add (Nat.add (fs1 w14) w9) (fs0 w1)) w0) 4294967296) fun w' =>
   fgo a' a b c e' e f g w1 w2 w3 w4 w5 w6 w7 w8 w9 w10 w11 w12 w13 w14 w15 w' l
def fblk (v : List Nat) (ws : List Nat) : List Nat :=
  match v, ws with
  | [a, b, c, d, e, f, g, h], [w0, w1, w2, w3, w4, w5, w6, w7, w8, w9, w10, w11, w12, w13, w14, w15] => List.zipWith (fun x y => fz (Nat.mod (Nat.add x y) 4294967296) id) v (fgo a b c d e f g h w0 w1 w2 w3 w4 w5 w6 w7 w8 w9 w10 w11 w12 w13 w14 w15 kTab)
  | _, _ => []

theorem bs1_fast (x : Nat) : fx3 x 64 67108864 2048 2097152 33554432 128 = bs1 x := rfl
theorem bs0_fast (x : Nat) : fx3 x 4 1073741824 8192 524288 4194304 1024 = bs0 x := rfl
theorem sg0_fast (x : Nat) : fs0 x = sg0 x := rfl
theorem sg1_fast (x : Nat) : fs1 x = sg1 x := rfl
theorem ch_fast (e f g : Nat) : fch e f g = ch e f g := rfl
theorem mj_fast (a b c : Nat) : fmj a b c = mj a b c := rfl
theorem fgo_cons (a b c d e f g h w0 w1 w2 w3 w4 w5 w6 w7 w8 w9 w10 w11 w12 w13 w14 w15 k : Nat) (l : List Nat) :
    fgo a b c d e f g h w0 w1 w2 w3 w4 w5 w6 w7 w8 w9 w10 w11 w12 w13 w14 w15 (k :: l) = fgo (rnd ⟨a, b, c, d, e, f, g, h⟩ k w0).a a b c (rnd ⟨a, b, c, d, e, f, g, h⟩ k w0).e e f g w1 w2 w3 w4 w5 w6 w7 w8 w9 w10 w11 w12 w13 w14 w15 (wNext w14 w9 w1 w0) l := by
  rw [fgo, fz_eq, fz_eq, fz_eq, fz_eq]
  rfl
theorem fgo_run (ws : List Nat) (hl : ws.length = 16) (s : H8) : ∀ (l : List Nat) (t : Nat), t + l.length = 64 → kTab.drop t = l →
    fgo (rnds ws s t).a (rnds ws s t).b (rnds ws s t).c (rnds ws s t).d (rnds ws s t).e (rnds ws s t).f (rnds ws s t).g (rnds ws s t).h (wAt ws t) (wAt ws (t + 1)) (wAt ws (t + 2)) (wAt ws (t + 3)) (wAt ws (t + 4)) (wAt ws (t + 5)) (wAt ws (t + 6)) (wAt ws (t + 7)) (wAt ws (t + 8)) (wAt ws (t + 9)) (wAt ws (t + 10)) (wAt ws (t + 11)) (wAt ws (t + 12)) (wAt ws (t + 13)) (wAt ws (t + 14)) (wAt ws (t + 15)) l = (rnds ws s 64).list
  | [], t, ht, _ => by
    have : t = 64 := by simpa using ht
    subst this; rfl
  | k :: l, t, ht, hk => by
    have hk0 : kTab.getD t 0 = k := by
      have : (kTab.drop t)[0]? = some k := by rw [hk]; rfl
      rw [List.getElem?_drop] at this
      rw [List.getD_eq_getElem?_getD]; simp at this; rw [this]; rfl
    have hk1 : kTab.drop (t + 1) = l := by rw [← List.drop_drop, hk]; rfl
    have := fgo_run ws hl s l (t + 1) (by simp at ht; omega) hk1
    rw [fgo_cons, ← this]
    have hw : wNext (wAt ws (t + 14)) (wAt ws (t + 9)) (wAt ws (t + 1)) (wAt ws t) = wAt ws (t + 1 + 15) := by rw [show t + 1 + 15 = 16 + t from by omega, wAt_hi ws hl t]
    have hr : rnds ws s (t + 1) = rnd (rnds ws s t) k (wAt ws t) := by show rnd _ (kTab.getD t 0) _ = _; rw [hk0]
    rw [hw, hr]
    rfl
theorem at16 (f : Nat → Nat) : ∀ j, j < 16 → f j = [f 0, f 1, f 2, f 3, f 4, f 5, f 6, f 7, f 8, f 9, f 10, f 11, f 12, f 13, f 14, f 15].getD j 0
  | 0, _ => rfl
  | 1, _ => rfl
  | 2, _ => rfl
  | 3, _ => rfl
  | 4, _ => rfl
  | 5, _ => rfl
  | 6, _ => rfl
  | 7, _ => rfl
  | 8, _ => rfl
  | 9, _ => rfl
  | 10, _ => rfl
  | 11, _ => rfl
  | 12, _ => rfl
  | 13, _ => rfl
  | 14, _ => rfl
  | 15, _ => rfl
  | n + 16, h => absurd h (by omega)
theorem list16 (ws : List Nat) (hl : ws.length = 16) : ws = [wAt ws 0, wAt ws 1, wAt ws 2, wAt ws 3, wAt ws 4, wAt ws 5, wAt ws 6, wAt ws 7, wAt ws 8, wAt ws 9, wAt ws 10, wAt ws 11, wAt ws 12, wAt ws 13, wAt ws 14, wAt ws 15] := by
  refine list_ext_N (by rw [hl]; rfl) (fun j hj => ?_)
  rw [hl] at hj
  rw [← wAt_lo ws hl j hj]
  exact at16 (wAt ws) j hj
theorem fblk_lit (a b c d e f g h w0 w1 w2 w3 w4 w5 w6 w7 w8 w9 w10 w11 w12 w13 w14 w15 : Nat) : fblk [a, b, c, d, e, f, g, h] [w0, w1, w2, w3, w4, w5, w6, w7, w8, w9, w10, w11, w12, w13, w14, w15] = List.zipWith (fun x y => fz (Nat.mod (Nat.add x y) 4294967296) id) [a, b, c, d, e, f, g, h] (fgo a b c d e f g h w0 w1 w2 w3 w4 w5 w6 w7 w8 w9 w10 w11 w12 w13 w14 w15 kTab) := rfl
theorem zip_add (v r : H8) : List.zipWith (fun x y => fz (Nat.mod (Nat.add x y) 4294967296) id) [v.a, v.b, v.c, v.d, v.e, v.f, v.g, v.h] r.list = (addV v r).list := by
  simp only [fz_eq]
  rfl
theorem fblk_eq (v : H8) (ws : List Nat) (hl : ws.length = 16) : fblk v.list ws = (blk v ws).list := by
  have h := fgo_run ws hl v kTab 0 rfl rfl
  simp only [Nat.zero_add] at h
  have h' : fgo v.a v.b v.c v.d v.e v.f v.g v.h (wAt ws 0) (wAt ws 1) (wAt ws 2) (wAt ws 3) (wAt ws 4) (wAt ws 5) (wAt ws 6) (wAt ws 7) (wAt ws 8) (wAt ws 9) (wAt ws 10) (wAt ws 11) (wAt ws 12) (wAt ws 13) (wAt ws 14) (wAt ws 15) kTab = (rnds ws v 64).list := h
  have e : fblk v.list ws = fblk [v.a, v.b, v.c, v.d, v.e, v.f, v.g, v.h] [wAt ws 0, wAt ws 1, wAt ws 2, wAt ws 3, wAt ws 4, wAt ws 5, wAt ws 6, wAt ws 7, wAt ws 8, wAt ws 9, wAt ws 10, wAt ws 11, wAt ws 12, wAt ws 13, wAt ws 14, wAt ws 15] := by rw [← list16 ws hl]; rfl
  rw [e, fblk_lit, h', zip_add]
  rfl
/-- Each number of a list is reckoned out ahead of what hangs on them. -/
def fzl {α : Type} (l : List Nat) (k : List Nat → α) : α :=
  match l with
  | [] => k []
  | x :: l => fz x fun y => fzl l fun r => k (y :: r)
theorem fzl_eq {α : Type} : ∀ (l : List Nat) (k : List Nat → α), fzl l k = k l
  | [], k => rfl
  | x :: l, k => by rw [fzl, fz_eq, fzl_eq l]
def fbeh (v : List Nat) (bs : List Int) : Nat → List Nat
  | 0 => v
  | k + 1 => fzl (fbeh v bs k) fun v' => fzl (wordsAt bs k) fun ws => fblk v' ws
theorem fbeh_eq (v : H8) (bs : List Int) : ∀ k, fbeh v.list bs k = (behindTo v bs k).list
  | 0 => rfl
  | k + 1 => by rw [fbeh, fzl_eq, fzl_eq, fbeh_eq v bs k, fblk_eq _ _ (wordsAt_len bs k)]; rfl
theorem h8_ext {v r : H8} (h : v.list = r.list) : v = r := by
  obtain ⟨a, b, c, d, e, f, g, i⟩ := v
  obtain ⟨a', b', c', d', e', f', g', i'⟩ := r
  simp only [H8.list, List.cons.injEq] at h
  obtain ⟨rfl, rfl, rfl, rfl, rfl, rfl, rfl, rfl, _⟩ := h
  rfl
/-- The tag of a message whose numbers are reckoned. -/
theorem sha_of (bs : List Int) (k : Nat) (hk : (bs ++ padZ bs.length).length / 64 = k) (r : H8) (h : fbeh h0.list (bs ++ padZ bs.length) k = r.list) : shaZ bs = tagZ r := by
  unfold shaZ behind
  rw [hk]
  rw [fbeh_eq] at h
  rw [h8_ext h]
end Go.Proofs.YtcihbkdpkhhhcaaDoor.Sha
