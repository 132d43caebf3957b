/- What stands of each client behind some notes, plain; the places of what was noted last. -/
import Derived.Test.YtlapdocikhjkcaaRpUb
namespace Go.Proofs.Ytlapdocikhjkcaa
open Go.ChangeShapes Go.WideShapes Go.ChangeAt Go.RowKit
set_option linter.unusedVariables false
set_option linter.unusedSimpArgs false
open Plain Sha Au Rp
def clZ (a : Int) : Int := wrap64 ((IntKind.u64.wrap a).tmod 4)
def idZ (a : Int) : Int := 1 + wrap64 ((IntKind.u64.wrap a).tmod 9)
theorem cl_of (a : Int) : ∃ k : Nat, k < 4 ∧ clZ a = (k : Int) := idx_of a 4 (by omega) (by omega)
theorem id_of (a : Int) : ∃ j : Nat, j < 9 ∧ wrap64 ((IntKind.u64.wrap a).tmod 9) = (j : Int) := idx_of a 9 (by omega) (by omega)
theorem ask_of (k j : Nat) (hk : k < 4) (hj : j < 9) : askB (k : Int) (1 + (j : Int)) = true := askB_iff.2 ⟨by omega, by omega, by omega, by omega⟩
/-- Behind k notes: the table; of each client the place behind that of its last note, 0 if there is none. -/
structure Inv (l : List LX) (k : Nat) (LT : List LX) (P : Nat → Nat) : Prop where
  may : mayG LX.c LX.id LT = true
  kn : ∀ y, y ∈ LT → y.r.ks.length ≤ 20
  le : ∀ d, d < 4 → P d ≤ k
  at_ : ∀ (d p : Nat) (x : LX), d < 4 → P d = p + 1 → l[p]? = some x → findG LastZ.c (LT.map LX.z) (d : Int) = some ⟨(d : Int), idZ x.id, x.r.z⟩
theorem inv_zero (l : List LX) : Inv l 0 [] (fun _ => 0) := ⟨rfl, fun y hy => by simp at hy, fun d _ => Nat.le_refl _, fun d p x _ h => by cases h⟩
theorem inv_stay {l : List LX} {k : Nat} {LT : List LX} {P : Nat → Nat} (h : Inv l k LT P) : Inv l (k + 1) LT P := ⟨h.may, h.kn, fun d hd => Nat.le_succ_of_le (h.le d hd), h.at_⟩
theorem mem_ins {x y : LastZ} {l : List LastZ} (h : y ∈ insG LastZ.c x l) : y = x ∨ y ∈ l := by
  unfold insG at h
  rcases List.mem_append.1 h with h | h
  · exact .inr ((List.takeWhile_sublist _).subset h)
  · rcases List.mem_cons.1 h with h | h
    · exact .inl h
    · exact .inr ((List.dropWhile_sublist _).subset h)
theorem inv_step {l : List LX} {k c j : Nat} {LT L8 : List LX} {P : Nat → Nat} {x : LX} (h : Inv l k LT P) (hx : l[k]? = some x) (hc : c < 4) (hj : j < 9) (hid : idZ x.id = 1 + (j : Int)) (hkn : x.r.ks.length ≤ 20) (hz : L8.map LX.z = insG LastZ.c ⟨(c : Int), 1 + (j : Int), x.r.z⟩ (LT.map LX.z)) :
    Inv l (k + 1) L8 (fun d => if d = c then k + 1 else P d) := by
  have hm : mayG LastZ.c LastZ.id (LT.map LX.z) = true := by rw [may_z]; exact h.may
  have hr := hm
  rw [may_rise] at hr
  refine ⟨?_, fun y hy => ?_, fun d hd => ?_, fun d p x' hd hp hx' => ?_⟩
  · rw [← may_z, hz]
    exact ins_may (ask_of c j hc hj) hm
  · have hyz : y.z ∈ L8.map LX.z := List.mem_map_of_mem hy
    rw [hz] at hyz
    rcases mem_ins hyz with e | e
    · have e2 : y.r.ks = x.r.ks := congrArg (fun z => z.r.ks) e
      rw [e2]; exact hkn
    · obtain ⟨y', hy', ey⟩ := List.mem_map.1 e
      have e2 : y'.r.ks = y.r.ks := congrArg (fun z => z.r.ks) ey
      rw [← e2]; exact h.kn y' hy'
  · by_cases e : d = c
    · simp [e]
    · simp only [if_neg e]
      exact Nat.le_succ_of_le (h.le d hd)
  · rw [hz, ins_find (I := LastZ.id) (d : Int) hr]
    by_cases e : d = c
    · subst e
      simp only [if_true] at hp
      obtain rfl : p = k := by omega
      rw [hx] at hx'
      injection hx' with hx'
      subst hx'
      rw [if_pos rfl, hid]
    · simp only [if_neg e] at hp
      rw [if_neg (show ¬ ((c : Int) = (d : Int)) by omega)]
      exact h.at_ d p x' hd hp hx'
theorem inv_last {l : List LX} {k d p : Nat} {LT : List LX} {P : Nat → Nat} {x : LX} (h : Inv l k LT P) (hd : d < 4) (hp : P d = p + 1) (hx : l[p]? = some x) : (lastX LT (d : Int)).id = idZ x.id ∧ (lastX LT (d : Int)).r.z = x.r.z := by
  have h1 := last_z LT (d : Int)
  rw [h.at_ d p x hd hp hx] at h1
  exact ⟨congrArg LastZ.id h1, congrArg LastZ.r h1⟩
theorem inv_ask {l : List LX} {k d p j : Nat} {LT : List LX} {P : Nat → Nat} {x : LX} (h : Inv l k LT P) (hd : d < 4) (hp : P d = p + 1) (hx : l[p]? = some x) (hj : j < 9) (hid : idZ x.id = 1 + (j : Int)) : askQ LT (d : Int) (1 + (j : Int)) = (x.r.z, true, 0) := by
  obtain ⟨h1, h2⟩ := inv_last h hd hp hx
  unfold askQ
  rw [h.may, ask_of d j hd hj, h1, hid, h2]
  simp
theorem note_last {LT L8 : List LX} {c j : Nat} {r : RepZ} (hm : mayG LX.c LX.id LT = true) (hz : L8.map LX.z = insG LastZ.c ⟨(c : Int), 1 + (j : Int), r⟩ (LT.map LX.z)) : (lastX L8 (c : Int)).id = 1 + (j : Int) := by
  have h1 := last_z L8 (c : Int)
  have hr : mayG LastZ.c LastZ.id (LT.map LX.z) = true := by rw [may_z]; exact hm
  rw [may_rise] at hr
  rw [hz, ins_find (I := LastZ.id) (c : Int) hr, if_pos rfl] at h1
  exact congrArg LastZ.id h1
/-- The four places stand in block b. -/
def AR (w : World) (b : Nat) (P : Nat → Nat) : Prop := ∀ d, d < 4 → w.cell? ⟨b, d, none⟩ = some (.int .i64 (P d : Nat)) ∧ w.frozen? ⟨b, d, none⟩ = false
theorem AR.below {w w' : World} {B b : Nat} {P : Nat → Nat} (h : AR w b P) (hb : Below B w w') (hlt : b < B) : AR w' b P := fun d hd => by
  have e := hb.block b hlt
  rw [World.cell?_of_block (a := ⟨b, d, none⟩) e, World.frozen?_of_block (a := ⟨b, d, none⟩) e]
  exact h d hd
theorem AR.set {w : World} {b c v : Nat} {P : Nat → Nat} (h : AR w b P) (hc : c < 4) : AR (w.setCell ⟨b, c, none⟩ (.int .i64 (v : Nat))) b (fun d => if d = c then v else P d) := fun d hd => by
  have ht : w.there b 0 4 := fun j hj => ⟨by rw [Nat.zero_add, (h j hj).1]; rfl, by rw [Nat.zero_add]; exact (h j hj).2⟩
  have e : w.setCell ⟨b, c, none⟩ (.int .i64 (v : Nat)) = w.setCells b c [.int .i64 (v : Nat)] := rfl
  have hf := (World.there_setCells ht b c [.int .i64 (v : Nat)] d hd).2
  rw [Nat.zero_add] at hf
  refine ⟨?_, by rw [e]; exact hf⟩
  by_cases hdc : d = c
  · subst hdc
    rw [e]
    show _ = some (Value.int .i64 ((if d = d then v else P d : Nat) : Int))
    rw [if_pos rfl]
    exact World.rangeAt_setCells_same w b d [.int .i64 (v : Nat)] (there_sub ht (by omega) (by simp; omega)) 0 _ rfl
  · show _ = some (Value.int .i64 ((if d = c then v else P d : Nat) : Int))
    rw [e, if_neg hdc, World.cell?_setCells_out b [.int .i64 (v : Nat)] c w ⟨b, d, none⟩ (fun _ _ => by
      show d < c ∨ c + 1 ≤ d
      omega)]
    exact (h d hd).1
theorem ar_new (w : World) (t : TypeId) : AR (w.alloc (.cells #[.int .i64 0, .int .i64 0, .int .i64 0, .int .i64 0] t)) w.heap.size (fun _ => 0) := fun d hd => by
  have hh := heap_alloc_new w (.cells #[.int .i64 0, .int .i64 0, .int .i64 0, .int .i64 0] t)
  refine ⟨?_, frozen_of_row _ _ _ _ _ hh⟩
  rw [cell_of_row _ _ _ _ _ _ hh]
  match d, hd with
  | 0, _ => rfl
  | 1, _ => rfl
  | 2, _ => rfl
  | 3, _ => rfl
theorem t_size (x : LX) : (Try.prog.info? 59).map (·.size) = some (xc x).length := by rw [xc_len]; kernel_rfl
theorem t_sizeA (x : LX) : (Try.prog.info? 59).map (·.size) = some (xc x).toArray.size := by rw [List.size_toArray]; exact t_size x
theorem zTk (w : World) : (zeroValue 59).run Try.prog w = .ok (.agg zX) w := by
  obtain ⟨i, hi, hz, hs, hb⟩ := info_parts (show (Try.prog.info? 59).map (fun i => (i.zero, i.size, i.bytes)) = some (some (.agg (xc x0).toArray), 77, 192) by kernel_rfl)
  simp [zeroValue, run_typeInfo w hi, hz, zX]
end Go.Proofs.Ytlapdocikhjkcaa
