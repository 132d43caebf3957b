/- A link's own tag, as the program's Hash tells it. -/
import Derived.Test.YtkaojhcmdichfaaDoorAuN
import Derived.Test.YtkaojhcmdichfaaDoorB3
namespace Go.Proofs.YtkaojhcmdichfaaDoor
open Go.ChangeShapes Go.WideShapes Go.ChangeAt Go.RowKit
set_option linter.unusedVariables false
set_option linter.unusedSimpArgs false
open Plain Sha Au
/-- A new tag's cells. -/
theorem z32A : (#[.int .u8 0, .int .u8 0, .int .u8 0, .int .u8 0, .int .u8 0, .int .u8 0, .int .u8 0, .int .u8 0, .int .u8 0, .int .u8 0, .int .u8 0, .int .u8 0, .int .u8 0, .int .u8 0, .int .u8 0, .int .u8 0, .int .u8 0, .int .u8 0, .int .u8 0, .int .u8 0, .int .u8 0, .int .u8 0, .int .u8 0, .int .u8 0, .int .u8 0, .int .u8 0, .int .u8 0, .int .u8 0, .int .u8 0, .int .u8 0, .int .u8 0, .int .u8 0] : Array Value) = (vals (List.replicate 32 0)).toArray := rfl
/-- A tag is handed back; what was stands. -/
def TagA (w : World) (T : List Int) (e : Ending) (w' : World) : Prop := e = .returned (.agg (vals T).toArray) ∧ Below w.heap.size w w'
theorem bytesZ_bytes {g : LinkZ} (h : LOk g) : IsBytes (bytesZ g) := (numsB_bytes _).app h.H
set_option maxRecDepth 100000 in
set_option maxHeartbeats 4000000 in
theorem ahash_any {w : World} {g : LinkZ} (hg : LOk g) (hF : LaidF w) (hK : LaidK w) :
    Calls Tryd.prog 9 #[.agg (lc g).toArray] w (TagA w (hashZ g)) := by
  obtain ⟨T, hT⟩ : ∃ T, hashZ g = T := ⟨_, rfl⟩
  have lT : Hid (T.length = 32) := Lib.hid (by rw [← hT]; exact hashZ_len _)
  have HT : Hid (shaZ (numsB (nums g) ++ g.H) = T) := Lib.hid hT
  have HL : Hid ((numsB (nums g) ++ g.H).length = 88) := Lib.hid (bytesZ_len g)
  have HY : Hid (IsBytes (numsB (nums g) ++ g.H)) := Lib.hid (bytesZ_bytes hg)
  have HL7 : Hid ((numsB (nums g)).length = 56) := Lib.hid (by rw [numsB_len, nums_len])
  have HNI := Lib.hid (nums_in hg)
  obtain ⟨W2, hW2⟩ : ∃ W, W = (w.alloc (.cells (lc g).toArray 26)).alloc (.cells (vals (List.replicate 32 0)).toArray 24) := ⟨_, rfl⟩
  have s2 : W2.heap.size = w.heap.size + 2 := by rw [hW2]; simp
  have b2 : Below w.heap.size w W2 := by rw [hW2]; exact ((Below.refl _ _).alloc (Nat.le_refl _) _).alloc (by simp) _
  have x2 : LBox W2 w.heap.size g := by rw [hW2]; exact (lbox_new w g _ _ rfl).grow ((Below.refl _ _).alloc (Nat.le_refl _) _)
  have t2 : W2.there (w.heap.size + 1) 0 32 := by
    have := (Row8.new (w.alloc (.cells (lc g).toArray 26)) (List.replicate 32 0) 24).there
    rw [show (w.alloc (.cells (lc g).toArray 26)).heap.size = w.heap.size + 1 by simp] at this
    rw [hW2]; simpa using this
  have HC : Hid (∀ W, Below W2.heap.size W2 W → (W.cell? ⟨w.heap.size, 0, none⟩ = some (.int .i64 g.n) ∧ W.cell? ⟨w.heap.size, 1, none⟩ = some (.int .i64 g.st) ∧ W.cell? ⟨w.heap.size, 2, none⟩ = some (.int .u8 g.op) ∧ W.cell? ⟨w.heap.size, 3, none⟩ = some (.int .i64 g.tn) ∧ W.cell? ⟨w.heap.size, 4, none⟩ = some (.int .i64 g.a) ∧ W.cell? ⟨w.heap.size, 5, none⟩ = some (.int .i64 g.b) ∧ W.cell? ⟨w.heap.size, 6, none⟩ = some (.int .i64 g.c)) ∧ W.there (w.heap.size + 1) 0 32) := Lib.hid (fun W hW =>
    ⟨range_nums (x2.grow hW).range, there_same t2 (hW.block _ (by omega))⟩)
  have ZH : Hid (∀ W, Below W2.heap.size W2 W → Bs W W2.heap.size (some ⟨w.heap.size, 7, none⟩) 32 g.H) := Lib.hid (fun W hW => (bs_H (x2.grow hW).range hg (by omega)))
  have HF2 := Lib.hid (hF.below b2 hF.lt)
  have HK2 := Lib.hid (hK.below b2 hK.lt)
  have HB2 := Lib.hid b2
  have HW2 := Lib.hid hW2
  have hop0 := hg.op.1
  have hop1 := hg.op.2
  have s2' := Lib.hid s2
  have HN7 : Hid ((nums g).length = 7) := Lib.hid rfl
  have e57 : Hid (iva (nums g) = [.int .i64 g.n, .int .i64 g.st, .int .i64 g.op, .int .i64 g.tn, .int .i64 g.a, .int .i64 g.b, .int .i64 g.c]) := Lib.hid rfl
  have sl : w.heap.size < W2.heap.size := by omega
  clear hT hg hF hK hW2 b2 x2 t2 s2
  rw [show hashZ g = T from HT.out]
  generalize nums g = ns at *
  generalize g.n = n0 at *
  generalize g.st = n1 at *
  generalize g.op = n2 at *
  generalize g.tn = n3 at *
  generalize g.a = n4 at *
  generalize g.b = n5 at *
  generalize g.c = n6 at *
  generalize g.H = H at *
  go_enter Tryd.func9, Tryd.ntmps9
  go_upto_region 1 with fail
  simp only [z32A]
  rw [← HW2.out]
  have gW : IntKind.i64.wrap n2 = n2 := by rw [IntKind.wrap_i64]; omega
  have NU : Hid (∀ W : World, Below W2.heap.size W2 W → W.heap.size = W2.heap.size → Calls Tryd.prog 20 #[.slice (some ⟨W2.heap.size, 0, none⟩) 7 7] ((W.alloc (.cells #[.int .i64 n0, .int .i64 n1, .int .i64 n2, .int .i64 n3, .int .i64 n4, .int .i64 n5, .int .i64 n6] 3)).drew) (fun e w' => ∃ D c, e = .returned (.slice D 56 c) ∧ Bs w' w'.heap.size D 56 (numsB ns) ∧ Below W2.heap.size W2 w' ∧ W2.heap.size < w'.heap.size)) := Lib.hid (fun W hW hs => by
    have hr : W.alloc (.cells #[.int .i64 n0, .int .i64 n1, .int .i64 n2, .int .i64 n3, .int .i64 n4, .int .i64 n5, .int .i64 n6] 3) = W.alloc (.cells (iva ns).toArray 3) := by rw [e57.out]
    rw [hr]
    have hns := ns_newA W ns 7 HN7.out HNI.out 3 W2.heap.size hs
    refine (numbers_any (w := (W.alloc (.cells (iva ns).toArray 3)).drew) (B := W2.heap.size + 1) 7 ⟨hns.len, hns.rng, hns.row⟩ (by show _ ≤ (W.alloc (.cells (iva ns).toArray 3)).heap.size; simp; omega) (by omega)).mono ?_
    intro e w' hm
    obtain ⟨D, c, rfl, ho, hb, _, _⟩ := hm.n HL7.out
    refine ⟨D, c, rfl, Made.bs ho (numsB_bytes _), ((hW.alloc hW.size _).drew).trans (hb.mono (by show _ ≤ (W.alloc (.cells (iva ns).toArray 3)).heap.size; simp; omega)), ?_⟩
    have := hb.size
    have h2 : (W.alloc (.cells (iva ns).toArray 3)).drew.heap.size = W.heap.size + 1 := by show (W.alloc (.cells (iva ns).toArray 3)).heap.size = _; simp
    omega)
  clear e57
  have hu := Tryd.underlying24
  have hi := tag_size T lT.out
  have hl32 : (vals T).length = 32 := by rw [vals_len, lT.out]
  have h1c := vals_one T
  go_region_held3 (fun W => (W.cell? ⟨w.heap.size, 0, none⟩ = some (.int .i64 n0) ∧ W.cell? ⟨w.heap.size, 1, none⟩ = some (.int .i64 n1) ∧ W.cell? ⟨w.heap.size, 2, none⟩ = some (.int .u8 n2) ∧ W.cell? ⟨w.heap.size, 3, none⟩ = some (.int .i64 n3) ∧ W.cell? ⟨w.heap.size, 4, none⟩ = some (.int .i64 n4) ∧ W.cell? ⟨w.heap.size, 5, none⟩ = some (.int .i64 n5) ∧ W.cell? ⟨w.heap.size, 6, none⟩ = some (.int .i64 n6)) ∧ W.there (w.heap.size + 1) 0 32)
    (first
      | (exact HC.out _ (Below.refl _ _).drew)
      | (exact HC.out _ ((Below.refl _ _).drew.alloc (Nat.le_refl _) _))
      | (exact HC.out _ ((Below.refl _ _).alloc (Nat.le_refl _) _).drew)
      | (exact ⟨⟨(World.cell?_setCells_out _ _ _ _ _ (fun h => absurd h (by simp))).trans (HC.out _ B8.out).1.1, (World.cell?_setCells_out _ _ _ _ _ (fun h => absurd h (by simp))).trans (HC.out _ B8.out).1.2.1, (World.cell?_setCells_out _ _ _ _ _ (fun h => absurd h (by simp))).trans (HC.out _ B8.out).1.2.2.1, (World.cell?_setCells_out _ _ _ _ _ (fun h => absurd h (by simp))).trans (HC.out _ B8.out).1.2.2.2.1, (World.cell?_setCells_out _ _ _ _ _ (fun h => absurd h (by simp))).trans (HC.out _ B8.out).1.2.2.2.2.1, (World.cell?_setCells_out _ _ _ _ _ (fun h => absurd h (by simp))).trans (HC.out _ B8.out).1.2.2.2.2.2.1, (World.cell?_setCells_out _ _ _ _ _ (fun h => absurd h (by simp))).trans (HC.out _ B8.out).1.2.2.2.2.2.2⟩, World.there_setCells (HC.out _ B8.out).2 _ _ _⟩)
      | (exact HC.out _ B8.out)
      | (exact HC.out _ B7.out)
      | (exact HC.out _ (B6.out.alloc B6.out.size _))
      | (exact HC.out _ B6.out))
    ((first
      | (go_at_call 20; refine (NU.out _ (Below.refl _ _) rfl).mono ?_; rintro e w6 ⟨D6, c6, rfl, z6, b6, s6⟩; have B6 := Lib.hid b6; have Z6 := Lib.hid z6; clear b6 z6)
      | (go_at_call 19; refine (cat2_any (w := w6) c6 32 45 Z6.out ((ZH.out _ B6.out).more (by omega)) (Nat.le_refl _) (Nat.le_refl _) (by omega) 2 _ rfl).mono ?_; intro e w7 hm7; obtain ⟨D7, c7, rfl, ho7, hb7, _, _⟩ := hm7.n HL.out; have B7 := Lib.hid ((B6.out.alloc B6.out.size _).trans (hb7.mono (by have := B6.out.size; simp; omega))); have Z7 := Lib.hid (Made.bs ho7 HY.out); clear hm7 ho7 hb7)
      | (go_at_call 18; refine (sumB_any c7 Z7.out (Nat.le_refl _) (by omega) (HF2.out.below B7.out HF2.out.lt) (HK2.out.below B7.out HK2.out.lt)).mono ?_; rw [HT.out]; rintro e w8 ⟨rfl, b8⟩; have B8 := Lib.hid (B7.out.trans (b8.mono B7.out.size)); clear b8)))
  have g8 := (HC.out _ B8.out).2
  have R9 := Lib.hid (World.rangeAt_setCells_same w8 (w.heap.size + 1) 0 (vals T) (by rw [hl32]; exact g8))
  have q9 := Lib.hid (below_setCells (B := w.heap.size) (b := w.heap.size + 1) (by omega) (vals T) 0 w8 (HB2.out.trans (B8.out.mono HB2.out.size)))
  have hi' := Lib.hid hi
  clear hi hu hl32 h1c g8
  go_wp2
  exact bodyPost_ret (v := .agg (vals T).toArray) (results_mid (p := 2) (ty := 24) rfl _ _ (w.heap.size + 1) 0 (vals T) _ rfl R9.out Tryd.underlying24 rfl hi'.out) rfl ⟨rfl, q9.out⟩
end Go.Proofs.YtkaojhcmdichfaaDoor
