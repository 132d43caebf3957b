/- An act, done with a wal and its disk, and with the document's disk. -/
import Derived.Test.YtjfeepmjebdahaaDoorVRef
import Derived.Test.YtjfeepmjebdahaaDoorActs07
import Derived.Deep.Cut
namespace Go.Proofs.YtjfeepmjebdahaaDoor
open Go.ChangeShapes Go.WideShapes Go.ChangeAt Go.RowKit
set_option linter.unusedVariables false
open Plain Sha
/-- A wal on a disk, and the document's disk, apart from one another. -/
structure Trio (w0 w : World) (b d r : Nat) (K R : Nat → Prop) (s1 s2 : DiskZ) : Prop where
  pair : Pair w0 w d r K R s1 s2
  wal : WalAt w b d K
  far : ¬ R b
  f : LaidF w0
  k : LaidK w0
section
variable {w0 w w1 : World} {b d r : Nat} {K R : Nat → Prop} {s1 s2 : DiskZ} {x : Int × DiskZ} {e : Ending}
theorem Trio.grown (h : Trio w0 w b d r K R s1 s2) : Grown w0 w d K s1 := ⟨⟨h.pair.dk, h.pair.newK, h.pair.bel⟩, h.f, h.k⟩
theorem Trio.below (h : Trio w0 w b d r K R s1 s2) (hb : Below w.heap.size w w1) : Trio w0 w1 b d r K R s1 s2 := ⟨h.pair.below hb, h.wal.below hb, h.far, h.f, h.k⟩
theorem Trio.quiet (h : Trio w0 w b d r K R s1 s2) (hq : ∃ n, w1 = w.drewN n) : Trio w0 w1 b d r K R s1 s2 := by
  obtain ⟨n, rfl⟩ := hq
  exact h.below ⟨rfl, rfl, rfl, Nat.le_refl _, fun _ _ => rfl⟩
theorem Trio.cell {p : Addr} (h : Trio w0 w b d r K R s1 s2) (hK : ¬ K p.block) (hR : ¬ R p.block) (hb : p.block ≠ b) (hp : w0.heap.size ≤ p.block) (v : Value) : Trio w0 (w.setCell p v) b d r K R s1 s2 :=
  ⟨h.pair.far hK hR hp v, h.wal.keep (Below.heap_setCell _ _ _ _ (Ne.symm hb)) h.wal.far, h.far, h.f, h.k⟩
theorem Trio.did (h : Trio w0 w b d r K R s1 s2) (hd : Did w d K x e w1) : e = .returned (.int .i64 x.1) ∧ ∃ K', Trio w0 w1 b d r K' R x.2 s2 ∧ Moved K w w1 ∧ Newer w K K' := by
  obtain ⟨h1, K', h2, h3, h4⟩ := h.pair.did hd
  exact ⟨h1, K', ⟨h2, h.wal.did h3 h4, h.far, h.f, h.k⟩, h3, h4⟩
theorem Trio.rdid (h : Trio w0 w b d r K R s1 s2) (hd : RDid w r R x e w1) : e = .returned (.int .i64 x.1) ∧ ∃ R', Trio w0 w1 b d r K R' s1 x.2 ∧ Moved R w w1 ∧ Newer w R R' := by
  obtain ⟨h1, R', h2, h3, h4⟩ := h.pair.rdid hd
  exact ⟨h1, R', ⟨h2, h.wal.keep (h3.block b h.wal.lt h.far) h.wal.far, fun hb => (h4 b hb).elim h.far (fun e => by have := h.wal.lt; omega), h.f, h.k⟩, h3, h4⟩
end
/-- Each frame is counted as 12 bytes at least. -/
theorem useF_many (bs : List Int) : ∀ (fuel off : Nat), (framesF bs fuel off).length ≤ useZ (framesF bs fuel off)
  | 0, off => by simp [framesF, useZ]
  | fuel + 1, off => by
    cases hf : firstZ (bs.drop off) with
    | none => rw [framesF_no hf]; simp [useZ]
    | some m =>
      rw [framesF_yes hf]
      have := useF_many bs fuel (off + (m + 12))
      have hu : useZ ((off, m) :: framesF bs fuel (off + (m + 12))) = m + 12 + useZ (framesF bs fuel (off + (m + 12))) := by simp [useZ]
      rw [hu, List.length_cons]
      omega
def OneW (w0 : World) (b d r : Nat) (s : DiskZ) (e : Ending) (w' : World) : Prop := e = .returned (.bool true) ∧ ∃ K R, Trio w0 w' b d r K R s s
theorem row_nil (w : World) : PieceRow w none 0 [] := ⟨rfl, fun k p hk => by simp at hk⟩
/-- What becomes of a state by Recover. -/
def recD (s : DiskZ) : DiskZ := if s.up then recS s else s
set_option maxRecDepth 100000 in
set_option maxHeartbeats 2000000 in
theorem recovers_any {w0 w : World} {b d r : Nat} {K R : Nat → Prop} {s : DiskZ} (h : Trio w0 w b d r K R s s) (hs : Small s) :
    Calls Tryd.prog 39 #[.pointer (some ⟨b, 0, none⟩), .pointer (some ⟨r, 0, none⟩)] w (OneW w0 b d r (recD s)) := by
  have H := Lib.hid h
  have HS := Lib.hid hs
  cases hu : s.up with
  | true =>
    have HD : Hid (recD s = recS s) := Lib.hid (by unfold recD; rw [if_pos hu])
    have C1 := Lib.hid (walrecover_up h.wal h.grown hs hu)
    have HRlt := Lib.hid h.pair.rf.lt
    have HU := Lib.hid hu
    have hln : (recsZ (allZ s)).length ≤ (allZ s).length := by
      unfold recsZ
      rw [List.length_map]
      have h1 := useF_many (allZ s) ((allZ s).length + 1) 0
      have h2 := usedZ_le (allZ s)
      unfold usedZ framesZ at h2
      unfold framesZ
      omega
    have HLn : Hid ((recsZ (allZ s)).length ≤ 1000000) := Lib.hid (Nat.le_trans hln hs.bytes)
    clear h hs hu hln
    go_enter Tryd.func39, Tryd.ntmps39
    go_wp2_with fail
    refine C1.out.mono ?_
    rintro e w1 ⟨v1, ps1, K1, rfl, d1, m1, n1, r1⟩
    obtain ⟨h2, K1', h3, h4, h5⟩ : (Ending.returned (.int .i64 0) : Ending) = .returned (.int .i64 0) ∧ ∃ K', Trio w0 w1 b d r K' R (recS s) s ∧ Moved K w w1 ∧ Newer w K K' := H.out.did (x := (0, recS s)) ⟨rfl, K1, d1, m1, n1⟩
    have T1 := Lib.hid h3
    have RR1 : Hid (RecsAt w1 R w.heap.size v1 ps1 (recsZ (allZ s))) := Lib.hid ⟨r1.own, r1.all, r1.zs, fun k hk hR => by have := (r1.own.lt k hk).1; have := HRlt.out k hR; omega, fun p hp k hk hR => by have := ((r1.all p hp).own.lt k hk).1; have := HRlt.out k hR; omega⟩
    obtain ⟨A1, c1, rfl, _, _⟩ := own_shape r1.own
    have e1 : ps1.length = (recsZ (allZ s)).length := by have := congrArg List.length r1.zs; rwa [List.length_map] at this
    rw [e1] at RR1 ⊢
    have C2 := Lib.hid (rrecover_up h3.pair.rf HS.out HU.out)
    obtain ⟨U, hU⟩ : ∃ U : Int, (((allZ s).length - usedZ (allZ s) : Nat) : Int) = U := ⟨_, rfl⟩
    have HUI := Lib.hid hU
    rw [hU]
    clear h2 h3 h4 h5 d1 m1 n1 r1 C1 e1 hU
    go_wp2_with fail
    refine C2.out.mono ?_
    rintro e w2 ⟨v2, ps2, R2, rfl, d2, m2, n2, r2⟩
    obtain ⟨h2, R2', h3, h4, h5⟩ : (Ending.returned (.int .i64 0) : Ending) = .returned (.int .i64 0) ∧ ∃ R', Trio w0 w2 b d r K1' R' (recS s) (recS s) ∧ Moved R w1 w2 ∧ Newer w1 R R' := T1.out.rdid (x := (0, recS s)) ⟨rfl, R2, d2, m2, n2⟩
    have T2 := Lib.hid h3
    have RR2 := RR1.out.keep h4 h5
    obtain ⟨A2, c2, rfl, _, _⟩ := own_shape r2.own
    have e2 : ps2.length = (recsZ (allZ s)).length := by have := congrArg List.length r2.zs; rwa [List.length_map] at this
    rw [e2] at r2 ⊢
    rw [HUI.out]
    have C3 := Lib.hid (reflists_any c1 c2 (RR2.row rfl) (r2.row rfl) (by have := HLn.out; omega) (by rw [RR2.zs, r2.zs]))
    clear h2 h3 h4 h5 d2 m2 n2 r2 RR2 C2 e2
    go_wp2_with fail
    refine C3.out.mono ?_
    rintro e w3 ⟨rfl, hq⟩
    have T3 := Lib.hid (T2.out.quiet hq)
    clear hq C3
    go_wp2
    go_ret
    rw [HD.out]
    exact ⟨rfl, _, _, T3.out⟩
  | false =>
    have HD : Hid (recD s = s) := Lib.hid (by unfold recD; rw [hu]; rfl)
    have C1 := Lib.hid (walrecover_down h.wal h.pair.dk hs hu)
    have HU := Lib.hid hu
    clear h hs hu
    go_enter Tryd.func39, Tryd.ntmps39
    go_wp2_with fail
    refine C1.out.mono ?_
    rintro e w1 ⟨rfl, K1, d1, m1, n1⟩
    obtain ⟨h2, K1', h3, h4, h5⟩ : (Ending.returned (.int .i64 0) : Ending) = .returned (.int .i64 0) ∧ ∃ K', Trio w0 w1 b d r K' R s s ∧ Moved K w w1 ∧ Newer w K K' := H.out.did (x := (0, s)) ⟨rfl, K1, d1, m1, n1⟩
    have T1 := Lib.hid h3
    have C2 := Lib.hid (rrecover_down h3.pair.rf HU.out)
    have C3 := Lib.hid (reflists_any 0 0 (row_nil w1) (row_nil w1) (by omega) rfl)
    clear h2 h3 h4 h5 d1 m1 n1 C1
    go_wp2_with fail
    refine C2.out.mono ?_
    rintro e w2 ⟨rfl, rfl⟩
    go_wp2_with fail
    refine C3.out.mono ?_
    rintro e w3 ⟨rfl, hq⟩
    have T3 := Lib.hid (T1.out.quiet hq)
    clear hq C3
    go_wp2
    go_ret
    rw [HD.out]
    exact ⟨rfl, _, _, T3.out⟩
end Go.Proofs.YtjfeepmjebdahaaDoor
