/- Pieces of a slice of bytes. -/
import Derived.Test.YtlbmhkccmclmfaaMem
import Derived.Test.YtlbmhkccmclmfaaApp
namespace Go.Proofs.Ytlbmhkccmclmfaa
open Go.ChangeShapes Go.WideShapes Go.ChangeAt Go.RowKit
set_option linter.unusedVariables false
theorem sizeOf_u8' (w : World) : (Go.sizeOf 5).run Try.prog w = .ok 1 w := by
  obtain ⟨i, z, hi, hz, hs, hb, _⟩ := u8_info
  simp [Go.sizeOf, typeInfo, hi, hs]
/-- Where a piece of a slice lies. -/
def CutAt (A A' : Option Addr) (lo m : Nat) : Prop := ∀ b off, A = some ⟨b, off, none⟩ → 0 < m → A' = some ⟨b, off + lo, none⟩
theorem cutAt_if (A : Option Addr) (c lo m : Nat) (h : lo + m ≤ c) : CutAt A (if c = lo then A else A.map (·.add (lo * 1))) lo m := by
  intro b off hA hm
  rw [if_neg (by omega), hA]
  simp [Go.WideShapes.add_plain]
theorem cut_lh (A : Option Addr) (n c lo hi : Nat) (l h : Int) (hl : l = lo) (hh : h = hi) (h1 : lo ≤ hi) (h2 : hi ≤ c) :
    ∃ A', (∀ W, (Instr.slice 27 (.slice A n c) (some (.int .i64 l)) (some (.int .i64 h)) none).run Try.prog W = .ok (.slice A' (hi - lo) (c - lo)) W) ∧ CutAt A A' lo (hi - lo) := by
  subst hl hh
  refine ⟨_, fun W => ?_, cutAt_if A c lo (hi - lo) (by omega)⟩
  have he : Try.prog.elem 27 = 5 := by simp [Program.elem, Try.underlying27]
  rw [run_slice_lh W 27 A n c (by rw [he]; exact Try.underlying27) .i64 .i64 _ _ (by omega) (by omega) (by omega), he, sizeOf_u8']
  simp [Result.andThen, sliced]
theorem cut_h (A : Option Addr) (n c hi : Nat) (h : Int) (hh : h = hi) (h2 : hi ≤ c) :
    ∀ W, (Instr.slice 27 (.slice A n c) none (some (.int .i64 h)) none).run Try.prog W = .ok (.slice A hi c) W := by
  subst hh
  intro W
  have he : Try.prog.elem 27 = 5 := by simp [Program.elem, Try.underlying27]
  rw [run_slice_h W 27 A n c (by rw [he]; exact Try.underlying27) .i64 _ (by omega) (by omega), he, sizeOf_u8']
  cases A <;> simp [Result.andThen, sliced, Addr.add]
theorem cut_l (A : Option Addr) (n c lo : Nat) (l : Int) (hl : l = lo) (h1 : lo ≤ n) (h2 : n ≤ c) :
    ∃ A', (∀ W, (Instr.slice 27 (.slice A n c) (some (.int .i64 l)) none none).run Try.prog W = .ok (.slice A' (n - lo) (c - lo)) W) ∧ CutAt A A' lo (n - lo) := by
  subst hl
  refine ⟨_, fun W => ?_, cutAt_if A c lo (n - lo) (by omega)⟩
  have he : Try.prog.elem 27 = 5 := by simp [Program.elem, Try.underlying27]
  rw [run_slice_l W 27 A n c (by rw [he]; exact Try.underlying27) .i64 _ (by omega) (by omega), he, sizeOf_u8']
  simp [Result.andThen, sliced]
end Go.Proofs.Ytlbmhkccmclmfaa
