/- A disk that a law makes, and its calls, one behind the other. -/
import Derived.Test.YtlbmhkccmclmfaaDCut
namespace Go.Proofs.Ytlbmhkccmclmfaa
open Go.ChangeShapes Go.WideShapes Go.ChangeAt Go.RowKit
set_option linter.unusedVariables false
/-- Since w0 a disk was made that lies in new blocks; what stood there stands. -/
def At (w0 w : World) (b : Nat) (s : DiskZ) : Prop := ∃ K, Dk w b K s ∧ (∀ k, K k → w0.heap.size ≤ k) ∧ Below w0.heap.size w0 w
section
variable {w0 w w' : World} {b : Nat} {s s' : DiskZ} {x : Int}
theorem At.bel (h : At w0 w b s) : Below w0.heap.size w0 w := by obtain ⟨K, _, _, h⟩ := h; exact h
theorem At.below (h : At w0 w b s) (hb : Below w.heap.size w w') : At w0 w' b s := by
  obtain ⟨K, h1, h2, h3⟩ := h
  exact ⟨K, h1.below hb (Nat.le_refl _), h2, h3.trans (hb.mono h3.size)⟩
theorem At.alloc (h : At w0 w b s) (o : Obj) : At w0 (w.alloc o) b s := h.below ((Below.refl _ _).alloc (Nat.le_refl _) _)
theorem At.drewN (h : At w0 w b s) (n : Nat) : At w0 (w.drewN n) b s := h.below ⟨rfl, rfl, rfl, Nat.le_refl _, fun _ _ => rfl⟩
theorem At.quiet (h : At w0 w b s) (hq : ∃ n, w' = w.drewN n) : At w0 w' b s := by
  obtain ⟨n, rfl⟩ := hq
  exact h.drewN n
theorem at_did {e : Ending} (K : Nat → Prop) (h2 : ∀ k, K k → w0.heap.size ≤ k) (h3 : Below w0.heap.size w0 w) (h : Did w b K (x, s') e w') : e = .returned (.int .i64 x) ∧ At w0 w' b s' := by
  obtain ⟨rfl, K', h4, h5, h6⟩ := h
  exact ⟨rfl, K', h4, fun k hk => (h6 k hk).elim (h2 k) (fun e => Nat.le_trans h3.size e), h3.trans (h5.below h3.size h2)⟩
theorem at_new (w : World) : Calls Try.prog 9 #[] w (fun e w' => e = .returned (.pointer (some ⟨w.heap.size, 0, none⟩)) ∧ At w w' w.heap.size ⟨true, [], []⟩) :=
  (newdisk_any w).mono fun e w' ⟨h1, h2, h3, h4⟩ => ⟨h1, _, h4, fun k hk => (by omega), h2⟩
theorem at_write {B n : Nat} {A : Option Addr} (c : Nat) {zs : List Int} (h : At w0 w b s) (hr : dWrite s zs = (x, s')) (hz : Bs w B A n zs) (hB : B ≤ w.heap.size) (hn : n ≤ 1000000) (hs : Small s) :
    Calls Try.prog 16 #[.pointer (some ⟨b, 0, none⟩), .slice A n c] w (fun e w' => e = .returned (.int .i64 x) ∧ At w0 w' b s') := by
  obtain ⟨K, h1, h2, h3⟩ := h
  exact (write_any c h1 hz hB hn hs).mono fun e w' h => by rw [hr] at h; exact at_did K h2 h3 h
theorem at_sync (h : At w0 w b s) (hr : dSync s = (x, s')) (hs : Small s) :
    Calls Try.prog 17 #[.pointer (some ⟨b, 0, none⟩)] w (fun e w' => e = .returned (.int .i64 x) ∧ At w0 w' b s') := by
  obtain ⟨K, h1, h2, h3⟩ := h
  exact (sync_any h1 hs).mono fun e w' h => by rw [hr] at h; exact at_did K h2 h3 h
theorem at_start (h : At w0 w b s) (hr : dStart s = (x, s')) :
    Calls Try.prog 19 #[.pointer (some ⟨b, 0, none⟩)] w (fun e w' => e = .returned (.int .i64 x) ∧ At w0 w' b s') := by
  obtain ⟨K, h1, h2, h3⟩ := h
  exact (start_any h1).mono fun e w' h => by rw [hr] at h; exact at_did K h2 h3 h
theorem at_crash (keep torn : Int) (h : At w0 w b s) (hr : dCrash s keep torn = (x, s')) (hs : Small s) (k1 : -9223372036854775808 ≤ keep ∧ keep ≤ 9223372036854775807) (k2 : -9223372036854775808 ≤ torn ∧ torn ≤ 9223372036854775807) :
    Calls Try.prog 18 #[.pointer (some ⟨b, 0, none⟩), .int .i64 keep, .int .i64 torn] w (fun e w' => e = .returned (.int .i64 x) ∧ At w0 w' b s') := by
  obtain ⟨K, h1, h2, h3⟩ := h
  exact (crash_any keep torn h1 hs k1 k2).mono fun e w' h => by rw [hr] at h; exact at_did K h2 h3 h
theorem at_cut (n : Int) (h : At w0 w b s) (hr : dCut s n = (x, s')) (hs : Small s) :
    Calls Try.prog 20 #[.pointer (some ⟨b, 0, none⟩), .int .i64 n] w (fun e w' => e = .returned (.int .i64 x) ∧ At w0 w' b s') := by
  obtain ⟨K, h1, h2, h3⟩ := h
  exact (cut_any n h1 hs).mono fun e w' h => by rw [hr] at h; exact at_did K h2 h3 h
theorem at_bytes (h : At w0 w b s) (hs : Small s) : Calls Try.prog 10 #[.pointer (some ⟨b, 0, none⟩)] w (fun e w' => ∃ A c, e = .returned (.slice A (allZ s).length c) ∧ Bs w' w'.heap.size A (allZ s).length (allZ s) ∧ w'.ownsRow w.heap.size 5 1 (.slice A (allZ s).length c) (allZ s).length (vals (allZ s)) ∧ (allZ s).length ≤ c ∧ c ≤ maxLen ∧ Below w.heap.size w w' ∧ At w0 w' b s) := by
  have hA := h
  obtain ⟨K, h1, h2, h3⟩ := h
  have hb := allZ_bytes h1
  refine (bytes_any h1 hs).mono fun e w' ⟨A, c, h4, h5, h6, h7, h8⟩ => ⟨A, c, h4, bs_of_own h5 hb, h5, h7, h8, h6, hA.below h6⟩
theorem at_synced (h : At w0 w b s) : Calls Try.prog 12 #[.pointer (some ⟨b, 0, none⟩)] w (fun e w' => e = .returned (.int .i64 (s.zs.length : Nat)) ∧ w = w') := by
  obtain ⟨K, h1, _⟩ := h; exact synced_any h1
theorem at_writes (h : At w0 w b s) : Calls Try.prog 13 #[.pointer (some ⟨b, 0, none⟩)] w (fun e w' => e = .returned (.int .i64 (s.ws.length : Nat)) ∧ w = w') := by
  obtain ⟨K, h1, _⟩ := h; exact writes_any h1
theorem at_up (h : At w0 w b s) : Calls Try.prog 14 #[.pointer (some ⟨b, 0, none⟩)] w (fun e w' => e = .returned (.bool s.up) ∧ w = w') := by
  obtain ⟨K, h1, _⟩ := h; exact up_any h1
end
end Go.Proofs.Ytlbmhkccmclmfaa
