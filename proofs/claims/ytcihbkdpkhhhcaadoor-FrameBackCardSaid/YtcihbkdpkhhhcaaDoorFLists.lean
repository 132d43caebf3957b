/- Two lists of lists of bytes that are the same. -/
import Derived.Test.YtcihbkdpkhhhcaaDoorFRefAll
namespace Go.Proofs.YtcihbkdpkhhhcaaDoor
open Go.ChangeShapes Go.WideShapes Go.ChangeAt Go.RowKit
set_option linter.unusedVariables false
open Plain Sha
/-- The slice (A, n, c) tells of the pieces ps. -/
structure PieceRow (w : World) (A : Option Addr) (n : Nat) (ps : List Piece) : Prop where
  len : ps.length = n
  cell : ∀ k p, ps[k]? = some p → ∃ b off, A = some ⟨b, off, none⟩ ∧ w.cell? ⟨b, off + k, none⟩ = some (pv p) ∧ Bs w w.heap.size p.A p.n p.zs ∧ p.n ≤ maxLen
theorem pieceRow_of {w : World} {base base2 : Nat} {A : Option Addr} {n c : Nat} {ps : List Piece} (h : w.ownsRow base 22 1 (.slice A n c) n (ps.map pv)) (hp : ∀ p ∈ ps, PieceOk w base2 p) : PieceRow w A n ps := by
  have hl : ps.length = n := by have := h.1; rw [List.length_map] at this; omega
  refine ⟨hl, fun k p hk => ?_⟩
  have hlt : k < ps.length := (List.getElem?_eq_some_iff.1 hk).1
  obtain ⟨g, cap, hv, _, _⟩ := h.form (by omega)
  injection hv with e1 e2 e3
  subst e1; subst e3
  have hc := h.cellAt k (by omega)
  rw [List.getElem?_map, hk] at hc
  have hpk := hp p (List.mem_of_getElem? hk)
  exact ⟨g, 0, rfl, by rw [Nat.zero_add]; exact hc, bs_of_own hpk.own hpk.bytes, Nat.le_trans hpk.cap hpk.max⟩
set_option maxRecDepth 100000 in
set_option maxHeartbeats 2000000 in
theorem reflists_any {w : World} {A1 A2 : Option Addr} {n1 n2 : Nat} (c1 c2 : Nat) {ps1 ps2 : List Piece} (h1 : PieceRow w A1 n1 ps1) (h2 : PieceRow w A2 n2 ps2) (hn : n1 ≤ 1000000000) (he : ps1.map (·.zs) = ps2.map (·.zs)) :
    Calls Tryd.prog 17 #[.slice A1 n1 c1, .slice A2 n2 c2] w (Quiet (.bool true) w) := by
  have hn2 : n1 = n2 := by rw [← h1.len, ← h2.len]; have := congrArg List.length he; simpa using this
  subst hn2
  have H1 := Lib.hid h1
  have H2 := Lib.hid h2
  have HE := Lib.hid he
  clear h1 h2 he
  go_enter Tryd.func17, Tryd.ntmps17
  go_wp2
  go_loopw [5] (fun i wr => ∃ k m : Nat, k ≤ n1 ∧ i = .int .i64 (k : Int) ∧ wr = w.drewN m) (fun i _ => n1 - (intOf i).toNat)
  case atStart => exact ⟨0, 0, by omega, rfl, rfl⟩
  case round =>
    obtain ⟨k, m, hk, rfl, rfl⟩ := hrel
    by_cases hlt : k < n1
    · obtain ⟨p, hp⟩ : ∃ p, ps1[k]? = some p := ⟨_, List.getElem?_eq_getElem (by rw [H1.out.len]; exact hlt)⟩
      obtain ⟨q, hq⟩ : ∃ q, ps2[k]? = some q := ⟨_, List.getElem?_eq_getElem (by rw [H2.out.len]; exact hlt)⟩
      obtain ⟨b1, o1, rfl, e1, z1, m1⟩ := H1.out.cell k p hp
      obtain ⟨b2, o2, rfl, e2, z2, m2⟩ := H2.out.cell k q hq
      have hz : p.zs = q.zs := by
        have := congrArg (·[k]?) HE.out
        simpa [List.getElem?_map, hp, hq] using this
      obtain ⟨pA, pn, pc, pz⟩ := p
      obtain ⟨qA, qn, qc, qz⟩ := q
      have hz : pz = qz := hz
      subst hz
      have e1 : w.cell? ⟨b1, o1 + k, none⟩ = some (.slice pA pn pc) := e1
      have e2 : w.cell? ⟨b2, o2 + k, none⟩ = some (.slice qA qn qc) := e2
      have S1 : Hid (∀ W, W = w → Calls Tryd.prog 12 #[.slice pA pn pc, .slice qA qn qc] W (Quiet (.bool true) W)) := Lib.hid (fun W hW => by
        subst hW
        have := refsame_any pc qc z1 z2 m1 m2
        rwa [eqB_self] at this)
      have hkI : (k : Int) < (n1 : Int) := by omega
      have S2 : Hid (∀ x, Calls Tryd.prog 12 #[.slice pA pn pc, .slice qA qn qc] (w.drewN x) (Quiet (.bool true) (w.drewN x))) := Lib.hid (fun x => by
        have := refsame_any pc qc (z1.drewN x) (z2.drewN x) m1 m2
        rwa [eqB_self] at this)
      clear z1 z2 m1 m2 hp hq S1
      go_wp2
      go_region_with ((go_at_call 12; refine (S2.out _).mono ?_; rintro e w9 ⟨rfl, m9, rfl⟩))
      all_goals
        go_wp2
        go_roundw
        case rel => exact ⟨k + 1, _, by omega, by go_num, rfl⟩
        case measure => simp [intOf]; omega
    · obtain rfl : k = n1 := by omega
      go_wp2
      go_ret
      exact ⟨rfl, _, rfl⟩
end Go.Proofs.YtcihbkdpkhhhcaaDoor
