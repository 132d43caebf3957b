/- The walk of WordsLoads: numbers of bytes are the document's. -/
import Derived.Test.YtjkindponhjadaaWords
namespace Go.Proofs.Ytjkindponhjadaa
open Go.ChangeShapes Go.WideShapes Go.ChangeAt Go.RowKit
set_option linter.unusedVariables false
open Plain
theorem wordsLoads_walk (a0 : Option Addr) (len0 cap0 : Nat) (z0 : List Int) (a1 : Int) (w : World) (w0 : IsRow .u8 w a0 len0 cap0 z0) (w1 : (Lit.int .i64 a1).wf = true) :
    Calls Try.prog 4 #[.slice a0 len0 cap0, .int .i64 a1] w fun e w' => e = .returned (.bool true) ∧ Below w.heap.size w w' := by
  obtain ⟨hb, hm, _⟩ := w0.bs
  have HA := Lib.hid (wf_i64 w1)
  generalize z0.take len0 = zs at *
  have hm' : len0 ≤ 9223372036854775807 := by unfold maxLen at hm; omega
  have HM := Lib.hid hm
  clear hm w0 w1
  by_cases hlen : 5000 < len0
  · have : (5000 : Int) < len0 := by omega
    go_enter Try.func4, Try.ntmps4
    go_wp2
    go_ret
    exact ⟨rfl, Below.refl _ _⟩
  · have hlen' : (len0 : Int) ≤ 5000 := by omega
    obtain rfl := hb.len.symm
    have hr := loadZ_range zs a1 4 hb.rng'
    have hr0 : 0 ≤ loadZ zs a1 4 := hr.1
    have hr1 : loadZ zs a1 4 < 4294967296 := by have := hr.2; omega
    clear hr
    go_enter Try.func4, Try.ntmps4
    go_wp2_with (first
      | (go_at_call 15; refine (refcopy_any cap0 hb (Nat.le_refl _) (by omega)).mono ?_; rintro e w1 ⟨A, c, rfl, ho, hbel, _, hc⟩; have hb1 := Lib.hid (Made.bs ho hb.isBytes); have hb2 := Lib.hid (hb.below hbel))
      | (go_at_call 16; refine (load32_any c hb1.out HM.out a1 HA.out).mono ?_; rintro e w2 ⟨rfl, m2, rfl⟩)
      | (go_at_call 17; refine (load64_any c (hb1.out.drewN _) HM.out a1 HA.out).mono ?_; rintro e w2 ⟨rfl, m3, rfl⟩)
      | (go_at_call 18; refine (refloadI_any cap0 (hb2.out.drewN _) HM.out a1 HA.out _ (by omega) (by omega)).mono ?_; rintro e w2 ⟨rfl, m4, rfl⟩)
      | (go_at_call 19; refine (refsame_any c cap0 (hb1.out.drewN _) (hb2.out.drewN _) HM.out HM.out).mono ?_; rw [eqB_self]; rintro e w2 ⟨rfl, m6, rfl⟩))
    go_ret
    exact ⟨rfl, below_drewN hbel _⟩
end Go.Proofs.Ytjkindponhjadaa
