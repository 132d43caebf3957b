/- The statement RepliesNext: the walk. -/
import Derived.Test.YtlapdocikhjkcaaRpT
namespace Go.Proofs.Ytlapdocikhjkcaa
open Go.ChangeShapes Go.WideShapes Go.ChangeAt Go.RowKit
set_option linter.unusedVariables false
set_option linter.unusedSimpArgs false
open Plain Sha Au Rp
set_option maxRecDepth 100000 in
set_option maxHeartbeats 8000000 in
theorem rpnext_any {w : World} {n c : Nat} {A : Option Addr} {l : List LX} (client id : Int) (h : Las w w.heap.size A n l) (hn : n ≤ 140737488355328) (hk : ∀ x, x ∈ l → x.r.kn ≤ 140737488355328) :
    Calls Try.prog 7 #[.slice A n c, .int .i64 client, .int .i64 id] w (fun e w' => e = .returned (.bool true) ∧ Below w.heap.size w w') := by
  obtain ⟨q, hq⟩ : ∃ q, greatB n l = q := ⟨_, rfl⟩
  have GM := Lib.hid (great_val c q h hn hk hq)
  have AW := Lib.hid (fun V => awake_any V)
  cases q with
  | true =>
    clear h hn hk hq
    go_enter Try.func7, Try.ntmps7
    go_wp2_with (first
      | (go_at_call 8; refine GM.out.mono ?_; rintro e1 w1 ⟨rfl, rfl⟩)
      | (go_at_call 19; refine (AW.out _).mono ?_; rintro e2 w2 ⟨rfl, b2⟩; have B2 := Lib.hid b2; clear b2))
    go_ret
    exact ⟨rfl, B2.out⟩
  | false =>
  obtain ⟨hn20, hk4⟩ := great_no hq
  have TM := Lib.hid (to_any c h (Nat.le_refl _) (by omega) (fun x hx => Nat.le_trans (hk4 x hx) (by omega)))
  have HK4 := Lib.hid (fun (w' : World) (B' : Nat) (l' : List LX) (h' : ∀ x, x ∈ l' → XOk w' B' x) (e : l'.map LX.z = l.map LX.z) => kn_map h.ok h' e hk4)
  obtain ⟨k, hk4', hkc⟩ := idx_of client 4 (by omega) (by omega)
  obtain ⟨j, hj30, hji⟩ := idx_of id 30 (by omega) (by omega)
  have hkc : wrap64 ((IntKind.u64.wrap client).tmod 4) = (k : Int) := hkc
  have hji : wrap64 ((IntKind.u64.wrap id).tmod 30) = (j : Int) := hji
  have HKC := Lib.hid hkc
  have HJI := Lib.hid hji
  have hw1 : IntKind.i64.wrap (1 + (j : Int)) = 1 + (j : Int) := by rw [IntKind.wrap_i64]; omega
  have HASK : Hid (askB (k : Int) (1 + (j : Int)) = true) := Lib.hid (askB_iff.2 ⟨by omega, by omega, by omega, by omega⟩)
  have HJ := Lib.hid hj30
  clear h hn hk hq hk4 hkc hji hk4' hj30
  go_enter Try.func7, Try.ntmps7
  go_upto_region 4 with (first
    | (go_at_call 8; refine GM.out.mono ?_; rintro e1 w1 ⟨rfl, rfl⟩)
    | (go_at_call 9; refine TM.out.mono ?_; rintro e2 w2 ⟨D, d, l', rfl, hz, o2, hl2, hd1, hd2, b2⟩; have B2 := Lib.hid b2; have L2 := Lib.hid hl2; have HD1 := Lib.hid hd1; have HZ2 := Lib.hid hz; clear b2 hl2 hd1 hd2 o2 hz))
  have hkc := HKC.out
  go_upto_region 5 with fail
  try simp only [hkc]
  clear hkc
  have hji := HJI.out
  go_upto_region 6 with fail
  try simp only [hji]
  try simp only [hw1]
  clear hji hw1
  obtain ⟨id2, hid2⟩ : ∃ z : Int, 1 + (j : Int) = z := ⟨_, rfl⟩
  obtain ⟨cl, hcl⟩ : ∃ z : Int, (k : Int) = z := ⟨_, rfl⟩
  rw [hid2, hcl] at HASK
  simp only [hid2, hcl]
  clear HKC HJI HJ hid2 hcl
  have HLL := Lib.hid (fun (V : World) (hV : Below w2.heap.size w2 V) => L2.out.below hV (Nat.le_refl _))
  have hnm : n ≤ 9223372036854775807 := by omega
  have HK2 := Lib.hid (HK4.out w2 w2.heap.size l' L2.out.ok HZ2.out)
  obtain ⟨x, hx⟩ : ∃ x, lastX l' cl = x := ⟨_, rfl⟩
  have OM := Lib.hid (fun (V : World) (hV : Below w2.heap.size w2 V) => of_any (w := V) d cl x (HLL.out V hV) hV.size hnm hx)
  have zk := zRk
  have zs := zR_size
  have zn := zR_ne
  have G1 := AW
  have G2 := AW
  cases hm : mayG LX.c LX.id l' with
  | false =>
    have AM := Lib.hid (ask_bad1 (w := w2) d cl id2 L2.out (Nat.le_refl _) hnm hm)
    have MM := Lib.hid (fun (V : World) (hV : Below w2.heap.size w2 V) => pmay_any (w := V) d false (HLL.out V hV) hV.size hnm hm)
    clear hx hm
    go_upto_region 7 with (first
          | (have g0 := G1; clear g0; go_at_call 10; refine AM.out.mono ?_; rintro e3 w3 ⟨rfl, b3⟩; have B3 := Lib.hid b3; have TT := Lib.hid (rthere_new w3 r0 33 _ rfl); clear b3 G1)
          | (have g := G2; clear g; refine wpList_store_as (op := ⟨none, .store 33 (.tmp 8) (.tmp 31), _, _, _, _⟩) rfl 33 (.tmp 8) (.tmp 31) rfl (w3.heap.size) 0 (rc r0).toArray rfl rfl (TT.out) (r_sizeA r0) (r_oneA r0) ?_; intro w4 hw4; clear G2))
    obtain ⟨_, b4⟩ := rbox_stored rfl hw4
    have B4 := Lib.hid (B3.out.trans (b4.mono B3.out.size))
    clear b4 hw4 zk zs zn
    go_wp2_with (first
      | (go_at_call 15; refine (MM.out _ B4.out).mono ?_; rintro e5 w5 ⟨rfl, b5⟩; have B5 := Lib.hid (B4.out.trans (b5.mono B4.out.size)); clear b5)
      | (go_at_call 19; refine (AW.out _).mono ?_; rintro e6 w6 ⟨rfl, b6⟩; have B6 := Lib.hid (B5.out.trans (b6.mono B5.out.size)); clear b6))
    go_ret
    exact ⟨rfl, B2.out.trans (B6.out.mono B2.out.size)⟩
  | true =>
    have MM := Lib.hid (fun (V : World) (hV : Below w2.heap.size w2 V) => pmay_any (w := V) d true (HLL.out V hV) hV.size hnm hm)
    rcases Int.lt_trichotomy x.id id2 with hs | hs | hs
    · have AM := Lib.hid (ask_next (w := w2) d cl id2 x L2.out (Nat.le_refl _) hnm hm HASK.out hx hs)
      have r1 : (x.id == id2) = false := by simp; omega
      have r2 : ¬ (id2 < x.id) := by omega
      have r3 : decide (id2 < x.id) = false := by simp; omega
      clear hx hm hs
      go_upto_region 7 with (first
          | (have g0 := G1; clear g0; go_at_call 10; refine AM.out.mono ?_; rintro e3 w3 ⟨rfl, b3⟩; have B3 := Lib.hid b3; have TT := Lib.hid (rthere_new w3 r0 33 _ rfl); clear b3 G1)
          | (have g := G2; clear g; refine wpList_store_as (op := ⟨none, .store 33 (.tmp 8) (.tmp 31), _, _, _, _⟩) rfl 33 (.tmp 8) (.tmp 31) rfl (w3.heap.size) 0 (rc r0).toArray rfl rfl (TT.out) (r_sizeA r0) (r_oneA r0) ?_; intro w4 hw4; clear G2))
      obtain ⟨_, b4⟩ := rbox_stored rfl hw4
      have B4 := Lib.hid (B3.out.trans (b4.mono B3.out.size))
      clear b4 hw4 zk zs zn
      go_wp2_with (first
        | (go_at_call 15; refine (MM.out _ B4.out).mono ?_; rintro e5 w5 ⟨rfl, b5⟩; have B5 := Lib.hid (B4.out.trans (b5.mono B4.out.size)); clear b5)
        | (go_at_call 14; refine (OM.out _ B5.out).mono ?_; rintro e6 w6 ⟨rfl, b6⟩; have B6 := Lib.hid (B5.out.trans (b6.mono B5.out.size)); clear b6)
        | (go_at_call 19; refine (AW.out _).mono ?_; rintro e7 w7 ⟨rfl, b7⟩; have B7 := Lib.hid (B6.out.trans (b7.mono B6.out.size)); clear b7))
      go_ret
      exact ⟨rfl, B2.out.trans (B7.out.mono B2.out.size)⟩
    · have hid1 : 1 ≤ x.id := by have := (askB_iff.1 HASK.out).2.2.1; omega
      have hxm := (last_mem hx hid1).1
      have AM := Lib.hid (ask_again (w := w2) d cl id2 x L2.out (Nat.le_refl _) hnm hm HASK.out hx hs (L2.out.ok x hxm).r (Nat.le_trans (HK2.out x hxm) (by omega)))
      have r1 : (x.id == id2) = true := by simp [hs]
      have r2 : ¬ (id2 < x.id) := by omega
      have r3 : decide (id2 < x.id) = false := by simp; omega
      clear hx hm hs hid1 hxm
      go_upto_region 7 with (first
          | (have g0 := G1; clear g0; go_at_call 10; refine AM.out.mono ?_; rintro e3 w3 ⟨D3, d3, rfl, _, b3⟩; have B3 := Lib.hid b3; have TT := Lib.hid (rthere_new w3 (CopyX x.r D3 d3) 33 _ rfl); clear b3 G1)
          | (have g := G2; clear g; refine wpList_store_as (op := ⟨none, .store 33 (.tmp 8) (.tmp 31), _, _, _, _⟩) rfl 33 (.tmp 8) (.tmp 31) rfl (w3.heap.size) 0 (rc (CopyX x.r D3 d3)).toArray rfl rfl (TT.out) (r_sizeA (CopyX x.r D3 d3)) (r_oneA (CopyX x.r D3 d3)) ?_; intro w4 hw4; clear G2))
      obtain ⟨_, b4⟩ := rbox_stored rfl hw4
      have B4 := Lib.hid (B3.out.trans (b4.mono B3.out.size))
      clear b4 hw4 zk zs zn
      go_wp2_with (first
        | (go_at_call 15; refine (MM.out _ B4.out).mono ?_; rintro e5 w5 ⟨rfl, b5⟩; have B5 := Lib.hid (B4.out.trans (b5.mono B4.out.size)); clear b5)
        | (go_at_call 14; refine (OM.out _ B5.out).mono ?_; rintro e6 w6 ⟨rfl, b6⟩; have B6 := Lib.hid (B5.out.trans (b6.mono B5.out.size)); clear b6)
        | (go_at_call 19; refine (AW.out _).mono ?_; rintro e7 w7 ⟨rfl, b7⟩; have B7 := Lib.hid (B6.out.trans (b7.mono B6.out.size)); clear b7))
      go_ret
      exact ⟨rfl, B2.out.trans (B7.out.mono B2.out.size)⟩
    · have AM := Lib.hid (ask_stale (w := w2) d cl id2 x L2.out (Nat.le_refl _) hnm hm HASK.out hx hs)
      have r1 : (x.id == id2) = false := by simp; omega
      have r2 : id2 < x.id := by omega
      have r3 : decide (id2 < x.id) = true := by simp; omega
      clear hx hm hs
      go_upto_region 7 with (first
          | (have g0 := G1; clear g0; go_at_call 10; refine AM.out.mono ?_; rintro e3 w3 ⟨rfl, b3⟩; have B3 := Lib.hid b3; have TT := Lib.hid (rthere_new w3 r0 33 _ rfl); clear b3 G1)
          | (have g := G2; clear g; refine wpList_store_as (op := ⟨none, .store 33 (.tmp 8) (.tmp 31), _, _, _, _⟩) rfl 33 (.tmp 8) (.tmp 31) rfl (w3.heap.size) 0 (rc r0).toArray rfl rfl (TT.out) (r_sizeA r0) (r_oneA r0) ?_; intro w4 hw4; clear G2))
      obtain ⟨_, b4⟩ := rbox_stored rfl hw4
      have B4 := Lib.hid (B3.out.trans (b4.mono B3.out.size))
      clear b4 hw4 zk zs zn
      go_wp2_with (first
        | (go_at_call 15; refine (MM.out _ B4.out).mono ?_; rintro e5 w5 ⟨rfl, b5⟩; have B5 := Lib.hid (B4.out.trans (b5.mono B4.out.size)); clear b5)
        | (go_at_call 14; refine (OM.out _ B5.out).mono ?_; rintro e6 w6 ⟨rfl, b6⟩; have B6 := Lib.hid (B5.out.trans (b6.mono B5.out.size)); clear b6)
        | (go_at_call 19; refine (AW.out _).mono ?_; rintro e7 w7 ⟨rfl, b7⟩; have B7 := Lib.hid (B6.out.trans (b7.mono B6.out.size)); clear b7))
      go_ret
      exact ⟨rfl, B2.out.trans (B7.out.mono B2.out.size)⟩
theorem rpnext_in (A : Option Addr) (n c : Nat) (l : List LX) (client id : Int) (w : World) (h : Las w w.heap.size A n l) (hn : n ≤ 140737488355328) (hk : ∀ x, x ∈ l → x.r.kn ≤ 140737488355328) (h1 : -9223372036854775808 ≤ client ∧ client ≤ 9223372036854775807) (h2 : -9223372036854775808 ≤ id ∧ id ≤ 9223372036854775807) :
    Calls Try.prog 7 #[.slice A n c, .int .i64 client, .int .i64 id] w (fun e w' => e = .returned (.bool true) ∧ Below w.heap.size w w') := rpnext_any client id h hn hk
end Go.Proofs.Ytlapdocikhjkcaa
