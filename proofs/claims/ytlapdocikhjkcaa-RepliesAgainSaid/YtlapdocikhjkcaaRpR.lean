/- What the laws do themselves: to. -/
import Derived.Test.YtlapdocikhjkcaaRpQ
namespace Go.Proofs.Ytlapdocikhjkcaa
open Go.ChangeShapes Go.WideShapes Go.ChangeAt Go.RowKit
set_option linter.unusedVariables false
set_option linter.unusedSimpArgs false
open Plain Sha Au Rp
theorem Sr.grown {w w' : World} {B n : Nat} {A : Option Addr} {zs : List ByteArray} {row : Option Nat} (h : Sr w B A n zs) (hg : w.grownBy w' row) (hne : 0 < n → ∀ a, A = some a → row ≠ some a.block) : Sr w' B A n zs :=
  ⟨h.len, fun hn => by
    obtain ⟨b, off, rfl, hb, hc⟩ := h.row hn
    exact ⟨b, off, rfl, hb, fun j z hz => hg.cell (hc j z hz) (fun e => hne hn _ rfl e.symm)⟩⟩
/-- The keys of x do not stand in the row v. -/
def XAp (v : Value) (x : LX) : Prop := 0 < x.r.kn → ∀ a g, x.r.A = some a → v.ownBlock = some g → a.block ≠ g
theorem XOk.grown {w w' : World} {B : Nat} {x : LX} {v : Value} {row : Option Nat} (h : XOk w B x) (hg : w.grownBy w' v.ownBlock) (hne : XAp v x) : XOk w' B x :=
  ⟨h.c, h.id, ⟨h.r.err, h.r.n, h.r.g, h.r.kc, h.r.km, h.r.ks.grown hg (fun h0 a ha e => hne h0 a _ ha e rfl)⟩⟩
theorem kn_z {w w' : World} {B B' : Nat} {x y : LX} (hx : XOk w B x) (hy : XOk w' B' y) (e : x.z = y.z) : x.r.kn = y.r.kn := by
  have h : x.r.ks = y.r.ks := by
    have h2 := congrArg LastZ.r e
    exact congrArg RepZ.ks h2
  rw [← hx.r.ks.len, ← hy.r.ks.len, h]
theorem kn_map {w w' : World} {B B' : Nat} {l l' : List LX} {M : Nat} (h : ∀ x, x ∈ l → XOk w B x) (h' : ∀ x, x ∈ l' → XOk w' B' x) (e : l'.map LX.z = l.map LX.z) (hM : ∀ x, x ∈ l → x.r.kn ≤ M) : ∀ x, x ∈ l' → x.r.kn ≤ M := fun x hx => by
  have hz : x.z ∈ l.map LX.z := by rw [← e]; exact List.mem_map_of_mem hx
  obtain ⟨y, hy, hyz⟩ := List.mem_map.1 hz
  rw [← kn_z (h y hy) (h' x hx) hyz]
  exact hM y hy
/-- A table of the program's that holds the same; all of it in new memory. -/
def MadeTo (w : World) (n : Nat) (l : List LX) (e : Ending) (w' : World) : Prop :=
  ∃ D d l', e = .returned (.slice D n d) ∧ l'.map LX.z = l.map LX.z ∧ w'.ownsRow w.heap.size 53 77 (.slice D n d) n (xvs l') ∧ Las w' w'.heap.size D n l' ∧ n ≤ d ∧ d ≤ maxLen ∧ Below w.heap.size w w'
set_option maxRecDepth 100000 in
set_option maxHeartbeats 8000000 in
theorem to_any {w : World} {B n : Nat} {A : Option Addr} {l : List LX} (c : Nat) (h : Las w B A n l) (hB : B ≤ w.heap.size) (hn : n ≤ 1000) (hk : ∀ x, x ∈ l → x.r.kn ≤ 100000) :
    Calls Try.prog 9 #[.slice A n c] w (MadeTo w n l) := by
  have HG := Lib.hid h
  have HL := Lib.hid h.len
  have HB := Lib.hid hB
  have HK := Lib.hid hk
  clear h hB hk
  go_enter Try.func9, Try.ntmps9
  go_wp2
  go_loopw [3, 4] (fun v i wr => ∃ k : Nat, k ≤ n ∧ i = .int .i64 k ∧ ∃ l' : List LX, Hid (l'.map LX.z = (l.take k).map LX.z) ∧ Hid (wr.ownsRow w.heap.size 53 77 v k (xvs l')) ∧ Hid (Below w.heap.size w wr) ∧ Hid (∀ x, x ∈ l' → XOk wr wr.heap.size x) ∧ Hid (∀ x, x ∈ l' → XAp v x)) (fun _ i _ => n - (intOf i).toNat)
  case atStart => exact ⟨0, by omega, rfl, [], Lib.hid (by simp), Lib.hid (World.ownsRow_nil _ _ _ _), Lib.hid (Below.refl _ _), Lib.hid (fun x hx => by simp at hx), Lib.hid (fun x hx => by simp at hx)⟩
  case round =>
    obtain ⟨k, hkn, rfl, l', HZ, HO, HW, HX', HA⟩ := hrel
    by_cases hlt : k < n
    · obtain ⟨b, off, x, rfl, hb, HX, hx, hr⟩ := HG.out.at_ hlt
      have hkI : (k : Int) < (n : Int) := by omega
      have hsz := HW.out.size
      have HC : Hid (∀ W, Below w.heap.size w W → W.rangeAt b (off + k * 77) (xc x)) := Lib.hid (fun W hW => rangeAt_same hr (hW.block _ (by have := HB.out; omega)))
      have HR := Lib.hid (rng_x (HC.out wr HW.out)).2.2
      have HT : Hid (l.take (k + 1) = l.take k ++ [x]) := Lib.hid (take_snoc HX.out)
      have hxk := HK.out x (List.mem_of_getElem? HX.out)
      have HXO := Lib.hid hx
      clear hr hx HX
      have zk := zRk
      have zs := zR_size
      have zn := zR_ne
      have T0 := Lib.hid (rthere_new wr x.r 33 _ rfl)
      have G1 := HO
      have G2 := HO
      go_upto_region 6 with (first
            | (have g := G1; clear g; refine wpList_load_mid (op := ⟨some 16, .load 33 (.tmp 15), _, _, _, _⟩) rfl 33 (.tmp 15) rfl (b) (off + k * 77 + 2) rfl (rc x.r) _ (HR.out) Try.underlying33 rfl (r_size x.r) ?_; clear G1)
            | (have g := G2; clear g; refine wpList_store_as (op := ⟨none, .store 33 (.tmp 5) (.tmp 16), _, _, _, _⟩) rfl 33 (.tmp 5) (.tmp 16) rfl (wr.heap.size) 0 (rc x.r).toArray rfl rfl (T0.out) (r_sizeA x.r) (r_oneA x.r) ?_; intro w5 hw5; clear G2))
      obtain ⟨V5, b5⟩ := rbox_stored rfl hw5
      have B5 := Lib.hid b5
      have V5 := Lib.hid V5
      clear hw5 b5 zk zs zn
      obtain ⟨_, _, c5, _, _⟩ := rng_r V5.out.range
      have c5 : w5.cell? ⟨wr.heap.size, 2, none⟩ = some (.slice x.r.A x.r.kn x.r.kc) := by simpa using c5
      have hlt5 : wr.heap.size < w5.heap.size := V5.out.lt
      have HO5 := Lib.hid (own_noneS w5 w5.heap.size (Nat.le_refl _))
      have HS5 := Lib.hid ((((HXO.out.below (HW.out.trans (B5.out.mono HW.out.size)) HB.out).r.ks).below (below_one w5 (.cells #[] 9)) (Nat.le_trans HB.out (Nat.le_trans HW.out.size B5.out.size))).lies)
      go_upto_region 7 with (at_builtin; refine wpList_app _ rfl (.tmp 17) (.tmp 19) 27 rfl w5.heap.size 9 1 16 Try.underlying27 str_info (by omega) _ 0 (svs []) rfl HO5.out x.r.A x.r.kn x.r.kc (svs x.r.ks) rfl HS5.out.1 HS5.out.2 (svs_one _) (by unfold maxLen; omega) (by omega) (by simp) ?_; intro v1 w6 ho1 hg1; rw [Nat.zero_add, show svs [] ++ svs x.r.ks = svs x.r.ks from rfl] at ho1; have b6 := Lib.hid (show Below w5.heap.size w5 w6 from (below_one w5 (.cells #[] 9)).grown hg1 (by simp) (fun q hq => (HO5.out.lt q hq).1)); obtain ⟨Dk, dk, rfl, _, _⟩ := own_shapeA ho1; have V6 := Lib.hid (V5.out.grow b6.out); have f6 : w6.frozen? ⟨wr.heap.size, 2, none⟩ = false := (V6.out.there 2 (by omega)).2; have d6 : w6.cell? ⟨wr.heap.size, 2, none⟩ = some (.slice x.r.A x.r.kn x.r.kc) := (b6.out.cell (p := ⟨wr.heap.size, 2, none⟩) hlt5).trans c5; have K6 := Lib.hid ho1; have B6 := Lib.hid (B5.out.trans (b6.out.mono B5.out.size)); clear ho1 hg1 b6)
      obtain ⟨w7, hw7⟩ : ∃ W, W = w6.setCell ⟨wr.heap.size, 2, none⟩ (.slice Dk x.r.kn dk) := ⟨_, rfl⟩
      rw [← hw7]
      have V7 := Lib.hid (show VBox w7 wr.heap.size 75 (rc (CopyX x.r Dk dk)) by rw [hw7]; exact V6.out.setK)
      have K7 : Hid (w7.ownsRow w5.heap.size 9 1 (.slice Dk x.r.kn dk) x.r.kn (svs x.r.ks)) := Lib.hid (own_keepB K6.out (fun g h1 h2 => by rw [hw7]; exact heap_setCell _ _ _ _ _ (by omega)))
      have B7 : Hid (Below wr.heap.size wr w7) := Lib.hid (by rw [hw7]; exact B6.out.setCell (p := ⟨wr.heap.size, 2, none⟩) (Nat.le_refl _) _)
      have OW7 := Lib.hid (own_of_copy (base := w5.heap.size) HXO.out K7.out (Nat.le_refl _))
      have HOO := Lib.hid (own_below HO.out B7.out (Nat.le_refl _))
      have hs7 := B7.out.size
      have HV7 : Hid (∀ W, Below w7.heap.size w7 W → W.rangeAt wr.heap.size 0 (rc (CopyX x.r Dk dk))) := Lib.hid (fun W hW => (V7.out.grow hW).range)
      have HWW := Lib.hid (HW.out.trans (B7.out.mono HW.out.size))
      have HCC : Hid (∀ W, Below w7.heap.size w7 W → W.rangeAt b (off + k * 77) (xc x)) := Lib.hid (fun W hW => HC.out W (HWW.out.trans (hW.mono HWW.out.size)))
      clear hw7 d6 f6 c5 HS5 HR T0 V5 V6 K6 B6
      refine Late.region (fun w' => Below w.heap.size w w' ∧ w'.rangeAt wr.heap.size 0 (rc (CopyX x.r Dk dk))) [] (by kernel_rfl) ⟨HWW.out.drew, V7.out.range⟩ (fun hHeld => ?_)
      refine Late.take (i := 0) (oi := ⟨some 22, Op.move (Operand.tmp 3), _, _, _, _⟩) (v := ?_) rfl (by kernel_rfl) (by kernel_rfl) (by kernel_rfl) (by kernel_rfl) (fun _ _ _ h => h) (Or.inl ⟨by rfl, fun w hSw => ?_⟩) (by assumption) ?_
      rotate_left
      · (have s1 := hSw; go_simp; try with_reducible rfl)
      try simp only [Act.put, List.setIfInBounds_toArray, List.set_cons_zero, List.set_cons_succ]
      refine Late.take (i := 1) (oi := ⟨some 23, Op.move (Operand.tmp 0), _, _, _, _⟩) (v := ?_) rfl (by kernel_rfl) (by kernel_rfl) (by kernel_rfl) (by kernel_rfl) (fun _ _ _ h => h) (Or.inl ⟨by rfl, fun w hSw => ?_⟩) (by assumption) ?_
      rotate_left
      · (have s1 := hSw; go_simp; try with_reducible rfl)
      try simp only [Act.put, List.setIfInBounds_toArray, List.set_cons_zero, List.set_cons_succ]
      refine Late.take (i := 2) (oi := ⟨some 24, Op.move (Operand.tmp 4), _, _, _, _⟩) (v := ?_) rfl (by kernel_rfl) (by kernel_rfl) (by kernel_rfl) (by kernel_rfl) (fun _ _ _ h => h) (Or.inl ⟨by rfl, fun w hSw => ?_⟩) (by assumption) ?_
      rotate_left
      · (have s1 := hSw; go_simp; try with_reducible rfl)
      try simp only [Act.put, List.setIfInBounds_toArray, List.set_cons_zero, List.set_cons_succ]
      refine Late.take (i := 3) (oi := ⟨some 25, Op.indexAddr 22 (Operand.tmp 23) (Operand.tmp 24), _, _, _, _⟩) (v := ?_) rfl (by kernel_rfl) (by kernel_rfl) (by kernel_rfl) (by kernel_rfl) (fun _ _ _ h => h) (Or.inl ⟨by rfl, fun w hSw => ?_⟩) (by assumption) ?_
      rotate_left
      · (have s1 := hSw; go_simp; try with_reducible rfl)
      try simp only [Act.put, List.setIfInBounds_toArray, List.set_cons_zero, List.set_cons_succ]
      refine Late.take (i := 4) (oi := ⟨some 26, Op.fieldAddr 40 (Operand.tmp 25) 0, _, _, _, _⟩) (v := ?_) rfl (by kernel_rfl) (by kernel_rfl) (by kernel_rfl) (by kernel_rfl) (fun _ _ _ h => h) (Or.inl ⟨by rfl, fun w hSw => ?_⟩) (by assumption) ?_
      rotate_left
      · (have s1 := hSw; go_simp; try with_reducible rfl)
      try simp only [Act.put, List.setIfInBounds_toArray, List.set_cons_zero, List.set_cons_succ]
      refine Late.take (i := 5) (oi := ⟨some 27, Op.load 3 (Operand.tmp 26), _, _, _, _⟩) (v := ?_) rfl (by kernel_rfl) (by kernel_rfl) (by kernel_rfl) (by kernel_rfl) (fun _ _ _ h => h) (Or.inl ⟨by rfl, fun w hSw => ?_⟩) (by assumption) ?_
      rotate_left
      · (have s1 := hSw; have d := HC.out _ hSw.1; obtain ⟨p0, p1, _⟩ := rng_x d; go_simp; try with_reducible rfl)
      try simp only [Act.put, List.setIfInBounds_toArray, List.set_cons_zero, List.set_cons_succ]
      refine Late.take (i := 6) (oi := ⟨some 28, Op.move (Operand.tmp 0), _, _, _, _⟩) (v := ?_) rfl (by kernel_rfl) (by kernel_rfl) (by kernel_rfl) (by kernel_rfl) (fun _ _ _ h => h) (Or.inl ⟨by rfl, fun w hSw => ?_⟩) (by assumption) ?_
      rotate_left
      · (have s1 := hSw; go_simp; try with_reducible rfl)
      try simp only [Act.put, List.setIfInBounds_toArray, List.set_cons_zero, List.set_cons_succ]
      refine Late.take (i := 7) (oi := ⟨some 29, Op.move (Operand.tmp 4), _, _, _, _⟩) (v := ?_) rfl (by kernel_rfl) (by kernel_rfl) (by kernel_rfl) (by kernel_rfl) (fun _ _ _ h => h) (Or.inl ⟨by rfl, fun w hSw => ?_⟩) (by assumption) ?_
      rotate_left
      · (have s1 := hSw; go_simp; try with_reducible rfl)
      try simp only [Act.put, List.setIfInBounds_toArray, List.set_cons_zero, List.set_cons_succ]
      refine Late.take (i := 8) (oi := ⟨some 30, Op.indexAddr 22 (Operand.tmp 28) (Operand.tmp 29), _, _, _, _⟩) (v := ?_) rfl (by kernel_rfl) (by kernel_rfl) (by kernel_rfl) (by kernel_rfl) (fun _ _ _ h => h) (Or.inl ⟨by rfl, fun w hSw => ?_⟩) (by assumption) ?_
      rotate_left
      · (have s1 := hSw; go_simp; try with_reducible rfl)
      try simp only [Act.put, List.setIfInBounds_toArray, List.set_cons_zero, List.set_cons_succ]
      refine Late.take (i := 9) (oi := ⟨some 31, Op.fieldAddr 40 (Operand.tmp 30) 1, _, _, _, _⟩) (v := ?_) rfl (by kernel_rfl) (by kernel_rfl) (by kernel_rfl) (by kernel_rfl) (fun _ _ _ h => h) (Or.inl ⟨by rfl, fun w hSw => ?_⟩) (by assumption) ?_
      rotate_left
      · (have s1 := hSw; go_simp; try with_reducible rfl)
      try simp only [Act.put, List.setIfInBounds_toArray, List.set_cons_zero, List.set_cons_succ]
      refine Late.take (i := 10) (oi := ⟨some 32, Op.load 3 (Operand.tmp 31), _, _, _, _⟩) (v := ?_) rfl (by kernel_rfl) (by kernel_rfl) (by kernel_rfl) (by kernel_rfl) (fun _ _ _ h => h) (Or.inl ⟨by rfl, fun w hSw => ?_⟩) (by assumption) ?_
      rotate_left
      · (have s1 := hSw; have d := HC.out _ hSw.1; obtain ⟨p0, p1, _⟩ := rng_x d; go_simp; try with_reducible rfl)
      try simp only [Act.put, List.setIfInBounds_toArray, List.set_cons_zero, List.set_cons_succ]
      refine Late.take (i := 11) (oi := ⟨some 33, Op.load 33 (Operand.tmp 5), _, _, _, _⟩) (v := _) rfl (by kernel_rfl) (by kernel_rfl) (by kernel_rfl) (by kernel_rfl) (fun _ _ _ h => h) (yieldsIf_load_mid (by rfl) _ _ rfl _ _ rfl (rc (CopyX x.r Dk dk)) _ (fun W hW => hW.2) Try.underlying33 rfl (r_size _)) (by assumption) ?_
      try simp only [Act.put, List.setIfInBounds_toArray, List.set_cons_zero, List.set_cons_succ]
      refine Late.take (i := 12) (oi := ⟨some 34, Op.build 53 #[(0, Operand.tmp 27), (1, Operand.tmp 32), (2, Operand.tmp 33)], _, _, _, _⟩) (v := .agg (xc (SetR x (CopyX x.r Dk dk))).toArray) rfl (by kernel_rfl) (by kernel_rfl) (by kernel_rfl) (by kernel_rfl) (fun _ _ _ h => h) (Or.inl ⟨by rfl, fun w hSw => ?_⟩) (by assumption) ?_
      · (exact exec_P rfl rfl rfl rfl rfl)
      try simp only [Act.put, List.setIfInBounds_toArray, List.set_cons_zero, List.set_cons_succ]
      refine Late.one (i := 13) (o := ⟨some 35, Op.buildSlice 24 1 #[(0, Operand.tmp 34)], _, _, _, _⟩) (by kernel_rfl) rfl (fun K hK => ?_)
      refine wp_slice_P (.tmp 34) rfl (SetR x (CopyX x.r Dk dk)) rfl ?_
      obtain ⟨W8, hW8⟩ : ∃ W, W = w7.drew.alloc (.cells (xc (SetR x (CopyX x.r Dk dk))).toArray 53) := ⟨_, rfl⟩
      rw [← hW8]
      have L8 := Lib.hid (show Lies W8 77 (some ⟨w7.heap.size, 0, none⟩) 1 (xvs [SetR x (CopyX x.r Dk dk)]) ∧ Sourced (some ⟨w7.heap.size, 0, none⟩) 1 by rw [hW8]; exact one_lies w7.drew _ _ _ rfl)
      have c8 := Lib.hid (show Below w7.heap.size w7 W8 by rw [hW8]; exact (Below.refl _ _).drew.alloc (Nat.le_refl _) _)
      have O8 := Lib.hid (own_below HOO.out c8.out (Nat.le_refl _))
      have s8 := c8.out.size
      have c8w := Lib.hid (HWW.out.trans (c8.out.mono HWW.out.size))
      have R8 := Lib.hid (V7.out.grow c8.out).range
      clear hW8
      refine hK.out _ _ (⟨c8w.out, R8.out⟩) (fun hHeld2 => ?_)
      clear hK K hHeld
      have hHeld := hHeld2
      clear hHeld2
      try simp only [Act.put, List.setIfInBounds_toArray, List.set_cons_zero, List.set_cons_succ]
      refine Late.one (i := 14) (o := ⟨some 36, Op.call { callee := Callee.builtin Builtin.append, args := #[Operand.tmp 22, Operand.tmp 35], argTypes := #[24, 24] }, _, _, _, _⟩) (by kernel_rfl) rfl (fun K hK => ?_)
      refine step_app W8 rfl (.tmp 22) (.tmp 35) 24 rfl w.heap.size 53 77 192 Try.underlying24 p_info (by omega) u3 k (xvs l') rfl O8.out (some ⟨w7.heap.size, 0, none⟩) 1 1 (xvs [SetR x (CopyX x.r Dk dk)]) rfl L8.out.1 L8.out.2 (xvs_one _) (by unfold maxLen; omega) (by omega) (by omega) ?_
      intro v9 w9 o9 g9 q9
      have O9 := Lib.hid o9
      have B9 := Lib.hid (show Below w.heap.size w w9 from (HWW.out.trans (c8.out.mono HWW.out.size)).grown g9 (by omega) (fun q hq => (O8.out.lt q hq).1))
      have s9 := Lib.hid (show W8.heap.size ≤ w9.heap.size from ((Below.refl 0 W8).grown g9 (Nat.zero_le _) (fun q hq => Nat.zero_le _)).size)
      have R9 := Lib.hid (show w9.rangeAt wr.heap.size 0 (rc (CopyX x.r Dk dk)) from fun j v hv => g9.cell (R8.out j v hv) (fun e => absurd (HO.out.lt _ e.symm).2 (Nat.lt_irrefl _)))
      have g9 := Lib.hid g9
      have q9 := Lib.hid q9
      clear o9
      refine hK.out _ _ (⟨B9.out, R9.out⟩) (fun hHeld2 => ?_)
      clear hK K hHeld
      have hHeld := hHeld2
      clear hHeld2
      try simp only [Act.put, List.setIfInBounds_toArray, List.set_cons_zero, List.set_cons_succ]
      refine Late.take (i := 15) (oi := ⟨some 3, Op.assign (Operand.tmp 36), _, _, _, _⟩) (v := ?_) rfl (by kernel_rfl) (by kernel_rfl) (by kernel_rfl) (by kernel_rfl) (fun _ _ _ h => h) (Or.inl ⟨by rfl, fun w hSw => ?_⟩) (by assumption) ?_
      rotate_left
      · (have s1 := hSw; go_simp; try with_reducible rfl)
      try simp only [Act.put, List.setIfInBounds_toArray, List.set_cons_zero, List.set_cons_succ]
      refine Late.done (by kernel_rfl) ?_ _
      refine NoPanic.normal ?_
      go_wp2
      go_roundw
      case rel =>
        refine ⟨k + 1, by omega, by go_num, l' ++ [SetR x (CopyX x.r Dk dk)], Lib.hid ?_, Lib.hid ?_, B9, Lib.hid ?_, Lib.hid ?_⟩
        · rw [HT.out, List.map_append, List.map_append, HZ.out]; rfl
        · rw [xvs_app]; exact O9.out
        · intro y hy
          rcases List.mem_append.1 hy with hy | hy
          · have h1 := ((HX'.out y hy).below B7.out (Nat.le_refl _)).below c8.out hs7
            exact ((h1.grown (row := none) g9.out (HA.out y hy)).more (by have := s9.out; have := c8.out.size; omega))
          · rw [List.mem_singleton] at hy
            subst hy
            have h1 := (OW7.out.keep (w' := W8) (fun g h1 h2 => c8.out.block g h2)).xok
            refine (h1.grown (row := none) g9.out ?_).more s9.out
            intro h0 a g ha hg
            obtain ⟨bb, cap, hv, hbb, _⟩ := K7.out.form h0
            have hA2 : Dk = some ⟨bb, 0, none⟩ := by injection hv
            have ha2 : Dk = some a := ha
            rw [hA2] at ha2
            injection ha2 with ha2
            subst ha2
            have hgl := (HO.out.lt g hg).2
            show bb ≠ g
            omega
        · intro y hy h0 a g ha hg
          rcases List.mem_append.1 hy with hy | hy
          · rcases q9.out with hq | hq
            · rw [hq] at hg
              exact HA.out y hy h0 a g ha hg
            · rw [hq] at hg
              injection hg with hg
              have hks := (HX'.out y hy).r.ks
              obtain ⟨bb, oo, hbb, hlt2, _⟩ := hks.row h0
              rw [ha] at hbb
              injection hbb with hbb
              subst hbb
              have := c8.out.size
              show bb ≠ g
              omega
          · rw [List.mem_singleton] at hy
            subst hy
            obtain ⟨bb, cap, hv, hbb, hlt3⟩ := K7.out.form h0
            have hA2 : Dk = some ⟨bb, 0, none⟩ := by injection hv
            have ha2 : Dk = some a := ha
            rw [hA2] at ha2
            injection ha2 with ha2
            subst ha2
            show bb ≠ g
            rcases q9.out with hq | hq
            · rw [hq] at hg
              have hgl := (HO.out.lt g hg).2
              omega
            · rw [hq] at hg
              injection hg with hg
              have := c8.out.size
              omega
      case measure => simp [intOf]; omega
    · have hke : k = n := by omega
      have e : l.take k = l := List.take_of_length_le (by rw [HL.out]; omega)
      have HZ2 : Hid (l'.map LX.z = l.map LX.z) := Lib.hid (by have := HZ.out; rw [e] at this; exact this)
      have HO2 : Hid (wr.ownsRow w.heap.size 53 77 u3 n (xvs l')) := Lib.hid (by rw [← hke]; exact HO.out)
      have hkI : ¬ (k : Int) < (n : Int) := by omega
      clear HO e hke HZ
      obtain ⟨D, d, hv, h1, h2⟩ := own_shapeA HO2.out
      subst hv
      have HD1 := Lib.hid h1
      have HD2 := Lib.hid h2
      clear h1 h2
      go_wp2
      go_ret
      exact ⟨D, d, l', rfl, HZ2.out, HO2.out, las_of_own HO2.out HX'.out, HD1.out, HD2.out, HW.out⟩
end Go.Proofs.Ytlapdocikhjkcaa
