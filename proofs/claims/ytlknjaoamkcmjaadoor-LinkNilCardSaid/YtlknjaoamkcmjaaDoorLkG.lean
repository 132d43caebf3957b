/- New and Send: the program's. -/
import Derived.Test.YtlknjaoamkcmjaaDoorLkF
namespace Go.Proofs.YtlknjaoamkcmjaaDoor
open Go.ChangeShapes Go.WideShapes Go.ChangeAt Go.RowKit
set_option linter.unusedVariables false
set_option maxRecDepth 100000
set_option linter.unusedSimpArgs false
open Plain Sha Wn Lk
theorem eqIn_mapL (w : World) (d : Nat) (r : Option Nat) : (Op.equalIn (d + 1) 41 (.map r) (.map none)).run Tryd.prog w = .ok r.isNone w := by
  cases r <;> simp [Op.equalIn, run_underlying Tryd.underlying41]
theorem eql_mapL (w : World) (r : Option Nat) : (binOp .eql 41 (.map r) (.map none)).run Tryd.prog w = .ok (.bool r.isNone) w := by
  simp only [binOp]
  simp [show Op.equal 41 (.map r) (.map none) = Op.equalIn (9999 + 1) 41 (.map r) (.map none) from rfl, eqIn_mapL w 9999 r]
/-- What New tells: ends in new blocks. -/
def NewT (w : World) (x : EdZ) (e : Ending) (w' : World) : Prop := ∃ b, e = .returned (.pointer (some ⟨b, 0, none⟩)) ∧ EP w' b (fun k => w.heap.size ≤ k ∧ k < w'.heap.size) x ∧ Below w.heap.size w w'
set_option maxHeartbeats 4000000 in
theorem lnew_any {w : World} {B n : Nat} (c : Nat) {A : Option Addr} {root : List Int} (h : Bs w B A n root) (hB : B ≤ w.heap.size) (hn : n ≤ 3000) {who boot : Int} (hw : InL who) (hb : InL boot) :
    Calls Tryd.prog 22 #[.slice A n c, .int .i64 who, .int .i64 boot] w (NewT w (newZ root who boot)) := by
  have CL := Lib.hid (bclone_any c h hB (by omega))
  have HL := Lib.hid h.len
  have HBy := Lib.hid h.isBytes
  have HW := Lib.hid hw
  have HBo := Lib.hid hb
  clear h hw hb
  have mk : ∀ w : World, (Instr.makeMap 41 none).run Tryd.prog w = .ok (.map (some w.heap.size)) (w.alloc (.map #[] 0)) := fun w => rfl
  go_enter Tryd.func22, Tryd.ntmps22
  go_wp2_with (go_at_call 28; refine CL.out.mono ?_; rintro e w1 ⟨X, rfl, hX, hb1⟩; obtain ⟨D, d, rfl, ho1, hd1, hd2⟩ := hX; have O1 := Lib.hid ho1; have B1 := Lib.hid hb1; have DD := Lib.hid (And.intro hd1 hd2); clear ho1 hb1 hd1 hd2)
  go_ret
  obtain ⟨w2, hw2⟩ : ∃ W, W = w1.alloc (.map #[] 0) := ⟨_, rfl⟩
  rw [← hw2]
  obtain ⟨w3, hw3⟩ : ∃ W, W = w2.alloc (.cells #[.slice D root.length d, .int .i64 who, .int .i64 boot, .map (some w1.heap.size)] 43) := ⟨_, rfl⟩
  try rw [← hw3]
  have s2 : w2.heap.size = w1.heap.size + 1 := by rw [hw2]; simp
  have s3 : w3.heap.size = w1.heap.size + 2 := by rw [hw3]; simp [s2]
  have b3 : Below w1.heap.size w1 w3 := by rw [hw3, hw2]; exact (below_one w1 _).alloc (by simp) _
  have hs := B1.out.size
  have V3 : VBox w3 w2.heap.size 4 [.slice D root.length d, .int .i64 who, .int .i64 boot, .map (some w1.heap.size)] := by rw [hw3]; exact vbox_new w2 _ _ _ _ rfl rfl (by omega)
  have M2 := lmap_new w1 w1.heap.size rfl
  rw [← hw2] at M2
  have M3 : LMap w3 w1.heap.size (fun _ _ => kev 0 none) := M2.same (by rw [hw3]; exact Below.heap_alloc _ _ _ (by rw [s2]; omega))
  have O3 := own_below O1.out b3 (Nat.le_refl _)
  refine ⟨w2.heap.size, by rw [s2]; rfl, ⟨D, root.length, d, w1.heap.size, fun _ _ => none, ?_⟩, B1.out.trans (b3.mono hs)⟩
  refine ⟨V3, bs_of_own O3 HBy.out, by rw [HL.out]; exact hn, ?_, M3, fun _ _ _ => ⟨rfl, rfl⟩, fun _ _ _ h => by (cases h), fun _ _ _ _ _ h => by (cases h), ⟨by rw [s2]; omega, by rw [s2, s3]; omega⟩, ⟨hs, by rw [s3]; omega⟩, by rw [s2]; omega, fun k hk => hk.2, HW.out, HBo.out⟩
  intro _ a ha
  have := O1.out.lt a.block (by rw [ha]; rfl)
  refine ⟨⟨this.1, by rw [s3]; omega⟩, by rw [s2]; omega, by omega, fun _ _ h => by (cases h)⟩
/-- What Send tells. -/
def SendT (w : World) (b : Nat) (K : Nat → Prop) (r : List Int × Int × EdZ) (e : Ending) (w' : World) : Prop := ∃ u, e = .returned (.tuple #[u, .int .i64 r.2.1]) ∧ IsList u w' w.heap.size r.1 ∧ EP w' b K r.2.2 ∧ Moved K w w'
theorem zbt_new (w : World) (g : Nat) (hg : w.heap.size = g) : VBox (w.alloc (.cells #[.int .i64 0, .int .i64 0] 71)) g 2 [.int .i64 0, .int .i64 0] := vbox_new w [.int .i64 0, .int .i64 0] _ _ _ hg rfl (by omega)
theorem zkp_new (w : World) (g : Nat) (hg : w.heap.size = g) : VBox (w.alloc (.cells #[.int .i64 0, .pointer none] 74)) g 2 [.int .i64 0, .pointer none] := vbox_new w [.int .i64 0, .pointer none] _ _ _ hg rfl (by omega)
/-- The cells of what is kept. -/
def kc (s : Int) (q : Option Nat) : List Value := [.int .i64 s, .pointer (q.map fun k => ⟨k, 0, none⟩)]
theorem kev_eq (s : Int) (q : Option Nat) : kev s q = .agg (kc s q).toArray := rfl
theorem bt_size : (Tryd.prog.info? 71).map (·.size) = some 2 := by kernel_rfl
theorem kp_size : (Tryd.prog.info? 74).map (·.size) = some 2 := by kernel_rfl
theorem bt_one (a b : Int) : #[Value.int .i64 a, .int .i64 b].all (·.oneCell') = true := by simp [Value.oneCell']
theorem kc_one (s : Int) (q : Option Nat) : (kc s q).toArray.all (·.oneCell') = true := by simp [kc, Value.oneCell']
set_option maxHeartbeats 8000000 in
theorem send_yes {w : World} {b : Nat} {K : Nat → Prop} {x : EdZ} (h : EP w b K x) {tw ep : Int} (hto : InL tw) (hep : InL ep) {B n : Nat} (c : Nat) {A : Option Addr} {body : List Int} (hz : Bs w B A n body) (hB : B ≤ w.heap.size) (hn : n ≤ 3000) (hc : n ≤ c ∧ c ≤ maxLen) (hs : InL (x.sent tw ep + 1)) (hs0 : InL (x.sent tw ep)) (hF : LaidF w) (hK : LaidK w) (hm : mayP (bareZ x tw ep body) = true) :
    Calls Tryd.prog 18 #[.pointer (some ⟨b, 0, none⟩), .int .i64 tw, .int .i64 ep, .slice A n c] w (SendT w b K (sendZ x tw ep body)) := by
  obtain ⟨Ar, nr, cr, m, q, E⟩ := h
  have E0 := Lib.hid E
  obtain ⟨g, hg⟩ : ∃ g, w.heap.size = g := ⟨_, rfl⟩
  have HG := Lib.hid hg
  obtain ⟨s, hs'⟩ : ∃ s, x.sent tw ep = s := ⟨_, rfl⟩
  obtain ⟨kq, hkq⟩ : ∃ k, q tw ep = k := ⟨_, rfl⟩
  have HSS := Lib.hid hs'
  have HKQ := Lib.hid hkq
  have hwr : IntKind.i64.wrap (s + 1) = s + 1 := by
    rw [hs'] at hs
    have h1 := hs.1
    have h2 := hs.2
    rw [IntKind.wrap_i64]; omega
  have HS1 := Lib.hid hs
  have c0 := E.c0
  have c1 := E.c1
  have c2 := E.c2
  have c3 := E.c3
  have HZ : Hid (∀ W, Below g w W → Bs W B A n body ∧ B ≤ W.heap.size) := Lib.hid (fun W hW => ⟨hz.belowM hW (by omega), by have := hW.size; omega⟩)
  have LL : Hid (∀ W, Below g w W → LaidF W ∧ LaidK W) := Lib.hid (fun W hW => ⟨hF.below hW (by have := hF.lt; omega), hK.below hW (by have := hK.lt; omega)⟩)
  have HM := Lib.hid hm
  have HTO := Lib.hid (And.intro hto hep)
  have HCC := Lib.hid hc
  have HBY := Lib.hid hz.isBytes
  have HLE := Lib.hid hz.len
  clear hz hF hK hm E hg hs hs0
  have qm := eql_mapL
  go_enter Tryd.func18, Tryd.ntmps18
  go_upto_region 4 with (show wpList _ _ _ (⟨none, .store 71 (.tmp 10) (.tmp 25), _, _, _, _⟩ :: _) _ _; refine wpList_store_as (op := ⟨none, .store 71 (.tmp 10) (.tmp 25), _, _, _, _⟩) rfl 71 (.tmp 10) (.tmp 25) rfl (w.heap.size) 0 #[.int .i64 tw, .int .i64 ep] rfl rfl (vthere (zbt_new w w.heap.size rfl) (us := [.int .i64 tw, .int .i64 ep]) rfl) bt_size (bt_one tw ep) ?_; intro w3 hw3)
  have V3 := Lib.hid ((vstored (zbt_new w w.heap.size rfl) (us := [.int .i64 tw, .int .i64 ep]) rfl hw3 (Nat.le_refl _) (below_one w _)).1)
  have B3 := Lib.hid ((vstored (zbt_new w w.heap.size rfl) (us := [.int .i64 tw, .int .i64 ep]) rfl hw3 (Nat.le_refl _) (below_one w _)).2)
  clear hw3 c0 c1 c2 c3 qm
  rw [HG.out] at V3 B3 ⊢
  obtain ⟨nb, hnb⟩ : ∃ nb, w3.heap.size = nb := ⟨_, rfl⟩
  have HNB := Lib.hid hnb
  have GN : Hid (g < nb) := Lib.hid (by rw [← hnb]; exact V3.out.lt)
  have E3 := Lib.hid (E0.out.grow (by rw [HG.out]; exact B3.out))
  have F3 : Hid (∀ W, Below nb w3 W → W.cell? ⟨b, 0, none⟩ = some (.slice Ar nr cr) ∧ W.cell? ⟨b, 1, none⟩ = some (.int .i64 x.who) ∧ W.cell? ⟨b, 2, none⟩ = some (.int .i64 x.boot) ∧ W.cell? ⟨b, 3, none⟩ = some (.map (some m)) ∧ W.cell? ⟨g, 0, none⟩ = some (.int .i64 tw) ∧ W.cell? ⟨g, 1, none⟩ = some (.int .i64 ep)) := Lib.hid (fun W hW => by
    have E := E3.out.grow (by rw [HNB.out]; exact hW)
    have V := V3.out.below hW (by rw [← HNB.out]; exact V3.out.lt)
    exact ⟨E.c0, E.c1, E.c2, E.c3, V.at1 rfl, V.at1 rfl⟩)
  have M3 : Hid (∀ W, Below nb w3 W → LMap W m (fun o e => kev (x.sent o e) (q o e))) := Lib.hid (fun W hW => (E3.out.grow (by rw [HNB.out]; exact hW)).map)
  have LK3 : Hid (∀ W, Below nb w3 W → (Instr.lookup 41 (.map (some m)) (kyv tw ep) false).run Tryd.prog W = .ok (kev s kq) W) := Lib.hid (fun W hW => by
    have := run_lookupL (M3.out W hW) HTO.out.1 HTO.out.2
    rwa [HSS.out, HKQ.out] at this)
  have P3 : Hid (Below nb w3 w3) := Lib.hid (Below.refl _ _)
  clear hnb
  refine Late.region (fun w' => Below nb w3 w') [] (by kernel_rfl) P3.out.drew (fun hHeld => ?_)
  refine Late.take (i := 0) (oi := ⟨some 26, Op.move (Operand.tmp 0), _, _, _, _⟩) (v := ?_) rfl (by kernel_rfl) (by kernel_rfl) (by kernel_rfl) (by kernel_rfl) (fun _ _ _ h => h) (Or.inl ⟨by rfl, fun w hSw => ?_⟩) (by assumption) ?_
  rotate_left
  · (have s1 := hSw; go_simp; try with_reducible rfl)
  try simp only [Act.put, List.setIfInBounds_toArray, List.set_cons_zero, List.set_cons_succ]
  refine Late.take (i := 1) (oi := ⟨some 27, Op.nilCheck (Operand.tmp 26), _, _, _, _⟩) (v := ?_) rfl (by kernel_rfl) (by kernel_rfl) (by kernel_rfl) (by kernel_rfl) (fun _ _ _ h => h) (Or.inl ⟨by rfl, fun w hSw => ?_⟩) (by assumption) ?_
  rotate_left
  · (have s1 := hSw; go_simp; try with_reducible rfl)
  try simp only [Act.put, List.setIfInBounds_toArray, List.set_cons_zero, List.set_cons_succ]
  refine Late.take (i := 2) (oi := ⟨some 28, Op.fieldAddr 43 (Operand.tmp 27) 3, _, _, _, _⟩) (v := ?_) rfl (by kernel_rfl) (by kernel_rfl) (by kernel_rfl) (by kernel_rfl) (fun _ _ _ h => h) (Or.inl ⟨by rfl, fun w hSw => ?_⟩) (by assumption) ?_
  rotate_left
  · (have s1 := hSw; go_simp; try with_reducible rfl)
  try simp only [Act.put, List.setIfInBounds_toArray, List.set_cons_zero, List.set_cons_succ]
  refine Late.take (i := 3) (oi := ⟨some 29, Op.load 41 (Operand.tmp 28), _, _, _, _⟩) (v := ?_) rfl (by kernel_rfl) (by kernel_rfl) (by kernel_rfl) (by kernel_rfl) (fun _ _ _ h => h) (Or.inl ⟨by rfl, fun w hSw => ?_⟩) (by assumption) ?_
  rotate_left
  · (have s1 := hSw; obtain ⟨d0, d1, d2, d3, d4, d5⟩ := F3.out _ hSw; go_simp; try with_reducible rfl)
  try simp only [Act.put, List.setIfInBounds_toArray, List.set_cons_zero, List.set_cons_succ]
  refine Late.take (i := 4) (oi := ⟨some 30, Op.load 71 (Operand.tmp 10), _, _, _, _⟩) (v := ?_) rfl (by kernel_rfl) (by kernel_rfl) (by kernel_rfl) (by kernel_rfl) (fun _ _ _ h => h) (Or.inl ⟨by rfl, fun w hSw => ?_⟩) (by assumption) ?_
  rotate_left
  · (have s1 := hSw; obtain ⟨d0, d1, d2, d3, d4, d5⟩ := F3.out _ hSw; go_simp; try with_reducible rfl)
  try simp only [Act.put, List.setIfInBounds_toArray, List.set_cons_zero, List.set_cons_succ]
  refine Late.take (i := 5) (oi := ⟨some 31, Op.lookup 41 (Operand.tmp 29) (Operand.tmp 30) false, _, _, _, _⟩) (v := kev s kq) rfl (by kernel_rfl) (by kernel_rfl) (by kernel_rfl) (by kernel_rfl) (fun _ _ _ h => h) (Or.inl ⟨by rfl, fun w hSw => ?_⟩) (by assumption) ?_
  · (unfold execOp; simp only [Act.eval]; have hl := LK3.out _ hSw; simp [kyv] at hl; simp [hl])
  try simp only [Act.put, List.setIfInBounds_toArray, List.set_cons_zero, List.set_cons_succ]
  refine Late.one (i := 6) (o := ⟨some 11, Op.alloc 74, _, _, _, _⟩) (by kernel_rfl) rfl (fun K hK => ?_)
  go_simp
  refine hK.out _ _ ((hHeld.alloc (by have := hHeld.size; have := HNB.out; omega) _)) (fun hHeld2 => ?_)
  clear hK K hHeld
  have hHeld := hHeld2
  clear hHeld2
  try simp only [Act.put, List.setIfInBounds_toArray, List.set_cons_zero, List.set_cons_succ]
  refine Late.one (i := 7) (o := ⟨none, Op.store 74 (Operand.tmp 11) (Operand.tmp 31), _, _, _, _⟩) (by kernel_rfl) rfl (fun K hK => ?_)
  rw [if_pos (by rfl)]
  refine wp_store_mid 74 (.tmp 11) (.tmp 31) rfl w3.heap.size 0 (kc s kq).toArray rfl rfl (vthere ((zkp_new w3 w3.heap.size rfl).same (w' := (w3.alloc (.cells #[.int .i64 0, .pointer none] 74)).drew) rfl) (us := kc s kq) rfl) kp_size (kc_one s kq) ?_
  obtain ⟨w4, hw4⟩ : ∃ W, W = (w3.alloc (.cells #[.int .i64 0, .pointer none] 74)).drew.setCells w3.heap.size 0 (kc s kq).toArray.toList := ⟨_, rfl⟩
  rw [← hw4]
  have V4 : VBox w4 w3.heap.size 2 (kc s kq) := ((zkp_new w3 w3.heap.size rfl).same (w' := (w3.alloc (.cells #[.int .i64 0, .pointer none] 74)).drew) rfl).store rfl (Lib.hid hw4)
  have B4 : Below nb w3 w4 := by rw [hw4]; exact below_setCells (by rw [HNB.out]; exact Nat.le_refl _) _ _ _ hHeld
  clear hw4
  refine hK.out _ _ (B4) (fun hHeld2 => ?_)
  clear hK K hHeld
  have hHeld := hHeld2
  clear hHeld2
  try simp only [Act.put, List.setIfInBounds_toArray, List.set_cons_zero, List.set_cons_succ]
  refine Late.done (by kernel_rfl) ?_ _
  refine NoPanic.normal ?_
  rw [HNB.out] at V4 ⊢
  have k0 := V4.at1 (i := 0) (v := .int .i64 s) rfl
  have kf0 := V4.fr1 (i := 0) (by omega)
  have V4' := Lib.hid V4
  have B4' := Lib.hid hHeld
  clear V4 hHeld
  go_upto_region 6 with fail
  obtain ⟨w5, hw5⟩ : ∃ W, W = w4.setCell ⟨nb, 0, none⟩ (.int .i64 (s + 1)) := ⟨_, rfl⟩
  rw [← hw5]
  have V5 := Lib.hid (show VBox w5 nb 2 (kc (s + 1) kq) by rw [hw5]; exact V4'.out.set1 (i := 0) (by omega) (.int .i64 (s + 1)))
  have B5 := Lib.hid (show Below nb w3 w5 by rw [hw5]; exact B4'.out.setCell (p := ⟨nb, 0, none⟩) (Nat.le_refl _) _)
  obtain ⟨nc, hnc⟩ : ∃ nc, w5.heap.size = nc := ⟨_, rfl⟩
  have HNC := Lib.hid hnc
  have NN : Hid (nb < nc) := Lib.hid (by rw [← hnc]; exact V5.out.lt)
  clear hw5 hnc k0 kf0 V4' B4'
  have LB : Hid (∀ W, Below nc w5 W → Below nb w3 W) := Lib.hid (fun W hW => B5.out.trans (hW.mono (by have := NN.out; omega)))
  have LG : Hid (∀ W, Below nc w5 W → Below g w W) := Lib.hid (fun W hW => B3.out.trans ((LB.out W hW).mono (by have := GN.out; omega)))
  have LE : Hid (∀ W, Below nc w5 W → EPs W b K x Ar nr cr m q) := Lib.hid (fun W hW => E3.out.grow (by rw [HNB.out]; exact LB.out W hW))
  have LV : Hid (∀ W, Below nc w5 W → VBox W nb 2 (kc (s + 1) kq)) := Lib.hid (fun W hW => V5.out.below hW NN.out)
  obtain ⟨p, hp⟩ : ∃ p : PX, p = ⟨bareZ x tw ep body, A, n, c⟩ := ⟨_, rfl⟩
  have HPZ : Hid (p.z = bareZ x tw ep body) := Lib.hid (by rw [hp])
  have HPC : Hid (pc p = pc ⟨⟨x.who, tw, ep, x.boot, s + 1, body, List.replicate 32 0⟩, A, n, c⟩) := Lib.hid (by rw [hp]; unfold bareZ; rw [HSS.out])
  have HPN : Hid (p.n = n) := Lib.hid (by rw [hp])
  have PO : Hid (∀ W, Below nc w5 W → PXOk W B p ∧ B ≤ W.heap.size) := Lib.hid (fun W hW => by
    obtain ⟨z1, z2⟩ := HZ.out W (LG.out W hW)
    refine ⟨?_, z2⟩
    rw [hp]
    exact ⟨⟨E3.out.who, HTO.out.1, HTO.out.2, E3.out.boot, HS1.out, HBY.out, by show body.length ≤ 65536; rw [HLE.out]; omega, rep_bytes 32 0 (by omega) (by omega), List.length_replicate ..⟩, z1, HCC.out.1, HCC.out.2⟩)
  have P5 : Hid (Below nc w5 w5) := Lib.hid (Below.refl _ _)
  clear hp
  refine Late.region (fun w' => Below nc w5 w') [] (by kernel_rfl) P5.out.drew (fun hHeld => ?_)
  refine Late.take (i := 0) (oi := ⟨some 37, Op.move (Operand.tmp 0), _, _, _, _⟩) (v := ?_) rfl (by kernel_rfl) (by kernel_rfl) (by kernel_rfl) (by kernel_rfl) (fun _ _ _ h => h) (Or.inl ⟨by rfl, fun w hSw => ?_⟩) (by assumption) ?_
  rotate_left
  · (have s1 := hSw; go_simp; try with_reducible rfl)
  try simp only [Act.put, List.setIfInBounds_toArray, List.set_cons_zero, List.set_cons_succ]
  refine Late.take (i := 1) (oi := ⟨some 38, Op.nilCheck (Operand.tmp 37), _, _, _, _⟩) (v := ?_) rfl (by kernel_rfl) (by kernel_rfl) (by kernel_rfl) (by kernel_rfl) (fun _ _ _ h => h) (Or.inl ⟨by rfl, fun w hSw => ?_⟩) (by assumption) ?_
  rotate_left
  · (have s1 := hSw; go_simp; try with_reducible rfl)
  try simp only [Act.put, List.setIfInBounds_toArray, List.set_cons_zero, List.set_cons_succ]
  refine Late.take (i := 2) (oi := ⟨some 39, Op.fieldAddr 43 (Operand.tmp 38) 0, _, _, _, _⟩) (v := ?_) rfl (by kernel_rfl) (by kernel_rfl) (by kernel_rfl) (by kernel_rfl) (fun _ _ _ h => h) (Or.inl ⟨by rfl, fun w hSw => ?_⟩) (by assumption) ?_
  rotate_left
  · (have s1 := hSw; go_simp; try with_reducible rfl)
  try simp only [Act.put, List.setIfInBounds_toArray, List.set_cons_zero, List.set_cons_succ]
  refine Late.take (i := 3) (oi := ⟨some 40, Op.load 22 (Operand.tmp 39), _, _, _, _⟩) (v := ?_) rfl (by kernel_rfl) (by kernel_rfl) (by kernel_rfl) (by kernel_rfl) (fun _ _ _ h => h) (Or.inl ⟨by rfl, fun w hSw => ?_⟩) (by assumption) ?_
  rotate_left
  · (have s1 := hSw; have E := LE.out _ hSw; have d0 := E.c0; have d1 := E.c1; have d2 := E.c2; have d4 := (LV.out _ hSw).at1 (i := 0) (v := .int .i64 (s + 1)) rfl; clear E; go_simp; try with_reducible rfl)
  try simp only [Act.put, List.setIfInBounds_toArray, List.set_cons_zero, List.set_cons_succ]
  refine Late.take (i := 4) (oi := ⟨some 41, Op.move (Operand.tmp 0), _, _, _, _⟩) (v := ?_) rfl (by kernel_rfl) (by kernel_rfl) (by kernel_rfl) (by kernel_rfl) (fun _ _ _ h => h) (Or.inl ⟨by rfl, fun w hSw => ?_⟩) (by assumption) ?_
  rotate_left
  · (have s1 := hSw; go_simp; try with_reducible rfl)
  try simp only [Act.put, List.setIfInBounds_toArray, List.set_cons_zero, List.set_cons_succ]
  refine Late.take (i := 5) (oi := ⟨some 42, Op.nilCheck (Operand.tmp 41), _, _, _, _⟩) (v := ?_) rfl (by kernel_rfl) (by kernel_rfl) (by kernel_rfl) (by kernel_rfl) (fun _ _ _ h => h) (Or.inl ⟨by rfl, fun w hSw => ?_⟩) (by assumption) ?_
  rotate_left
  · (have s1 := hSw; go_simp; try with_reducible rfl)
  try simp only [Act.put, List.setIfInBounds_toArray, List.set_cons_zero, List.set_cons_succ]
  refine Late.take (i := 6) (oi := ⟨some 43, Op.fieldAddr 43 (Operand.tmp 42) 1, _, _, _, _⟩) (v := ?_) rfl (by kernel_rfl) (by kernel_rfl) (by kernel_rfl) (by kernel_rfl) (fun _ _ _ h => h) (Or.inl ⟨by rfl, fun w hSw => ?_⟩) (by assumption) ?_
  rotate_left
  · (have s1 := hSw; go_simp; try with_reducible rfl)
  try simp only [Act.put, List.setIfInBounds_toArray, List.set_cons_zero, List.set_cons_succ]
  refine Late.take (i := 7) (oi := ⟨some 44, Op.load 3 (Operand.tmp 43), _, _, _, _⟩) (v := ?_) rfl (by kernel_rfl) (by kernel_rfl) (by kernel_rfl) (by kernel_rfl) (fun _ _ _ h => h) (Or.inl ⟨by rfl, fun w hSw => ?_⟩) (by assumption) ?_
  rotate_left
  · (have s1 := hSw; have E := LE.out _ hSw; have d0 := E.c0; have d1 := E.c1; have d2 := E.c2; have d4 := (LV.out _ hSw).at1 (i := 0) (v := .int .i64 (s + 1)) rfl; clear E; go_simp; try with_reducible rfl)
  try simp only [Act.put, List.setIfInBounds_toArray, List.set_cons_zero, List.set_cons_succ]
  refine Late.take (i := 8) (oi := ⟨some 45, Op.move (Operand.tmp 1), _, _, _, _⟩) (v := ?_) rfl (by kernel_rfl) (by kernel_rfl) (by kernel_rfl) (by kernel_rfl) (fun _ _ _ h => h) (Or.inl ⟨by rfl, fun w hSw => ?_⟩) (by assumption) ?_
  rotate_left
  · (have s1 := hSw; go_simp; try with_reducible rfl)
  try simp only [Act.put, List.setIfInBounds_toArray, List.set_cons_zero, List.set_cons_succ]
  refine Late.take (i := 9) (oi := ⟨some 46, Op.move (Operand.tmp 2), _, _, _, _⟩) (v := ?_) rfl (by kernel_rfl) (by kernel_rfl) (by kernel_rfl) (by kernel_rfl) (fun _ _ _ h => h) (Or.inl ⟨by rfl, fun w hSw => ?_⟩) (by assumption) ?_
  rotate_left
  · (have s1 := hSw; go_simp; try with_reducible rfl)
  try simp only [Act.put, List.setIfInBounds_toArray, List.set_cons_zero, List.set_cons_succ]
  refine Late.take (i := 10) (oi := ⟨some 47, Op.move (Operand.tmp 0), _, _, _, _⟩) (v := ?_) rfl (by kernel_rfl) (by kernel_rfl) (by kernel_rfl) (by kernel_rfl) (fun _ _ _ h => h) (Or.inl ⟨by rfl, fun w hSw => ?_⟩) (by assumption) ?_
  rotate_left
  · (have s1 := hSw; go_simp; try with_reducible rfl)
  try simp only [Act.put, List.setIfInBounds_toArray, List.set_cons_zero, List.set_cons_succ]
  refine Late.take (i := 11) (oi := ⟨some 48, Op.nilCheck (Operand.tmp 47), _, _, _, _⟩) (v := ?_) rfl (by kernel_rfl) (by kernel_rfl) (by kernel_rfl) (by kernel_rfl) (fun _ _ _ h => h) (Or.inl ⟨by rfl, fun w hSw => ?_⟩) (by assumption) ?_
  rotate_left
  · (have s1 := hSw; go_simp; try with_reducible rfl)
  try simp only [Act.put, List.setIfInBounds_toArray, List.set_cons_zero, List.set_cons_succ]
  refine Late.take (i := 12) (oi := ⟨some 49, Op.fieldAddr 43 (Operand.tmp 48) 2, _, _, _, _⟩) (v := ?_) rfl (by kernel_rfl) (by kernel_rfl) (by kernel_rfl) (by kernel_rfl) (fun _ _ _ h => h) (Or.inl ⟨by rfl, fun w hSw => ?_⟩) (by assumption) ?_
  rotate_left
  · (have s1 := hSw; go_simp; try with_reducible rfl)
  try simp only [Act.put, List.setIfInBounds_toArray, List.set_cons_zero, List.set_cons_succ]
  refine Late.take (i := 13) (oi := ⟨some 50, Op.load 3 (Operand.tmp 49), _, _, _, _⟩) (v := ?_) rfl (by kernel_rfl) (by kernel_rfl) (by kernel_rfl) (by kernel_rfl) (fun _ _ _ h => h) (Or.inl ⟨by rfl, fun w hSw => ?_⟩) (by assumption) ?_
  rotate_left
  · (have s1 := hSw; have E := LE.out _ hSw; have d0 := E.c0; have d1 := E.c1; have d2 := E.c2; have d4 := (LV.out _ hSw).at1 (i := 0) (v := .int .i64 (s + 1)) rfl; clear E; go_simp; try with_reducible rfl)
  try simp only [Act.put, List.setIfInBounds_toArray, List.set_cons_zero, List.set_cons_succ]
  refine Late.take (i := 14) (oi := ⟨some 51, Op.fieldAddr 74 (Operand.tmp 11) 0, _, _, _, _⟩) (v := ?_) rfl (by kernel_rfl) (by kernel_rfl) (by kernel_rfl) (by kernel_rfl) (fun _ _ _ h => h) (Or.inl ⟨by rfl, fun w hSw => ?_⟩) (by assumption) ?_
  rotate_left
  · (have s1 := hSw; go_simp; try with_reducible rfl)
  try simp only [Act.put, List.setIfInBounds_toArray, List.set_cons_zero, List.set_cons_succ]
  refine Late.take (i := 15) (oi := ⟨some 52, Op.load 3 (Operand.tmp 51), _, _, _, _⟩) (v := ?_) rfl (by kernel_rfl) (by kernel_rfl) (by kernel_rfl) (by kernel_rfl) (fun _ _ _ h => h) (Or.inl ⟨by rfl, fun w hSw => ?_⟩) (by assumption) ?_
  rotate_left
  · (have s1 := hSw; have E := LE.out _ hSw; have d0 := E.c0; have d1 := E.c1; have d2 := E.c2; have d4 := (LV.out _ hSw).at1 (i := 0) (v := .int .i64 (s + 1)) rfl; clear E; go_simp; try with_reducible rfl)
  try simp only [Act.put, List.setIfInBounds_toArray, List.set_cons_zero, List.set_cons_succ]
  refine Late.take (i := 16) (oi := ⟨some 53, Op.move (Operand.tmp 3), _, _, _, _⟩) (v := ?_) rfl (by kernel_rfl) (by kernel_rfl) (by kernel_rfl) (by kernel_rfl) (fun _ _ _ h => h) (Or.inl ⟨by rfl, fun w hSw => ?_⟩) (by assumption) ?_
  rotate_left
  · (have s1 := hSw; go_simp; try with_reducible rfl)
  try simp only [Act.put, List.setIfInBounds_toArray, List.set_cons_zero, List.set_cons_succ]
  refine Late.take (i := 17) (oi := ⟨some 54, Op.build 26 #[(0, Operand.tmp 44), (1, Operand.tmp 45), (2, Operand.tmp 46), (3, Operand.tmp 50), (4, Operand.tmp 52), (5, Operand.tmp 53)], _, _, _, _⟩) (v := .agg (pc p).toArray) rfl (by kernel_rfl) (by kernel_rfl) (by kernel_rfl) (by kernel_rfl) (fun _ _ _ h => h) (Or.inl ⟨by rfl, fun w hSw => ?_⟩) (by assumption) ?_
  · (have hb := build_p6 x.who tw ep x.boot (s + 1) body A n c w; rw [← HPC.out] at hb; exact exec_bld6 rfl rfl rfl rfl rfl rfl rfl hb)
  try simp only [Act.put, List.setIfInBounds_toArray, List.set_cons_zero, List.set_cons_succ]
  refine Late.one (i := 18) (o := ⟨some 55, Op.call { callee := Callee.value (Operand.func 9), args := #[Operand.tmp 40, Operand.tmp 54], argTypes := #[22, 26] }, _, _, _, _⟩) (by kernel_rfl) rfl (fun K hK => ?_)
  go_simp
  obtain ⟨l1, l2⟩ := LL.out _ (LG.out _ hHeld)
  obtain ⟨l3, l4⟩ := PO.out _ hHeld
  refine (seal_any cr (LE.out _ hHeld).root (Nat.le_refl _) (LE.out _ hHeld).rn l3 l4 (by rw [HPN.out]; omega) l1 l2).mono ?_
  rintro e w6 ⟨y, rfl, hyz, hyok, hyo, hb⟩
  rw [HPZ.out] at hyz
  have hb6 := hHeld.trans (hb.mono (by have := hHeld.size; have := HNC.out; omega))
  clear hb l1 l2 l3 l4
  refine hK.out _ _ (hb6) (fun hHeld2 => ?_)
  clear hK K hHeld
  have hHeld := hHeld2
  clear hHeld2
  try simp only [Act.put, List.setIfInBounds_toArray, List.set_cons_zero, List.set_cons_succ]
  refine Late.one (i := 19) (o := ⟨some 56, Op.call { callee := Callee.value (Operand.func 15), args := #[Operand.tmp 55], argTypes := #[26] }, _, _, _, _⟩) (by kernel_rfl) rfl (fun K hK => ?_)
  go_simp
  have hyn : y.n ≤ 65000 := by have h1 := hyok.body.len; rw [hyz] at h1; have h2 := HLE.out; have : (sealZ x.root (bareZ x tw ep body)).body = body := rfl; rw [this] at h1; omega
  have hym : mayP y.z = true := by rw [hyz, may_seal]; exact HM.out
  refine (print_yes hyok (Nat.le_refl _) hyn hym).mono ?_
  rintro e w7 ⟨u, rfl, hu, hb⟩
  have hb7 := hHeld.trans (hb.mono (by have := hHeld.size; have := HNC.out; omega))
  have s6 : nc ≤ w6.heap.size := by have := hHeld.size; have := HNC.out; omega
  clear hb
  refine hK.out _ _ (hb7) (fun hHeld2 => ?_)
  clear hK K hHeld
  have hHeld := hHeld2
  clear hHeld2
  try simp only [Act.put, List.setIfInBounds_toArray, List.set_cons_zero, List.set_cons_succ]
  refine Late.take (i := 20) (oi := ⟨some 36, Op.move (Operand.tmp 56), _, _, _, _⟩) (v := ?_) rfl (by kernel_rfl) (by kernel_rfl) (by kernel_rfl) (by kernel_rfl) (fun _ _ _ h => h) (Or.inl ⟨by rfl, fun w hSw => ?_⟩) (by assumption) ?_
  rotate_left
  · (have s1 := hSw; go_simp; try with_reducible rfl)
  try simp only [Act.put, List.setIfInBounds_toArray, List.set_cons_zero, List.set_cons_succ]
  refine Late.take (i := 21) (oi := ⟨some 57, Op.extract (Operand.tmp 36) 0, _, _, _, _⟩) (v := ?_) rfl (by kernel_rfl) (by kernel_rfl) (by kernel_rfl) (by kernel_rfl) (fun _ _ _ h => h) (Or.inl ⟨by rfl, fun w hSw => ?_⟩) (by assumption) ?_
  rotate_left
  · (have s1 := hSw; go_simp; try with_reducible rfl)
  try simp only [Act.put, List.setIfInBounds_toArray, List.set_cons_zero, List.set_cons_succ]
  refine Late.take (i := 22) (oi := ⟨some 58, Op.extract (Operand.tmp 36) 1, _, _, _, _⟩) (v := ?_) rfl (by kernel_rfl) (by kernel_rfl) (by kernel_rfl) (by kernel_rfl) (fun _ _ _ h => h) (Or.inl ⟨by rfl, fun w hSw => ?_⟩) (by assumption) ?_
  rotate_left
  · (have s1 := hSw; go_simp; try with_reducible rfl)
  try simp only [Act.put, List.setIfInBounds_toArray, List.set_cons_zero, List.set_cons_succ]
  refine Late.take (i := 23) (oi := ⟨some 12, Op.assign (Operand.tmp 57), _, _, _, _⟩) (v := ?_) rfl (by kernel_rfl) (by kernel_rfl) (by kernel_rfl) (by kernel_rfl) (fun _ _ _ h => h) (Or.inl ⟨by rfl, fun w hSw => ?_⟩) (by assumption) ?_
  rotate_left
  · (have s1 := hSw; go_simp; try with_reducible rfl)
  try simp only [Act.put, List.setIfInBounds_toArray, List.set_cons_zero, List.set_cons_succ]
  refine Late.take (i := 24) (oi := ⟨some 13, Op.assign (Operand.tmp 58), _, _, _, _⟩) (v := ?_) rfl (by kernel_rfl) (by kernel_rfl) (by kernel_rfl) (by kernel_rfl) (fun _ _ _ h => h) (Or.inl ⟨by rfl, fun w hSw => ?_⟩) (by assumption) ?_
  rotate_left
  · (have s1 := hSw; go_simp; try with_reducible rfl)
  try simp only [Act.put, List.setIfInBounds_toArray, List.set_cons_zero, List.set_cons_succ]
  refine Late.done (by kernel_rfl) ?_ _
  refine NoPanic.normal ?_
  have U7 := Lib.hid (show IsList u w7 w6.heap.size (bytesP (nextP x tw ep body)) by rw [hyz] at hu; exact hu)
  have S6 := Lib.hid s6
  have B7 := Lib.hid hHeld
  clear hHeld hu s6 hyz hyok hyo hyn hym
  go_upto_region 8 with fail
  have E7 := Lib.hid (LE.out _ B7.out)
  have V7 := Lib.hid (LV.out _ B7.out)
  have VG := Lib.hid (V3.out.below (LB.out _ B7.out) (by rw [← HNB.out]; exact V3.out.lt))
  obtain ⟨w9, hrun, hmap, hgr⟩ := run_updateL (w := w7.drew) E7.out.drew.map HTO.out.1 HTO.out.2 (kev (s + 1) kq)
  have HR := Lib.hid hmap
  have HGR := Lib.hid hgr
  have d3 := E7.out.drew.c3
  have d4 : w7.drew.cell? ⟨g, 0, none⟩ = some (.int .i64 tw) := VG.out.at1 rfl
  have d5 : w7.drew.cell? ⟨g, 1, none⟩ = some (.int .i64 ep) := VG.out.at1 rfl
  have d6 : w7.drew.cell? ⟨nb, 0, none⟩ = some (.int .i64 (s + 1)) := V7.out.at1 rfl
  have d7 : w7.drew.cell? ⟨nb, 1, none⟩ = some (.pointer (kq.map fun k => ⟨k, 0, none⟩)) := V7.out.at1 rfl
  clear hmap hgr
  refine Late.region (fun w' => w' = w7.drew) [6] (by kernel_rfl) rfl (fun hHeld => ?_)
  refine Late.take (i := 0) (oi := ⟨some 61, Op.move (Operand.tmp 0), _, _, _, _⟩) (v := ?_) rfl (by kernel_rfl) (by kernel_rfl) (by kernel_rfl) (by kernel_rfl) (fun _ _ _ h => h) (Or.inl ⟨by rfl, fun w hSw => ?_⟩) (by assumption) ?_
  rotate_left
  · (have s1 := hSw; go_simp; try with_reducible rfl)
  try simp only [Act.put, List.setIfInBounds_toArray, List.set_cons_zero, List.set_cons_succ]
  refine Late.take (i := 1) (oi := ⟨some 62, Op.nilCheck (Operand.tmp 61), _, _, _, _⟩) (v := ?_) rfl (by kernel_rfl) (by kernel_rfl) (by kernel_rfl) (by kernel_rfl) (fun _ _ _ h => h) (Or.inl ⟨by rfl, fun w hSw => ?_⟩) (by assumption) ?_
  rotate_left
  · (have s1 := hSw; go_simp; try with_reducible rfl)
  try simp only [Act.put, List.setIfInBounds_toArray, List.set_cons_zero, List.set_cons_succ]
  refine Late.take (i := 2) (oi := ⟨some 63, Op.fieldAddr 43 (Operand.tmp 62) 3, _, _, _, _⟩) (v := ?_) rfl (by kernel_rfl) (by kernel_rfl) (by kernel_rfl) (by kernel_rfl) (fun _ _ _ h => h) (Or.inl ⟨by rfl, fun w hSw => ?_⟩) (by assumption) ?_
  rotate_left
  · (have s1 := hSw; go_simp; try with_reducible rfl)
  try simp only [Act.put, List.setIfInBounds_toArray, List.set_cons_zero, List.set_cons_succ]
  refine Late.take (i := 3) (oi := ⟨some 64, Op.load 41 (Operand.tmp 63), _, _, _, _⟩) (v := ?_) rfl (by kernel_rfl) (by kernel_rfl) (by kernel_rfl) (by kernel_rfl) (fun _ _ _ h => h) (Or.inl ⟨by rfl, fun w hSw => ?_⟩) (by assumption) ?_
  rotate_left
  · (have s1 := hSw; subst hSw; go_simp; try with_reducible rfl)
  try simp only [Act.put, List.setIfInBounds_toArray, List.set_cons_zero, List.set_cons_succ]
  refine Late.take (i := 4) (oi := ⟨some 65, Op.load 71 (Operand.tmp 10), _, _, _, _⟩) (v := ?_) rfl (by kernel_rfl) (by kernel_rfl) (by kernel_rfl) (by kernel_rfl) (fun _ _ _ h => h) (Or.inl ⟨by rfl, fun w hSw => ?_⟩) (by assumption) ?_
  rotate_left
  · (have s1 := hSw; subst hSw; go_simp; try with_reducible rfl)
  try simp only [Act.put, List.setIfInBounds_toArray, List.set_cons_zero, List.set_cons_succ]
  refine Late.take (i := 5) (oi := ⟨some 66, Op.load 74 (Operand.tmp 11), _, _, _, _⟩) (v := ?_) rfl (by kernel_rfl) (by kernel_rfl) (by kernel_rfl) (by kernel_rfl) (fun _ _ _ h => h) (Or.inl ⟨by rfl, fun w hSw => ?_⟩) (by assumption) ?_
  rotate_left
  · (have s1 := hSw; subst hSw; go_simp; try with_reducible rfl)
  try simp only [Act.put, List.setIfInBounds_toArray, List.set_cons_zero, List.set_cons_succ]
  refine Late.end_ (i := 6) (o := ⟨none, Op.mapUpdate 41 (Operand.tmp 64) (Operand.tmp 65) (Operand.tmp 66), _, _, _, _⟩) (by kernel_rfl) rfl rfl (fun K hK => ?_)
  rw [if_pos (by rfl)]
  refine wp_skipL (exec_updateL hrun rfl rfl rfl rfl) ?_
  refine hK.out _ _ ?_
  clear hK K
  try simp only [Act.put]
  refine Late.done (by kernel_rfl) ?_ _
  refine NoPanic.normal ?_
  clear d3 d4 d5 d6 d7 hrun
  go_wp2
  go_ret2
  have EZ := E7.out.drew.send HGR.out (o := tw) (e := ep) (s := s + 1) (by rw [HKQ.out]; exact HR.out)
  have hx : sendZ x tw ep body = (bytesP (nextP x tw ep body), 0, { x with sent := upd x.sent tw ep (s + 1) }) := by unfold sendZ; rw [if_pos HM.out, HSS.out]
  rw [hx]
  obtain ⟨D, d, e1, e2, e3⟩ := U7.out
  have hmK := E7.out.lt m E7.out.Km
  have hml : m < g := by have := E0.out.lt m E0.out.Km; have := HG.out; omega
  refine ⟨u, rfl, ⟨D, d, e1, own_base (own_keepB e2 (fun k h1 h2 => HGR.out.block k h2 (fun e => by injection e with e; have := S6.out; have := NN.out; have := GN.out; omega))) (by have := S6.out; have := NN.out; have := GN.out; have := HG.out; omega), e3⟩, ⟨Ar, nr, cr, m, q, EZ⟩, ?_⟩
  have M7 : Moved K w w7 := Moved.of_below K (by rw [HG.out]; exact LG.out _ B7.out)
  exact M7.then ((Moved.drew K w7).then (Moved.grown HGR.out (fun k hk => by injection hk with hk; subst hk; exact E7.out.Km)))
set_option maxHeartbeats 8000000 in
theorem send_no {w : World} {b : Nat} {K : Nat → Prop} {x : EdZ} (h : EP w b K x) {tw ep : Int} (hto : InL tw) (hep : InL ep) {B n : Nat} (c : Nat) {A : Option Addr} {body : List Int} (hz : Bs w B A n body) (hB : B ≤ w.heap.size) (hn : n ≤ 3000) (hc : n ≤ c ∧ c ≤ maxLen) (hs : InL (x.sent tw ep + 1)) (hs0 : InL (x.sent tw ep)) (hF : LaidF w) (hK : LaidK w) (hm : mayP (bareZ x tw ep body) = false) :
    Calls Tryd.prog 18 #[.pointer (some ⟨b, 0, none⟩), .int .i64 tw, .int .i64 ep, .slice A n c] w (SendT w b K (sendZ x tw ep body)) := by
  obtain ⟨Ar, nr, cr, m, q, E⟩ := h
  have E0 := Lib.hid E
  obtain ⟨g, hg⟩ : ∃ g, w.heap.size = g := ⟨_, rfl⟩
  have HG := Lib.hid hg
  obtain ⟨s, hs'⟩ : ∃ s, x.sent tw ep = s := ⟨_, rfl⟩
  obtain ⟨kq, hkq⟩ : ∃ k, q tw ep = k := ⟨_, rfl⟩
  have HSS := Lib.hid hs'
  have HKQ := Lib.hid hkq
  have hwr : IntKind.i64.wrap (s + 1) = s + 1 := by
    rw [hs'] at hs
    have h1 := hs.1
    have h2 := hs.2
    rw [IntKind.wrap_i64]; omega
  have HS1 := Lib.hid hs
  have c0 := E.c0
  have c1 := E.c1
  have c2 := E.c2
  have c3 := E.c3
  have HZ : Hid (∀ W, Below g w W → Bs W B A n body ∧ B ≤ W.heap.size) := Lib.hid (fun W hW => ⟨hz.belowM hW (by omega), by have := hW.size; omega⟩)
  have LL : Hid (∀ W, Below g w W → LaidF W ∧ LaidK W) := Lib.hid (fun W hW => ⟨hF.below hW (by have := hF.lt; omega), hK.below hW (by have := hK.lt; omega)⟩)
  have HM := Lib.hid hm
  have HTO := Lib.hid (And.intro hto hep)
  have HCC := Lib.hid hc
  have HBY := Lib.hid hz.isBytes
  have HLE := Lib.hid hz.len
  clear hz hF hK hm E hg hs hs0
  have qm := eql_mapL
  go_enter Tryd.func18, Tryd.ntmps18
  go_upto_region 4 with (show wpList _ _ _ (⟨none, .store 71 (.tmp 10) (.tmp 25), _, _, _, _⟩ :: _) _ _; refine wpList_store_as (op := ⟨none, .store 71 (.tmp 10) (.tmp 25), _, _, _, _⟩) rfl 71 (.tmp 10) (.tmp 25) rfl (w.heap.size) 0 #[.int .i64 tw, .int .i64 ep] rfl rfl (vthere (zbt_new w w.heap.size rfl) (us := [.int .i64 tw, .int .i64 ep]) rfl) bt_size (bt_one tw ep) ?_; intro w3 hw3)
  have V3 := Lib.hid ((vstored (zbt_new w w.heap.size rfl) (us := [.int .i64 tw, .int .i64 ep]) rfl hw3 (Nat.le_refl _) (below_one w _)).1)
  have B3 := Lib.hid ((vstored (zbt_new w w.heap.size rfl) (us := [.int .i64 tw, .int .i64 ep]) rfl hw3 (Nat.le_refl _) (below_one w _)).2)
  clear hw3 c0 c1 c2 c3 qm
  rw [HG.out] at V3 B3 ⊢
  obtain ⟨nb, hnb⟩ : ∃ nb, w3.heap.size = nb := ⟨_, rfl⟩
  have HNB := Lib.hid hnb
  have GN : Hid (g < nb) := Lib.hid (by rw [← hnb]; exact V3.out.lt)
  have E3 := Lib.hid (E0.out.grow (by rw [HG.out]; exact B3.out))
  have F3 : Hid (∀ W, Below nb w3 W → W.cell? ⟨b, 0, none⟩ = some (.slice Ar nr cr) ∧ W.cell? ⟨b, 1, none⟩ = some (.int .i64 x.who) ∧ W.cell? ⟨b, 2, none⟩ = some (.int .i64 x.boot) ∧ W.cell? ⟨b, 3, none⟩ = some (.map (some m)) ∧ W.cell? ⟨g, 0, none⟩ = some (.int .i64 tw) ∧ W.cell? ⟨g, 1, none⟩ = some (.int .i64 ep)) := Lib.hid (fun W hW => by
    have E := E3.out.grow (by rw [HNB.out]; exact hW)
    have V := V3.out.below hW (by rw [← HNB.out]; exact V3.out.lt)
    exact ⟨E.c0, E.c1, E.c2, E.c3, V.at1 rfl, V.at1 rfl⟩)
  have M3 : Hid (∀ W, Below nb w3 W → LMap W m (fun o e => kev (x.sent o e) (q o e))) := Lib.hid (fun W hW => (E3.out.grow (by rw [HNB.out]; exact hW)).map)
  have LK3 : Hid (∀ W, Below nb w3 W → (Instr.lookup 41 (.map (some m)) (kyv tw ep) false).run Tryd.prog W = .ok (kev s kq) W) := Lib.hid (fun W hW => by
    have := run_lookupL (M3.out W hW) HTO.out.1 HTO.out.2
    rwa [HSS.out, HKQ.out] at this)
  have P3 : Hid (Below nb w3 w3) := Lib.hid (Below.refl _ _)
  clear hnb
  refine Late.region (fun w' => Below nb w3 w') [] (by kernel_rfl) P3.out.drew (fun hHeld => ?_)
  refine Late.take (i := 0) (oi := ⟨some 26, Op.move (Operand.tmp 0), _, _, _, _⟩) (v := ?_) rfl (by kernel_rfl) (by kernel_rfl) (by kernel_rfl) (by kernel_rfl) (fun _ _ _ h => h) (Or.inl ⟨by rfl, fun w hSw => ?_⟩) (by assumption) ?_
  rotate_left
  · (have s1 := hSw; go_simp; try with_reducible rfl)
  try simp only [Act.put, List.setIfInBounds_toArray, List.set_cons_zero, List.set_cons_succ]
  refine Late.take (i := 1) (oi := ⟨some 27, Op.nilCheck (Operand.tmp 26), _, _, _, _⟩) (v := ?_) rfl (by kernel_rfl) (by kernel_rfl) (by kernel_rfl) (by kernel_rfl) (fun _ _ _ h => h) (Or.inl ⟨by rfl, fun w hSw => ?_⟩) (by assumption) ?_
  rotate_left
  · (have s1 := hSw; go_simp; try with_reducible rfl)
  try simp only [Act.put, List.setIfInBounds_toArray, List.set_cons_zero, List.set_cons_succ]
  refine Late.take (i := 2) (oi := ⟨some 28, Op.fieldAddr 43 (Operand.tmp 27) 3, _, _, _, _⟩) (v := ?_) rfl (by kernel_rfl) (by kernel_rfl) (by kernel_rfl) (by kernel_rfl) (fun _ _ _ h => h) (Or.inl ⟨by rfl, fun w hSw => ?_⟩) (by assumption) ?_
  rotate_left
  · (have s1 := hSw; go_simp; try with_reducible rfl)
  try simp only [Act.put, List.setIfInBounds_toArray, List.set_cons_zero, List.set_cons_succ]
  refine Late.take (i := 3) (oi := ⟨some 29, Op.load 41 (Operand.tmp 28), _, _, _, _⟩) (v := ?_) rfl (by kernel_rfl) (by kernel_rfl) (by kernel_rfl) (by kernel_rfl) (fun _ _ _ h => h) (Or.inl ⟨by rfl, fun w hSw => ?_⟩) (by assumption) ?_
  rotate_left
  · (have s1 := hSw; obtain ⟨d0, d1, d2, d3, d4, d5⟩ := F3.out _ hSw; go_simp; try with_reducible rfl)
  try simp only [Act.put, List.setIfInBounds_toArray, List.set_cons_zero, List.set_cons_succ]
  refine Late.take (i := 4) (oi := ⟨some 30, Op.load 71 (Operand.tmp 10), _, _, _, _⟩) (v := ?_) rfl (by kernel_rfl) (by kernel_rfl) (by kernel_rfl) (by kernel_rfl) (fun _ _ _ h => h) (Or.inl ⟨by rfl, fun w hSw => ?_⟩) (by assumption) ?_
  rotate_left
  · (have s1 := hSw; obtain ⟨d0, d1, d2, d3, d4, d5⟩ := F3.out _ hSw; go_simp; try with_reducible rfl)
  try simp only [Act.put, List.setIfInBounds_toArray, List.set_cons_zero, List.set_cons_succ]
  refine Late.take (i := 5) (oi := ⟨some 31, Op.lookup 41 (Operand.tmp 29) (Operand.tmp 30) false, _, _, _, _⟩) (v := kev s kq) rfl (by kernel_rfl) (by kernel_rfl) (by kernel_rfl) (by kernel_rfl) (fun _ _ _ h => h) (Or.inl ⟨by rfl, fun w hSw => ?_⟩) (by assumption) ?_
  · (unfold execOp; simp only [Act.eval]; have hl := LK3.out _ hSw; simp [kyv] at hl; simp [hl])
  try simp only [Act.put, List.setIfInBounds_toArray, List.set_cons_zero, List.set_cons_succ]
  refine Late.one (i := 6) (o := ⟨some 11, Op.alloc 74, _, _, _, _⟩) (by kernel_rfl) rfl (fun K hK => ?_)
  go_simp
  refine hK.out _ _ ((hHeld.alloc (by have := hHeld.size; have := HNB.out; omega) _)) (fun hHeld2 => ?_)
  clear hK K hHeld
  have hHeld := hHeld2
  clear hHeld2
  try simp only [Act.put, List.setIfInBounds_toArray, List.set_cons_zero, List.set_cons_succ]
  refine Late.one (i := 7) (o := ⟨none, Op.store 74 (Operand.tmp 11) (Operand.tmp 31), _, _, _, _⟩) (by kernel_rfl) rfl (fun K hK => ?_)
  rw [if_pos (by rfl)]
  refine wp_store_mid 74 (.tmp 11) (.tmp 31) rfl w3.heap.size 0 (kc s kq).toArray rfl rfl (vthere ((zkp_new w3 w3.heap.size rfl).same (w' := (w3.alloc (.cells #[.int .i64 0, .pointer none] 74)).drew) rfl) (us := kc s kq) rfl) kp_size (kc_one s kq) ?_
  obtain ⟨w4, hw4⟩ : ∃ W, W = (w3.alloc (.cells #[.int .i64 0, .pointer none] 74)).drew.setCells w3.heap.size 0 (kc s kq).toArray.toList := ⟨_, rfl⟩
  rw [← hw4]
  have V4 : VBox w4 w3.heap.size 2 (kc s kq) := ((zkp_new w3 w3.heap.size rfl).same (w' := (w3.alloc (.cells #[.int .i64 0, .pointer none] 74)).drew) rfl).store rfl (Lib.hid hw4)
  have B4 : Below nb w3 w4 := by rw [hw4]; exact below_setCells (by rw [HNB.out]; exact Nat.le_refl _) _ _ _ hHeld
  clear hw4
  refine hK.out _ _ (B4) (fun hHeld2 => ?_)
  clear hK K hHeld
  have hHeld := hHeld2
  clear hHeld2
  try simp only [Act.put, List.setIfInBounds_toArray, List.set_cons_zero, List.set_cons_succ]
  refine Late.done (by kernel_rfl) ?_ _
  refine NoPanic.normal ?_
  rw [HNB.out] at V4 ⊢
  have k0 := V4.at1 (i := 0) (v := .int .i64 s) rfl
  have kf0 := V4.fr1 (i := 0) (by omega)
  have V4' := Lib.hid V4
  have B4' := Lib.hid hHeld
  clear V4 hHeld
  go_upto_region 6 with fail
  obtain ⟨w5, hw5⟩ : ∃ W, W = w4.setCell ⟨nb, 0, none⟩ (.int .i64 (s + 1)) := ⟨_, rfl⟩
  rw [← hw5]
  have V5 := Lib.hid (show VBox w5 nb 2 (kc (s + 1) kq) by rw [hw5]; exact V4'.out.set1 (i := 0) (by omega) (.int .i64 (s + 1)))
  have B5 := Lib.hid (show Below nb w3 w5 by rw [hw5]; exact B4'.out.setCell (p := ⟨nb, 0, none⟩) (Nat.le_refl _) _)
  obtain ⟨nc, hnc⟩ : ∃ nc, w5.heap.size = nc := ⟨_, rfl⟩
  have HNC := Lib.hid hnc
  have NN : Hid (nb < nc) := Lib.hid (by rw [← hnc]; exact V5.out.lt)
  clear hw5 hnc k0 kf0 V4' B4'
  have LB : Hid (∀ W, Below nc w5 W → Below nb w3 W) := Lib.hid (fun W hW => B5.out.trans (hW.mono (by have := NN.out; omega)))
  have LG : Hid (∀ W, Below nc w5 W → Below g w W) := Lib.hid (fun W hW => B3.out.trans ((LB.out W hW).mono (by have := GN.out; omega)))
  have LE : Hid (∀ W, Below nc w5 W → EPs W b K x Ar nr cr m q) := Lib.hid (fun W hW => E3.out.grow (by rw [HNB.out]; exact LB.out W hW))
  have LV : Hid (∀ W, Below nc w5 W → VBox W nb 2 (kc (s + 1) kq)) := Lib.hid (fun W hW => V5.out.below hW NN.out)
  obtain ⟨p, hp⟩ : ∃ p : PX, p = ⟨bareZ x tw ep body, A, n, c⟩ := ⟨_, rfl⟩
  have HPZ : Hid (p.z = bareZ x tw ep body) := Lib.hid (by rw [hp])
  have HPC : Hid (pc p = pc ⟨⟨x.who, tw, ep, x.boot, s + 1, body, List.replicate 32 0⟩, A, n, c⟩) := Lib.hid (by rw [hp]; unfold bareZ; rw [HSS.out])
  have HPN : Hid (p.n = n) := Lib.hid (by rw [hp])
  have PO : Hid (∀ W, Below nc w5 W → PXOk W B p ∧ B ≤ W.heap.size) := Lib.hid (fun W hW => by
    obtain ⟨z1, z2⟩ := HZ.out W (LG.out W hW)
    refine ⟨?_, z2⟩
    rw [hp]
    exact ⟨⟨E3.out.who, HTO.out.1, HTO.out.2, E3.out.boot, HS1.out, HBY.out, by show body.length ≤ 65536; rw [HLE.out]; omega, rep_bytes 32 0 (by omega) (by omega), List.length_replicate ..⟩, z1, HCC.out.1, HCC.out.2⟩)
  have P5 : Hid (Below nc w5 w5) := Lib.hid (Below.refl _ _)
  clear hp
  refine Late.region (fun w' => Below nc w5 w') [] (by kernel_rfl) P5.out.drew (fun hHeld => ?_)
  refine Late.take (i := 0) (oi := ⟨some 37, Op.move (Operand.tmp 0), _, _, _, _⟩) (v := ?_) rfl (by kernel_rfl) (by kernel_rfl) (by kernel_rfl) (by kernel_rfl) (fun _ _ _ h => h) (Or.inl ⟨by rfl, fun w hSw => ?_⟩) (by assumption) ?_
  rotate_left
  · (have s1 := hSw; go_simp; try with_reducible rfl)
  try simp only [Act.put, List.setIfInBounds_toArray, List.set_cons_zero, List.set_cons_succ]
  refine Late.take (i := 1) (oi := ⟨some 38, Op.nilCheck (Operand.tmp 37), _, _, _, _⟩) (v := ?_) rfl (by kernel_rfl) (by kernel_rfl) (by kernel_rfl) (by kernel_rfl) (fun _ _ _ h => h) (Or.inl ⟨by rfl, fun w hSw => ?_⟩) (by assumption) ?_
  rotate_left
  · (have s1 := hSw; go_simp; try with_reducible rfl)
  try simp only [Act.put, List.setIfInBounds_toArray, List.set_cons_zero, List.set_cons_succ]
  refine Late.take (i := 2) (oi := ⟨some 39, Op.fieldAddr 43 (Operand.tmp 38) 0, _, _, _, _⟩) (v := ?_) rfl (by kernel_rfl) (by kernel_rfl) (by kernel_rfl) (by kernel_rfl) (fun _ _ _ h => h) (Or.inl ⟨by rfl, fun w hSw => ?_⟩) (by assumption) ?_
  rotate_left
  · (have s1 := hSw; go_simp; try with_reducible rfl)
  try simp only [Act.put, List.setIfInBounds_toArray, List.set_cons_zero, List.set_cons_succ]
  refine Late.take (i := 3) (oi := ⟨some 40, Op.load 22 (Operand.tmp 39), _, _, _, _⟩) (v := ?_) rfl (by kernel_rfl) (by kernel_rfl) (by kernel_rfl) (by kernel_rfl) (fun _ _ _ h => h) (Or.inl ⟨by rfl, fun w hSw => ?_⟩) (by assumption) ?_
  rotate_left
  · (have s1 := hSw; have E := LE.out _ hSw; have d0 := E.c0; have d1 := E.c1; have d2 := E.c2; have d4 := (LV.out _ hSw).at1 (i := 0) (v := .int .i64 (s + 1)) rfl; clear E; go_simp; try with_reducible rfl)
  try simp only [Act.put, List.setIfInBounds_toArray, List.set_cons_zero, List.set_cons_succ]
  refine Late.take (i := 4) (oi := ⟨some 41, Op.move (Operand.tmp 0), _, _, _, _⟩) (v := ?_) rfl (by kernel_rfl) (by kernel_rfl) (by kernel_rfl) (by kernel_rfl) (fun _ _ _ h => h) (Or.inl ⟨by rfl, fun w hSw => ?_⟩) (by assumption) ?_
  rotate_left
  · (have s1 := hSw; go_simp; try with_reducible rfl)
  try simp only [Act.put, List.setIfInBounds_toArray, List.set_cons_zero, List.set_cons_succ]
  refine Late.take (i := 5) (oi := ⟨some 42, Op.nilCheck (Operand.tmp 41), _, _, _, _⟩) (v := ?_) rfl (by kernel_rfl) (by kernel_rfl) (by kernel_rfl) (by kernel_rfl) (fun _ _ _ h => h) (Or.inl ⟨by rfl, fun w hSw => ?_⟩) (by assumption) ?_
  rotate_left
  · (have s1 := hSw; go_simp; try with_reducible rfl)
  try simp only [Act.put, List.setIfInBounds_toArray, List.set_cons_zero, List.set_cons_succ]
  refine Late.take (i := 6) (oi := ⟨some 43, Op.fieldAddr 43 (Operand.tmp 42) 1, _, _, _, _⟩) (v := ?_) rfl (by kernel_rfl) (by kernel_rfl) (by kernel_rfl) (by kernel_rfl) (fun _ _ _ h => h) (Or.inl ⟨by rfl, fun w hSw => ?_⟩) (by assumption) ?_
  rotate_left
  · (have s1 := hSw; go_simp; try with_reducible rfl)
  try simp only [Act.put, List.setIfInBounds_toArray, List.set_cons_zero, List.set_cons_succ]
  refine Late.take (i := 7) (oi := ⟨some 44, Op.load 3 (Operand.tmp 43), _, _, _, _⟩) (v := ?_) rfl (by kernel_rfl) (by kernel_rfl) (by kernel_rfl) (by kernel_rfl) (fun _ _ _ h => h) (Or.inl ⟨by rfl, fun w hSw => ?_⟩) (by assumption) ?_
  rotate_left
  · (have s1 := hSw; have E := LE.out _ hSw; have d0 := E.c0; have d1 := E.c1; have d2 := E.c2; have d4 := (LV.out _ hSw).at1 (i := 0) (v := .int .i64 (s + 1)) rfl; clear E; go_simp; try with_reducible rfl)
  try simp only [Act.put, List.setIfInBounds_toArray, List.set_cons_zero, List.set_cons_succ]
  refine Late.take (i := 8) (oi := ⟨some 45, Op.move (Operand.tmp 1), _, _, _, _⟩) (v := ?_) rfl (by kernel_rfl) (by kernel_rfl) (by kernel_rfl) (by kernel_rfl) (fun _ _ _ h => h) (Or.inl ⟨by rfl, fun w hSw => ?_⟩) (by assumption) ?_
  rotate_left
  · (have s1 := hSw; go_simp; try with_reducible rfl)
  try simp only [Act.put, List.setIfInBounds_toArray, List.set_cons_zero, List.set_cons_succ]
  refine Late.take (i := 9) (oi := ⟨some 46, Op.move (Operand.tmp 2), _, _, _, _⟩) (v := ?_) rfl (by kernel_rfl) (by kernel_rfl) (by kernel_rfl) (by kernel_rfl) (fun _ _ _ h => h) (Or.inl ⟨by rfl, fun w hSw => ?_⟩) (by assumption) ?_
  rotate_left
  · (have s1 := hSw; go_simp; try with_reducible rfl)
  try simp only [Act.put, List.setIfInBounds_toArray, List.set_cons_zero, List.set_cons_succ]
  refine Late.take (i := 10) (oi := ⟨some 47, Op.move (Operand.tmp 0), _, _, _, _⟩) (v := ?_) rfl (by kernel_rfl) (by kernel_rfl) (by kernel_rfl) (by kernel_rfl) (fun _ _ _ h => h) (Or.inl ⟨by rfl, fun w hSw => ?_⟩) (by assumption) ?_
  rotate_left
  · (have s1 := hSw; go_simp; try with_reducible rfl)
  try simp only [Act.put, List.setIfInBounds_toArray, List.set_cons_zero, List.set_cons_succ]
  refine Late.take (i := 11) (oi := ⟨some 48, Op.nilCheck (Operand.tmp 47), _, _, _, _⟩) (v := ?_) rfl (by kernel_rfl) (by kernel_rfl) (by kernel_rfl) (by kernel_rfl) (fun _ _ _ h => h) (Or.inl ⟨by rfl, fun w hSw => ?_⟩) (by assumption) ?_
  rotate_left
  · (have s1 := hSw; go_simp; try with_reducible rfl)
  try simp only [Act.put, List.setIfInBounds_toArray, List.set_cons_zero, List.set_cons_succ]
  refine Late.take (i := 12) (oi := ⟨some 49, Op.fieldAddr 43 (Operand.tmp 48) 2, _, _, _, _⟩) (v := ?_) rfl (by kernel_rfl) (by kernel_rfl) (by kernel_rfl) (by kernel_rfl) (fun _ _ _ h => h) (Or.inl ⟨by rfl, fun w hSw => ?_⟩) (by assumption) ?_
  rotate_left
  · (have s1 := hSw; go_simp; try with_reducible rfl)
  try simp only [Act.put, List.setIfInBounds_toArray, List.set_cons_zero, List.set_cons_succ]
  refine Late.take (i := 13) (oi := ⟨some 50, Op.load 3 (Operand.tmp 49), _, _, _, _⟩) (v := ?_) rfl (by kernel_rfl) (by kernel_rfl) (by kernel_rfl) (by kernel_rfl) (fun _ _ _ h => h) (Or.inl ⟨by rfl, fun w hSw => ?_⟩) (by assumption) ?_
  rotate_left
  · (have s1 := hSw; have E := LE.out _ hSw; have d0 := E.c0; have d1 := E.c1; have d2 := E.c2; have d4 := (LV.out _ hSw).at1 (i := 0) (v := .int .i64 (s + 1)) rfl; clear E; go_simp; try with_reducible rfl)
  try simp only [Act.put, List.setIfInBounds_toArray, List.set_cons_zero, List.set_cons_succ]
  refine Late.take (i := 14) (oi := ⟨some 51, Op.fieldAddr 74 (Operand.tmp 11) 0, _, _, _, _⟩) (v := ?_) rfl (by kernel_rfl) (by kernel_rfl) (by kernel_rfl) (by kernel_rfl) (fun _ _ _ h => h) (Or.inl ⟨by rfl, fun w hSw => ?_⟩) (by assumption) ?_
  rotate_left
  · (have s1 := hSw; go_simp; try with_reducible rfl)
  try simp only [Act.put, List.setIfInBounds_toArray, List.set_cons_zero, List.set_cons_succ]
  refine Late.take (i := 15) (oi := ⟨some 52, Op.load 3 (Operand.tmp 51), _, _, _, _⟩) (v := ?_) rfl (by kernel_rfl) (by kernel_rfl) (by kernel_rfl) (by kernel_rfl) (fun _ _ _ h => h) (Or.inl ⟨by rfl, fun w hSw => ?_⟩) (by assumption) ?_
  rotate_left
  · (have s1 := hSw; have E := LE.out _ hSw; have d0 := E.c0; have d1 := E.c1; have d2 := E.c2; have d4 := (LV.out _ hSw).at1 (i := 0) (v := .int .i64 (s + 1)) rfl; clear E; go_simp; try with_reducible rfl)
  try simp only [Act.put, List.setIfInBounds_toArray, List.set_cons_zero, List.set_cons_succ]
  refine Late.take (i := 16) (oi := ⟨some 53, Op.move (Operand.tmp 3), _, _, _, _⟩) (v := ?_) rfl (by kernel_rfl) (by kernel_rfl) (by kernel_rfl) (by kernel_rfl) (fun _ _ _ h => h) (Or.inl ⟨by rfl, fun w hSw => ?_⟩) (by assumption) ?_
  rotate_left
  · (have s1 := hSw; go_simp; try with_reducible rfl)
  try simp only [Act.put, List.setIfInBounds_toArray, List.set_cons_zero, List.set_cons_succ]
  refine Late.take (i := 17) (oi := ⟨some 54, Op.build 26 #[(0, Operand.tmp 44), (1, Operand.tmp 45), (2, Operand.tmp 46), (3, Operand.tmp 50), (4, Operand.tmp 52), (5, Operand.tmp 53)], _, _, _, _⟩) (v := .agg (pc p).toArray) rfl (by kernel_rfl) (by kernel_rfl) (by kernel_rfl) (by kernel_rfl) (fun _ _ _ h => h) (Or.inl ⟨by rfl, fun w hSw => ?_⟩) (by assumption) ?_
  · (have hb := build_p6 x.who tw ep x.boot (s + 1) body A n c w; rw [← HPC.out] at hb; exact exec_bld6 rfl rfl rfl rfl rfl rfl rfl hb)
  try simp only [Act.put, List.setIfInBounds_toArray, List.set_cons_zero, List.set_cons_succ]
  refine Late.one (i := 18) (o := ⟨some 55, Op.call { callee := Callee.value (Operand.func 9), args := #[Operand.tmp 40, Operand.tmp 54], argTypes := #[22, 26] }, _, _, _, _⟩) (by kernel_rfl) rfl (fun K hK => ?_)
  go_simp
  obtain ⟨l1, l2⟩ := LL.out _ (LG.out _ hHeld)
  obtain ⟨l3, l4⟩ := PO.out _ hHeld
  refine (seal_any cr (LE.out _ hHeld).root (Nat.le_refl _) (LE.out _ hHeld).rn l3 l4 (by rw [HPN.out]; omega) l1 l2).mono ?_
  rintro e w6 ⟨y, rfl, hyz, hyok, hyo, hb⟩
  rw [HPZ.out] at hyz
  have hb6 := hHeld.trans (hb.mono (by have := hHeld.size; have := HNC.out; omega))
  clear hb l1 l2 l3 l4
  refine hK.out _ _ (hb6) (fun hHeld2 => ?_)
  clear hK K hHeld
  have hHeld := hHeld2
  clear hHeld2
  try simp only [Act.put, List.setIfInBounds_toArray, List.set_cons_zero, List.set_cons_succ]
  refine Late.one (i := 19) (o := ⟨some 56, Op.call { callee := Callee.value (Operand.func 15), args := #[Operand.tmp 55], argTypes := #[26] }, _, _, _, _⟩) (by kernel_rfl) rfl (fun K hK => ?_)
  go_simp
  have hyn : y.n ≤ 65000 := by have h1 := hyok.body.len; rw [hyz] at h1; have h2 := HLE.out; have : (sealZ x.root (bareZ x tw ep body)).body = body := rfl; rw [this] at h1; omega
  have hym : mayP y.z = false := by rw [hyz, may_seal]; exact HM.out
  refine (print_no hyok.ok.tl hym).mono ?_
  rintro e w7 ⟨u, rfl, hu, hb⟩
  have hb7 := hHeld.trans (hb.mono (by have := hHeld.size; have := HNC.out; omega))
  have s6 : nc ≤ w6.heap.size := by have := hHeld.size; have := HNC.out; omega
  clear hb
  refine hK.out _ _ (hb7) (fun hHeld2 => ?_)
  clear hK K hHeld
  have hHeld := hHeld2
  clear hHeld2
  try simp only [Act.put, List.setIfInBounds_toArray, List.set_cons_zero, List.set_cons_succ]
  refine Late.take (i := 20) (oi := ⟨some 36, Op.move (Operand.tmp 56), _, _, _, _⟩) (v := ?_) rfl (by kernel_rfl) (by kernel_rfl) (by kernel_rfl) (by kernel_rfl) (fun _ _ _ h => h) (Or.inl ⟨by rfl, fun w hSw => ?_⟩) (by assumption) ?_
  rotate_left
  · (have s1 := hSw; go_simp; try with_reducible rfl)
  try simp only [Act.put, List.setIfInBounds_toArray, List.set_cons_zero, List.set_cons_succ]
  refine Late.take (i := 21) (oi := ⟨some 57, Op.extract (Operand.tmp 36) 0, _, _, _, _⟩) (v := ?_) rfl (by kernel_rfl) (by kernel_rfl) (by kernel_rfl) (by kernel_rfl) (fun _ _ _ h => h) (Or.inl ⟨by rfl, fun w hSw => ?_⟩) (by assumption) ?_
  rotate_left
  · (have s1 := hSw; go_simp; try with_reducible rfl)
  try simp only [Act.put, List.setIfInBounds_toArray, List.set_cons_zero, List.set_cons_succ]
  refine Late.take (i := 22) (oi := ⟨some 58, Op.extract (Operand.tmp 36) 1, _, _, _, _⟩) (v := ?_) rfl (by kernel_rfl) (by kernel_rfl) (by kernel_rfl) (by kernel_rfl) (fun _ _ _ h => h) (Or.inl ⟨by rfl, fun w hSw => ?_⟩) (by assumption) ?_
  rotate_left
  · (have s1 := hSw; go_simp; try with_reducible rfl)
  try simp only [Act.put, List.setIfInBounds_toArray, List.set_cons_zero, List.set_cons_succ]
  refine Late.take (i := 23) (oi := ⟨some 12, Op.assign (Operand.tmp 57), _, _, _, _⟩) (v := ?_) rfl (by kernel_rfl) (by kernel_rfl) (by kernel_rfl) (by kernel_rfl) (fun _ _ _ h => h) (Or.inl ⟨by rfl, fun w hSw => ?_⟩) (by assumption) ?_
  rotate_left
  · (have s1 := hSw; go_simp; try with_reducible rfl)
  try simp only [Act.put, List.setIfInBounds_toArray, List.set_cons_zero, List.set_cons_succ]
  refine Late.take (i := 24) (oi := ⟨some 13, Op.assign (Operand.tmp 58), _, _, _, _⟩) (v := ?_) rfl (by kernel_rfl) (by kernel_rfl) (by kernel_rfl) (by kernel_rfl) (fun _ _ _ h => h) (Or.inl ⟨by rfl, fun w hSw => ?_⟩) (by assumption) ?_
  rotate_left
  · (have s1 := hSw; go_simp; try with_reducible rfl)
  try simp only [Act.put, List.setIfInBounds_toArray, List.set_cons_zero, List.set_cons_succ]
  refine Late.done (by kernel_rfl) ?_ _
  refine NoPanic.normal ?_
  have U7 := Lib.hid (show IsList u w7 w6.heap.size [] from hu)
  have S6 := Lib.hid s6
  have B7 := Lib.hid hHeld
  clear hHeld hu s6 hyz hyok hyo hyn hym
  have E7 := Lib.hid (LE.out _ B7.out)
  go_wp2
  go_ret2
  have hx : sendZ x tw ep body = ([], 2, x) := by unfold sendZ; rw [if_neg (by rw [HM.out]; decide)]
  rw [hx]
  obtain ⟨D, d, e1, e2, e3⟩ := U7.out
  exact ⟨u, rfl, ⟨D, d, e1, own_base e2 (by have := S6.out; have := NN.out; have := GN.out; have := HG.out; omega), e3⟩, ⟨Ar, nr, cr, m, q, E7.out⟩, Moved.of_below K (by rw [HG.out]; exact LG.out _ B7.out)⟩
theorem send_any {w : World} {b : Nat} {K : Nat → Prop} {x : EdZ} (h : EP w b K x) {tw ep : Int} (hto : InL tw) (hep : InL ep) {B n : Nat} (c : Nat) {A : Option Addr} {body : List Int} (hz : Bs w B A n body) (hB : B ≤ w.heap.size) (hn : n ≤ 3000) (hc : n ≤ c ∧ c ≤ maxLen) (hs : InL (x.sent tw ep + 1)) (hs0 : InL (x.sent tw ep)) (hF : LaidF w) (hK : LaidK w) :
    Calls Tryd.prog 18 #[.pointer (some ⟨b, 0, none⟩), .int .i64 tw, .int .i64 ep, .slice A n c] w (SendT w b K (sendZ x tw ep body)) := by
  cases hm : mayP (bareZ x tw ep body) with
  | true => exact send_yes h hto hep c hz hB hn hc hs hs0 hF hK hm
  | false => exact send_no h hto hep c hz hB hn hc hs hs0 hF hK hm
end Go.Proofs.YtlknjaoamkcmjaaDoor
