/- Get: the program's. -/
import Derived.Test.YtlknjaoamkcmjaaDoorLkH
namespace Go.Proofs.YtlknjaoamkcmjaaDoor
open Go.ChangeShapes Go.WideShapes Go.ChangeAt Go.RowKit
set_option linter.unusedVariables false
set_option maxRecDepth 100000
set_option linter.unusedSimpArgs false
open Plain Sha Wn Lk
/-- What Get tells: the packet's body stands in new memory. -/
def GetT (w : World) (b : Nat) (K : Nat → Prop) (r : PkZ × Int × EdZ) (e : Ending) (w' : World) : Prop := ∃ x : PX, e = .returned (.tuple #[.agg (pc x).toArray, .int .i64 r.2.1]) ∧ x.z = r.1 ∧ PXOk w' w'.heap.size x ∧ w'.ownsRow w.heap.size 5 1 (.slice x.A x.n x.c) x.n (vals x.z.body) ∧ ∃ K', EP w' b K' r.2.2 ∧ Moved K w w' ∧ Newer w K K' ∧ ∀ a, x.A = some a → ¬ K' a.block
theorem below_zero (w : World) : Below 0 w w := Below.refl _ _
/-- A store into a block that is newer than w. -/
theorem moved_new {w w5 w9 : World} {K : Nat → Prop} {g : Nat} {cs : List Value} (h : Moved K w w5) (hk : ∀ k, k ≠ g → w9.heap[k]? = w5.heap[k]?) (hs : w9.heap.size = w5.heap.size) (hw : Hid (w9 = w5.setCells g 0 cs)) (hg : w.heap.size ≤ g) : Moved K w w9 := by
  have h0 : Below 0 w5 w9 := by rw [hw.out]; exact below_setCells (Nat.zero_le _) _ _ _ (Below.refl _ _)
  exact ⟨h0.os.trans h.os, h0.tape.trans h.tape, h0.output.trans h.output, by rw [hs]; exact h.size, fun k hk' hn => (hk k (by omega)).trans (h.block k hk' hn)⟩
set_option maxHeartbeats 8000000 in
theorem get_any {w : World} {b : Nat} {K : Nat → Prop} {x : EdZ} (h : EP w b K x) {B n : Nat} (c : Nat) {A : Option Addr} {bs : List Int} (hz : Bs w B A n bs) (hB : B ≤ w.heap.size) (hn : n ≤ 65000) (hF : LaidF w) (hK : LaidK w) :
    Calls Tryd.prog 19 #[.pointer (some ⟨b, 0, none⟩), .slice A n c] w (GetT w b K (getZ x bs)) := by
  obtain ⟨Ar, nr, cr, m, q, E⟩ := h
  obtain ⟨g, hg⟩ : ∃ g, w.heap.size = g := ⟨_, rfl⟩
  have HG := Lib.hid hg
  obtain ⟨W1, hW1⟩ : ∃ W, W = w.alloc (.cells zPc 26) := ⟨_, rfl⟩
  have b1 : Below g w W1 := by rw [hW1, ← hg]; exact below_one _ _
  have B1 := Lib.hid b1
  have V1 := Lib.hid (show VBox W1 g 38 (pc px0) by rw [hW1]; exact zbox_new w _ g hg)
  have z1 := Lib.hid (show W1.heap.size = g + 1 by rw [hW1]; simp [hg])
  have HW1 := Lib.hid hW1
  have E0 := Lib.hid E
  have E1 := Lib.hid (E.grow (by rw [hg]; exact b1))
  have c3 := E1.out.c3
  obtain ⟨r, hr⟩ : ∃ r, parseL bs = r := ⟨_, rfl⟩
  have HR := Lib.hid hr
  have PP := Lib.hid (lparse_any (w := W1) c (hz.belowM b1 (by omega)) (by have := b1.size; omega) (by omega))
  rw [hr] at PP
  have hbl : r.2 = 0 → r.1.body.length ≤ 65000 := fun h0 => by
    have hp : parseL bs = (r.1, 0) := by rw [hr, ← h0]
    obtain ⟨ok, _, e⟩ := parseL_back (by rw [hz.len]; omega) hz.isBytes hp
    have := bytesP_len ok
    rw [e, hz.len] at this
    omega
  have her : r.2 = 0 ∨ (r.1 = p0 ∧ r.2 = 190) := by
    rcases parseL_err bs with h0 | h0
    · left; rw [← hr]; exact h0
    · right; rw [← hr, h0]; exact ⟨rfl, rfl⟩
  have HBL := Lib.hid hbl
  have LL : Hid (∀ W, Below g w W → LaidF W ∧ LaidK W) := Lib.hid (fun W hW => ⟨hF.below hW (by have := hF.lt; omega), hK.below hW (by have := hK.lt; omega)⟩)
  have qm := eql_mapL
  have zk := zPk
  have zs := zPc_size
  have zn := zPc_ne
  clear hW1 hg hz E b1 hr hbl hF hK
  obtain ⟨z, er⟩ := r
  rcases her with h0 | ⟨h0, h00⟩
  · simp only at h0
    subst h0
    go_enter Tryd.func19, Tryd.ntmps19
    go_upto_region 1 with fail
    rw [← HW1.out, HG.out]
    go_upto_region 4 with (first
      | (go_at_call 24; refine (PP.out).mono ?_; rintro e w3 hR; obtain ⟨y, rfl, hyz, hyok, hyo, hb⟩ := hR; have YZ := Lib.hid hyz; have YO := Lib.hid hyok; have YW := Lib.hid hyo; have B3 := Lib.hid hb; have YT := Lib.hid hyok.ok.tl; clear hyz hyok hyo hb)
      | (show wpList _ _ _ (⟨none, .store 26 (.tmp 6) (.tmp 21), _, _, _, _⟩ :: _) _ _; refine wpList_store_as (op := ⟨none, .store 26 (.tmp 6) (.tmp 21), _, _, _, _⟩) rfl 26 (.tmp 6) (.tmp 21) rfl (w3.heap.size) 0 (pc y).toArray rfl rfl (vthere (zbox_new w3 26 _ rfl) (us := pc y) (pc_len YT.out)) (p_sizeA YT.out) (p_oneA y) ?_; intro w4 hw4))
    obtain ⟨V4y', B4'⟩ := vstored (zbox_new w3 26 w3.heap.size rfl) (us := pc y) (pc_len YT.out) hw4 (Nat.le_refl _) (below_one w3 _)
    obtain ⟨gy, hgy⟩ : ∃ k, w3.heap.size = k := ⟨_, rfl⟩
    rw [hgy] at V4y' ⊢
    have V4y := Lib.hid V4y'
    have SY := Lib.hid (show g < gy by rw [← hgy]; have := B3.out.size; have := z1.out; omega)
    have BT4 := Lib.hid (show Below g w w4 from B1.out.trans ((B3.out.trans (B4'.mono B3.out.size)).mono (by have := z1.out; omega)))
    have BT4s : Hid (g + 1 ≤ w4.heap.size) := Lib.hid (by have h1 := B3.out.size; have h2 := B4'.size; have := z1.out; omega)
    have V41 := Lib.hid (V1.out.below (B3.out.trans (B4'.mono B3.out.size)) (by have := z1.out; omega))
    have E4 := Lib.hid (E0.out.grow (by rw [HG.out]; exact BT4.out))
    have O4 := Lib.hid (own_below YW.out B4' (Nat.le_refl _))
    have YO4 := Lib.hid (show PXOk w4 w4.heap.size y from ⟨YO.out.ok, bs_of_own O4.out YO.out.ok.body, YO.out.nc, YO.out.cm⟩)
    have W34 : Hid (w3.heap.size ≤ w4.heap.size) := Lib.hid B4'.size
    clear hw4 V4y' B4' hgy
    obtain ⟨er, x', ht⟩ : ∃ a b, takeE x y.z = (a, b) := ⟨_, _, rfl⟩
    have TK := Lib.hid (take_anyL (w := w4) (x := x) (K := K) (b := b) ⟨Ar, nr, cr, m, q, E4.out⟩ YO4.out (Nat.le_refl _) (by have h1 := YO4.out.body.len; have h2 := HBL.out (by trivial); rw [YZ.out] at h1; omega) (LL.out _ BT4.out).1 (LL.out _ BT4.out).2)
    rw [ht] at TK
    have hG : getZ x bs = (if er = 0 then y.z else p0, er, x') := by
      unfold getZ
      rw [HR.out]
      simp only [ne_eq, not_true_eq_false, if_false]
      rw [← YZ.out, ht]
    have HGZ := Lib.hid hG
    clear ht hG qm zk zs zn c3
    by_cases h0 : er = 0
    · subst h0
      go_upto_region 8 with (first
      | (show wpList _ _ _ (⟨some 26, .load 26 (.tmp 6), _, _, _, _⟩ :: _) _ _; refine wpList_load_mid (op := ⟨some 26, .load 26 (.tmp 6), _, _, _, _⟩) rfl 26 (.tmp 6) rfl (gy) 0 rfl (pc y) _ (V4y.out.range) Tryd.underlying26 rfl (p_size YT.out) ?_)
      | (go_at_call 39; refine (TK.out).mono ?_; rintro e w5 ⟨rfl, K', hE, hM, hN⟩; have E5 := Lib.hid hE; have M5 := Lib.hid hM; have NK := Lib.hid hN; clear hE hM hN))
      have hKg : ∀ k, K k → k < g := fun k hk => by have := E0.out.lt k hk; have := HG.out; omega
      have V51 := Lib.hid (V41.out.same (M5.out.block g (by have := BT4s.out; omega) (fun h => by have := hKg g h; omega)))
      have V5y := Lib.hid (V4y.out.same (M5.out.block gy V4y.out.lt (fun h => by have := hKg gy h; have := SY.out; omega)))
      have O5 := Lib.hid (own_keepB O4.out (fun k h1 h2 => M5.out.block k h2 (fun h => by have := hKg k h; have := z1.out; omega)))
      have KG : Hid (∀ k, K' k → k ≠ g) := Lib.hid (fun k hk e => by
        rcases NK.out k hk with h | h
        · have := hKg k h; omega
        · have := BT4s.out; omega)
      have YB : Hid (∀ a, y.A = some a → ¬ K' a.block) := Lib.hid (fun a ha hk => by
        have h := YW.out.lt a.block (by rw [ha]; rfl)
        rcases NK.out _ hk with h1 | h1
        · have := hKg _ h1; have := z1.out; omega
        · have := W34.out; omega)
      have MT5 := Lib.hid ((Moved.of_below K (by rw [HG.out]; exact BT4.out)).then M5.out)
      clear hKg
      have VT := Lib.hid (vthere V51.out (us := pc y) (pc_len YT.out))
      have VR := V5y.out.range
      go_wp2_with (first
      | (show wpList _ _ _ (⟨some 32, .load 26 (.tmp 6), _, _, _, _⟩ :: _) _ _; refine wpList_load_mid (op := ⟨some 32, .load 26 (.tmp 6), _, _, _, _⟩) rfl 26 (.tmp 6) rfl (gy) 0 rfl (pc y) _ (VR) Tryd.underlying26 rfl (p_size YT.out) ?_)
      | (show wpList _ _ _ (⟨none, .store 26 (.tmp 4) (.tmp 32), _, _, _, _⟩ :: _) _ _; refine wpList_store_as (op := ⟨none, .store 26 (.tmp 4) (.tmp 32), _, _, _, _⟩) rfl 26 (.tmp 4) (.tmp 32) rfl (g) 0 (pc y).toArray rfl rfl (VT.out) (p_sizeA YT.out) (p_oneA y) ?_; intro w9 hw9))
      obtain ⟨V9, b9⟩ := vstored V51.out (us := pc y) (pc_len YT.out) hw9 (Nat.zero_le _) (below_zero w5)
      have hk9 : ∀ k, k ≠ g → w9.heap[k]? = w5.heap[k]? := fun k hk => by rw [hw9.out]; exact heap_setCells g k hk _ _ _
      have s9 : w9.heap.size = w5.heap.size := by rw [hw9.out]; exact size_setCellsQ _ _ _ _
      have O9 : w9.ownsRow w.heap.size 5 1 (.slice y.A y.n y.c) y.n (vals y.z.body) := own_base (own_keepB O5.out (fun k h1 h2 => hk9 k (by have := z1.out; omega))) (by rw [HG.out]; have := z1.out; omega)
      refine bodyPost_ret (v := .tuple #[.agg (pc y).toArray, .int .i64 0]) (results_mid_tmp (p := 4) (u := 5) (ty := 26) rfl _ _ g 0 (pc y) _ rfl V9.range Tryd.underlying26 rfl (p_size YT.out)) rfl ?_
      rw [HGZ.out]
      exact ⟨y, rfl, by simp, ⟨YO4.out.ok, bs_of_own O9 YO4.out.ok.body, YO4.out.nc, YO4.out.cm⟩, O9, K', E5.out.keep (fun k hk => hk9 k (KG.out k hk)) (by rw [s9]; exact Nat.le_refl _), moved_new MT5.out hk9 s9 hw9 (by rw [HG.out]; exact Nat.le_refl _), fun k hk => (NK.out k hk).imp id (fun h => Nat.le_trans BT4.out.size h), YB.out⟩
    · have hzb : (er != 0) = true := by simpa using h0
      have hzc : (er == 0) = false := by simpa using h0
      have H0 := Lib.hid h0
      clear h0
      go_upto_region 7 with (first
      | (show wpList _ _ _ (⟨some 26, .load 26 (.tmp 6), _, _, _, _⟩ :: _) _ _; refine wpList_load_mid (op := ⟨some 26, .load 26 (.tmp 6), _, _, _, _⟩) rfl 26 (.tmp 6) rfl (gy) 0 rfl (pc y) _ (V4y.out.range) Tryd.underlying26 rfl (p_size YT.out) ?_)
      | (go_at_call 39; refine (TK.out).mono ?_; rintro e w5 ⟨rfl, K', hE, hM, hN⟩; have E5 := Lib.hid hE; have M5 := Lib.hid hM; have NK := Lib.hid hN; clear hE hM hN))
      have hKg : ∀ k, K k → k < g := fun k hk => by have := E0.out.lt k hk; have := HG.out; omega
      have V51 := Lib.hid (V41.out.same (M5.out.block g (by have := BT4s.out; omega) (fun h => by have := hKg g h; omega)))
      have V5y := Lib.hid (V4y.out.same (M5.out.block gy V4y.out.lt (fun h => by have := hKg gy h; have := SY.out; omega)))
      have O5 := Lib.hid (own_keepB O4.out (fun k h1 h2 => M5.out.block k h2 (fun h => by have := hKg k h; have := z1.out; omega)))
      have KG : Hid (∀ k, K' k → k ≠ g) := Lib.hid (fun k hk e => by
        rcases NK.out k hk with h | h
        · have := hKg k h; omega
        · have := BT4s.out; omega)
      have YB : Hid (∀ a, y.A = some a → ¬ K' a.block) := Lib.hid (fun a ha hk => by
        have h := YW.out.lt a.block (by rw [ha]; rfl)
        rcases NK.out _ hk with h1 | h1
        · have := hKg _ h1; have := z1.out; omega
        · have := W34.out; omega)
      have MT5 := Lib.hid ((Moved.of_below K (by rw [HG.out]; exact BT4.out)).then M5.out)
      clear hKg
      have VT := Lib.hid (vthere V51.out (us := pc px0) (pc_len px0_tl))
      go_wp2_with (first
      | (show wpList _ _ _ (⟨some 30, .build 26 #[], _, _, _, _⟩ :: _) _ _; refine wpList_exec (op := ⟨some 30, .build 26 #[], _, _, _, _⟩) rfl (.agg (pc px0).toArray) (by exact exec_p0 rfl rfl) ?_)
      | (show wpList _ _ _ (⟨none, .store 26 (.tmp 4) (.tmp 30), _, _, _, _⟩ :: _) _ _; refine wpList_store_as (op := ⟨none, .store 26 (.tmp 4) (.tmp 30), _, _, _, _⟩) rfl 26 (.tmp 4) (.tmp 30) rfl (g) 0 (pc px0).toArray rfl rfl (VT.out) (p_sizeA px0_tl) (p_oneA px0) ?_; intro w9 hw9))
      obtain ⟨V9, b9⟩ := vstored V51.out (us := pc px0) (pc_len px0_tl) hw9 (Nat.zero_le _) (below_zero w5)
      have hk9 : ∀ k, k ≠ g → w9.heap[k]? = w5.heap[k]? := fun k hk => by rw [hw9.out]; exact heap_setCells g k hk _ _ _
      have s9 : w9.heap.size = w5.heap.size := by rw [hw9.out]; exact size_setCellsQ _ _ _ _
      refine bodyPost_ret (v := .tuple #[.agg (pc px0).toArray, .int .i64 er]) (results_mid_tmp (p := 4) (u := 5) (ty := 26) rfl _ _ g 0 (pc px0) _ rfl V9.range Tryd.underlying26 rfl (p_size px0_tl)) rfl ?_
      rw [HGZ.out]
      exact ⟨px0, rfl, by simp [H0.out]; rfl, px0_ok _ _, World.ownsRow_nil _ _ _ _, K', E5.out.keep (fun k hk => hk9 k (KG.out k hk)) (by rw [s9]; exact Nat.le_refl _), moved_new MT5.out hk9 s9 hw9 (by rw [HG.out]; exact Nat.le_refl _), fun k hk => (NK.out k hk).imp id (fun h => Nat.le_trans BT4.out.size h), fun a h => by cases h⟩
  · simp only at h0 h00
    subst h0 h00
    go_enter Tryd.func19, Tryd.ntmps19
    go_upto_region 1 with fail
    rw [← HW1.out, HG.out]
    go_upto_region 4 with (first
      | (go_at_call 24; refine (PP.out).mono ?_; rintro e w3 hR; obtain ⟨y, rfl, hyz, hyok, hyo, hb⟩ := hR; have YZ := Lib.hid hyz; have YO := Lib.hid hyok; have YW := Lib.hid hyo; have B3 := Lib.hid hb; have YT := Lib.hid hyok.ok.tl; clear hyz hyok hyo hb)
      | (show wpList _ _ _ (⟨none, .store 26 (.tmp 6) (.tmp 21), _, _, _, _⟩ :: _) _ _; refine wpList_store_as (op := ⟨none, .store 26 (.tmp 6) (.tmp 21), _, _, _, _⟩) rfl 26 (.tmp 6) (.tmp 21) rfl (w3.heap.size) 0 (pc y).toArray rfl rfl (vthere (zbox_new w3 26 _ rfl) (us := pc y) (pc_len YT.out)) (p_sizeA YT.out) (p_oneA y) ?_; intro w4 hw4))
    obtain ⟨V4y', B4'⟩ := vstored (zbox_new w3 26 w3.heap.size rfl) (us := pc y) (pc_len YT.out) hw4 (Nat.le_refl _) (below_one w3 _)
    obtain ⟨gy, hgy⟩ : ∃ k, w3.heap.size = k := ⟨_, rfl⟩
    rw [hgy] at V4y' ⊢
    have V4y := Lib.hid V4y'
    have SY := Lib.hid (show g < gy by rw [← hgy]; have := B3.out.size; have := z1.out; omega)
    have BT4 := Lib.hid (show Below g w w4 from B1.out.trans ((B3.out.trans (B4'.mono B3.out.size)).mono (by have := z1.out; omega)))
    have BT4s : Hid (g + 1 ≤ w4.heap.size) := Lib.hid (by have h1 := B3.out.size; have h2 := B4'.size; have := z1.out; omega)
    have V41 := Lib.hid (V1.out.below (B3.out.trans (B4'.mono B3.out.size)) (by have := z1.out; omega))
    have E4 := Lib.hid (E0.out.grow (by rw [HG.out]; exact BT4.out))
    have O4 := Lib.hid (own_below YW.out B4' (Nat.le_refl _))
    have YO4 := Lib.hid (show PXOk w4 w4.heap.size y from ⟨YO.out.ok, bs_of_own O4.out YO.out.ok.body, YO.out.nc, YO.out.cm⟩)
    have W34 : Hid (w3.heap.size ≤ w4.heap.size) := Lib.hid B4'.size
    clear hw4 V4y' B4' hgy
    clear qm zk zs zn c3
    have V41' := V41.out
    have VT := Lib.hid (vthere V41' (us := pc px0) (pc_len px0_tl))
    go_wp2_with (first
      | (show wpList _ _ _ (⟨some 30, .build 26 #[], _, _, _, _⟩ :: _) _ _; refine wpList_exec (op := ⟨some 30, .build 26 #[], _, _, _, _⟩) rfl (.agg (pc px0).toArray) (by exact exec_p0 rfl rfl) ?_)
      | (show wpList _ _ _ (⟨none, .store 26 (.tmp 4) (.tmp 30), _, _, _, _⟩ :: _) _ _; refine wpList_store_as (op := ⟨none, .store 26 (.tmp 4) (.tmp 30), _, _, _, _⟩) rfl 26 (.tmp 4) (.tmp 30) rfl (g) 0 (pc px0).toArray rfl rfl (VT.out) (p_sizeA px0_tl) (p_oneA px0) ?_; intro w9 hw9))
    obtain ⟨V9, b9⟩ := vstored (B := g) (a := w) V41' (us := pc px0) (pc_len px0_tl) hw9 (Nat.le_refl _) BT4.out
    have hk9 : ∀ k, k ≠ g → w9.heap[k]? = w4.heap[k]? := fun k hk => by rw [hw9.out]; exact heap_setCells g k hk _ _ _
    have s9 : w9.heap.size = w4.heap.size := by rw [hw9.out]; exact size_setCellsQ _ _ _ _
    refine bodyPost_ret (v := .tuple #[.agg (pc px0).toArray, .int .i64 190]) (results_mid_tmp (p := 4) (u := 5) (ty := 26) rfl _ _ g 0 (pc px0) _ rfl V9.range Tryd.underlying26 rfl (p_size px0_tl)) rfl ?_
    have hG : getZ x bs = (p0, 190, x) := by unfold getZ; rw [HR.out]; rfl
    rw [hG]
    have b9' : Below w.heap.size w w9 := by rw [HG.out]; exact b9
    exact ⟨px0, rfl, rfl, px0_ok _ _, World.ownsRow_nil _ _ _ _, K, ⟨Ar, nr, cr, m, q, E0.out.grow b9'⟩, Moved.of_below K b9', Newer.refl _ _, fun a h => by cases h⟩
theorem lboot_any {w : World} {b : Nat} {K : Nat → Prop} {x : EdZ} (h : EP w b K x) : Calls Tryd.prog 20 #[.pointer (some ⟨b, 0, none⟩)] w (Says (.int .i64 x.boot) w) := by
  obtain ⟨Ar, nr, cr, m, q, E⟩ := h
  have c2 := E.c2
  clear E
  go_enter Tryd.func20, Tryd.ntmps20
  go_wp2
  go_ret
  exact ⟨rfl, rfl⟩
end Go.Proofs.YtlknjaoamkcmjaaDoor
