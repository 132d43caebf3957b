/- The document's own form of fields. -/
import Derived.Test.YtcihbkdpkhhhcaaWBack
import Derived.Test.YtcihbkdpkhhhcaaRBytes
namespace Go.Proofs.Ytcihbkdpkhhhcaa
open Go.ChangeShapes Go.WideShapes Go.ChangeAt Go.RowKit
set_option linter.unusedVariables false
open Plain
theorem refint_any (n : Int) (h0 : -9223372036854775808 ≤ n) (h1 : n ≤ 9223372036854775807) (w : World) : Calls Try.prog 38 #[.int .i64 n] w (Made w (n64 n)) := by
  have HP : Hid (Calls Try.prog 67 #[.int .u64 (n % 18446744073709551616), .int .i64 8] w (Made w (n64 n))) := Lib.hid (refput_any (n % 18446744073709551616) 8 (by omega) (by omega) (by omega) w)
  have gw : IntKind.u64.wrap n = n % 18446744073709551616 := by rw [IntKind.wrap_u64]
  go_enter Try.func38, Try.ntmps38
  go_wp2_with (go_at_call 67; refine HP.out.mono ?_; rintro e w' ⟨A, c, rfl, hm⟩)
  go_ret
  exact ⟨A, c, rfl, hm⟩
theorem refflag_any (x : Bool) (w : World) : Calls Try.prog 39 #[.bool x] w (Made w [if x then 1 else 0]) := by
  have H : ∀ z : Int, Made w [z] (.returned (.slice (some ⟨w.heap.size, 0, none⟩) 1 1)) (w.alloc (.cells #[.int .u8 z] 5)) := fun z =>
    made_of (n := 1) rfl (World.ownsRow_lit w #[.int .u8 z] 1 (Nat.le_refl _) (by unfold maxLen; omega) rfl) ((Below.refl _ _).alloc (Nat.le_refl _) _)
  cases x
  · have H0 := Lib.hid (H 0)
    clear H
    go_enter Try.func39, Try.ntmps39
    go_wp2
    go_ret
    exact H0.out
  · have H0 := Lib.hid (H 1)
    clear H
    go_enter Try.func39, Try.ntmps39
    go_wp2
    go_ret
    exact H0.out
theorem refbytesW_any {w : World} {B n : Nat} {A : Option Addr} (c : Nat) {zs : List Int} (h : Bs w B A n zs) (hB : B ≤ w.heap.size) (hn : n ≤ 65536) : Calls Try.prog 40 #[.slice A n c] w (Made w (bytesF zs)) := by
  have gw : IntKind.u64.wrap (n : Int) = (n : Int) := by rw [IntKind.wrap_u64]; omega
  have HP := Lib.hid (refput_any (n : Int) 4 (by omega) (by omega) (by omega) w)
  have E1 : Hid (putZ (n : Int) 4 ++ zs = bytesF zs) := Lib.hid (by rw [bytesF_small (by rw [h.len]; exact hn)]; unfold bytesFn; rw [h.len])
  have L1 : Hid ((bytesF zs).length = 4 + n) := Lib.hid (by rw [← E1.out, List.length_append, putZ_len, h.len])
  have HB := Lib.hid h
  clear h
  go_enter Try.func40, Try.ntmps40
  go_wp2_with fail
  refine HP.out.mono ?_
  intro e w1 hm1
  obtain ⟨P1, p1, rfl, ho1, b1, _, _⟩ := hm1.n (putZ_len _ _)
  have C2 := Lib.hid (refcat_any (w := w1) p1 c (Made.bs ho1 (putZ_bytes _ _)) (HB.out.belowM b1 hB) (Nat.le_refl _) (Nat.le_trans hB b1.size) (by omega))
  rw [E1.out] at C2
  have q1 := Lib.hid b1
  clear hm1 ho1 b1 HP
  go_wp2_with fail
  refine C2.out.mono ?_
  intro e w2 hm2
  obtain ⟨P2, p2, rfl, ho2, b2, _, _⟩ := hm2.n L1.out
  have q2 := Lib.hid (q1.out.trans (b2.mono q1.out.size))
  have O2 := Lib.hid (own_base ho2 q1.out.size)
  clear hm2 ho2 b2 C2
  go_wp2
  go_ret
  exact made_of L1.out O2.out q2.out
set_option maxRecDepth 100000 in
set_option maxHeartbeats 1000000 in
theorem reftag_any (T : List Int) (hl : T.length = 32) (hb : IsBytes T) (w : World) : Calls Try.prog 41 #[.agg (vals T).toArray] w (Made w T) := by
  obtain ⟨W, hW⟩ : ∃ W, w.alloc (.cells (vals T).toArray 28) = W := ⟨_, rfl⟩
  have q0 : Below w.heap.size w W := by rw [← hW]; exact (Below.refl _ _).alloc (Nat.le_refl _) _
  have FR : Hid (W.rangeAt w.heap.size 0 (vals T)) := Lib.hid (by rw [← hW]; exact (Row8.new w T _).range)
  have FI := Lib.hid (tag_info hl)
  have HC := Lib.hid (refbytes_any T hl hb W)
  have HL := Lib.hid hl
  have Q0 := Lib.hid q0
  have HW := Lib.hid hW
  clear q0 hW
  go_enter Try.func41, Try.ntmps41
  go_upto_region 1 with fail
  rw [HW.out]
  have G1 := FI
  go_wp2_with (first
    | (have g := G1; clear g; refine wpList_load_mid (op := ⟨some 3, .load 28 (.tmp 1), _, _, _, _⟩) rfl 28 (.tmp 1) rfl w.heap.size 0 rfl (vals T) _ FR.out Try.underlying28 rfl FI.out ?_; clear G1)
    | (go_at_call 68; refine HC.out.mono ?_; intro e w' hm; obtain ⟨A, c, rfl, ho, hb2, h1, h2⟩ := hm.n HL.out))
  have O2 := own_base ho Q0.out.size
  have Q2 := Q0.out.trans (hb2.mono Q0.out.size)
  go_ret
  exact made_of HL.out O2 Q2
/-- A field's zero. -/
def f0 : FieldZ := ⟨0, 0, none, 0, 0, [], List.replicate 32 0⟩
theorem stored_field {w w' : World} {f : FieldZ} (hl : f.tag.length = 32) (h : Hid (w' = (w.alloc (.cells (fCells f0).toArray 30)).setCells w.heap.size 0 (fCells f).toArray.toList)) :
    w'.rangeAt w.heap.size 0 (fCells f) ∧ w'.there w.heap.size 0 35 ∧ Below w.heap.size w w' ∧ w.heap.size < w'.heap.size := by
  have e : (fCells f).length = 35 := fCells_len hl
  have ht : (w.alloc (.cells (fCells f0).toArray 30)).there w.heap.size 0 35 := by
    intro j hj
    have hh := heap_alloc_new w (.cells (fCells f0).toArray 30)
    refine ⟨?_, frozen_of_row _ _ _ _ _ hh⟩
    rw [cell_of_row _ _ _ _ _ _ hh, List.getElem?_toArray, List.getElem?_eq_getElem (by rw [fCells_len rfl]; omega)]
    rfl
  rw [h.out]
  refine ⟨World.rangeAt_setCells_same _ _ _ _ (by rw [List.toList_toArray, e]; exact ht), World.there_setCells ht _ _ _, below_setCells (Nat.le_refl _) _ _ _ ((Below.refl _ _).alloc (Nat.le_refl _) _), ?_⟩
  have : ∀ (vs : List Value) (o : Nat) (u : World), (u.setCells w.heap.size o vs).heap.size = u.heap.size := by
    intro vs
    induction vs with
    | nil => intro o u; rfl
    | cons v r ih => intro o u; rw [World.setCells, ih]; simp [World.setCell]
  rw [this]; simp
theorem field_there (w : World) {f : FieldZ} (hl : f.tag.length = 32) : (w.alloc (.cells (fCells f0).toArray 30)).there w.heap.size 0 (fCells f).toArray.size := by
  have e : (fCells f).toArray.size = 35 := by rw [List.size_toArray, fCells_len hl]
  rw [e]
  intro j hj
  have hh := heap_alloc_new w (.cells (fCells f0).toArray 30)
  refine ⟨?_, frozen_of_row _ _ _ _ _ hh⟩
  rw [cell_of_row _ _ _ _ _ _ hh, List.getElem?_toArray, List.getElem?_eq_getElem (by rw [fCells_len rfl]; omega)]
  rfl
theorem fCells_one (f : FieldZ) : ∀ v ∈ fCells f, v.oneCell' = true := by
  intro v hv
  unfold fCells fHead at hv
  rcases List.mem_append.1 hv with hv | hv
  · simp only [List.mem_cons, List.not_mem_nil, or_false] at hv
    rcases hv with rfl | rfl | rfl <;> rfl
  · exact vals_one _ v hv
theorem box_range {w : World} {g : Nat} {f : FieldZ} (h : w.rangeAt g 0 (fCells f)) : Boxed w g f := by
  refine ⟨h 0 _ rfl, h 1 _ rfl, h 2 _ rfl, fun j v hv => ?_⟩
  have := h (3 + j) v (by
    unfold fCells fHead
    rw [List.getElem?_append_right (by simp)]
    simpa using hv)
  rw [Nat.zero_add] at this
  exact this
theorem u8_row2 : (Try.prog.info? 5).map (fun i => (i.zero, i.size, i.bytes)) = some (some (.int .u8 0), 1, 1) := by kernel_rfl
set_option maxRecDepth 100000 in
set_option maxHeartbeats 4000000 in
theorem form_any (A : Option Addr) (n c : Nat) (F : Nat → FieldZ) {B : Nat} (w : World) (hf : Fields w B A n F) (hB : B ≤ w.heap.size) (hg : gsum F n ≤ 4000) :
    Calls Try.prog 11 #[.slice A n c] w (Made w (formB F n)) := by
  obtain ⟨i0, hi0, hz0, hz1, hz2⟩ := info_parts u8_row2
  have I0 := Lib.hid hi0
  have I1 := Lib.hid hz0
  have I2 := Lib.hid hz1
  have I3 := Lib.hid hz2
  have HS : Hid (∀ k, k ≤ n → formN F k ≤ 4000) := Lib.hid (fun k hk => by
    have h1 := form_small n (fun j hj => ⟨(hf.ok j hj).tag, (hf.ok j hj).bs.len⟩)
    have h2 := formN_le F hk
    omega)
  have HLn : Hid (∀ j, j < n → (F j).len ≤ 4000) := Lib.hid (fun j hj => by have := len_le_gsum F hj; omega)
  have hn : n ≤ 4000 := by
    have : ∀ k, 40 * k ≤ gsum F k := fun k => by
      induction k with
      | zero => exact Nat.zero_le _
      | succ k ih => show 40 * (k + 1) ≤ gsum F k + (F k).len + 40; omega
    have := this n
    omega
  have HF := Lib.hid hf
  clear hi0 hz0 hz1 hz2 hf hg
  go_enter Try.func11, Try.ntmps11
  go_wp2
  go_loopw [3, 4] (fun v i wr => ∃ k : Nat, k ≤ n ∧ i = .int .i64 (k : Int) ∧ Hid (wr.ownsRow w.heap.size 5 1 v (formN F k) (vals (formB F k))) ∧ Hid (Below w.heap.size w wr)) (fun _ i _ => n - (intOf i).toNat)
  case atStart => exact ⟨0, by omega, rfl, Lib.hid (World.ownsRow_nil _ _ _ _), Lib.hid (Below.refl _ _)⟩
  case round =>
    obtain ⟨k, hk, rfl, HO, HQ⟩ := hrel
    by_cases hlt : k < n
    · have FF := HF.out.below (HQ.out.mono hB)
      obtain ⟨fb, off, rfl, hfb, hr, _, _⟩ := FF.at_ hlt
      have FO := Lib.hid (FF.ok k hlt)
      have FR := Lib.hid hr
      have FI := Lib.hid (field_info FO.out.tag)
      have hltI : (k : Int) < (n : Int) := by omega
      have hs1 := HS.out (k + 1) (by omega)
      have hs0 := HS.out k (by omega)
      have HFS : Hid (vals (formB F (k + 1)) = vals (formB F k) ++ vals (fieldB (F k))) := Lib.hid (by rw [formB_succ, vals_app])
      have HNS : Hid (formN F (k + 1) = formN F k + (fieldB (F k)).length) := Lib.hid (formN_succ F k)
      have hln := HLn.out k hlt
      obtain ⟨f, hfk⟩ : ∃ f, F k = f := ⟨_, rfl⟩
      rw [hfk] at FO FR FI HFS HNS hln
      obtain ⟨S, hS⟩ : ∃ S, formN F k = S := ⟨_, rfl⟩
      have HS2 := Lib.hid hS
      rw [hS] at HNS hs0
      rw [HNS.out] at hs1
      have HO' : Hid (wr.ownsRow w.heap.size 5 1 u3 S (vals (formB F k))) := Lib.hid (by have := HO.out; rwa [hS] at this)
      have HI := Lib.hid (show (Try.prog.info? 30).map (·.size) = some (fCells f).toArray.size by rw [List.size_toArray]; exact FI.out)
      have TH := Lib.hid (field_there wr FO.out.tag)
      have A1 := Lib.hid (all_oneCell_toArray (fCells_one f))
      have sr := HQ.out.size
      clear FF hr hfk hS HO
      have G := FI
      have G2 := FI
      go_upto_region 6 with (first
        | (have g := G; refine wpList_load_mid (op := ⟨some 15, .load 30 (.tmp 14), _, _, _, _⟩) rfl 30 (.tmp 14) rfl fb (off + k * 35) rfl (fCells f) _ FR.out Try.underlying30 rfl FI.out ?_; clear g G)
        | (have g := G2; refine wpList_store_as (op := ⟨none, .store 30 (.tmp 5) (.tmp 15), _, _, _, _⟩) rfl 30 (.tmp 5) (.tmp 15) rfl wr.heap.size 0 (fCells f).toArray rfl rfl TH.out HI.out A1.out ?_; intro w1 hw1; clear g G2))
      obtain ⟨r1, _, b1, s1⟩ := stored_field FO.out.tag hw1
      have q1 := Lib.hid (HQ.out.trans (b1.mono sr))
      have hx := box_range r1
      have O1 := Lib.hid (own_below HO'.out b1 (Nat.le_refl _))
      have FO1 := Lib.hid (FO.out.below (b1.mono (Nat.le_trans hB sr)))
      obtain ⟨gb, hgb⟩ : ∃ gb, wr.heap.size = gb := ⟨_, rfl⟩
      rw [hgb] at hx s1
      simp only [hgb]
      obtain ⟨kind, nn, fA, len, cap, zs, T⟩ := f
      have c0 : w1.cell? ⟨gb, 0, none⟩ = some (.int .i64 kind) := hx.c0
      have c1 : w1.cell? ⟨gb, 1, none⟩ = some (.int .i64 nn) := hx.c1
      have c2 : w1.cell? ⟨gb, 2, none⟩ = some (.slice fA len cap) := hx.c2
      have CT : Hid (w1.rangeAt gb 3 (vals T)) := Lib.hid hx.tag
      have hnn : -9223372036854775808 ≤ nn ∧ nn ≤ 9223372036854775807 := FO1.out.n
      have hbs : Hid (Bs w1 B fA len zs) := Lib.hid FO1.out.bs
      have HTL : Hid (T.length = 32) := Lib.hid FO1.out.tag
      have HTB : Hid (IsBytes T) := Lib.hid FO1.out.bytes
      have hln : len ≤ 4000 := hln
      have hB1 : B ≤ w1.heap.size := by have := b1.size; omega
      have hsz1 : w.heap.size ≤ w1.heap.size := by have := b1.size; omega
      clear hw1 r1 b1 hx hgb TH A1 HI FI FR FO HO' HQ FO1
      by_cases k0 : kind = 0
      · subst k0
        have HZ : Hid (fieldB ⟨0, nn, fA, len, cap, zs, T⟩ = [nn % 256]) := Lib.hid rfl
        have LZ : Hid (([nn % 256] : List Int).length = 1) := Lib.hid rfl
        rw [HZ.out, LZ.out] at hs1
        have gw : IntKind.u8.wrap nn = nn % 256 := by rw [IntKind.wrap_u8]
        have q2 := Lib.hid (q1.out.alloc q1.out.size (.cells #[.int .u8 (nn % 256)] 5))
        have O2 := Lib.hid (O1.out.alloc (.cells #[.int .u8 (nn % 256)] 5))
        go_upto_region 4 with (at_builtin; refine wpList_append_own _ rfl (.tmp 20) (.tmp 24) 26 rfl w.heap.size 5 i0 _ 1 1 Try.underlying26 I0.out I1.out I2.out I3.out rfl (by decide) u3 S (vals (formB F k)) rfl O2.out ⟨w1.heap.size, 0, none⟩ 1 1 [.int .u8 (nn % 256)] rfl rfl (World.news_of_block (cs := #[.int .u8 (nn % 256)]) (t := 5) (fr := (0, 0)) (heap_alloc_new w1 _)) (by simp [Value.oneCell']) (by unfold maxLen; omega) (by omega) (by simp; omega) ?_; intro v3 w3 ho3 hg3 _)
        have Q3 := Lib.hid (q2.out.grown hg3 q2.out.size (fun q hq => (O2.out.lt q hq).1))
        have O3 : Hid (w3.ownsRow w.heap.size 5 1 v3 (formN F (k + 1)) (vals (formB F (k + 1)))) := Lib.hid (by rw [HFS.out, HNS.out, HZ.out, LZ.out]; exact ho3)
        clear ho3 hg3
        go_wp2
        go_roundw
        case rel => exact ⟨k + 1, by omega, by go_num, O3, Q3⟩
        case measure => simp [intOf]; omega
      by_cases k1 : kind = 1
      · subst k1
        have HZ : Hid (fieldB ⟨1, nn, fA, len, cap, zs, T⟩ = n64 nn) := Lib.hid rfl
        have LZ : Hid ((n64 nn).length = 8) := Lib.hid (by rw [n64_len'])
        have BZ : Hid (IsBytes (n64 nn)) := Lib.hid (n64_bytes' _)
        rw [HZ.out, LZ.out] at hs1
        have C1 := Lib.hid (refint_any nn hnn.1 hnn.2 w1)
        go_upto_region 4 with (first
          | (go_at_call 38; refine C1.out.mono ?_; intro e w2 hm2; obtain ⟨D, d, rfl, o2, b2, _, hd⟩ := hm2.n LZ.out; have q2 := Lib.hid (q1.out.trans (b2.mono q1.out.size)); have O2 := Lib.hid (own_below O1.out b2 (Nat.le_refl _)); have z2 := Lib.hid (bs_of_own o2 BZ.out); have s2 := Lib.hid (Nat.le_trans hsz1 b2.size); clear hm2 o2 b2)
          | (at_builtin; refine wpList_app _ rfl (.tmp 28) (.tmp 31) 26 rfl w.heap.size 5 1 1 Try.underlying26 u8_info (by omega) u3 S (vals (formB F k)) rfl O2.out D (8) d (vals (n64 nn)) rfl z2.out.lies.1 z2.out.lies.2 (vals_one _) (by unfold maxLen; omega) (by omega) s2.out ?_; intro v3 w3 ho3 hg3))
        have Q3 := Lib.hid (q2.out.grown hg3 q2.out.size (fun q hq => (O2.out.lt q hq).1))
        have O3 : Hid (w3.ownsRow w.heap.size 5 1 v3 (formN F (k + 1)) (vals (formB F (k + 1)))) := Lib.hid (by rw [HFS.out, HNS.out, HZ.out, LZ.out]; exact ho3)
        clear ho3 hg3
        go_wp2
        go_roundw
        case rel => exact ⟨k + 1, by omega, by go_num, O3, Q3⟩
        case measure => simp [intOf]; omega
      by_cases k2 : kind = 2
      · subst k2
        have HZ : Hid (fieldB ⟨2, nn, fA, len, cap, zs, T⟩ = ([if oddB nn then 1 else 0] : List Int)) := Lib.hid rfl
        have LZ : Hid ((([if oddB nn then 1 else 0] : List Int)).length = 1) := Lib.hid (rfl)
        have BZ : Hid (IsBytes (([if oddB nn then 1 else 0] : List Int))) := Lib.hid (by cases oddB nn <;> exact one_byte _ (by decide) (by decide))
        rw [HZ.out, LZ.out] at hs1
        have C1 := Lib.hid (refflag_any (oddB nn) w1)
        have hodd : (!nn.tmod 2 == 0) = oddB nn := rfl
        have hodd2 : (nn.tmod 2 != 0) = oddB nn := rfl
        go_upto_region 4 with (first
          | (go_at_call 39; refine C1.out.mono ?_; intro e w2 hm2; obtain ⟨D, d, rfl, o2, b2, _, hd⟩ := hm2.n LZ.out; have q2 := Lib.hid (q1.out.trans (b2.mono q1.out.size)); have O2 := Lib.hid (own_below O1.out b2 (Nat.le_refl _)); have z2 := Lib.hid (bs_of_own o2 BZ.out); have s2 := Lib.hid (Nat.le_trans hsz1 b2.size); clear hm2 o2 b2)
          | (at_builtin; refine wpList_app _ rfl (.tmp 35) (.tmp 40) 26 rfl w.heap.size 5 1 1 Try.underlying26 u8_info (by omega) u3 S (vals (formB F k)) rfl O2.out D (1) d (vals (([if oddB nn then 1 else 0] : List Int))) rfl z2.out.lies.1 z2.out.lies.2 (vals_one _) (by unfold maxLen; omega) (by omega) s2.out ?_; intro v3 w3 ho3 hg3))
        have Q3 := Lib.hid (q2.out.grown hg3 q2.out.size (fun q hq => (O2.out.lt q hq).1))
        have O3 : Hid (w3.ownsRow w.heap.size 5 1 v3 (formN F (k + 1)) (vals (formB F (k + 1)))) := Lib.hid (by rw [HFS.out, HNS.out, HZ.out, LZ.out]; exact ho3)
        clear ho3 hg3
        go_wp2
        go_roundw
        case rel => exact ⟨k + 1, by omega, by go_num, O3, Q3⟩
        case measure => simp [intOf]; omega
      by_cases k3 : kind = 3
      · subst k3
        have HZ : Hid (fieldB ⟨3, nn, fA, len, cap, zs, T⟩ = bytesF zs) := Lib.hid rfl
        have LZ : Hid ((bytesF zs).length = 4 + len) := Lib.hid (by rw [bytesF_small (by rw [hbs.out.len]; omega), List.length_append, bytesFn_len, hbs.out.len])
        have BZ : Hid (IsBytes (bytesF zs)) := Lib.hid ((putZ_bytes _ _).app hbs.out.isBytes)
        rw [HZ.out, LZ.out] at hs1
        have C1 := Lib.hid (refbytesW_any cap hbs.out hB1 (by omega))
        go_upto_region 4 with (first
          | (go_at_call 40; refine C1.out.mono ?_; intro e w2 hm2; obtain ⟨D, d, rfl, o2, b2, _, hd⟩ := hm2.n LZ.out; have q2 := Lib.hid (q1.out.trans (b2.mono q1.out.size)); have O2 := Lib.hid (own_below O1.out b2 (Nat.le_refl _)); have z2 := Lib.hid (bs_of_own o2 BZ.out); have s2 := Lib.hid (Nat.le_trans hsz1 b2.size); clear hm2 o2 b2)
          | (at_builtin; refine wpList_app _ rfl (.tmp 45) (.tmp 48) 26 rfl w.heap.size 5 1 1 Try.underlying26 u8_info (by omega) u3 S (vals (formB F k)) rfl O2.out D (4 + len) d (vals (bytesF zs)) rfl z2.out.lies.1 z2.out.lies.2 (vals_one _) (by unfold maxLen; omega) (by omega) s2.out ?_; intro v3 w3 ho3 hg3))
        have Q3 := Lib.hid (q2.out.grown hg3 q2.out.size (fun q hq => (O2.out.lt q hq).1))
        have O3 : Hid (w3.ownsRow w.heap.size 5 1 v3 (formN F (k + 1)) (vals (formB F (k + 1)))) := Lib.hid (by rw [HFS.out, HNS.out, HZ.out, LZ.out]; exact ho3)
        clear ho3 hg3
        go_wp2
        go_roundw
        case rel => exact ⟨k + 1, by omega, by go_num, O3, Q3⟩
        case measure => simp [intOf]; omega
      by_cases k4 : kind = 4
      · subst k4
        have HZ : Hid (fieldB ⟨4, nn, fA, len, cap, zs, T⟩ = bytesF zs) := Lib.hid rfl
        have LZ : Hid ((bytesF zs).length = 4 + len) := Lib.hid (by rw [bytesF_small (by rw [hbs.out.len]; omega), List.length_append, bytesFn_len, hbs.out.len])
        have BZ : Hid (IsBytes (bytesF zs)) := Lib.hid ((putZ_bytes _ _).app hbs.out.isBytes)
        rw [HZ.out, LZ.out] at hs1
        have C1 := Lib.hid (refbytesW_any cap hbs.out hB1 (by omega))
        go_upto_region 4 with (first
          | (go_at_call 40; refine C1.out.mono ?_; intro e w2 hm2; obtain ⟨D, d, rfl, o2, b2, _, hd⟩ := hm2.n LZ.out; have q2 := Lib.hid (q1.out.trans (b2.mono q1.out.size)); have O2 := Lib.hid (own_below O1.out b2 (Nat.le_refl _)); have z2 := Lib.hid (bs_of_own o2 BZ.out); have s2 := Lib.hid (Nat.le_trans hsz1 b2.size); clear hm2 o2 b2)
          | (at_builtin; refine wpList_app _ rfl (.tmp 45) (.tmp 48) 26 rfl w.heap.size 5 1 1 Try.underlying26 u8_info (by omega) u3 S (vals (formB F k)) rfl O2.out D (4 + len) d (vals (bytesF zs)) rfl z2.out.lies.1 z2.out.lies.2 (vals_one _) (by unfold maxLen; omega) (by omega) s2.out ?_; intro v3 w3 ho3 hg3))
        have Q3 := Lib.hid (q2.out.grown hg3 q2.out.size (fun q hq => (O2.out.lt q hq).1))
        have O3 : Hid (w3.ownsRow w.heap.size 5 1 v3 (formN F (k + 1)) (vals (formB F (k + 1)))) := Lib.hid (by rw [HFS.out, HNS.out, HZ.out, LZ.out]; exact ho3)
        clear ho3 hg3
        go_wp2
        go_roundw
        case rel => exact ⟨k + 1, by omega, by go_num, O3, Q3⟩
        case measure => simp [intOf]; omega
      by_cases k5 : kind = 5
      · subst k5
        have HZ : Hid (fieldB ⟨5, nn, fA, len, cap, zs, T⟩ = T) := Lib.hid rfl
        have LZ : Hid ((T).length = 32) := Lib.hid (HTL.out)
        have BZ : Hid (IsBytes (T)) := Lib.hid (HTB.out)
        rw [HZ.out, LZ.out] at hs1
        have C1 := Lib.hid (reftag_any T HTL.out HTB.out w1)
        have FI := Lib.hid (tag_info HTL.out)
        have G1 := FI
        go_upto_region 4 with (first
          | (go_at_call 41; refine C1.out.mono ?_; intro e w2 hm2; obtain ⟨D, d, rfl, o2, b2, _, hd⟩ := hm2.n LZ.out; have q2 := Lib.hid (q1.out.trans (b2.mono q1.out.size)); have O2 := Lib.hid (own_below O1.out b2 (Nat.le_refl _)); have z2 := Lib.hid (bs_of_own o2 BZ.out); have s2 := Lib.hid (Nat.le_trans hsz1 b2.size); clear hm2 o2 b2)
          | (at_builtin; refine wpList_app _ rfl (.tmp 52) (.tmp 55) 26 rfl w.heap.size 5 1 1 Try.underlying26 u8_info (by omega) u3 S (vals (formB F k)) rfl O2.out D (32) d (vals (T)) rfl z2.out.lies.1 z2.out.lies.2 (vals_one _) (by unfold maxLen; omega) (by omega) s2.out ?_; intro v3 w3 ho3 hg3)
          | (have g := G1; refine wpList_load_mid (op := ⟨some 54, .load 28 (.tmp 53), _, _, _, _⟩) rfl 28 (.tmp 53) rfl gb 3 rfl (vals T) _ CT.out Try.underlying28 rfl FI.out ?_; clear g G1))
        have Q3 := Lib.hid (q2.out.grown hg3 q2.out.size (fun q hq => (O2.out.lt q hq).1))
        have O3 : Hid (w3.ownsRow w.heap.size 5 1 v3 (formN F (k + 1)) (vals (formB F (k + 1)))) := Lib.hid (by rw [HFS.out, HNS.out, HZ.out, LZ.out]; exact ho3)
        clear ho3 hg3
        go_wp2
        go_roundw
        case rel => exact ⟨k + 1, by omega, by go_num, O3, Q3⟩
        case measure => simp [intOf]; omega
      have j0 : (kind == 0) = false := by simpa using k0
      have j1 : (kind == 1) = false := by simpa using k1
      have j2 : (kind == 2) = false := by simpa using k2
      have j3 : (kind == 3) = false := by simpa using k3
      have j4 : (kind == 4) = false := by simpa using k4
      have j5 : (kind == 5) = false := by simpa using k5
      have HZ : Hid (fieldB ⟨kind, nn, fA, len, cap, zs, T⟩ = []) := Lib.hid (by unfold fieldB; rw [if_neg k0, if_neg k1, if_neg k2, if_neg k3, if_neg k4, if_neg k5])
      have O3 : Hid (w1.ownsRow w.heap.size 5 1 u3 (formN F (k + 1)) (vals (formB F (k + 1)))) := Lib.hid (by rw [HFS.out, HNS.out, HZ.out]; simpa [vals] using O1.out)
      clear k0 k1 k2 k3 k4 k5
      go_wp2
      go_roundw
      case rel => exact ⟨k + 1, by omega, by go_num, O3, q1⟩
      case measure => simp [intOf]; omega
    · obtain rfl : k = n := by omega
      have HM : Hid (Made w (formB F k) (.returned u3) wr) := Lib.hid (made_of (n := formN F k) (formB_len F k) HO.out HQ.out)
      go_wp2
      go_ret
      exact HM.out
end Go.Proofs.Ytcihbkdpkhhhcaa
