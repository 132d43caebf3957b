/- The document's own answers for frame: All; two lists of lists of bytes that are the same. -/
import Derived.Test.YtcihbkdpkhhhcaaDoorFRef
namespace Go.Proofs.YtcihbkdpkhhhcaaDoor
open Go.ChangeShapes Go.WideShapes Go.ChangeAt Go.RowKit
set_option linter.unusedVariables false
open Plain Sha
/-- A piece more. -/
theorem pieces_more {base : Nat} {W1 w3 : World} {v v3 : Value} {ps : List Piece} {D : Option Addr} {d m : Nat} {Z : List Int}
    (hown : W1.ownsRow base 22 1 v ps.length (ps.map pv)) (hps : ∀ p ∈ ps, PieceOk W1 base p) (LX : Z.length = m) (BX : IsBytes Z) (ho : W1.ownsRow base 5 1 (.slice D m d) m (vals Z)) (h4 : m ≤ d) (h5 : d ≤ maxLen)
    (ho3 : w3.ownsRow base 22 1 v3 (ps.length + 1) (ps.map pv ++ [.slice D m d])) (hg3 : (W1.alloc (.cells #[.slice D m d] 22)).grownBy w3 v.ownBlock) :
    w3.ownsRow base 22 1 v3 (ps ++ [(⟨D, m, d, Z⟩ : Piece)]).length ((ps ++ [(⟨D, m, d, Z⟩ : Piece)]).map pv) ∧ ∀ p ∈ ps ++ [(⟨D, m, d, Z⟩ : Piece)], PieceOk w3 base p := by
  have HO2 := hown.alloc (.cells #[.slice D m d] 22)
  refine ⟨by rw [List.length_append, List.map_append]; exact ho3, fun p hp => ?_⟩
  rcases List.mem_append.1 hp with hp | hp
  · have h := hps p hp
    have h2 := h.own.alloc (.cells #[.slice D m d] 22)
    exact ⟨h.len, h.bytes, h2.kept hg3 (kinds_apart h2 HO2), h.cap, h.max⟩
  · obtain rfl := List.mem_singleton.1 hp
    have h2 := ho.alloc (.cells #[.slice D m d] 22)
    exact ⟨LX, BX, h2.kept hg3 (kinds_apart h2 HO2), h4, h5⟩
set_option maxRecDepth 100000 in
set_option maxHeartbeats 4000000 in
theorem refall_any {w : World} {B : Nat} {A : Option Addr} {n : Nat} (c : Nat) {bs : List Int} (hz : Bs w B A n bs) (hB : B ≤ w.heap.size) (hn : n ≤ 1000000) (hc : n ≤ c) :
    Calls Tryd.prog 15 #[.slice A n c] w (AllSays w bs) := by
  have HL := Lib.hid hz.len
  obtain ⟨i0, hi0, hz0, hz1, hz2⟩ := info_parts slice_row
  have I0 := Lib.hid hi0
  have I1 := Lib.hid hz0
  have I2 := Lib.hid hz1
  have I3 := Lib.hid hz2
  have HZ := Lib.hid hz
  clear hi0 hz0 hz1 hz2 hz
  go_enter Tryd.func15, Tryd.ntmps15
  go_wp2
  go_loopw [4, 5] (fun v i wr => ∃ (off fuel : Nat) (dn : List (Nat × Nat)) (ps : List Piece), off ≤ n ∧ i = .int .i64 (off : Int) ∧ Hid (wr.ownsRow w.heap.size 22 1 v ps.length (ps.map pv)) ∧ Hid (∀ p ∈ ps, PieceOk wr w.heap.size p) ∧
      Hid (ps.map (·.zs) = dn.map (payZ bs)) ∧ Hid (dn ++ framesF bs fuel off = framesZ bs) ∧ Hid (useZ dn = off) ∧ n - off < fuel ∧ ps.length ≤ off ∧ Hid (Below w.heap.size w wr)) (fun _ i _ => n - (intOf i).toNat)
  case atStart => exact ⟨0, n + 1, [], [], by omega, rfl, Lib.hid (World.ownsRow_nil _ _ _ _), Lib.hid (fun p hp => by cases hp), Lib.hid rfl, Lib.hid (by show framesF bs (n + 1) 0 = framesF bs (bs.length + 1) 0; rw [HL.out]), Lib.hid rfl, by omega, by simp, Lib.hid (Below.refl _ _)⟩
  case round =>
    obtain ⟨off, fuel, dn, ps, hoff, rfl, HO, HPS, HZS, HDN, HUS, hfu, hpl, HB1⟩ := hrel
    obtain ⟨R, hs, hcut⟩ := cut_l A n c off (off : Int) rfl hoff hc
    have zr : Bs wr B R (n - off) (bs.drop off) := by
      have := (HZ.out.belowM HB1.out hB).cut (k := off) (m := n - off) (by omega) R hcut
      rwa [List.take_of_length_le (by rw [List.length_drop, HL.out]; exact Nat.le_refl _)] at this
    have sr := HB1.out.size
    have C1 := Lib.hid (refnext_any (c - off) zr (Nat.le_trans hB sr) (by omega) (by omega))
    have hlr := zr.len
    obtain ⟨fz, hfz⟩ : ∃ fz, firstZ (bs.drop off) = fz := ⟨_, rfl⟩
    cases fz with
    | none =>
      have HF : Hid (dn = framesZ bs) := Lib.hid (by have := HDN.out; rwa [framesF_no hfz, List.append_nil] at this)
      have HN : Hid (∀ e w', NextSays wr (bs.drop off) e w' → e = .returned (.tuple #[.slice none 0 0, .int .i64 0, .int .i64 50]) ∧ Below wr.heap.size wr w') := Lib.hid (fun e w' h => by obtain ⟨h1, h2⟩ := h; rw [hfz] at h2; exact ⟨h2, h1⟩)
      clear hfz hcut zr hlr HDN
      go_wp2_with fail
      refine C1.out.mono ?_
      intro e w2 h2
      obtain ⟨rfl, b2⟩ := HN.out e w2 h2
      have q2 := Lib.hid (HB1.out.trans (b2.mono sr))
      have HO2 := Lib.hid (own_below HO.out b2 (Nat.le_refl _))
      have HP2 := Lib.hid (fun p hp => (HPS.out p hp).below b2 (Nat.le_refl _))
      clear h2 b2 C1 hs
      go_wp2
      go_ret2
      refine ⟨q2.out, u4, ps, ?_, HO2.out, HP2.out, by rw [HZS.out, HF.out]⟩
      rw [← HF.out, HUS.out]
      rfl
    | some m =>
      obtain ⟨hfr, hm⟩ := firstZ_some hfz
      have hm12 : m + 12 ≤ n - off := by have := hfr.2.2.1; rw [← hm, hlr] at this; exact this
      obtain ⟨fu', rfl⟩ : ∃ k, fuel = k + 1 := ⟨fuel - 1, by omega⟩
      have HDN' : Hid ((dn ++ [(off, m)]) ++ framesF bs fu' (off + (m + 12)) = framesZ bs) := Lib.hid (by
        have := HDN.out; rw [framesF_yes hfz] at this; simpa using this)
      have HU' : Hid (useZ (dn ++ [(off, m)]) = off + (m + 12)) := Lib.hid (by rw [useZ_snoc, HUS.out])
      have LX : Hid ((payZ bs (off, m)).length = m) := Lib.hid (by unfold payZ; rw [List.length_take, List.length_drop, List.length_drop]; dsimp only; rw [HL.out]; omega)
      have BX : Hid (IsBytes (payZ bs (off, m))) := Lib.hid (by unfold payZ; exact (((HZ.out.isBytes).drop _).drop _).take _)
      have HZ' : Hid (∀ p : Piece, p.zs = payZ bs (off, m) → (ps ++ [p]).map (·.zs) = (dn ++ [(off, m)]).map (payZ bs)) := Lib.hid (fun p hp => by rw [List.map_append, List.map_append, HZS.out]; simp [hp])
      have HN : Hid (∀ e w', NextSays wr (bs.drop off) e w' → ∃ D d, e = .returned (.tuple #[.slice D m d, .int .i64 ((m : Int) + 12), .int .i64 0]) ∧ w'.ownsRow wr.heap.size 5 1 (.slice D m d) m (vals (payZ bs (off, m))) ∧ m ≤ d ∧ d ≤ maxLen ∧ Below wr.heap.size wr w') := Lib.hid (fun e w' h => by
        obtain ⟨h1, h2⟩ := h
        rw [hfz] at h2
        obtain ⟨D, d, h3, h4, h5, h6⟩ := h2
        exact ⟨D, d, h3, h4, h5, h6, h1⟩)
      have gw : IntKind.i64.wrap ((off : Int) + ((m : Int) + 12)) = (off : Int) + ((m : Int) + 12) := by rw [IntKind.wrap_i64]; omega
      clear hfz hfr hm hcut zr hlr HDN HUS HZS
      go_wp2_with fail
      refine C1.out.mono ?_
      intro e w2 h2
      obtain ⟨D, d, rfl, o2, h4, h5, b2⟩ := HN.out e w2 h2
      have q2 := Lib.hid (HB1.out.trans (b2.mono sr))
      have s2 := b2.size
      have HO2 := Lib.hid (own_below HO.out b2 (Nat.le_refl _))
      have HP2 := Lib.hid (fun p hp => (HPS.out p hp).below b2 (Nat.le_refl _))
      have HD2 := Lib.hid (own_base o2 sr)
      have H5 := Lib.hid h5
      clear h2 b2 o2 C1 hs HN HO HPS h5
      go_wp2_with (at_builtin; refine wpList_append_own _ rfl (.tmp 21) (.tmp 23) 33 rfl w.heap.size 22 i0 _ 1 24 Tryd.underlying33 I0.out I1.out I2.out I3.out rfl (by decide) u4 ps.length (ps.map pv) rfl (HO2.out.alloc _) ⟨w2.heap.size, 0, none⟩ 1 1 [.slice D m d] rfl rfl (World.news_of_block (cs := #[.slice D m d]) (t := 22) (fr := (0, 0)) (heap_alloc_new w2 _)) (by simp [Value.oneCell']) (by unfold maxLen; omega) (by omega) (by simp; omega) ?_; intro v3 w3 ho3 hg3 _)
      have hpm := pieces_more HO2.out HP2.out LX.out BX.out HD2.out h4 H5.out ho3 hg3
      have q3 := Lib.hid ((q2.out.alloc q2.out.size _).grown hg3 (by simp; omega) (fun k e => (HO2.out.lt k e).1))
      have HA := Lib.hid hpm.1
      have HB := Lib.hid hpm.2
      clear hpm ho3 hg3
      go_roundw
      case rel => exact ⟨off + (m + 12), fu', dn ++ [(off, m)], ps ++ [⟨D, m, d, payZ bs (off, m)⟩], by omega, by go_num, HA, HB, Lib.hid (HZ'.out _ rfl), HDN', HU', by omega, by rw [List.length_append]; simp; omega, q3⟩
      case measure => simp [intOf]; omega
end Go.Proofs.YtcihbkdpkhhhcaaDoor
