/- What a reader's calls tell: bytes, a count; a new reader; one that nobody made. -/
import Derived.Test.YtcihbkdpkhhhcaaReads
namespace Go.Proofs.Ytcihbkdpkhhhcaa
open Go.ChangeShapes Go.WideShapes Go.ChangeAt Go.RowKit
set_option linter.unusedVariables false
open Plain
/-- A value that is a list of bytes of its own. -/
def IsList (x : Value) (w : World) (base : Nat) (zs : List Int) : Prop := ∃ A c, x = .slice A zs.length c ∧ w.ownsRow base 5 1 x zs.length (vals zs) ∧ zs.length ≤ c ∧ c ≤ maxLen
theorem IsList.made {w w' : World} {zs : List Int} {e : Ending} (h : Made w zs e w') : ∃ x, e = .returned x ∧ IsList x w' w.heap.size zs ∧ Below w.heap.size w w' := by
  obtain ⟨A, c, rfl, ho, hb, h1, h2⟩ := h
  exact ⟨_, rfl, ⟨A, c, rfl, ho, h1, h2⟩, hb⟩
theorem bytes_mk {w : World} {B n c : Nat} {A : Option Addr} {zs : List Int} (h : Bs w B A n zs) (hB : B ≤ w.heap.size) (hn : n ≤ 1000000) : Calls Try.prog 58 #[.slice A n c] w (Makes w true (fun x w' => IsList x w' w.heap.size zs)) := by
  have HC := Lib.hid (cat1_any (w := w) c 26 h hB (by omega) 1 w.heap.size rfl)
  clear h
  go_enter Try.func58, Try.ntmps58
  go_wp2_with (go_at_call 42; refine HC.out.mono ?_; intro e w5 hm; obtain ⟨x, rfl, hx, hb⟩ := IsList.made hm; clear hm)
  go_ret2
  have hb2 : Below w.heap.size w w5 := ((Below.refl _ _).alloc (Nat.le_refl _) _).trans (hb.mono (by simp))
  obtain ⟨D, c5, h1, h2, h3⟩ := hx
  exact ⟨_, rfl, grown_of_below hb2 _, D, c5, h1, own_base h2 (by simp), h3⟩
theorem rBytes_ok (s : Int × List Int) (k : Nat) (s1 : Int) (s2 : List Int) (h : rLen s = ((k : Int), s1, s2)) : rBytes s = tk k yes2 id [] (s1, s2) := by
  unfold rBytes; rw [h]; rfl
theorem bytes_rd {w : World} {b : Nat} {B : Span} {why : Int} {zs : List Int} (h : Rd w b B why zs) : Calls Try.prog 25 #[.pointer (some ⟨b, 0, none⟩)] w (fun e w' => ∃ x, Reads w b B x (rBytes (why, zs)).2 e w' ∧ IsList x w' w.heap.size (rBytes (why, zs)).1) := by
  have HL := Lib.hid (len_rd h)
  have h0 : Hid (0 ≤ (rLen (why, zs)).1) := Lib.hid (rLen_nonneg h)
  have HR : Hid (rBytes (why, zs) = tk (rLen (why, zs)).1.toNat yes2 id [] (rLen (why, zs)).2) := Lib.hid rfl
  have hlt := h.lt
  generalize rLen (why, zs) = s at *
  obtain ⟨x, s1, s2⟩ := s
  obtain ⟨k, rfl⟩ := Int.eq_ofNat_of_zero_le h0.out
  have HC : Hid (∀ w1, Rd w1 b B s1 s2 → Calls Try.prog 56 #[.pointer (some ⟨b, 0, none⟩), .int .i64 k, .func (.func 58) #[] #[]] w1 (fun e w' => ∃ x, Reads w1 b B x (tk k yes2 id [] (s1, s2)).2 e w' ∧ IsList x w' w1.heap.size (tk k yes2 id [] (s1, s2)).1)) := Lib.hid (by
    intro w1 r
    have nil : ∀ W base, IsList (.slice none 0 0) W base [] := fun W base => ⟨none, 0, rfl, World.ownsRow_nil _ _ _ _, Nat.le_refl _, by simp [maxLen]⟩
    by_cases hw : s1 = 0
    · subst hw
      by_cases hk : k ≤ s2.length
      · rw [tk_ok _ _ _ _ _ hk rfl]
        refine (take_l_ok k 58 #[] (in_any _ (by kernel_rfl)) r hk (fun x w' => IsList x w' w1.heap.size (s2.take k)) (fun w2 A c r2 g2 hb _ _ => ?_)).mono ?_
        · have hs := r.small
          have hbB : B.hi ≤ w2.heap.size := by have := r2.le; have := r2.lt; omega
          refine (bytes_mk (c := c) hb hbB (by omega)).mono ?_
          rintro e w' ⟨x, rfl, g, D, c5, h1, h2, h3⟩
          exact ⟨x, rfl, g, D, c5, h1, own_base h2 g2.size, h3⟩
        · rintro e w' ⟨x, ⟨rfl, r, g⟩, hx⟩
          exact ⟨x, ⟨rfl, r, g⟩, hx⟩
      · rw [tk_short _ _ _ _ _ (by omega)]
        refine (take_l_short _ _ r (by omega)).mono ?_
        rintro e w' ⟨rfl, r, g⟩
        exact ⟨_, ⟨rfl, r, g⟩, nil _ _⟩
    · rw [tk_bad _ _ _ _ _ _ hw]
      refine (take_l_none _ _ s1 _ hw w1 (err_any r)).mono ?_
      rintro e w' ⟨rfl, rfl⟩
      have := r.bad hw
      subst this
      exact ⟨_, ⟨rfl, r, grown_refl _ _⟩, nil _ _⟩)
  clear h h0
  go_enter Try.func25, Try.ntmps25
  go_wp2_with (first | (go_at_call 57; refine HL.out.mono ?_; rintro e w1 ⟨rfl, r1, g1⟩) | (go_at_call 56; refine (HC.out _ r1).mono ?_; rintro e w2 ⟨x, ⟨rfl, r2, g2⟩, hx⟩))
  go_ret
  rw [HR.out]
  obtain ⟨D, c5, h1, h2, h3⟩ := hx
  exact ⟨x, ⟨rfl, r2, grown_trans g1 g2⟩, D, c5, h1, own_base h2 g1.size, h3⟩
def okCount (most : Int) (b r : List Int) : Bool := decide (0 ≤ intZ b ∧ intZ b ≤ most ∧ intZ b ≤ (r.length : Nat))
set_option maxHeartbeats 1000000 in
theorem count_mk {w : World} {B1 c bm br b : Nat} {B : Span} {A : Option Addr} {most : Int} {zs rs : List Int} (h : Bs w B1 A 8 zs) (hr : Rd w b B 0 rs) (h1 : w.cell? ⟨bm, 0, none⟩ = some (.int .i64 most)) (h2 : w.cell? ⟨br, 0, none⟩ = some (.pointer (some ⟨b, 0, none⟩))) :
    Calls Try.prog 63 #[.slice A 8 c, .pointer (some ⟨bm, 0, none⟩), .pointer (some ⟨br, 0, none⟩)] w (Makes w (okCount most zs rs) (fun x _ => x = .int .i64 (intZ zs))) := by
  have HC := Lib.hid (number_any (c := c) h)
  have HL := Lib.hid (fun m => left_any (hr.drewN m))
  have HO : Hid (okCount most zs rs = decide (0 ≤ intZ zs ∧ intZ zs ≤ most ∧ intZ zs ≤ (rs.length : Nat))) := Lib.hid rfl
  generalize okCount most zs rs = ok at *
  generalize intZ zs = z at *
  generalize rs.length = l at *
  clear h hr
  by_cases q1 : 0 ≤ z
  · by_cases q2 : z ≤ most
    · have e : ok = decide (z ≤ (l : Int)) := by rw [HO.out]; simp [q1, q2]
      clear HO
      rw [e]
      go_enter Try.func63, Try.ntmps63
      go_wp2_with (first | (go_at_call 53; refine HC.out.mono ?_; rintro e w' ⟨rfl, m, rfl⟩) | (go_at_call 17; refine (HL.out _).mono ?_; rintro e w' ⟨rfl, rfl⟩))
      go_ret2
      exact ⟨_, rfl, grown_drewN _ _ _, rfl⟩
    · have e : ok = false := by rw [HO.out]; simp [q2]
      clear HO
      rw [e]
      go_enter Try.func63, Try.ntmps63
      go_wp2_with (first | (go_at_call 53; refine HC.out.mono ?_; rintro e w' ⟨rfl, m, rfl⟩))
      go_ret2
      exact ⟨_, rfl, grown_drewN _ _ _, rfl⟩
  · have e : ok = false := by rw [HO.out]; simp [q1]
    clear HO
    rw [e]
    go_enter Try.func63, Try.ntmps63
    go_wp2_with (first | (go_at_call 53; refine HC.out.mono ?_; rintro e w' ⟨rfl, m, rfl⟩))
    go_ret2
    exact ⟨_, rfl, grown_drewN _ _ _, rfl⟩
theorem count_rd {w : World} {b : Nat} {B : Span} {why : Int} {zs : List Int} (most : Int) (h : Rd w b B why zs) : Calls Try.prog 28 #[.pointer (some ⟨b, 0, none⟩), .int .i64 most] w (Reads w b B (.int .i64 (rCount most (why, zs)).1) (rCount most (why, zs)).2) := by
  have hlt := h.lt
  obtain ⟨W, hW⟩ : ∃ W, W = (w.alloc (.cells #[.pointer (some ⟨b, 0, none⟩)] 38)).alloc (.cells #[.int .i64 most] 3) := ⟨_, rfl⟩
  have gW : w.grownBy W none := by rw [hW]; exact grown_trans (grown_alloc _ _ _) (grown_alloc _ _ _)
  have hW2 : W.heap[w.heap.size]? = some (.cells #[.pointer (some ⟨b, 0, none⟩)] 38) := by
    rw [hW, Below.heap_alloc _ _ _ (by simp)]; exact heap_alloc_new _ _
  have hW3 : W.heap[w.heap.size + 1]? = some (.cells #[.int .i64 most] 3) := by
    rw [hW, show w.heap.size + 1 = (w.alloc (.cells #[.pointer (some ⟨b, 0, none⟩)] 38)).heap.size by simp]; exact heap_alloc_new _ _
  have hWs : W.heap.size = w.heap.size + 2 := by rw [hW]; simp
  have r0 : Rd W b B why zs := h.grown gW (fun k hk => by cases hk)
  have HC : Hid (Calls Try.prog 51 #[.pointer (some ⟨b, 0, none⟩), .int .i64 8, .func (.func 63) #[] #[.pointer (some ⟨w.heap.size + 1, 0, none⟩), .pointer (some ⟨w.heap.size, 0, none⟩)]] W (Reads W b B (.int .i64 (rCount most (why, zs)).1) (rCount most (why, zs)).2)) :=
    Lib.hid (take_i_any (Value.int .i64) 0 rfl 8 (okCount most) intZ 63 #[.pointer (some ⟨w.heap.size + 1, 0, none⟩), .pointer (some ⟨w.heap.size, 0, none⟩)] (in_any _ (by kernel_rfl)) r0 (fun _ _ w1 A c r1 g1 hb _ _ => by
      have e2 := (g1.block w.heap.size (by omega) (by simp; omega)).trans hW2
      have e3 := (g1.block (w.heap.size + 1) (by omega) (by simp; omega)).trans hW3
      exact count_mk hb r1 (by rw [cell_of_row _ _ _ _ _ _ e3]; rfl) (by rw [cell_of_row _ _ _ _ _ _ e2]; rfl)))
  have HW := Lib.hid hW
  have G := Lib.hid gW
  clear h r0 hW2 hW3 gW hW
  go_enter Try.func28, Try.ntmps28
  go_wp2_with (go_at_call 51; rw [← HW.out]; refine HC.out.mono ?_; rintro e w' ⟨rfl, r, g⟩)
  go_ret
  exact ⟨rfl, r, grown_trans (grown_more G.out) g⟩
/-- A new reader of bytes. -/
def newWhy (zs : List Int) : Int × List Int := if zs.length ≤ 65536 then (0, zs) else (3, [])
theorem rd_new {w : World} {b n c : Nat} {B : Span} {why : Int} {A : Option Addr} {zs : List Int} {t : TypeId} (h : w.heap[b]? = some (.cells #[.bool true, .int .i64 why, .slice A n c] t)) (hz : Bs w B.hi A n zs) (hB : B.hi ≤ b) (hn : n ≤ c) (hc : c ≤ maxLen) (h5 : n ≤ 65536) (hl : 0 < n → ∀ a, A = some a → B.lo ≤ a.block) (hw : why ≠ 0 → zs = []) : Rd w b B why zs := by
  have h2 : w.cell? ⟨b, 2, none⟩ = some (.slice A n c) := by rw [cell_of_row _ _ _ _ _ _ h]; rfl
  refine ⟨by rw [cell_of_row _ _ _ _ _ _ h]; rfl, by rw [cell_of_row _ _ _ _ _ _ h]; rfl, ⟨A, n, c, h2, hz, hn, hc, h5⟩, fun A1 n1 c1 hc' hn1 a ha => ?_, frozen_of_row _ _ _ _ _ h, frozen_of_row _ _ _ _ _ h, hB, hw⟩
  rw [h2] at hc'
  injection hc' with hc'
  injection hc' with q1 q2 q3
  exact hl (by omega) a (q1.trans ha)
theorem newreader_any {w : World} {B n : Nat} {A : Option Addr} (c : Nat) {zs : List Int} (h : Bs w B A n zs) (hB : B ≤ w.heap.size) (hn : n ≤ 140737488355328) :
    Calls Try.prog 14 #[.slice A n c] w (fun e w' => ∃ b, e = .returned (.pointer (some ⟨b, 0, none⟩)) ∧ Rd w' b ⟨w.heap.size, b⟩ (newWhy zs).1 (newWhy zs).2 ∧ w.heap.size ≤ b ∧ Below w.heap.size w w') := by
  by_cases hl : n ≤ 65536
  · have HN : Hid (newWhy zs = (0, zs)) := Lib.hid (by unfold newWhy; rw [if_pos (by rw [h.len]; exact hl)])
    have HC := Lib.hid (cat1_any (w := w) c 26 h hB (by omega) 1 w.heap.size rfl)
    have HLn := Lib.hid h.len
    have HZ := Lib.hid h.isBytes
    have hli : ¬ 65536 < (n : Int) := by omega
    clear h
    go_enter Try.func14, Try.ntmps14
    go_wp2_with (go_at_call 42; refine HC.out.mono ?_; intro e w5 hm; obtain ⟨D, c5, rfl, ho, hb, h1, h2⟩ := hm.n HLn.out; clear hm)
    go_ret
    have hb2 : Below w.heap.size w w5 := ((Below.refl _ _).alloc (Nat.le_refl _) _).trans (hb.mono (by simp))
    have z5 := Made.bs ho HZ.out
    rw [HN.out]
    exact ⟨_, rfl, rd_new (B := ⟨w.heap.size, w5.heap.size⟩) (heap_alloc_new w5 _) (z5.alloc (Nat.le_refl _) _) (Nat.le_refl _) h1 h2 hl (fun _ a ha => by have := (ho.lt a.block (by rw [ha]; rfl)).1; simp at this; show w.heap.size ≤ _; omega) (fun e => absurd rfl e), hb2.size, hb2.alloc hb2.size _⟩
  · have HN : Hid (newWhy zs = (3, [])) := Lib.hid (by unfold newWhy; rw [if_neg (by rw [h.len]; exact hl)])
    have hli : 65536 < (n : Int) := by omega
    clear h
    go_enter Try.func14, Try.ntmps14
    go_wp2
    go_ret
    rw [HN.out]
    exact ⟨_, rfl, rd_new (B := ⟨w.heap.size, w.heap.size⟩) (heap_alloc_new w _) Bs.nil (Nat.le_refl _) (Nat.le_refl _) (by simp [maxLen]) (by omega) (fun h => absurd h (by omega)) (fun _ => rfl), Nat.le_refl _, (Below.refl _ _).alloc (Nat.le_refl _) _⟩
end Go.Proofs.Ytcihbkdpkhhhcaa
