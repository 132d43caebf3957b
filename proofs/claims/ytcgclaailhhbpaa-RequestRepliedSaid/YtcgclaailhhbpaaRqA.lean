/- What a field of an Op may be: the program's closures, fits. -/
import Derived.Test.YtcgclaailhhbpaaRqM
import Derived.Laws.StructEq
namespace Go.Proofs.Ytcgclaailhhbpaa
open Go.ChangeShapes Go.WideShapes Go.ChangeAt Go.RowKit
set_option linter.unusedVariables false
set_option linter.unusedSimpArgs false
set_option maxRecDepth 100000
open Plain Sha Au Rp Rq
theorem inB_lo {n lo hi : Int} (h : ¬ lo ≤ n) : inB n lo hi = false := by simp [inB, h]
theorem inB_hi {n lo hi : Int} (h : lo ≤ n) : inB n lo hi = decide (n ≤ hi) := by simp [inB, h]
theorem lenin_any {w : World} {a b : Nat} {lo hi : Int} (h1 : w.cell? ⟨a, 0, none⟩ = some (.int .i64 lo)) (h2 : w.cell? ⟨b, 0, none⟩ = some (.int .i64 hi)) (s : ByteArray) :
    Calls Try.prog 89 #[.string s, .pointer (some ⟨a, 0, none⟩), .pointer (some ⟨b, 0, none⟩)] w (Says (.bool (inB (s.size : Nat) lo hi)) w) := by
  obtain ⟨n, hn⟩ : ∃ n, s.size = n := ⟨_, rfl⟩
  by_cases hl : lo ≤ (n : Int)
  · have HV := Lib.hid (inB_hi (hi := hi) hl)
    rw [hn]
    go_enter Try.func89, Try.ntmps89
    go_wp2
    go_ret
    exact ⟨by rw [HV.out]; rfl, rfl⟩
  · have HV := Lib.hid (inB_lo (hi := hi) hl)
    rw [hn]
    go_enter Try.func89, Try.ntmps89
    go_wp2
    go_ret
    exact ⟨by rw [HV.out]; rfl, rfl⟩
theorem fromin_any {w : World} {a b : Nat} {lo hi : Int} (h1 : w.cell? ⟨a, 0, none⟩ = some (.int .i64 lo)) (h2 : w.cell? ⟨b, 0, none⟩ = some (.int .i64 hi)) (n : Int) :
    Calls Try.prog 90 #[.int .i64 n, .pointer (some ⟨a, 0, none⟩), .pointer (some ⟨b, 0, none⟩)] w (Says (.bool (inB n lo hi)) w) := by
  by_cases hl : lo ≤ n
  · have HV := Lib.hid (inB_hi (hi := hi) hl)
    go_enter Try.func90, Try.ntmps90
    go_wp2
    go_ret
    exact ⟨by rw [HV.out]; rfl, rfl⟩
  · have HV := Lib.hid (inB_lo (hi := hi) hl)
    go_enter Try.func90, Try.ntmps90
    go_wp2
    go_ret
    exact ⟨by rw [HV.out]; rfl, rfl⟩
/-- A function that tells whether a text, a number, a grant may be; or none: it must be zero. -/
def FnS (w : World) (v : Value) (p : ByteArray → Bool) : Prop :=
  (v = .nilFunc ∧ p = fun s => decide (s = ByteArray.empty)) ∨
  ∃ (a b : Nat) (lo hi : Int), v = .func (.func 89) #[] #[.pointer (some ⟨a, 0, none⟩), .pointer (some ⟨b, 0, none⟩)] ∧ w.cell? ⟨a, 0, none⟩ = some (.int .i64 lo) ∧ w.cell? ⟨b, 0, none⟩ = some (.int .i64 hi) ∧ p = fun s => inB (s.size : Nat) lo hi
def FnI (w : World) (v : Value) (p : Int → Bool) : Prop :=
  (v = .nilFunc ∧ p = fun n => decide (n = 0)) ∨
  ∃ (a b : Nat) (lo hi : Int), v = .func (.func 90) #[] #[.pointer (some ⟨a, 0, none⟩), .pointer (some ⟨b, 0, none⟩)] ∧ w.cell? ⟨a, 0, none⟩ = some (.int .i64 lo) ∧ w.cell? ⟨b, 0, none⟩ = some (.int .i64 hi) ∧ p = fun n => inB n lo hi
def FnG (v : Value) (p : Int → Int → Int → Bool) : Prop :=
  (v = .nilFunc ∧ p = fun rt ex sr => decide (rt = 0) && decide (ex = 0) && decide (sr = 0)) ∨
  (v = .func (.func 68) #[] #[] ∧ p = fun rt ex sr => decide (1 ≤ rt) && decide (rt ≤ 15) && decide (0 ≤ ex) && decide (ex ≤ 1099511627776) && decide (sr = 0))
theorem FnS.grow {w w' : World} {v : Value} {p : ByteArray → Bool} (h : FnS w v p) (hb : Below w.heap.size w w') : FnS w' v p := by
  rcases h with h | ⟨a, b, lo, hi, h0, h1, h2, h3⟩
  · exact .inl h
  · exact .inr ⟨a, b, lo, hi, h0, (hb.cell (p := ⟨a, 0, none⟩) (World.block_lt_of_cell? _ _ h1)).trans h1, (hb.cell (p := ⟨b, 0, none⟩) (World.block_lt_of_cell? _ _ h2)).trans h2, h3⟩
theorem FnI.grow {w w' : World} {v : Value} {p : Int → Bool} (h : FnI w v p) (hb : Below w.heap.size w w') : FnI w' v p := by
  rcases h with h | ⟨a, b, lo, hi, h0, h1, h2, h3⟩
  · exact .inl h
  · exact .inr ⟨a, b, lo, hi, h0, (hb.cell (p := ⟨a, 0, none⟩) (World.block_lt_of_cell? _ _ h1)).trans h1, (hb.cell (p := ⟨b, 0, none⟩) (World.block_lt_of_cell? _ _ h2)).trans h2, h3⟩
theorem equalIn_nn {P : Program} (w : World) (d : Nat) (t : TypeId) {ps rs : Array TypeId} {x : Bool} (h : P.underlying t = some (.func ps rs x)) : (Op.equalIn (d + 1) t .nilFunc .nilFunc).run P w = .ok true w := by
  simp [Op.equalIn, run_underlying h]
theorem equalIn_fn {P : Program} (w : World) (d : Nat) (t : TypeId) {ps rs : Array TypeId} {x : Bool} (h : P.underlying t = some (.func ps rs x)) (f : Fn) (a b : Array Value) : (Op.equalIn (d + 1) t (.func f a b) .nilFunc).run P w = .ok false w := by
  simp [Op.equalIn, run_underlying h]
theorem eql_nn {P : Program} (w : World) (t : TypeId) {ps rs : Array TypeId} {x : Bool} (h : P.underlying t = some (.func ps rs x)) : (binOp .eql t .nilFunc .nilFunc).run P w = .ok (.bool true) w := by
  have e : (Op.equal t .nilFunc .nilFunc).run P w = .ok true w := equalIn_nn w 9999 t h
  simp only [binOp]
  simp [e]
theorem eql_fn {P : Program} (w : World) (t : TypeId) {ps rs : Array TypeId} {x : Bool} (h : P.underlying t = some (.func ps rs x)) (f : Fn) (a b : Array Value) : (binOp .eql t (.func f a b) .nilFunc).run P w = .ok (.bool false) w := by
  have e : (Op.equal t (.func f a b) .nilFunc).run P w = .ok false w := equalIn_fn w 9999 t h f a b
  simp only [binOp]
  simp [e]
theorem nilS (W : World) : (binOp .eql 72 .nilFunc .nilFunc).run Try.prog W = .ok (.bool true) W := eql_nn W _ Try.underlying72
theorem someS (f : Fn) (b : Array Value) (W : World) : (binOp .eql 72 (.func f #[] b) .nilFunc).run Try.prog W = .ok (.bool false) W := eql_fn W _ Try.underlying72 f #[] b
theorem nilI (W : World) : (binOp .eql 73 .nilFunc .nilFunc).run Try.prog W = .ok (.bool true) W := eql_nn W _ Try.underlying73
theorem someI (f : Fn) (b : Array Value) (W : World) : (binOp .eql 73 (.func f #[] b) .nilFunc).run Try.prog W = .ok (.bool false) W := eql_fn W _ Try.underlying73 f #[] b
theorem nilG (W : World) : (binOp .eql 74 .nilFunc .nilFunc).run Try.prog W = .ok (.bool true) W := eql_nn W _ Try.underlying74
theorem someG (f : Fn) (b : Array Value) (W : World) : (binOp .eql 74 (.func f #[] b) .nilFunc).run Try.prog W = .ok (.bool false) W := eql_fn W _ Try.underlying74 f #[] b
theorem empty_of (s : ByteArray) : s.toList.isEmpty = decide (s = ByteArray.empty) := by
  have he : ByteArray.empty.toList = [] := by kernel_rfl
  rw [← seq_of, he]
  cases s.toList <;> rfl
theorem fitS_any {w : World} {v : Value} {p : ByteArray → Bool} (h : FnS w v p) (s : ByteArray) (q : Bool) (hq : p s = q) :
    Calls Try.prog 40 #[.string s, v] w (Says (.bool q) w) := by
  rcases h with ⟨rfl, rfl⟩ | ⟨a, b, lo, hi, rfl, h1, h2, rfl⟩
  · have e : s.toList.isEmpty = q := by rw [empty_of]; exact hq
    clear hq
    have hnil := nilS
    go_enter Try.func40, Try.ntmps40
    go_wp2
    go_ret
    exact ⟨by rw [← e]; rfl, rfl⟩
  · have HC := Lib.hid (lenin_any h1 h2 s)
    have HQ := Lib.hid hq
    clear hq h1 h2
    have hsome := someS
    go_enter Try.func40, Try.ntmps40
    go_wp2_with (go_at_call 89; refine HC.out.mono ?_; rintro e w' ⟨rfl, rfl⟩)
    go_ret
    exact ⟨by rw [← HQ.out]; rfl, rfl⟩
theorem fitI_any {w : World} {v : Value} {p : Int → Bool} (h : FnI w v p) (n : Int) (q : Bool) (hq : p n = q) :
    Calls Try.prog 41 #[.int .i64 n, v] w (Says (.bool q) w) := by
  rcases h with ⟨rfl, rfl⟩ | ⟨a, b, lo, hi, rfl, h1, h2, rfl⟩
  · have HQ : Hid ((n == 0) = q) := Lib.hid (by rw [← hq]; rfl)
    clear hq
    have hnil := nilI
    go_enter Try.func41, Try.ntmps41
    go_wp2
    go_ret
    exact ⟨by rw [← HQ.out]; rfl, rfl⟩
  · have HC := Lib.hid (fromin_any h1 h2 n)
    have HQ := Lib.hid hq
    clear hq h1 h2
    have hsome := someI
    go_enter Try.func41, Try.ntmps41
    go_wp2_with (go_at_call 90; refine HC.out.mono ?_; rintro e w' ⟨rfl, rfl⟩)
    go_ret
    exact ⟨by rw [← HQ.out]; rfl, rfl⟩
set_option maxHeartbeats 1000000 in
theorem maygr_any (w : World) (rt ex sr : Int) : Calls Try.prog 68 #[.agg #[.int .u8 rt, .int .i64 ex, .int .i64 sr]] w (fun e w' => e = .returned (.bool (decide (1 ≤ rt) && decide (rt ≤ 15) && decide (0 ≤ ex) && decide (ex ≤ 1099511627776) && decide (sr = 0))) ∧ Below w.heap.size w w') := by
  obtain ⟨q, hq⟩ : ∃ q, (decide (1 ≤ rt) && decide (rt ≤ 15) && decide (0 ≤ ex) && decide (ex ≤ 1099511627776) && decide (sr = 0)) = q := ⟨_, rfl⟩
  rw [hq]
  have HQ := Lib.hid hq
  clear hq
  have B1 := Lib.hid (fun o => below_one w o)
  by_cases h1 : 1 ≤ rt
  · by_cases h2 : rt ≤ 15
    · by_cases h3 : 0 ≤ ex
      · by_cases h4 : ex ≤ 1099511627776
        · have e : (sr == 0) = q := by rw [← HQ.out]; simp [h1, h2, h3, h4]; rfl
          go_enter Try.func68, Try.ntmps68
          go_wp2
          go_ret
          first
            | exact ⟨rfl, B1.out _⟩
            | exact ⟨by rw [← e], B1.out _⟩
        · have e : false = q := by rw [← HQ.out]; simp [h4]
          subst e
          go_enter Try.func68, Try.ntmps68
          go_wp2
          go_ret
          exact ⟨rfl, B1.out _⟩
      · have e : false = q := by rw [← HQ.out]; simp [h3]
        subst e
        go_enter Try.func68, Try.ntmps68
        go_wp2
        go_ret
        exact ⟨rfl, B1.out _⟩
    · have e : false = q := by rw [← HQ.out]; simp [h2]
      subst e
      go_enter Try.func68, Try.ntmps68
      go_wp2
      go_ret
      exact ⟨rfl, B1.out _⟩
  · have e : false = q := by rw [← HQ.out]; simp [h1]
    subst e
    go_enter Try.func68, Try.ntmps68
    go_wp2
    go_ret
    exact ⟨rfl, B1.out _⟩
set_option maxHeartbeats 1000000 in
theorem fitG_any (w : World) {v : Value} {p : Int → Int → Int → Bool} (h : FnG v p) (rt ex sr : Int) (q : Bool) (hq : p rt ex sr = q) :
    Calls Try.prog 42 #[.agg #[.int .u8 rt, .int .i64 ex, .int .i64 sr], v] w (fun e w' => e = .returned (.bool q) ∧ Below w.heap.size w w') := by
  have B2 := Lib.hid (fun o o' => show Below w.heap.size w ((w.alloc o).alloc o') from (below_one w o).alloc (by simp) _)
  rcases h with ⟨rfl, rfl⟩ | ⟨rfl, rfl⟩
  · have HQ : Hid ((decide (rt = 0) && decide (ex = 0) && decide (sr = 0)) = q) := Lib.hid hq
    clear hq
    by_cases e1 : rt = 0
    · by_cases e2 : ex = 0
      · by_cases e3 : sr = 0
        · have e : true = q := by rw [← HQ.out]; simp [e1, e2, e3]
          subst e e1 e2 e3
          have hnil := nilG
          go_enter Try.func42, Try.ntmps42
          go_wp2
          go_ret
          exact ⟨rfl, B2.out _ _⟩
        · have e : false = q := by rw [← HQ.out]; simp [e3]
          subst e e1 e2
          have hnil := nilG
          go_enter Try.func42, Try.ntmps42
          go_wp2
          go_ret
          exact ⟨by simp [e3], B2.out _ _⟩
      · have e : false = q := by rw [← HQ.out]; simp [e2]
        subst e e1
        have hnil := nilG
        go_enter Try.func42, Try.ntmps42
        go_wp2
        go_ret
        exact ⟨by simp [e2], B2.out _ _⟩
    · have e : false = q := by rw [← HQ.out]; simp [e1]
      subst e
      have hnil := nilG
      go_enter Try.func42, Try.ntmps42
      go_wp2
      go_ret
      exact ⟨by simp [e1], B2.out _ _⟩
  · have HC := Lib.hid (fun w => maygr_any w rt ex sr)
    have HQ : Hid ((decide (1 ≤ rt) && decide (rt ≤ 15) && decide (0 ≤ ex) && decide (ex ≤ 1099511627776) && decide (sr = 0)) = q) := Lib.hid hq
    clear hq
    have hsome := someG
    go_enter Try.func42, Try.ntmps42
    go_wp2_with (go_at_call 68; refine (HC.out _).mono ?_; rintro e w5 ⟨rfl, hb⟩; have HB := Lib.hid hb; clear hb)
    go_ret
    exact ⟨by rw [HQ.out]; rfl, (B2.out _ _).trans (HB.out.mono (by simp; omega))⟩
end Go.Proofs.Ytcgclaailhhbpaa
