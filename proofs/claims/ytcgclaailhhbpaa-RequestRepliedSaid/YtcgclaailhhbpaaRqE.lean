/- Whether a request may be: the document's. -/
import Derived.Test.YtcgclaailhhbpaaRqA
import Derived.Test.YtcgclaailhhbpaaRqG
namespace Go.Proofs.Ytcgclaailhhbpaa
open Go.ChangeShapes Go.WideShapes Go.ChangeAt Go.RowKit
set_option linter.unusedVariables false
set_option maxRecDepth 100000
set_option linter.unusedSimpArgs false
open Plain Sha Au Rp Rq
theorem rqin_any (w : World) (n lo hi : Int) (q : Bool) (hq : inB n lo hi = q) : Calls Try.prog 32 #[.int .i64 n, .int .i64 lo, .int .i64 hi] w (Says (.bool q) w) := by
  by_cases hl : lo ≤ n
  · have HV := Lib.hid (show decide (n ≤ hi) = q by rw [← hq]; exact (inB_hi (hi := hi) hl).symm)
    clear hq
    go_enter Try.func32, Try.ntmps32
    go_wp2
    go_ret
    exact ⟨by rw [← HV.out]; rfl, rfl⟩
  · have HV := Lib.hid (show false = q by rw [← hq]; exact (inB_lo (hi := hi) hl).symm)
    clear hq
    go_enter Try.func32, Try.ntmps32
    go_wp2
    go_ret
    exact ⟨by rw [← HV.out]; rfl, rfl⟩
theorem rqin_quiet (n lo hi : Int) (q : Bool) (hq : inB n lo hi = q) (w : World) : Calls Try.prog 32 #[.int .i64 n, .int .i64 lo, .int .i64 hi] w (Quiet (.bool q) w) := (rqin_any w n lo hi q hq).mono fun e w' h => ⟨h.1, 0, by rw [← h.2]; rfl⟩
theorem mk1 (key val old : ByteArray) (n tn ks sp rt ex sr : Int) : (keyB 1 key && valB 1 val && oldB 1 old && nB 1 n && tnB 1 tn && spB 1 ks && spB 1 sp && grB 1 rt ex sr) = (inB (key.size : Nat) 1 24 && decide (val = ByteArray.empty) && decide (old = ByteArray.empty) && decide (n = 0) && decide (tn = 0) && decide (ks = 0) && decide (sp = 0) && grE rt ex sr 0 0 0) := rfl
theorem mk2 (key val old : ByteArray) (n tn ks sp rt ex sr : Int) : (keyB 2 key && valB 2 val && oldB 2 old && nB 2 n && tnB 2 tn && spB 2 ks && spB 2 sp && grB 2 rt ex sr) = (inB (key.size : Nat) 1 24 && inB (val.size : Nat) 0 64 && decide (old = ByteArray.empty) && decide (n = 0) && decide (tn = 0) && decide (ks = 0) && decide (sp = 0) && grE rt ex sr 0 0 0) := rfl
theorem mk3 (key val old : ByteArray) (n tn ks sp rt ex sr : Int) : (keyB 3 key && valB 3 val && oldB 3 old && nB 3 n && tnB 3 tn && spB 3 ks && spB 3 sp && grB 3 rt ex sr) = (inB (key.size : Nat) 1 24 && inB (val.size : Nat) 0 64 && inB (old.size : Nat) 0 64 && decide (n = 0) && decide (tn = 0) && decide (ks = 0) && decide (sp = 0) && grE rt ex sr 0 0 0) := rfl
theorem mk4 (key val old : ByteArray) (n tn ks sp rt ex sr : Int) : (keyB 4 key && valB 4 val && oldB 4 old && nB 4 n && tnB 4 tn && spB 4 ks && spB 4 sp && grB 4 rt ex sr) = (inB (key.size : Nat) 1 24 && decide (val = ByteArray.empty) && decide (old = ByteArray.empty) && decide (n = 0) && decide (tn = 0) && decide (ks = 0) && decide (sp = 0) && grE rt ex sr 0 0 0) := rfl
theorem mk5 (key val old : ByteArray) (n tn ks sp rt ex sr : Int) : (keyB 5 key && valB 5 val && oldB 5 old && nB 5 n && tnB 5 tn && spB 5 ks && spB 5 sp && grB 5 rt ex sr) = (inB (key.size : Nat) 0 24 && decide (val = ByteArray.empty) && decide (old = ByteArray.empty) && inB n 1 16 && decide (tn = 0) && decide (ks = 0) && decide (sp = 0) && grE rt ex sr 0 0 0) := rfl
theorem mk6 (key val old : ByteArray) (n tn ks sp rt ex sr : Int) : (keyB 6 key && valB 6 val && oldB 6 old && nB 6 n && tnB 6 tn && spB 6 ks && spB 6 sp && grB 6 rt ex sr) = (decide (key = ByteArray.empty) && decide (val = ByteArray.empty) && decide (old = ByteArray.empty) && decide (n = 0) && inB tn 1 8 && inB ks 0 65536 && inB sp 0 65536 && grE rt ex sr 0 0 0) := rfl
theorem mk7 (key val old : ByteArray) (n tn ks sp rt ex sr : Int) : (keyB 7 key && valB 7 val && oldB 7 old && nB 7 n && tnB 7 tn && spB 7 ks && spB 7 sp && grB 7 rt ex sr) = (decide (key = ByteArray.empty) && decide (val = ByteArray.empty) && decide (old = ByteArray.empty) && decide (n = 0) && inB tn 1 8 && inB ks 0 65536 && inB sp 0 65536 && grE rt ex sr 0 0 0) := rfl
theorem mk8 (key val old : ByteArray) (n tn ks sp rt ex sr : Int) : (keyB 8 key && valB 8 val && oldB 8 old && nB 8 n && tnB 8 tn && spB 8 ks && spB 8 sp && grB 8 rt ex sr) = (decide (key = ByteArray.empty) && decide (val = ByteArray.empty) && decide (old = ByteArray.empty) && decide (n = 0) && inB tn 0 8 && decide (ks = 0) && decide (sp = 0) && (inB rt 1 15 && inB ex 0 1099511627776 && decide (sr = 0))) := by
  have e : grB 8 rt ex sr = (inB rt 1 15 && inB ex 0 1099511627776 && decide (sr = 0)) := by
    show (decide (1 ≤ rt) && decide (rt ≤ 15) && decide (0 ≤ ex) && decide (ex ≤ 1099511627776) && decide (sr = 0)) = _
    unfold inB
    simp only [Bool.and_assoc]
  rw [e]; rfl
theorem mk9 (key val old : ByteArray) (n tn ks sp rt ex sr : Int) : (keyB 9 key && valB 9 val && oldB 9 old && nB 9 n && tnB 9 tn && spB 9 ks && spB 9 sp && grB 9 rt ex sr) = (decide (key = ByteArray.empty) && decide (val = ByteArray.empty) && decide (old = ByteArray.empty) && inB n 0 65536 && inB tn 0 8 && decide (ks = 0) && decide (sp = 0) && grE rt ex sr 0 0 0) := rfl
theorem mk10 (key val old : ByteArray) (n tn ks sp rt ex sr : Int) : (keyB 10 key && valB 10 val && oldB 10 old && nB 10 n && tnB 10 tn && spB 10 ks && spB 10 sp && grB 10 rt ex sr) = (decide (key = ByteArray.empty) && decide (val = ByteArray.empty) && decide (old = ByteArray.empty) && inB n 0 65536 && decide (tn = 0) && decide (ks = 0) && decide (sp = 0) && grE rt ex sr 0 0 0) := rfl
end Go.Proofs.Ytcgclaailhhbpaa
