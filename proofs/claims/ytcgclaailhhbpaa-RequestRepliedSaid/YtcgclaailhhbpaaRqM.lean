/- Requests: plain, and as they stand; whether one may be. -/
import Derived.Test.YtcgclaailhhbpaaB5
import Derived.Test.YtcgclaailhhbpaaB3
namespace Go.Proofs.Ytcgclaailhhbpaa
open Go.ChangeShapes Go.WideShapes Go.ChangeAt Go.RowKit
set_option linter.unusedVariables false
set_option linter.unusedSimpArgs false
open Plain Sha Au Rp
namespace Rq
/-- A request, plain. -/
structure ReqZ where
  op : Int
  tok : List Int
  key : ByteArray
  val : ByteArray
  old : ByteArray
  n : Int
  tn : Int
  ks : Int
  sp : Int
  rt : Int
  ex : Int
  sr : Int
/-- A request as it stands: with where its token stands. -/
structure QX where
  op : Int
  A : Option Addr
  tl : Nat
  tc : Nat
  tok : List Int
  key : ByteArray
  val : ByteArray
  old : ByteArray
  n : Int
  tn : Int
  ks : Int
  sp : Int
  rt : Int
  ex : Int
  sr : Int
def QX.z (x : QX) : ReqZ := ⟨x.op, x.tok, x.key, x.val, x.old, x.n, x.tn, x.ks, x.sp, x.rt, x.ex, x.sr⟩
def q0 : QX := ⟨0, none, 0, 0, [], ByteArray.empty, ByteArray.empty, ByteArray.empty, 0, 0, 0, 0, 0, 0, 0⟩
/-- The cells of a request. -/
def qc (x : QX) : List Value := [.int .u8 x.op, .slice x.A x.tl x.tc, .string x.key, .string x.val, .string x.old, .int .i64 x.n, .int .i64 x.tn, .int .i64 x.ks, .int .i64 x.sp, .int .u8 x.rt, .int .i64 x.ex, .int .i64 x.sr]
theorem qc_len (x : QX) : (qc x).length = 12 := rfl
theorem qc_one (x : QX) : ∀ u ∈ qc x, u.oneCell' = true := by
  intro u hu
  unfold qc at hu
  simp only [List.mem_cons, List.not_mem_nil, or_false] at hu
  rcases hu with rfl | rfl | rfl | rfl | rfl | rfl | rfl | rfl | rfl | rfl | rfl | rfl <;> rfl
def inB (n lo hi : Int) : Bool := decide (lo ≤ n) && decide (n ≤ hi)
/-- What each field of an Op may be. -/
def keyB (k : Int) (s : ByteArray) : Bool := if k = 1 ∨ k = 2 ∨ k = 3 ∨ k = 4 then inB (s.size : Nat) 1 24 else if k = 5 then inB (s.size : Nat) 0 24 else decide (s = ByteArray.empty)
def valB (k : Int) (s : ByteArray) : Bool := if k = 2 ∨ k = 3 then inB (s.size : Nat) 0 64 else decide (s = ByteArray.empty)
def oldB (k : Int) (s : ByteArray) : Bool := if k = 3 then inB (s.size : Nat) 0 64 else decide (s = ByteArray.empty)
def nB (k n : Int) : Bool := if k = 5 then inB n 1 16 else if k = 9 ∨ k = 10 then inB n 0 65536 else decide (n = 0)
def tnB (k t : Int) : Bool := if k = 6 ∨ k = 7 then inB t 1 8 else if k = 8 ∨ k = 9 then inB t 0 8 else decide (t = 0)
def spB (k s : Int) : Bool := if k = 6 ∨ k = 7 then inB s 0 65536 else decide (s = 0)
def grB (k rt ex sr : Int) : Bool := if k = 8 then decide (1 ≤ rt) && decide (rt ≤ 15) && decide (0 ≤ ex) && decide (ex ≤ 1099511627776) && decide (sr = 0) else decide (rt = 0) && decide (ex = 0) && decide (sr = 0)
/-- The request may be. -/
def mayB (x : ReqZ) : Bool := decide (1 ≤ x.op) && decide (x.op ≤ 10) && decide (x.tok.length ≤ 256) &&
  (keyB x.op x.key && valB x.op x.val && oldB x.op x.old && nB x.op x.n && tnB x.op x.tn && spB x.op x.ks && spB x.op x.sp && grB x.op x.rt x.ex x.sr)
/-- Two requests are the same. -/
def reqB (a b : ReqZ) : Bool := decide (a.op = b.op) && eqB a.tok b.tok && decide (a.key = b.key) && decide (a.val = b.val) && decide (a.old = b.old) && decide (a.n = b.n) && decide (a.tn = b.tn) && decide (a.ks = b.ks) && decide (a.sp = b.sp) && (decide (a.rt = b.rt) && decide (a.ex = b.ex) && decide (a.sr = b.sr))
theorem reqB_refl (a : ReqZ) : reqB a a = true := by simp [reqB, eqB]
/-- Its form. -/
def reqF (r : ReqZ) : List Int := [r.op] ++ bytesF r.tok ++ bytesF (strZ r.key) ++ bytesF (strZ r.val) ++ bytesF (strZ r.old) ++ n64 r.n ++ n64 r.tn ++ n64 r.ks ++ n64 r.sp ++ [r.rt] ++ n64 r.ex ++ n64 r.sr
end Rq
open Rq
/-- A request whose token stands below block B. -/
structure QOk (w : World) (B : Nat) (x : QX) : Prop where
  op : 0 ≤ x.op ∧ x.op < 256
  n : InA x.n
  tn : InA x.tn
  ks : InA x.ks
  sp : InA x.sp
  rt : 0 ≤ x.rt ∧ x.rt < 256
  ex : InA x.ex
  sr : InA x.sr
  tc : x.tl ≤ x.tc
  tm : x.tc ≤ maxLen
  tok : Bs w B x.A x.tl x.tok
section
variable {w w' : World} {B B' : Nat} {x : QX}
theorem QOk.keep (h : QOk w B x) (hk : ∀ p : Addr, p.block < B → w'.cell? p = w.cell? p) : QOk w' B x := ⟨h.op, h.n, h.tn, h.ks, h.sp, h.rt, h.ex, h.sr, h.tc, h.tm, h.tok.keep hk⟩
theorem QOk.below (h : QOk w B x) (hb : Below B' w w') (hB : B ≤ B') : QOk w' B x := h.keep fun _ hp => (hb.mono hB).cell hp
theorem QOk.more (h : QOk w B x) (hB : B ≤ B') : QOk w B' x := ⟨h.op, h.n, h.tn, h.ks, h.sp, h.rt, h.ex, h.sr, h.tc, h.tm, h.tok.more hB⟩
theorem QOk.grow (h : QOk w B x) (hb : Below w.heap.size w w') (hB : B ≤ w.heap.size) : QOk w' w'.heap.size x := (h.below hb hB).more (Nat.le_trans hB hb.size)
end
theorem q0_ok (w : World) (B : Nat) : QOk w B q0 := ⟨by unfold q0; dsimp only; omega, by unfold InA q0; dsimp only; omega, by unfold InA q0; dsimp only; omega, by unfold InA q0; dsimp only; omega, by unfold InA q0; dsimp only; omega, by unfold q0; dsimp only; omega, by unfold InA q0; dsimp only; omega, by unfold InA q0; dsimp only; omega, Nat.le_refl _, by simp [q0, maxLen], Bs.nil⟩
theorem q_size (x : QX) : (Try.prog.info? 26).map (·.size) = some (qc x).length := by rw [qc_len]; kernel_rfl
theorem q_sizeA (x : QX) : (Try.prog.info? 26).map (·.size) = some (qc x).toArray.size := by rw [List.size_toArray]; exact q_size x
theorem q_oneA (x : QX) : (qc x).toArray.all (·.oneCell') = true := all_oneCell_toArray (qc_one x)
/-- What a request's cells read as, wherever it stands. -/
theorem rng_q {w : World} {b o : Nat} {x : QX} (h : w.rangeAt b o (qc x)) : w.cell? ⟨b, o, none⟩ = some (.int .u8 x.op) ∧ w.cell? ⟨b, o + 1, none⟩ = some (.slice x.A x.tl x.tc) ∧ w.cell? ⟨b, o + 2, none⟩ = some (.string x.key) ∧ w.cell? ⟨b, o + 3, none⟩ = some (.string x.val) ∧ w.cell? ⟨b, o + 4, none⟩ = some (.string x.old) ∧ w.cell? ⟨b, o + 5, none⟩ = some (.int .i64 x.n) ∧ w.cell? ⟨b, o + 6, none⟩ = some (.int .i64 x.tn) ∧ w.cell? ⟨b, o + 7, none⟩ = some (.int .i64 x.ks) ∧ w.cell? ⟨b, o + 8, none⟩ = some (.int .i64 x.sp) ∧ w.cell? ⟨b, o + 9, none⟩ = some (.int .u8 x.rt) ∧ w.cell? ⟨b, o + 10, none⟩ = some (.int .i64 x.ex) ∧ w.cell? ⟨b, o + 11, none⟩ = some (.int .i64 x.sr) :=
  ⟨h 0 _ rfl, h 1 _ rfl, h 2 _ rfl, h 3 _ rfl, h 4 _ rfl, h 5 _ rfl, h 6 _ rfl, h 7 _ rfl, h 8 _ rfl, h 9 _ rfl, h 10 _ rfl, h 11 _ rfl⟩
end Go.Proofs.Ytcgclaailhhbpaa
