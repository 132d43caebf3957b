/- Grants held against each other, as values. -/
import Derived.Test.YtcgclaailhhbpaaRqM
import Derived.Laws.StructEq
namespace Go.Proofs.Ytcgclaailhhbpaa
open Go.ChangeShapes Go.WideShapes Go.ChangeAt Go.RowKit
set_option linter.unusedVariables false
set_option maxRecDepth 100000
open Plain Sha Au Rp Rq
theorem gr_fields : (Try.prog.fieldsOf 24).toList.map (fun f => (f.type, f.offset)) = [(5, 0), (3, 1), (3, 2)] := by kernel_rfl
theorem gr_under : Try.prog.underlying 24 = some (.struct (Try.prog.fieldsOf 24)) := by kernel_rfl
theorem gr_stood : Try.prog.stoodInHeld 24 = false := by kernel_rfl
theorem gr_names : (Try.prog.fieldsOf 24).toList.all (fun f => !(f.name == "_")) = true := by kernel_rfl
def grE (r e s r' e' s' : Int) : Bool := decide (r = r') && decide (e = e') && decide (s = s')
def grFld (r e s r' e' s' : Int) (o : Nat) : Bool := if o = 0 then r == r' else if o = 1 then e == e' else s == s'
theorem run_grIn (r e s r' e' s' : Int) (w : World) : (Op.equalIn 10000 24 (.agg #[.int .u8 r, .int .i64 e, .int .i64 s]) (.agg #[.int .u8 r', .int .i64 e', .int .i64 s'])).run Try.prog w = .ok (grE r e s r' e' s') w := by
  rw [run_equalIn_struct w 9999 24 _ _ gr_under gr_stood]
  have hF := eqFields_list 9999 #[.int .u8 r, .int .i64 e, .int .i64 s] #[.int .u8 r', .int .i64 e', .int .i64 s'] w (fun f => grFld r e s r' e' s' f.offset) (Try.prog.fieldsOf 24).toList (fun f hf => by
    refine ⟨?_, ?_⟩
    · have := gr_names
      rw [List.all_eq_true] at this
      have := this f hf
      simpa using this
    · have hm : (f.type, f.offset) ∈ (Try.prog.fieldsOf 24).toList.map (fun f => (f.type, f.offset)) := List.mem_map.2 ⟨f, hf, rfl⟩
      rw [gr_fields] at hm
      simp only [List.mem_cons, Prod.mk.injEq, List.not_mem_nil, or_false] at hm
      rcases hm with ⟨e1, e2⟩ | ⟨e1, e2⟩ | ⟨e1, e2⟩ <;> rw [e1, e2]
      · exact ⟨.int .u8 r, .int .u8 r', part_u8 rfl, part_u8 rfl, (run_equalIn_int w 9998 5 .u8 .u8 _ _ Try.underlying5).trans rfl⟩
      · exact ⟨.int .i64 e, .int .i64 e', part_int rfl, part_int rfl, (run_equalIn_int w 9998 3 .i64 .i64 _ _ Try.underlying3).trans rfl⟩
      · exact ⟨.int .i64 s, .int .i64 s', part_int rfl, part_int rfl, (run_equalIn_int w 9998 3 .i64 .i64 _ _ Try.underlying3).trans rfl⟩)
  rw [hF]
  have hm : (Try.prog.fieldsOf 24).toList.all (fun f => grFld r e s r' e' s' f.offset) = ((Try.prog.fieldsOf 24).toList.map (fun f => (f.type, f.offset))).all (fun p => grFld r e s r' e' s' p.2) := by rw [List.all_map]; rfl
  rw [hm, gr_fields]
  congr 1
  by_cases h1 : r = r' <;> by_cases h2 : e = e' <;> by_cases h3 : s = s' <;> simp [grFld, grE, h1, h2, h3]
theorem run_grEq (r e s r' e' s' : Int) (w : World) : (binOp .eql 24 (.agg #[.int .u8 r, .int .i64 e, .int .i64 s]) (.agg #[.int .u8 r', .int .i64 e', .int .i64 s'])).run Try.prog w = .ok (.bool (grE r e s r' e' s')) w := by
  rw [run_eql_struct, run_grIn]; rfl
end Go.Proofs.Ytcgclaailhhbpaa
