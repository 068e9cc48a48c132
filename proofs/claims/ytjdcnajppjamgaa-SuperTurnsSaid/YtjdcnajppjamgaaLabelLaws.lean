/-
  Layer 9's laws, given what the program's calls answer.
-/
import Derived.Test.YtjdcnajppjamgaaLabelRead
namespace Go.Proofs.Ytjdcnajppjamgaa.PW
open Go.RowKit
open SK (Cfg)
open LB (Lab)
set_option linter.unusedVariables false
set_option linter.unusedSimpArgs false
set_option maxRecDepth 100000

/-- What the program's calls answer. -/
structure LabelIs : Prop where
  check : ∀ (id ev : Nat) (mem chunk rows log me lost done : Int) (op : Bool) (w : World), id < 4294967296 → Calls Try.prog 31 #[.agg #[.int .u32 (id : Int), .int .u32 (ev : Int), .int .i64 mem, .int .i64 chunk, .int .i64 rows, .int .i64 log, .int .i64 me, .int .i64 lost, .int .i64 done, .bool op]] w fun e w' => e = .returned (.int .i64 ((Lab.code ⟨id, ev, mem, chunk, rows, log, me, lost, done, op⟩ : Nat) : Int)) ∧ Below w.heap.size w w'
  yes : ∀ (id ev : Nat) (mem chunk rows log me lost done : Int) (op : Bool) (w : World), id < 4294967296 → Lab.mayP ⟨id, ev, mem, chunk, rows, log, me, lost, done, op⟩ → Calls Try.prog 18 #[.agg #[.int .u32 (id : Int), .int .u32 (ev : Int), .int .i64 mem, .int .i64 chunk, .int .i64 rows, .int .i64 log, .int .i64 me, .int .i64 lost, .int .i64 done, .bool op]] w fun e w' => ∃ a c, e = .returned (.tuple #[.slice a 128 c, .int .i64 0]) ∧ Rd w'.heap.size w' a 128 c (Lab.block ⟨id, ev, mem, chunk, rows, log, me, lost, done, op⟩) ∧ Mine w.heap.size w' a ∧ Below w.heap.size w w'
  no : ∀ (id ev : Nat) (mem chunk rows log me lost done : Int) (op : Bool) (w : World), id < 4294967296 → Lab.may ⟨id, ev, mem, chunk, rows, log, me, lost, done, op⟩ = false → Calls Try.prog 18 #[.agg #[.int .u32 (id : Int), .int .u32 (ev : Int), .int .i64 mem, .int .i64 chunk, .int .i64 rows, .int .i64 log, .int .i64 me, .int .i64 lost, .int .i64 done, .bool op]] w fun e w' => ∃ a c, e = .returned (.tuple #[.slice a 0 c, .int .i64 8]) ∧ Rd w'.heap.size w' a 0 c [] ∧ Below w.heap.size w w'
  read : ∀ (a : Option Addr) (len cap : Nat) (l : List Nat) (w : World), Rd w.heap.size w a len cap l → Calls Try.prog 17 #[.slice a len cap] w fun e w' => e = .returned (.tuple #[labV (LB.rd l).1, .int .i64 (((LB.rd l).2 : Nat) : Int)]) ∧ Below w.heap.size w w'

def oneL : Lab := ⟨7, 2, 3, 1, 1, 12, 1, -1, 0, true⟩
theorem oneL_may : oneL.mayP := by decide
end Go.Proofs.Ytjdcnajppjamgaa.PW
