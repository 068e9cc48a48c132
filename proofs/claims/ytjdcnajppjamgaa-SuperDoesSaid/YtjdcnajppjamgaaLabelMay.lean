/-
  Contracts of the document's own answers of layer 9.
-/
import Derived.Test.YtjdcnajppjamgaaShapeRefs
import Derived.Test.YtjdcnajppjamgaaSealRefs
import Derived.Test.YtjdcnajppjamgaaLabelMath
namespace Go.Proofs.Ytjdcnajppjamgaa.PW
open Go.RowKit
open SK (Cfg)
open LB (Lab)
set_option linter.unusedVariables false
set_option linter.unusedSimpArgs false
set_option maxRecDepth 100000

/-- A label, as it lies in memory. -/
def labC (x : Lab) : List Value := [.int .u32 (x.id : Int), .int .u32 (x.ev : Int), .int .i64 x.mem, .int .i64 x.chunk, .int .i64 x.rows, .int .i64 x.log, .int .i64 x.me, .int .i64 x.lost, .int .i64 x.done, .bool x.op]
def labV (x : Lab) : Value := .agg (labC x).toArray
/-- A struct of ten fields: what its cells hold. -/
theorem Bx.ten {w : World} {g : Nat} {a b c d e f x y z u : Value} (h : Bx w g [a, b, c, d, e, f, x, y, z, u]) : w.cell? ⟨g, 0, none⟩ = some a ∧ w.cell? ⟨g, 1, none⟩ = some b ∧ w.cell? ⟨g, 2, none⟩ = some c ∧ w.cell? ⟨g, 3, none⟩ = some d ∧ w.cell? ⟨g, 4, none⟩ = some e ∧ w.cell? ⟨g, 5, none⟩ = some f ∧ w.cell? ⟨g, 6, none⟩ = some x ∧ w.cell? ⟨g, 7, none⟩ = some y ∧ w.cell? ⟨g, 8, none⟩ = some z ∧ w.cell? ⟨g, 9, none⟩ = some u :=
  ⟨h.cell 0, h.cell 1, h.cell 2, h.cell 3, h.cell 4, h.cell 5, h.cell 6, h.cell 7, h.cell 8, h.cell 9⟩

end Go.Proofs.Ytjdcnajppjamgaa.PW
