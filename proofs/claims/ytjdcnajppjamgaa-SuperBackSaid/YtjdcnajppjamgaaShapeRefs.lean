/-
  Contracts of the document's own answers of layer 6.
-/
import Derived.Test.YtjdcnajppjamgaaBase
import Derived.Test.YtjdcnajppjamgaaHoist
import Derived.Test.YtjdcnajppjamgaaShapeMath
namespace Go.Proofs.Ytjdcnajppjamgaa.PW
open Go.RowKit
open SK (Cfg)
set_option linter.unusedVariables false
set_option linter.unusedSimpArgs false
set_option maxRecDepth 100000

/-- A struct of six fields: what its cells hold. -/
theorem Bx.six {w : World} {g : Nat} {x y z a b c : Value} (h : Bx w g [x, y, z, a, b, c]) : w.cell? ⟨g, 0, none⟩ = some x ∧ w.cell? ⟨g, 1, none⟩ = some y ∧ w.cell? ⟨g, 2, none⟩ = some z ∧ w.cell? ⟨g, 3, none⟩ = some a ∧ w.cell? ⟨g, 4, none⟩ = some b ∧ w.cell? ⟨g, 5, none⟩ = some c := ⟨h.cell 0, h.cell 1, h.cell 2, h.cell 3, h.cell 4, h.cell 5⟩

/-- What a call of the program that tells a config's number answers. -/
def ShapeNum (f : FuncId) (n : Cfg → Int) : Prop := ∀ (id : Nat) (mem chunk rows log heads : Int) (w : World), Calls Try.prog f #[.agg #[.int .u32 (id : Int), .int .i64 mem, .int .i64 chunk, .int .i64 rows, .int .i64 log, .int .i64 heads]] w fun e w' => e = .returned (.tuple #[.int .i64 (if Cfg.may ⟨id, mem, chunk, rows, log, heads⟩ = true then n ⟨id, mem, chunk, rows, log, heads⟩ else 0), .int .i64 ((Cfg.code ⟨id, mem, chunk, rows, log, heads⟩ : Nat) : Int)]) ∧ Below w.heap.size w w'
end Go.Proofs.Ytjdcnajppjamgaa.PW
