/-
  What a call answers that hands back a new block of 128 bytes. Nothing here names a function of the program.
-/
import Derived.Test.YtnhfkfihlkbkfaaBase
namespace Go.Proofs.Ytnhfkfihlkbkfaa.PW
open Go.RowKit
set_option linter.unusedVariables false
set_option maxRecDepth 100000

/-- What a call answers that hands back a new block. -/
def NewBlk (w : World) (m : List Nat) (e : Ending) (w' : World) : Prop :=
  ∃ g, e = .returned (.tuple #[.slice (some ⟨g, 0, none⟩) 128 128, .int .i64 0]) ∧ w.heap.size ≤ g ∧ Blk w' g m ∧ Below w.heap.size w w'

end Go.Proofs.Ytnhfkfihlkbkfaa.PW
