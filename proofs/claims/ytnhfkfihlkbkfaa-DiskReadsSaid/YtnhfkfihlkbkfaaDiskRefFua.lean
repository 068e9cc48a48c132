/-
  Contracts of layer 4: a write that lasts; the document's own.
-/
import Derived.Test.YtnhfkfihlkbkfaaDiskSure
import Derived.Test.YtnhfkfihlkbkfaaDiskFua
namespace Go.Proofs.Ytnhfkfihlkbkfaa.PW
open Go.RowKit
open DK (Dv)
set_option linter.unusedVariables false
set_option maxRecDepth 100000
set_option linter.unusedSimpArgs false

def rfuaD (D : Dv) (at_ : Int) (l : List Nat) : Dv := if DK.wcode D at_ l = 0 then rsure D at_ l else DK.Dv.nil

end Go.Proofs.Ytnhfkfihlkbkfaa.PW
