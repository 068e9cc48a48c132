/-
  Layer 6's laws, given what the program's calls answer.
-/
import Derived.Test.YtjdcnajppjamgaaShapeRefs
namespace Go.Proofs.Ytjdcnajppjamgaa.PW
open Go.RowKit
open SK (Cfg)
set_option linter.unusedVariables false
set_option linter.unusedSimpArgs false
set_option maxRecDepth 100000

end Go.Proofs.Ytjdcnajppjamgaa.PW
