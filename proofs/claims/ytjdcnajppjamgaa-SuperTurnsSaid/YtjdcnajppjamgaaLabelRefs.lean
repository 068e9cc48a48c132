/-
  Contracts of the document's own answers of layer 9: a label's block, written and read.
-/
import Derived.Test.YtjdcnajppjamgaaLabelMay
import Derived.Test.YtjdcnajppjamgaaLabelOwn
namespace Go.Proofs.Ytjdcnajppjamgaa.PW
open Go.RowKit
open SK (Cfg)
open LB (Lab)
set_option linter.unusedVariables false
set_option linter.unusedSimpArgs false
set_option maxRecDepth 100000

end Go.Proofs.Ytjdcnajppjamgaa.PW
