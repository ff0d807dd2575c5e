/-
  'GoodEdges' of the program.
-/
import Derived.Test.YthlbmkefjjckaahGrJoint
namespace Go.Proofs.Ythlbmkefjjckaah
open Go.RowKit
set_option linter.unusedVariables false

end Go.Proofs.Ythlbmkefjjckaah
