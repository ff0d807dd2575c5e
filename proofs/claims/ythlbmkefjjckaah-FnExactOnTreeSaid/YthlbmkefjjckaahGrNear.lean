/-
  'NearOf' of the program and of the model.
-/
import Derived.Test.YthlbmkefjjckaahGrNearM
namespace Go.Proofs.Ythlbmkefjjckaah
open Go.RowKit
set_option linter.unusedVariables false

end Go.Proofs.Ythlbmkefjjckaah
