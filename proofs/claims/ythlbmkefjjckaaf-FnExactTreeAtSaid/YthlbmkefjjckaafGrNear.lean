/-
  'NearOf' of the program and of the model.
-/
import Derived.Test.YthlbmkefjjckaafGrNearM
namespace Go.Proofs.Ythlbmkefjjckaaf
open Go.RowKit
set_option linter.unusedVariables false

end Go.Proofs.Ythlbmkefjjckaaf
