/-
  'NearOf' of the program and of the model.
-/
import Derived.Test.YteohmclohomblbbGrNearM
namespace Go.Proofs.Yteohmclohomblbb
open Go.RowKit
set_option linter.unusedVariables false

end Go.Proofs.Yteohmclohomblbb
