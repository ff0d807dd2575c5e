/-
  'NearOf' of the program and of the model.
-/
import Derived.Test.YtchddjidjfpehbaGrNearM
namespace Go.Proofs.Ytchddjidjfpehba
open Go.RowKit
set_option linter.unusedVariables false

end Go.Proofs.Ytchddjidjfpehba
