/-
  'linksAt': the iterator over what lies at a spot's edges.
-/
import Derived.Test.YthlbmkefjjckaahRound
import Derived.Test.YthlbmkefjjckaahGrNear
import Derived.Test.YthlbmkefjjckaahGrFarN
namespace Go.Proofs.Ythlbmkefjjckaah
open Go.RowKit
set_option linter.unusedVariables false
attribute [local go_sem] Oper.semAt_some wide_fn

end Go.Proofs.Ythlbmkefjjckaah
