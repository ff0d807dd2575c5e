/-
  'copyNums': numbers copied.
-/
import Derived.Test.YthlbmkefjjckaahRow0
namespace Go.Proofs.Ythlbmkefjjckaah
open Go.RowKit

end Go.Proofs.Ythlbmkefjjckaah
