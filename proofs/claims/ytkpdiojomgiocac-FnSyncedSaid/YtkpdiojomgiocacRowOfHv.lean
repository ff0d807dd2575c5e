/-
  One of the haves, and a list of them, that came in: what the walks are told of them.
-/
import Derived.Test.YtkpdiojomgiocacRowLawHv
import Derived.Test.YtkpdiojomgiocacCellsOf
namespace Go.Proofs.Ytkpdiojomgiocac
open Go.ChangeShapes Go.WideShapes Go.ChangeAt Go.RowKit
set_option maxRecDepth 100000

end Go.Proofs.Ytkpdiojomgiocac
