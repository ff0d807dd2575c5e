/-
  Groups by passes: 'l8Groups' of the model; 'GroupsOf' of both.
-/
import Derived.Test.YthlbmkefjjckaahGrGrp
import Derived.Test.YthlbmkefjjckaahGrNearS
namespace Go.Proofs.Ythlbmkefjjckaah
open Go.RowKit
set_option linter.unusedVariables false

def grpOut (n : Int) (l : List EdD) : List Int := if goodEd n l then grp n l else []
theorem grpOut_len (n : Int) (l : List EdD) : (grpOut n l).length ≤ 4194304 := by
  unfold grpOut
  split
  · next h =>
    obtain ⟨hn, -, hf, -⟩ := goodEd_true h
    rw [grp_len n l hf]
    omega
  · simp

end Go.Proofs.Ythlbmkefjjckaah
