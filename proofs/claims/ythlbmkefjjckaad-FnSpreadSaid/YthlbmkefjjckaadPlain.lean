/-
  What every law's proof over this seat imports: two closed facts of the program.
-/
import Derived.Test.YthlbmkefjjckaadRows
import Derived.WalkKit
import Derived.ProofKit
import Derived.OpenShut
import Derived.ShutString
import Derived.ChangeOld
import Derived.Below
import Derived.Carry
import Derived.Outline
namespace Go.Proofs.Ythlbmkefjjckaad
theorem own : ownKnob Try.prog.godebug = none := by kernel_rfl
theorem laidOut : laidOutB Try.prog = true := by kernel_rfl
end Go.Proofs.Ythlbmkefjjckaad
