/-
  'GoodParents' of both.
-/
import Derived.Test.YthlbmkefjjckaahTrGood
import Derived.Test.YthlbmkefjjckaahTrGoodS
namespace Go.Proofs.Ythlbmkefjjckaah
open Go.RowKit

theorem specGoodParentsB_any (W : World) (B : Nat) (u : Value) (ps : List Int) (hu : Own W B u ps) (hl : ps.length ≤ 1048576) :
    Calls Try.prog 14 #[u] W fun e W' => e = .returned (.bool (goodU ps)) ∧ Below W.heap.size W W' :=
  (specGoodParents_any W B u ps hu hl).mono fun e W' h => ⟨h.1, by rw [h.2]; exact Below.refl _ _⟩
end Go.Proofs.Ythlbmkefjjckaah
