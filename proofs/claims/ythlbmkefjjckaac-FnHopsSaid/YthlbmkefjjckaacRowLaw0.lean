/-
  What the laws' walks share: a world that has gone on, rows that are kept, the laws' functions over numbers told as those over structs are.
-/
import Derived.Test.YthlbmkefjjckaacRow0
namespace Go.Proofs.Ythlbmkefjjckaac
open Go.RowKit

theorem Since.grown {B : Nat} {w0 w w' : World} {row : Option Nat} (h : Since B w0 w) (hg : w.grownBy w' row) (hk : ∀ k, row = some k → B ≤ k) : Since B w0 w' :=
  ⟨h.1.grown hg h.2 hk, Nat.le_trans h.2 hg.size⟩
theorem rowGrow {W W' : World} {B : Nat} {e : TypeId} {size n : Nat} {v : Value} {xs : List Value} {row : Option Nat} (h : W.ownsRow B e size v n xs) (hg : W.grownBy W' row) (hne : ∀ k, row = some k → v.ownBlock ≠ some k) : W'.ownsRow B e size v n xs := by
  refine World.ownsRow.kept h hg ?_
  rcases hv : v.ownBlock with _ | k
  · exact .inl rfl
  · exact .inr fun e => hne k e.symm hv
theorem apartSym {v u : Value} (h : ∀ k, v.ownBlock = some k → u.ownBlock ≠ some k) : ∀ k, u.ownBlock = some k → v.ownBlock ≠ some k := fun k hk hv => h k hv hk

end Go.Proofs.Ythlbmkefjjckaac
