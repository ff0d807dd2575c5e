/-
  'toPair', 'toPairStep', 'eqPair', 'markPair', 'heldPair'.
-/
import Derived.Test.YthdcfeafkellcaaPairLaw
namespace Go.Proofs.Ythdcfeafkellcaa
open Go.RowKit

/-- What a mark leaves of other rows. -/
theorem Own.far {W W' : World} {B : Nat} {v : Value} {zs : List Int} {u : Value} (h : Own W B v zs) (hg : W.grownBy W' u.ownBlock) (hne : ∀ k, u.ownBlock = some k → v.ownBlock ≠ some k) : Own W' B v zs := h.grow hg hne

/-- A pair with marks from k on. -/
def markPr (p : PR) (k : Nat) : PR := ⟨marks (k : Int) p.st.length, marks ((k + p.st.length : Nat) : Int) p.lf.length, marksH (k + p.st.length + p.lf.length) p.ln.length⟩
def endPr (p : PR) (k : Nat) : Nat := k + p.st.length + p.lf.length + 2 * p.ln.length

end Go.Proofs.Ythdcfeafkellcaa
