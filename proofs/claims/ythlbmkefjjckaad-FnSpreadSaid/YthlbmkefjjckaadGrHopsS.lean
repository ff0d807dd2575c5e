/-
  'l9Hops' of the model.
-/
import Derived.Test.YthlbmkefjjckaadGrEdge
import Derived.Test.YthlbmkefjjckaadGrCollect
namespace Go.Proofs.Ythlbmkefjjckaad
open Go.RowKit
set_option linter.unusedVariables false
attribute [local go_sem] Oper.semAt_some wide_fn

theorem near_fit {n : Nat} {l : List EdD} (hf : FitEd n l) (a s : Int) (h : s ∈ nearTo l a n) : 0 ≤ s ∧ s < n := by
  unfold nearTo at h
  exact (mem_iota n s).1 (List.mem_filter.1 h).1
def hopsP (l : List EdD) (far : List Int) (a : Int) (ks : List Int) : List Int := ks.filter fun k => decide (lab far a < farC ∧ lab far k + edS l a k = lab far a)
theorem hopsP_take (l : List EdD) (far : List Int) (a : Int) (ks : List Int) (j : Nat) (h : j < ks.length) : hopsP l far a (ks.take (j + 1)) = hopsP l far a (ks.take j) ++ if lab far a < farC ∧ lab far ks[j] + edS l a ks[j] = lab far a then [ks[j]] else [] := by
  unfold hopsP
  rw [List.take_succ_eq_append_getElem h, List.filter_append]
  congr 1
  by_cases e : lab far a < farC ∧ lab far ks[j] + edS l a ks[j] = lab far a
  · rw [if_pos e]; simp [e]
  · rw [if_neg e]; simp [e]

end Go.Proofs.Ythlbmkefjjckaad
