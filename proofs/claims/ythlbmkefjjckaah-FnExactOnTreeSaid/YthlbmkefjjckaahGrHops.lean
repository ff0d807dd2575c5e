/-
  'hopsOn': the iterator over those by whom a best way goes on; 'slices.Collect'.
-/
import Derived.Test.YthlbmkefjjckaahGrRelax
namespace Go.Proofs.Ythlbmkefjjckaah
open Go.RowKit
set_option linter.unusedVariables false
attribute [local go_sem] Oper.semAt_some wide_fn

/-- Of so many links those that go on. -/
def hopsOf (far : List Int) (i : Int) (ps : List (Int × Int)) : List Int := (ps.filter fun p => decide (lab far p.1 + p.2 = lab far i)).map Prod.fst
theorem hopsOf_all (l : List EdD) (far : List Int) (i : Int) : hopsOf far i (linksD l i) = hopsD l far i := rfl
theorem hopsOf_snoc (far : List Int) (i : Int) (ps : List (Int × Int)) (p : Int × Int) : hopsOf far i (ps ++ [p]) = hopsOf far i ps ++ if lab far p.1 + p.2 = lab far i then [p.1] else [] := by
  unfold hopsOf
  rw [List.filter_append, List.map_append]
  congr 1
  by_cases h : lab far p.1 + p.2 = lab far i <;> simp [h]
theorem hopsOf_pre (far : List Int) (i : Int) {ps qs : List (Int × Int)} (h : ps <+: qs) : hopsOf far i ps <+: hopsOf far i qs := by
  obtain ⟨r, rfl⟩ := h
  refine ⟨hopsOf far i r, ?_⟩
  unfold hopsOf
  rw [List.filter_append, List.map_append]

end Go.Proofs.Ythlbmkefjjckaah
