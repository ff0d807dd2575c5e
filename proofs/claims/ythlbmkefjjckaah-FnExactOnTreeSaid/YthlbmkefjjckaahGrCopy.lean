/-
  'copyNums': numbers copied.
-/
import Derived.Test.YthlbmkefjjckaahRow0
namespace Go.Proofs.Ythlbmkefjjckaah
open Go.RowKit

/-- Cells of numbers that are one's own. -/
theorem own_cellG {W : World} {B g cap n : Nat} {zs : List Int} (h : Own W B (.slice (some ⟨g, 0, none⟩) n cap) zs) (hn : n = zs.length) (j : Nat) (hj : j < zs.length) : W.cell? ⟨g, j, none⟩ = some (.int .i64 zs[j]) := by
  subst hn
  rw [World.ownsRow.cellAt h j (by omega), List.getElem?_map, List.getElem?_eq_getElem hj]
  rfl
theorem own_frozenG {W : World} {B g cap n : Nat} {zs : List Int} (h : Own W B (.slice (some ⟨g, 0, none⟩) n cap) zs) (hn : n = zs.length) (j : Nat) : W.frozen? ⟨g, j, none⟩ = false := by
  subst hn
  exact World.ownsRow.frozenAt h j
end Go.Proofs.Ythlbmkefjjckaah
