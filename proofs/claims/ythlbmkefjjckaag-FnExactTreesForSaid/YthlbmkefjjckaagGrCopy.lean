/-
  'copyNums': numbers copied.
-/
import Derived.Test.YthlbmkefjjckaagRow0
namespace Go.Proofs.Ythlbmkefjjckaag
open Go.RowKit

set_option maxRecDepth 100000 in
set_option maxHeartbeats 1000000 in
theorem copyNumsG_any (W : World) (B : Nat) (v : Value) (zs : List Int) (h : Own W B v zs) (hl : zs.length ≤ 1048576) :
    Calls Try.prog 100 #[v] W fun e W' => ∃ v', e = .returned v' ∧ Own W' W.heap.size v' zs ∧ Below W.heap.size W W' := by
  have HA : Hid (∀ ty, ∃ v' w', (Builtin.append_ #[22, 22] ty #[.slice none 0 0, v]).run Try.prog W = .ok v' w' ∧ Grown W W.heap.size 3 1 (.slice none 0 0) zs.length (zs.map (Value.int .i64)) v' w') := fun ty => by
    have := run_appI W W.heap.size (.slice none 0 0) [] (Own.nil _ _) v zs (Src.row h) (by simp; omega) (Nat.le_refl _) ty
    simpa using this
  obtain ⟨a1, c1, rfl⟩ := h.shape
  clear h
  go_enter Try.func100, Try.ntmps100
  go_wp2_with (at_builtin; refine list_app (by rfl) (.const (.slice none 0 0)) (.tmp 3) 22 (by rfl) (.slice none 0 0) (.slice a1 zs.length c1) (by rfl) (by rfl) _ HA.out ?_; intro v5 w5 hg5; have HF : Hid (Own w5 W.heap.size v5 zs ∧ Below W.heap.size W w5) := ⟨hg5.own, hg5.below⟩; clear hg5)
  go_ret
  exact ⟨_, rfl, HF.out.1, HF.out.2⟩

/-- Cells of numbers that are one's own. -/
theorem own_cellG {W : World} {B g cap n : Nat} {zs : List Int} (h : Own W B (.slice (some ⟨g, 0, none⟩) n cap) zs) (hn : n = zs.length) (j : Nat) (hj : j < zs.length) : W.cell? ⟨g, j, none⟩ = some (.int .i64 zs[j]) := by
  subst hn
  rw [World.ownsRow.cellAt h j (by omega), List.getElem?_map, List.getElem?_eq_getElem hj]
  rfl
theorem own_frozenG {W : World} {B g cap n : Nat} {zs : List Int} (h : Own W B (.slice (some ⟨g, 0, none⟩) n cap) zs) (hn : n = zs.length) (j : Nat) : W.frozen? ⟨g, j, none⟩ = false := by
  subst hn
  exact World.ownsRow.frozenAt h j
end Go.Proofs.Ythlbmkefjjckaag
