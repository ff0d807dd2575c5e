/-
  Groups put together: 'joinGroups' and 'groupsOf' of the program.
-/
import Derived.Test.YthlbmkefjjckaafGrNear
namespace Go.Proofs.Ythlbmkefjjckaaf
open Go.RowKit
set_option linter.unusedVariables false

/-- The first k relabelled. -/
def relTo (zs : List Int) (p q : Int) (k : Nat) : List Int := relab (zs.take k) p q ++ zs.drop k
theorem relTo_len (zs : List Int) (p q : Int) (k : Nat) : (relTo zs p q k).length = zs.length := by
  unfold relTo
  rw [List.length_append, relab_len, List.length_take, List.length_drop]
  omega
theorem relTo_zero (zs : List Int) (p q : Int) : relTo zs p q 0 = zs := rfl
theorem relTo_all (zs : List Int) (p q : Int) : relTo zs p q zs.length = relab zs p q := by simp [relTo]
theorem relTo_get (zs : List Int) (p q : Int) (k : Nat) (h : k < zs.length) : (relTo zs p q k)[k]? = some zs[k] := by
  unfold relTo
  have e : (relab (zs.take k) p q).length = k := by rw [relab_len, List.length_take]; omega
  rw [List.getElem?_append_right (by omega), e, Nat.sub_self, List.getElem?_drop]
  simp [h]
theorem relTo_next (zs : List Int) (p q : Int) (k : Nat) (h : k < zs.length) : relTo zs p q (k + 1) = (relTo zs p q k).set k (if zs[k] = q then p else zs[k]) := by
  unfold relTo
  have e : (relab (zs.take k) p q).length = k := by rw [relab_len, List.length_take]; omega
  rw [List.set_append_right _ _ (by omega), e, Nat.sub_self, List.drop_eq_getElem_cons h, List.set_cons_zero, List.take_succ_eq_append_getElem h]
  simp only [relab, List.map_append, List.map_cons, List.map_nil, List.append_assoc, List.cons_append, List.nil_append]
theorem relTo_same (zs : List Int) (p q : Int) (k : Nat) (h : k < zs.length) (hq : ¬ zs[k] = q) : relTo zs p q (k + 1) = relTo zs p q k := by
  unfold relTo
  rw [List.drop_eq_getElem_cons h, List.take_succ_eq_append_getElem h]
  simp only [relab, List.map_append, List.map_cons, List.map_nil, List.append_assoc, List.cons_append, List.nil_append, if_neg hq]

/-- Cells of numbers that are one's own. -/
theorem own_cell {W : World} {B g cap : Nat} {zs : List Int} (h : Own W B (.slice (some ⟨g, 0, none⟩) zs.length cap) zs) (j : Nat) (hj : j < zs.length) : W.cell? ⟨g, j, none⟩ = some (.int .i64 zs[j]) := by
  rw [World.ownsRow.cellAt h j (by omega), List.getElem?_map, List.getElem?_eq_getElem hj]
  rfl
theorem own_at {W : World} {B : Nat} {v : Value} {zs : List Int} (h : Own W B v zs) (h0 : 0 < zs.length) : ∃ g cap, v = .slice (some ⟨g, 0, none⟩) zs.length cap ∧ B ≤ g := by
  rcases h.2 with ⟨hv, hn⟩ | ⟨g, cap, cur, hv, hB, hg, hc, -⟩
  · omega
  · exact ⟨g, cap, hv, hB⟩

end Go.Proofs.Ythlbmkefjjckaaf
