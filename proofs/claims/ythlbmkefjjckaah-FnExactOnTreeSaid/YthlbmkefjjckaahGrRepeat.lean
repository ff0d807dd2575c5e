/-
  'slices.Repeat' of one number; 'farsFrom'.
-/
import Derived.Test.YthlbmkefjjckaahGrRelax
import Derived.Laws.CopyOwn
namespace Go.Proofs.Ythlbmkefjjckaah
open Go.RowKit
set_option linter.unusedVariables false
attribute [local go_sem] Oper.semAt_some wide_fn

/-- So many are filled. -/
def fillV (z : Int) (m n : Nat) : List Value := List.replicate m (.int .i64 z) ++ List.replicate (n - m) (.int .i64 0)
theorem fillV_len (z : Int) (m n : Nat) (h : m ≤ n) : (fillV z m n).length = n := by simp [fillV]; omega
theorem fillV_zero (z : Int) (n : Nat) : fillV z 0 n = List.replicate n (.int .i64 0) := by simp [fillV]
theorem fillV_all (z : Int) (n : Nat) : fillV z n n = List.replicate n (.int .i64 z) := by simp [fillV]
theorem fillV_get (z : Int) (m n j : Nat) (h : j < m) : (fillV z m n)[j]? = some (.int .i64 z) := by
  unfold fillV
  rw [List.getElem?_append_left (by simpa using h)]
  simp [h]
def newV (z : Int) (j : Nat) : List Value := List.replicate j (.int .i64 z)
theorem newV_len (z : Int) (j : Nat) : (newV z j).length = j := by simp [newV]
theorem splice_fillV (z : Int) (m j n : Nat) (h : m + j ≤ n) : splice (fillV z m n) m (newV z j) = fillV z (m + j) n := by
  unfold splice fillV newV
  have e1 : (List.replicate m (Value.int .i64 z) ++ List.replicate (n - m) (Value.int .i64 0)).take m = List.replicate m (Value.int .i64 z) := by
    rw [List.take_append_of_le_length (by simp)]
    simp
  have e2 : (List.replicate m (Value.int .i64 z) ++ List.replicate (n - m) (Value.int .i64 0)).drop (m + (List.replicate j (Value.int .i64 z)).length) = List.replicate (n - (m + j)) (Value.int .i64 0) := by
    rw [List.length_replicate, ← List.drop_drop, List.drop_left' (by simp)]
    simp
    omega
  rw [e1, e2, ← List.append_assoc, List.replicate_append_replicate]

end Go.Proofs.Ythlbmkefjjckaah
