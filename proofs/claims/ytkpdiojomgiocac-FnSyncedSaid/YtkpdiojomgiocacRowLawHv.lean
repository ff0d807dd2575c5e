/-
  What the laws' functions over lists of haves answer: 'sz', 'to', 'eq', 'mark', 'held'.
-/
import Derived.Test.YtkpdiojomgiocacRowHv
namespace Go.Proofs.Ytkpdiojomgiocac
open Go.RowKit
set_option linter.unusedVariables false

def noHv : HvD := ⟨0, 0⟩
theorem madeHv : ∀ n : Nat, (madeCells #[.int .i64 0, .int .i64 0] (n * 2)).toList = cellsHv (List.replicate n noHv)
  | 0 => by simp [madeCells, cellsHv]
  | n + 1 => by
    have e : (n + 1) * 2 = n * 2 + 1 + 1 := by omega
    have ih := madeHv n
    have m0 : (n * 2) % 2 = 0 := by omega
    have m1 : (n * 2 + 1) % 2 = 1 := by omega
    rw [List.replicate_succ', cellsHv_app, ← ih, e]
    unfold madeCells
    simp [Array.range_succ, cellsHv, m0, m1, noHv]

theorem makeHvs (n : Nat) (hn : n ≤ 4194304) (w : World) : ∃ W1 : World,
    (Instr.makeSlice 23 (.int .i64 (n : Int)) (.int .i64 (n : Int))).run Try.prog w = .ok (.slice (some ⟨w.heap.size, 0, none⟩) n n) W1 ∧
    OwnHv W1 w.heap.size (.slice (some ⟨w.heap.size, 0, none⟩) n n) (List.replicate n noHv) ∧ Below w.heap.size w W1 ∧ w.heap.size < W1.heap.size := by
  obtain ⟨i0, hi, hz0, hz1, hz2⟩ := info_parts infoHv
  obtain ⟨w', hr, ho, hg⟩ := run_make_full (P := Try.prog) w w.heap.size 23 41 i0 _ 2 Try.underlying23 hi hz0 hz1 .i64 .i64 n (by rw [hz2]; omega) (by unfold maxLen; omega) (Nat.le_refl _)
  have hlt := (World.ownsRow.lt ho w.heap.size rfl).2
  refine ⟨w', hr, ?_, (Below.refl _ w).grown hg (Nat.le_refl _) (fun k hk => by cases hk), hlt⟩
  unfold OwnHv
  rw [List.length_replicate]
  rw [show (Value.agg #[.int .i64 0, .int .i64 0]).cells = #[.int .i64 0, .int .i64 0] from rfl, madeHv] at ho
  exact ho

/-- The list of which the first k are copied. -/
theorem to_nextHv (hs : List HvD) (k : Nat) (h : k < hs.length) : hs.take (k + 1) ++ List.replicate (hs.length - (k + 1)) noHv = (hs.take k ++ List.replicate (hs.length - k) noHv).set k hs[k] := by
  have e : hs.length - k = (hs.length - (k + 1)) + 1 := by omega
  rw [e, List.replicate_succ, List.set_append_right _ _ (by simp; omega), List.take_succ_eq_append_getElem h]
  have e2 : k - (hs.take k).length = 0 := by simp; omega
  rw [e2, List.set_cons_zero, List.append_assoc]
  rfl

/-- One with marks from k on; a list so. -/
def markHv (k : Nat) : HvD := ⟨((k : Nat) : Int), ((k + 1 : Nat) : Int)⟩
def marksHv (k n : Nat) : List HvD := (List.range n).map fun j => markHv (k + 2 * j)
theorem marksHv_len (k n : Nat) : (marksHv k n).length = n := by simp [marksHv]
theorem marksHv_get (k n j : Nat) (h : j < (marksHv k n).length) : (marksHv k n)[j] = markHv (k + 2 * j) := by simp [marksHv]
def markedHv (k : Nat) (hs : List HvD) (i : Nat) : List HvD := marksHv k i ++ hs.drop i
theorem markedHv_len (k : Nat) (hs : List HvD) (i : Nat) (h : i ≤ hs.length) : (markedHv k hs i).length = hs.length := by simp [markedHv, marksHv_len]; omega
theorem markedHv_next (k : Nat) (hs : List HvD) (i : Nat) (h : i < hs.length) : markedHv k hs (i + 1) = (markedHv k hs i).set i (markHv (k + 2 * i)) := by
  unfold markedHv
  have e : hs.drop i = hs[i] :: hs.drop (i + 1) := List.drop_eq_getElem_cons h
  rw [List.set_append_right _ _ (by rw [marksHv_len]; exact Nat.le_refl _), marksHv_len, Nat.sub_self, e, List.set_cons_zero]
  simp [marksHv, List.range_succ]
theorem markedHv_all (k : Nat) (hs : List HvD) : markedHv k hs hs.length = marksHv k hs.length := by simp [markedHv]

end Go.Proofs.Ytkpdiojomgiocac
