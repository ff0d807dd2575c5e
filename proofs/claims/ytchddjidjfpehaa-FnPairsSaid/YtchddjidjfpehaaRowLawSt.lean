/-
  What the laws' functions over lists of steps answer: 'sz', 'to', 'eq', 'mark', 'held'.
-/
import Derived.Test.YtchddjidjfpehaaRowSt
namespace Go.Proofs.Ytchddjidjfpehaa
open Go.RowKit
set_option linter.unusedVariables false

def noSt : StD := ⟨0, 0⟩
theorem madeSt : ∀ n : Nat, (madeCells #[.int .i64 0, .int .i64 0] (n * 2)).toList = cellsSt (List.replicate n noSt)
  | 0 => by simp [madeCells, cellsSt]
  | n + 1 => by
    have e : (n + 1) * 2 = n * 2 + 1 + 1 := by omega
    have ih := madeSt n
    have m0 : (n * 2) % 2 = 0 := by omega
    have m1 : (n * 2 + 1) % 2 = 1 := by omega
    rw [List.replicate_succ', cellsSt_app, ← ih, e]
    unfold madeCells
    simp [Array.range_succ, cellsSt, m0, m1, noSt]

theorem makeSts (n : Nat) (hn : n ≤ 4194304) (w : World) : ∃ W1 : World,
    (Instr.makeSlice 35 (.int .i64 (n : Int)) (.int .i64 (n : Int))).run Try.prog w = .ok (.slice (some ⟨w.heap.size, 0, none⟩) n n) W1 ∧
    OwnSt W1 w.heap.size (.slice (some ⟨w.heap.size, 0, none⟩) n n) (List.replicate n noSt) ∧ Below w.heap.size w W1 ∧ w.heap.size < W1.heap.size := by
  obtain ⟨i0, hi, hz0, hz1, hz2⟩ := info_parts infoSt
  obtain ⟨w', hr, ho, hg⟩ := run_make_full (P := Try.prog) w w.heap.size 35 53 i0 _ 2 Try.underlying35 hi hz0 hz1 .i64 .i64 n (by rw [hz2]; omega) (by unfold maxLen; omega) (Nat.le_refl _)
  have hlt := (World.ownsRow.lt ho w.heap.size rfl).2
  refine ⟨w', hr, ?_, (Below.refl _ w).grown hg (Nat.le_refl _) (fun k hk => by cases hk), hlt⟩
  unfold OwnSt
  rw [List.length_replicate]
  rw [show (Value.agg #[.int .i64 0, .int .i64 0]).cells = #[.int .i64 0, .int .i64 0] from rfl, madeSt] at ho
  exact ho

/-- The list of which the first k are copied. -/
theorem to_nextSt (hs : List StD) (k : Nat) (h : k < hs.length) : hs.take (k + 1) ++ List.replicate (hs.length - (k + 1)) noSt = (hs.take k ++ List.replicate (hs.length - k) noSt).set k hs[k] := by
  have e : hs.length - k = (hs.length - (k + 1)) + 1 := by omega
  rw [e, List.replicate_succ, List.set_append_right _ _ (by simp; omega), List.take_succ_eq_append_getElem h]
  have e2 : k - (hs.take k).length = 0 := by simp; omega
  rw [e2, List.set_cons_zero, List.append_assoc]
  rfl

/-- One with marks from k on; a list so. -/
def markSt (k : Nat) : StD := ⟨((k : Nat) : Int), ((k + 1 : Nat) : Int)⟩
def marksSt (k n : Nat) : List StD := (List.range n).map fun j => markSt (k + 2 * j)
theorem marksSt_len (k n : Nat) : (marksSt k n).length = n := by simp [marksSt]
theorem marksSt_get (k n j : Nat) (h : j < (marksSt k n).length) : (marksSt k n)[j] = markSt (k + 2 * j) := by simp [marksSt]
def markedSt (k : Nat) (hs : List StD) (i : Nat) : List StD := marksSt k i ++ hs.drop i
theorem markedSt_len (k : Nat) (hs : List StD) (i : Nat) (h : i ≤ hs.length) : (markedSt k hs i).length = hs.length := by simp [markedSt, marksSt_len]; omega
theorem markedSt_next (k : Nat) (hs : List StD) (i : Nat) (h : i < hs.length) : markedSt k hs (i + 1) = (markedSt k hs i).set i (markSt (k + 2 * i)) := by
  unfold markedSt
  have e : hs.drop i = hs[i] :: hs.drop (i + 1) := List.drop_eq_getElem_cons h
  rw [List.set_append_right _ _ (by rw [marksSt_len]; exact Nat.le_refl _), marksSt_len, Nat.sub_self, e, List.set_cons_zero]
  simp [marksSt, List.range_succ]
theorem markedSt_all (k : Nat) (hs : List StD) : markedSt k hs hs.length = marksSt k hs.length := by simp [markedSt]

end Go.Proofs.Ytchddjidjfpehaa
