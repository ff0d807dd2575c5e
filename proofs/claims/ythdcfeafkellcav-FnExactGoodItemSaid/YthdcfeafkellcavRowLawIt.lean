/-
  What the laws' functions over lists of items answer: 'sz', 'to', 'eq', 'mark', 'held'.
-/
import Derived.Test.YthdcfeafkellcavRowIt
namespace Go.Proofs.Ythdcfeafkellcav
open Go.RowKit
set_option linter.unusedVariables false

theorem szIt_any (W : World) (x : ItD) (left : Int) (hx : x.text.size ≤ maxLen) (h0 : 0 ≤ left) (h1 : left ≤ 1048576) :
    Calls Try.prog 26 #[.agg #[.int .i64 x.frm, .int .i64 x.seq, .int .i64 x.age, .string x.text], .int .i64 left] W fun e W' => e = .returned (.int .i64 (if (x.text.size : Int) ≤ left then left - x.text.size else -1)) ∧ Below W.heap.size W W' := by
  have HB : Hid (Below W.heap.size W (W.alloc (.cells #[.int .i64 x.frm, .int .i64 x.seq, .int .i64 x.age, .string x.text] 44))) := (Below.refl _ W).alloc (Nat.le_refl _) _
  unfold maxLen at hx
  by_cases hle : (x.text.size : Int) ≤ left
  · rw [if_pos hle]
    have e : ¬ (left - (x.text.size : Int) < 0) := by omega
    go_enter Try.func26, Try.ntmps26
    go_wp2
    go_ret
    exact ⟨rfl, HB.out⟩
  · rw [if_neg hle]
    have e : left - (x.text.size : Int) < 0 := by omega
    go_enter Try.func26, Try.ntmps26
    go_wp2
    go_ret
    exact ⟨rfl, HB.out⟩

theorem toIt_any (W : World) (x : ItD) : Calls Try.prog 28 #[.agg #[.int .i64 x.frm, .int .i64 x.seq, .int .i64 x.age, .string x.text]] W fun e W' => e = .returned (.agg #[.int .i64 x.frm, .int .i64 x.seq, .int .i64 x.age, .string x.text]) ∧ Below W.heap.size W W' := by
  go_enter Try.func28, Try.ntmps28
  go_wp2
  refine bodyPost_ret (v := .agg #[.int .i64 x.frm, .int .i64 x.seq, .int .i64 x.age, .string x.text]) (by simp [results, Try.results28, go_sem]) rfl ⟨rfl, ?_⟩
  exact (((Below.refl _ W).alloc (Nat.le_refl _) _).alloc (by simp) _).alloc (by simp; omega) _

def noIt : ItD := ⟨0, 0, 0, ByteArray.empty⟩
theorem madeIt : ∀ n : Nat, (madeCells #[.int .i64 0, .int .i64 0, .int .i64 0, .string ByteArray.empty] (n * 4)).toList = cellsIt (List.replicate n noIt)
  | 0 => by simp [madeCells, cellsIt]
  | n + 1 => by
    have e : (n + 1) * 4 = n * 4 + 1 + 1 + 1 + 1 := by omega
    have ih := madeIt n
    have m0 : (n * 4) % 4 = 0 := by omega
    have m1 : (n * 4 + 1) % 4 = 1 := by omega
    have m2 : (n * 4 + 1 + 1) % 4 = 2 := by omega
    have m3 : (n * 4 + 1 + 1 + 1) % 4 = 3 := by omega
    rw [List.replicate_succ', cellsIt_app, ← ih, e]
    unfold madeCells
    simp [Array.range_succ, cellsIt, m0, m1, m2, m3, noIt]

/-- The list of which the first k are copied. -/
theorem to_nextIt (hs : List ItD) (k : Nat) (h : k < hs.length) : hs.take (k + 1) ++ List.replicate (hs.length - (k + 1)) noIt = (hs.take k ++ List.replicate (hs.length - k) noIt).set k hs[k] := by
  have e : hs.length - k = (hs.length - (k + 1)) + 1 := by omega
  rw [e, List.replicate_succ, List.set_append_right _ _ (by simp; omega), List.take_succ_eq_append_getElem h]
  have e2 : k - (hs.take k).length = 0 := by simp; omega
  rw [e2, List.set_cons_zero, List.append_assoc]
  rfl

end Go.Proofs.Ythdcfeafkellcav
