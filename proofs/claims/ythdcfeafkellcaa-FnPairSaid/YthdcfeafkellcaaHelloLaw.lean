/-
  What the laws' functions over lists of hellos answer: 'szHelloS', 'toHelloS', 'eqHelloS', 'markHelloS', 'heldHelloS'.
-/
import Derived.Test.YthdcfeafkellcaaHellos
namespace Go.Proofs.Ythdcfeafkellcaa
open Go.RowKit

def noH : HD := ⟨0, false⟩
theorem made_hellos : ∀ n : Nat, (madeCells #[.int .i64 0, .bool false] (n * 2)).toList = cellsH (List.replicate n noH)
  | 0 => by simp [madeCells, cellsH]
  | n + 1 => by
    have e : (n + 1) * 2 = n * 2 + 1 + 1 := by omega
    have ih := made_hellos n
    have m0 : n * 2 % 2 = 0 := by omega
    have m1 : (n * 2 + 1) % 2 = 1 := by omega
    rw [List.replicate_succ', cellsH_app, ← ih, e]
    unfold madeCells
    simp [Array.range_succ, cellsH, m0, m1, noH]

theorem make_hellos (n : Nat) (hn : n ≤ 4194304) (w : World) : ∃ W1 : World,
    (Instr.makeSlice 38 (.int .i64 (n : Int)) (.int .i64 (n : Int))).run Try.prog w = .ok (.slice (some ⟨w.heap.size, 0, none⟩) n n) W1 ∧
    OwnH W1 w.heap.size (.slice (some ⟨w.heap.size, 0, none⟩) n n) (List.replicate n noH) ∧ Below w.heap.size w W1 ∧ w.heap.size < W1.heap.size := by
  obtain ⟨i0, hi, hz0, hz1, hz2⟩ := info_parts infoH
  obtain ⟨w', hr, ho, hg⟩ := run_make_full (P := Try.prog) w w.heap.size 38 61 i0 _ 2 Try.underlying38 hi hz0 hz1 .i64 .i64 n (by rw [hz2]; omega) (by unfold maxLen; omega) (Nat.le_refl _)
  have hlt := (World.ownsRow.lt ho w.heap.size rfl).2
  refine ⟨w', hr, ?_, (Below.refl _ w).grown hg (Nat.le_refl _) (fun k hk => by cases hk), hlt⟩
  unfold OwnH
  rw [List.length_replicate]
  rw [show (Value.agg #[Value.int IntKind.i64 0, Value.bool false]).cells = #[.int .i64 0, .bool false] from rfl, made_hellos] at ho
  exact ho

/-- The list of which the first k are copied. -/
theorem to_next (hs : List HD) (k : Nat) (h : k < hs.length) : hs.take (k + 1) ++ List.replicate (hs.length - (k + 1)) noH = (hs.take k ++ List.replicate (hs.length - k) noH).set k hs[k] := by
  have e : hs.length - k = (hs.length - (k + 1)) + 1 := by omega
  rw [e, List.replicate_succ, List.set_append_right _ _ (by simp; omega), List.take_succ_eq_append_getElem h]
  have e2 : k - (hs.take k).length = 0 := by simp; omega
  rw [e2, List.set_cons_zero, List.append_assoc]
  rfl

/-- A store of a whole hello. -/
theorem OwnH.set {W : World} {B g cap : Nat} {hs : List HD} (h : OwnH W B (.slice (some ⟨g, 0, none⟩) hs.length cap) hs) (i : Nat) (hi : i < hs.length) (x : HD) :
    OwnH ((W.setCell ⟨g, i * 2, none⟩ (.int .i64 x.f)).setCell ⟨g, i * 2 + 1, none⟩ (.bool x.h)) B (.slice (some ⟨g, 0, none⟩) hs.length cap) (hs.set i x) := by
  have h1 := (World.ownsRow.stored h (i * 2) (.int .i64 x.f)).1
  have h2 := (World.ownsRow.stored h1 (i * 2 + 1) (.bool x.h)).1
  have e1 := cellsH_setF hs i x.f hi
  have e2 := cellsH_setH (hs.set i ⟨x.f, hs[i].h⟩) i x.h (by simpa using hi)
  rw [List.getElem_set_self, List.set_set, e1] at e2
  unfold OwnH
  rw [List.length_set, e2]
  exact h2

/-- A hello with marks from k on; a list so. -/
def markH (k : Nat) : HD := ⟨(k : Int), decide ((k + 1) % 3 = 0)⟩
def marksH (k n : Nat) : List HD := (List.range n).map fun j => markH (k + 2 * j)
theorem marksH_len (k n : Nat) : (marksH k n).length = n := by simp [marksH]
theorem marksH_get (k n j : Nat) (h : j < (marksH k n).length) : (marksH k n)[j] = markH (k + 2 * j) := by simp [marksH]
def markedH (k : Nat) (hs : List HD) (i : Nat) : List HD := marksH k i ++ hs.drop i
theorem markedH_len (k : Nat) (hs : List HD) (i : Nat) (h : i ≤ hs.length) : (markedH k hs i).length = hs.length := by simp [markedH, marksH_len]; omega
theorem markedH_next (k : Nat) (hs : List HD) (i : Nat) (h : i < hs.length) : markedH k hs (i + 1) = (markedH k hs i).set i (markH (k + 2 * i)) := by
  unfold markedH
  have e : hs.drop i = hs[i] :: hs.drop (i + 1) := List.drop_eq_getElem_cons h
  rw [List.set_append_right _ _ (by rw [marksH_len]; exact Nat.le_refl _), marksH_len, Nat.sub_self, e, List.set_cons_zero]
  simp [marksH, List.range_succ]
theorem markedH_all (k : Nat) (hs : List HD) : markedH k hs hs.length = marksH k hs.length := by simp [markedH]

theorem rem3 (k : Nat) : ((((k : Int) + 1) % 3 == 0) : Bool) = decide ((k + 1) % 3 = 0) := by
  rw [Bool.eq_iff_iff]
  simp
  omega

end Go.Proofs.Ythdcfeafkellcaa
