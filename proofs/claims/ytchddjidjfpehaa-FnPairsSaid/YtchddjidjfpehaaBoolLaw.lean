/-
  Lists of bools: how they are read, and what the laws' 'eqBoolS', 'markBoolS', 'heldBoolS' answer.
-/
import Derived.Test.YtchddjidjfpehaaPlay0
import Derived.BigQuiet
import Derived.Deep.QuietTactic
namespace Go.Proofs.Ytchddjidjfpehaa
open Go.RowKit
set_option linter.unusedVariables false

/-- The slice v reads as the list bs. -/
def ReadsBo (W : World) (v : Value) (bs : List Bool) : Prop :=
  ∃ (a : Option Addr) (cap : Nat), v = .slice a bs.length cap ∧ (bs = [] ∨ ∃ g off, a = some ⟨g, off, none⟩ ∧ g < W.heap.size ∧ ∀ j (hj : j < bs.length), W.cell? ⟨g, off + j, none⟩ = some (.bool bs[j]))
theorem ReadsBo.below {W W' : World} {v : Value} {bs : List Bool} (h : ReadsBo W v bs) (hb : Below W.heap.size W W') : ReadsBo W' v bs := by
  obtain ⟨a, cap, hv, hc⟩ := h
  refine ⟨a, cap, hv, hc.imp id ?_⟩
  rintro ⟨g, off, ha, hg, hcell⟩
  exact ⟨g, off, ha, Nat.lt_of_lt_of_le hg hb.size, fun j hj => (hb.cell (p := ⟨g, off + j, none⟩) hg).trans (hcell j hj)⟩
theorem OwnB.reads {W : World} {B : Nat} {v : Value} {bs : List Bool} (h : OwnB W B v bs) : ReadsBo W v bs := by
  rcases h.2 with ⟨hv, hn⟩ | ⟨g, cap, cur, hv, hB, hg, -⟩
  · have e : bs = [] := List.eq_nil_of_length_eq_zero hn
    subst e
    exact ⟨none, 0, hv, .inl rfl⟩
  · refine ⟨_, cap, hv, .inr ⟨g, 0, rfl, (Array.getElem?_eq_some_iff.1 hg).1, fun j hj => ?_⟩⟩
    subst hv
    have := World.ownsRow.cellAt h j (by simpa using hj)
    rw [Nat.zero_add, this]
    simp [hj]

/-- The marks from k on. -/
def mkB (k : Nat) : Bool := decide (k % 3 = 0)
def marksB (k n : Nat) : List Bool := (List.range n).map fun j => mkB (k + j)
theorem marksB_len (k n : Nat) : (marksB k n).length = n := by simp [marksB]
theorem marksB_get (k n j : Nat) (h : j < (marksB k n).length) : (marksB k n)[j] = mkB (k + j) := by simp [marksB]
def markedB (k : Nat) (bs : List Bool) (i : Nat) : List Bool := marksB k i ++ bs.drop i
theorem markedB_len (k : Nat) (bs : List Bool) (i : Nat) (h : i ≤ bs.length) : (markedB k bs i).length = bs.length := by simp [markedB, marksB_len]; omega
theorem markedB_next (k : Nat) (bs : List Bool) (i : Nat) (h : i < bs.length) : markedB k bs (i + 1) = (markedB k bs i).set i (mkB (k + i)) := by
  unfold markedB
  have e : bs.drop i = bs[i] :: bs.drop (i + 1) := List.drop_eq_getElem_cons h
  rw [List.set_append_right _ _ (by rw [marksB_len]; exact Nat.le_refl _), marksB_len, Nat.sub_self, e, List.set_cons_zero]
  simp [marksB, List.range_succ]
theorem markedB_all (k : Nat) (bs : List Bool) : markedB k bs bs.length = marksB k bs.length := by simp [markedB]
theorem mkB_int (c : Nat) : (((c : Int) % 3 == 0) : Bool) = mkB c := by unfold mkB; rw [Bool.eq_iff_iff]; simp; omega

end Go.Proofs.Ytchddjidjfpehaa
