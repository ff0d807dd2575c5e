/-
  'bestUp' of the program, with 'beats'.
-/
import Derived.Test.YtiimiiblhafajavPlaceT
namespace Go.Proofs.Ytiimiiblhafajav
open Go.RowKit
set_option linter.unusedVariables false

/-- What the box of the best so far holds: the zero bridge, or one that is up. -/
def BestBox (wr : World) (b : Nat) : Option BrD → Prop
  | none => Bx3 wr b (.int .i64 0) (.int .i64 0) (.bool false)
  | some y => y.up = true ∧ Bx3 wr b (.int .i64 y.id) (.int .i64 y.rank) (.bool true)
def BestAt (W wr : World) (o : Option BrD) : Prop := Below W.heap.size W wr ∧ BestBox wr W.heap.size o
theorem BestAt.below {W wr : World} {o : Option BrD} (h : BestAt W wr o) : Below W.heap.size W wr := h.1
theorem BestAt.lt {W wr : World} {o : Option BrD} (h : BestAt W wr o) : W.heap.size < wr.heap.size := by
  cases o with
  | none => exact h.2.lt
  | some y => exact h.2.2.lt
theorem BestAt.step {W wr w1 : World} {o : Option BrD} (h : BestAt W wr o) (hb : Below wr.heap.size wr w1) : BestAt W w1 o := by
  refine ⟨h.1.trans (hb.mono (Nat.le_of_lt h.lt)), ?_⟩
  cases o with
  | none => exact Bx3.below h.2 hb
  | some y => exact ⟨h.2.1, h.2.2.below hb⟩
theorem BestAt.put {W wr : World} {o : Option BrD} (h : BestAt W wr o) (x : BrD) (hu : x.up = true) :
    BestAt W (((wr.setCell ⟨W.heap.size, 0, none⟩ (.int .i64 x.id)).setCell ⟨W.heap.size, 1, none⟩ (.int .i64 x.rank)).setCell ⟨W.heap.size, 2, none⟩ (.bool true)) (some x) := by
  refine ⟨((h.1.setCell (Nat.le_refl _) _).setCell (Nat.le_refl _) _).setCell (Nat.le_refl _) _, hu, ?_⟩
  cases o with
  | none => exact ((Bx3.put0 h.2 _).put1 _).put2 _
  | some y => exact ((h.2.2.put0 _).put1 _).put2 _

end Go.Proofs.Ytiimiiblhafajav
