/-
  A summary, as the laws copy, weigh, compare and mark it; and one that came in.
-/
import Derived.Test.YtkpdiojomgiocacRowLawHv
import Derived.Test.YtkpdiojomgiocacRowOfHv
import Derived.Test.YtkpdiojomgiocacLsSync
import Derived.Deep.RegionWith
namespace Go.Proofs.Ytkpdiojomgiocac
open Go.RowKit
set_option linter.unusedVariables false

theorem bcellS {W w1 : World} (hb : Below W.heap.size W w1) : (∀ b o, b < W.heap.size → w1.cell? ⟨b, o, none⟩ = W.cell? ⟨b, o, none⟩) ∧ (∀ b o, b < W.heap.size → w1.frozen? ⟨b, o, none⟩ = W.frozen? ⟨b, o, none⟩) :=
  ⟨fun b o h => hb.cell (p := ⟨b, o, none⟩) h, fun b o h => hb.frozen (p := ⟨b, o, none⟩) h⟩

/-- Three cells at a block's head. -/
def SmBox (W : World) (b : Nat) (x y z : Value) : Prop := b < W.heap.size ∧ W.cell? ⟨b, 0, none⟩ = some x ∧ W.cell? ⟨b, 1, none⟩ = some y ∧ W.cell? ⟨b, 2, none⟩ = some z
theorem SmBox.new (W : World) (x y z : Value) (t : TypeId) : SmBox (W.alloc (.cells #[x, y, z] t)) W.heap.size x y z := by
  refine ⟨by simp, ?_, ?_, ?_⟩ <;> (rw [World.cell?_alloc_at _ _ _ _ rfl]; rfl)
theorem SmBox.below {W W' : World} {b : Nat} {x y z : Value} (h : SmBox W b x y z) (hb : Below W.heap.size W W') : SmBox W' b x y z :=
  ⟨Nat.lt_of_lt_of_le h.1 hb.size, (hb.cell (p := ⟨b, 0, none⟩) h.1).trans h.2.1, (hb.cell (p := ⟨b, 1, none⟩) h.1).trans h.2.2.1, (hb.cell (p := ⟨b, 2, none⟩) h.1).trans h.2.2.2⟩
theorem SmBox.grown {W W' : World} {b : Nat} {x y z : Value} {row : Option Nat} (h : SmBox W b x y z) (hg : W.grownBy W' row) (hne : ∀ k, row = some k → k ≠ b) : SmBox W' b x y z := by
  have e : W'.heap[b]? = W.heap[b]? := hg.block b h.1 (fun e => hne b e.symm rfl)
  exact ⟨Nat.lt_of_lt_of_le h.1 hg.size, (World.cell?_of_block e).trans h.2.1, (World.cell?_of_block e).trans h.2.2.1, (World.cell?_of_block e).trans h.2.2.2⟩

end Go.Proofs.Ytkpdiojomgiocac
