/-
  A part, as the laws copy, weigh and compare it: 'toPart', 'szPart', 'eqPart'.
-/
import Derived.Test.YtijlhjfllfjllaaNums
import Derived.Deep.RegionWith
namespace Go.Proofs.Ytijlhjfllfjllaa
open Go.RowKit

/-- A part's value. -/
def partV (k : Int) (t : ByteArray) (v : Value) : Value := .agg #[.int .i64 k, .string t, v]

theorem bcell {W w1 : World} (hb : Below W.heap.size W w1) : (∀ b o, b < W.heap.size → w1.cell? ⟨b, o, none⟩ = W.cell? ⟨b, o, none⟩) ∧ (∀ b o, b < W.heap.size → w1.frozen? ⟨b, o, none⟩ = W.frozen? ⟨b, o, none⟩) :=
  ⟨fun b o h => hb.cell (p := ⟨b, o, none⟩) h, fun b o h => hb.frozen (p := ⟨b, o, none⟩) h⟩

/-- Three cells at a block's head. -/
def Box3 (W : World) (b : Nat) (x y z : Value) : Prop := b < W.heap.size ∧ W.cell? ⟨b, 0, none⟩ = some x ∧ W.cell? ⟨b, 1, none⟩ = some y ∧ W.cell? ⟨b, 2, none⟩ = some z
theorem Box3.below {W W' : World} {b : Nat} {x y z : Value} (h : Box3 W b x y z) (hb : Below W.heap.size W W') : Box3 W' b x y z :=
  ⟨Nat.lt_of_lt_of_le h.1 hb.size, (hb.cell (p := ⟨b, 0, none⟩) h.1).trans h.2.1, (hb.cell (p := ⟨b, 1, none⟩) h.1).trans h.2.2.1, (hb.cell (p := ⟨b, 2, none⟩) h.1).trans h.2.2.2⟩
theorem Box3.new (W : World) (x y z : Value) (t : TypeId) : Box3 (W.alloc (.cells #[x, y, z] t)) W.heap.size x y z := by
  refine ⟨by simp, ?_, ?_, ?_⟩ <;> (rw [World.cell?_alloc_at _ _ _ _ rfl]; rfl)

/-- What a part leaves of a measure. -/
def szP (t : ByteArray) (zs : List Int) (left : Int) : Int := if (t.size : Int) + (zs.length : Int) ≤ left then left - (t.size : Int) - (zs.length : Int) else -1

end Go.Proofs.Ytijlhjfllfjllaa
