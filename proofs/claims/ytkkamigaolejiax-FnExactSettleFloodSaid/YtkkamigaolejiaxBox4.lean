/-
  Boxes: four cells at a block's head.
-/
import Derived.Test.YtkkamigaolejiaxJb
import Derived.Test.YtkkamigaolejiaxRows
import Derived.WalkKit
import Derived.OwnWalk
namespace Go.Proofs.Ytkkamigaolejiax
open Go.RowKit

/-- Four cells at a block's head, free to be written. -/
structure Bx4 (W : World) (b : Nat) (x y z u : Value) : Prop where
  lt : b < W.heap.size
  c0 : W.cell? ⟨b, 0, none⟩ = some x
  c1 : W.cell? ⟨b, 1, none⟩ = some y
  c2 : W.cell? ⟨b, 2, none⟩ = some z
  c3 : W.cell? ⟨b, 3, none⟩ = some u
  fz : ∀ j, W.frozen? ⟨b, j, none⟩ = false
theorem Bx4.below {W W' : World} {b : Nat} {x y z u : Value} (h : Bx4 W b x y z u) (hb : Below W.heap.size W W') : Bx4 W' b x y z u :=
  ⟨Nat.lt_of_lt_of_le h.lt hb.size, (hb.cell (p := ⟨b, 0, none⟩) h.lt).trans h.c0, (hb.cell (p := ⟨b, 1, none⟩) h.lt).trans h.c1, (hb.cell (p := ⟨b, 2, none⟩) h.lt).trans h.c2, (hb.cell (p := ⟨b, 3, none⟩) h.lt).trans h.c3, fun j => (hb.frozen (p := ⟨b, j, none⟩) h.lt).trans (h.fz j)⟩
theorem Bx4.new (W : World) (x y z u : Value) (t : TypeId) : Bx4 (W.alloc (.cells #[x, y, z, u] t)) W.heap.size x y z u := by
  refine ⟨by simp, ?_, ?_, ?_, ?_, fun j => ?_⟩
  · rw [World.cell?_alloc_at _ _ _ _ rfl]; rfl
  · rw [World.cell?_alloc_at _ _ _ _ rfl]; rfl
  · rw [World.cell?_alloc_at _ _ _ _ rfl]; rfl
  · rw [World.cell?_alloc_at _ _ _ _ rfl]; rfl
  · exact World.frozen?_alloc_at _ _ _ _ rfl
theorem Bx4.cells {W : World} {b : Nat} {x y z u : Value} (h : Bx4 W b x y z u) : W.cell? ⟨b, 0, none⟩ = some x ∧ W.cell? ⟨b, 1, none⟩ = some y ∧ W.cell? ⟨b, 2, none⟩ = some z ∧ W.cell? ⟨b, 3, none⟩ = some u := ⟨h.c0, h.c1, h.c2, h.c3⟩
theorem alloc2_below (W : World) (a b : Obj) : Below W.heap.size W ((W.alloc a).alloc b) := ((Below.refl _ W).alloc (Nat.le_refl _) _).alloc (by simp) _
end Go.Proofs.Ytkkamigaolejiax
