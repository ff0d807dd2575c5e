/-
  Boxes: three cells at a block's head.
-/
import Derived.Test.YthdcfeafkellcabSince0
import Derived.Test.YthdcfeafkellcabRows
import Derived.WalkKit
import Derived.OwnWalk
namespace Go.Proofs.Ythdcfeafkellcab
open Go.RowKit

/-- Three cells at a block's head, free to be written. -/
structure Bx3 (W : World) (b : Nat) (x y z : Value) : Prop where
  lt : b < W.heap.size
  c0 : W.cell? ⟨b, 0, none⟩ = some x
  c1 : W.cell? ⟨b, 1, none⟩ = some y
  c2 : W.cell? ⟨b, 2, none⟩ = some z
  fz : ∀ j, W.frozen? ⟨b, j, none⟩ = false
theorem Bx3.below {W W' : World} {b : Nat} {x y z : Value} (h : Bx3 W b x y z) (hb : Below W.heap.size W W') : Bx3 W' b x y z :=
  ⟨Nat.lt_of_lt_of_le h.lt hb.size, (hb.cell (p := ⟨b, 0, none⟩) h.lt).trans h.c0, (hb.cell (p := ⟨b, 1, none⟩) h.lt).trans h.c1, (hb.cell (p := ⟨b, 2, none⟩) h.lt).trans h.c2, fun j => (hb.frozen (p := ⟨b, j, none⟩) h.lt).trans (h.fz j)⟩
theorem Bx3.new (W : World) (x y z : Value) (t : TypeId) : Bx3 (W.alloc (.cells #[x, y, z] t)) W.heap.size x y z := by
  refine ⟨by simp, ?_, ?_, ?_, fun j => ?_⟩
  · rw [World.cell?_alloc_at _ _ _ _ rfl]; rfl
  · rw [World.cell?_alloc_at _ _ _ _ rfl]; rfl
  · rw [World.cell?_alloc_at _ _ _ _ rfl]; rfl
  · exact World.frozen?_alloc_at _ _ _ _ rfl
theorem Bx3.other {W : World} {b : Nat} {x y z : Value} (h : Bx3 W b x y z) {p : Addr} (hp : p.block ≠ b) (u : Value) : Bx3 (W.setCell p u) b x y z := by
  have e : ∀ j, (W.setCell p u).cell? ⟨b, j, none⟩ = W.cell? ⟨b, j, none⟩ := fun j => World.cell?_of_block (Below.heap_setCell _ _ _ _ (fun e => hp e.symm))
  exact ⟨by simpa [World.setCell] using h.lt, (e 0).trans h.c0, (e 1).trans h.c1, (e 2).trans h.c2, fun j => (World.frozen?_of_block (Below.heap_setCell _ _ _ _ (fun e => hp e.symm))).trans (h.fz j)⟩
theorem Bx3.put0 {W : World} {b : Nat} {x y z : Value} (h : Bx3 W b x y z) (u : Value) : Bx3 (W.setCell ⟨b, 0, none⟩ u) b u y z :=
  ⟨by simpa [World.setCell] using h.lt, by simp [go_sem, h.c0], by simp [go_sem, h.c1], by simp [go_sem, h.c2], fun j => by simp [go_sem, h.fz]⟩
theorem Bx3.put1 {W : World} {b : Nat} {x y z : Value} (h : Bx3 W b x y z) (u : Value) : Bx3 (W.setCell ⟨b, 1, none⟩ u) b x u z :=
  ⟨by simpa [World.setCell] using h.lt, by simp [go_sem, h.c0], by simp [go_sem, h.c1], by simp [go_sem, h.c2], fun j => by simp [go_sem, h.fz]⟩
theorem Bx3.put2 {W : World} {b : Nat} {x y z : Value} (h : Bx3 W b x y z) (u : Value) : Bx3 (W.setCell ⟨b, 2, none⟩ u) b x y u :=
  ⟨by simpa [World.setCell] using h.lt, by simp [go_sem, h.c0], by simp [go_sem, h.c1], by simp [go_sem, h.c2], fun j => by simp [go_sem, h.fz]⟩
theorem Bx3.cells {W : World} {b : Nat} {x y z : Value} (h : Bx3 W b x y z) : W.cell? ⟨b, 0, none⟩ = some x ∧ W.cell? ⟨b, 1, none⟩ = some y ∧ W.cell? ⟨b, 2, none⟩ = some z := ⟨h.c0, h.c1, h.c2⟩
/-- What a call that writes nothing leaves, told cell by cell. -/
theorem cellsOn {W w1 : World} (hb : Below W.heap.size W w1) : (∀ b o, b < W.heap.size → w1.cell? ⟨b, o, none⟩ = W.cell? ⟨b, o, none⟩) ∧ W.heap.size ≤ w1.heap.size :=
  ⟨fun b o h => hb.cell (p := ⟨b, o, none⟩) h, hb.size⟩
end Go.Proofs.Ythdcfeafkellcab
