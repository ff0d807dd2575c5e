/-
  Variables of the laws that hold a pair: its box, its rows, and where they lie.
-/
import Derived.Test.YtchddjidjfpehaaJh
import Derived.Test.YtchddjidjfpehaaOwnSp
import Derived.Deep.CutRange
namespace Go.Proofs.Ytchddjidjfpehaa
open Go.RowKit

structure PV (w : World) (lo hi bx : Nat) (x y z : Value) (p : PR) : Prop where
  box : Bx3 w bx x y z
  own : Own3 w lo x y z p
  rng : lo ≤ bx ∧ bx < hi
  rows : ∀ j, Has x y z j → j < hi ∧ j ≠ bx
theorem PV.below {w w' : World} {lo hi bx : Nat} {x y z : Value} {p : PR} (h : PV w lo hi bx x y z p) (hb : Below w.heap.size w w') : PV w' lo hi bx x y z p := ⟨h.box.below hb, h.own.below hb, h.rng, h.rows⟩
theorem PV.drew {w : World} {lo hi bx : Nat} {x y z : Value} {p : PR} (h : PV w lo hi bx x y z p) : PV w.drew lo hi bx x y z p := h.below ((Below.refl _ w).drew)
theorem PV.keep {w w' : World} {lo hi bx : Nat} {x y z X Y Z : Value} {p : PR} (h : PV w lo hi bx x y z p) (hk : Keep w w' X Y Z) (hne : ∀ j, lo ≤ j → j < hi → ¬ Has X Y Z j) : PV w' lo hi bx x y z p :=
  ⟨h.box.keep hk (hne bx h.rng.1 h.rng.2), h.own.keep hk (fun j hj => hne j (h.own.lt j hj).1 (h.rows j hj).1), h.rng, h.rows⟩
theorem PV.mark {w w' : World} {lo hi bx : Nat} {x y z : Value} {p p' : PR} (h : PV w lo hi bx x y z p) (hk : Keep w w' x y z) (ho : Own3 w' lo x y z p') : PV w' lo hi bx x y z p' :=
  ⟨h.box.keep hk (fun hh => (h.rows bx hh).2 rfl), ho, h.rng, h.rows⟩
/-- Blocks of another variable are none of this one's rows. -/
theorem PV.far {w : World} {lo hi bx : Nat} {x y z : Value} {p : PR} (h : PV w lo hi bx x y z p) {a b : Nat} (hd : b ≤ lo ∨ hi ≤ a) : ∀ j, a ≤ j → j < b → ¬ Has x y z j := fun j h1 h2 hh => by
  have := (h.own.lt j hh).1
  have := (h.rows j hh).1
  omega
theorem PV.new {w : World} {lo base : Nat} {x y z : Value} {p : PR} (ho : Own3 w base x y z p) (hl : lo ≤ base) (hs : lo ≤ w.heap.size) (t : TypeId) : PV (w.alloc (.cells #[x, y, z] t)) lo (w.alloc (.cells #[x, y, z] t)).heap.size w.heap.size x y z p :=
  ⟨Bx3.new _ _ _ _ _, (ho.below ((Below.refl _ w).alloc (Nat.le_refl _) _)).mono hl, ⟨hs, by simp⟩, fun j hj => by have := (ho.lt j hj).2; exact ⟨by simp; omega, by omega⟩⟩
theorem PV.set {w : World} {lo base bx : Nat} {x y z : Value} {p : PR} (ho : Own3 w base x y z p) (hb : Bx3 w bx (.slice none 0 0) (.slice none 0 0) (.slice none 0 0)) (hl : lo ≤ bx) (hx : bx < base) :
    PV (((w.setCell ⟨bx, 0, none⟩ x).setCell ⟨bx, 1, none⟩ y).setCell ⟨bx, 2, none⟩ z) lo (((w.setCell ⟨bx, 0, none⟩ x).setCell ⟨bx, 1, none⟩ y).setCell ⟨bx, 2, none⟩ z).heap.size bx x y z p := by
  have hz : (((w.setCell ⟨bx, 0, none⟩ x).setCell ⟨bx, 1, none⟩ y).setCell ⟨bx, 2, none⟩ z).heap.size = w.heap.size := by simp [World.setCell]
  have hn : ¬ Has x y z bx := fun hh => by have := (ho.lt bx hh).1; omega
  refine ⟨((hb.put0 _).put1 _).put2 _, (((ho.setCell (a := ⟨bx, 0, none⟩) hx _).setCell (a := ⟨bx, 1, none⟩) hx _).setCell (a := ⟨bx, 2, none⟩) hx _).mono (by omega), ⟨hl, ?_⟩, fun j hj => ⟨?_, fun e => hn (e ▸ hj)⟩⟩
  · rw [hz]; exact hb.lt
  · rw [hz]; exact (ho.lt j hj).2
theorem Since.set {B : Nat} {w0 w : World} {a : Addr} (ha : B ≤ a.block) (h : Since B w0 w) (u : Value) : Since B w0 (w.setCell a u) := ⟨h.1.setCell ha u, by rw [show (w.setCell a u).heap.size = w.heap.size from by simp [World.setCell]]; exact h.2⟩
theorem Since.set3 {B bx : Nat} {w0 w : World} (ha : B ≤ bx) (h : Since B w0 w) (x y z : Value) : Since B w0 (((w.setCell ⟨bx, 0, none⟩ x).setCell ⟨bx, 1, none⟩ y).setCell ⟨bx, 2, none⟩ z) := Since.set ha (Since.set ha (Since.set ha h _) _) _
theorem Own3.al {W : World} {B : Nat} {x y z : Value} {p : PR} (h : Own3 W B x y z p) (o : Obj) : Own3 (W.alloc o) B x y z p := h.below ((Below.refl _ W).alloc (Nat.le_refl _) o)
theorem Since.keep {B : Nat} {w0 w w' : World} {x y z : Value} (h : Since B w0 w) (hb : Below B w w') (hk : Keep w w' x y z) : Since B w0 w' := ⟨h.1.trans hb, Nat.le_trans h.2 hk.size⟩
end Go.Proofs.Ytchddjidjfpehaa
