/-
  Variables of the law that hold a pair and bools: their boxes, their rows, and where they lie; steps as plain data, told both ways.
-/
import Derived.Test.YtchddjidjfpehaaPairVar
import Derived.Test.YtchddjidjfpehaaPlayS
import Derived.Test.YtchddjidjfpehaaBoolLaw
import Derived.Test.YtchddjidjfpehaaRowLawSt
import Derived.Test.YtchddjidjfpehaaRowLaw0
namespace Go.Proofs.Ytchddjidjfpehaa
open Go.RowKit
set_option linter.unusedVariables false

/-- Steps as the other text tells them. -/
def toST (s : StD) : ST := ⟨s.kd, s.k⟩
def stL (l : List StD) : List ST := l.map toST
theorem stL_len (l : List StD) : (stL l).length = l.length := by simp [stL]
theorem ReadsSt.readsS {W : World} {v : Value} {l : List StD} (h : ReadsSt W v l) : ReadsS W v (stL l) := by
  obtain ⟨a, cap, hv, hc⟩ := h
  refine ⟨a, cap, by rw [stL_len]; exact hv, ?_⟩
  rcases hc with e | ⟨g, off, ha, hg, hcell⟩
  · exact .inl (by rw [e]; rfl)
  · refine .inr ⟨g, off, ha, hg, fun j hj => ?_⟩
    have hj' : j < l.length := by rw [stL_len] at hj; exact hj
    have e : (stL l)[j] = toST l[j] := by simp [stL]
    rw [e]
    exact hcell j hj'

/-- A variable that holds a pair, and one that holds bools, made in one go. -/
structure Vr (w : World) (lo hi bx : Nat) (x y z : Value) (p : PR) (b : Value) (bs : List Bool) : Prop where
  pv : PV w lo hi bx x y z p
  ob : OwnB w lo b bs
  top : ∀ k, b.ownBlock = some k → k < hi ∧ k ≠ bx
  fit : hi ≤ w.heap.size
theorem OwnB.same {W W' : World} {B : Nat} {v : Value} {bs : List Bool} (h : OwnB W B v bs) (hk : ∀ k, v.ownBlock = some k → W'.heap[k]? = W.heap[k]?) : OwnB W' B v bs := row_same h hk
theorem Vr.kept {w w' : World} {lo hi bx : Nat} {x y z b : Value} {p : PR} {bs : List Bool} (h : Vr w lo hi bx x y z p b bs) (hs : w.heap.size ≤ w'.heap.size) (hk : ∀ j, lo ≤ j → j < hi → w'.heap[j]? = w.heap[j]?) : Vr w' lo hi bx x y z p b bs :=
  ⟨⟨h.pv.box.same (hk bx h.pv.rng.1 h.pv.rng.2) hs, h.pv.own.same (fun j hj => hk j (h.pv.own.lt j hj).1 (h.pv.rows j hj).1), h.pv.rng, h.pv.rows⟩, h.ob.same (fun k hb => hk k (World.ownsRow.lt h.ob k hb).1 (h.top k hb).1), h.top, Nat.le_trans h.fit hs⟩
theorem Vr.below {w w' : World} {lo hi bx : Nat} {x y z b : Value} {p : PR} {bs : List Bool} (h : Vr w lo hi bx x y z p b bs) (hb : Below w.heap.size w w') : Vr w' lo hi bx x y z p b bs :=
  h.kept hb.size fun j _ h2 => hb.block j (Nat.lt_of_lt_of_le h2 h.fit)
theorem Vr.grown {w w' : World} {lo hi bx : Nat} {x y z b : Value} {p : PR} {bs : List Bool} {row : Option Nat} (h : Vr w lo hi bx x y z p b bs) (hg : w.grownBy w' row) (hr : ∀ k, row = some k → k < lo ∨ hi ≤ k) : Vr w' lo hi bx x y z p b bs :=
  h.kept hg.size fun j h1 h2 => hg.block j (Nat.lt_of_lt_of_le h2 h.fit) (fun e => by have := hr j e.symm; omega)
theorem Vr.keep {w w' : World} {lo hi bx : Nat} {x y z b X Y Z : Value} {p : PR} {bs : List Bool} (h : Vr w lo hi bx x y z p b bs) (hk : Keep w w' X Y Z) (hn : ∀ j, lo ≤ j → j < hi → ¬ Has X Y Z j) : Vr w' lo hi bx x y z p b bs :=
  h.kept hk.size fun j h1 h2 => hk.block j (Nat.lt_of_lt_of_le h2 h.fit) (hn j h1 h2)
theorem Vr.new {w : World} {lo base : Nat} {x y z b : Value} {p : PR} {bs : List Bool} (ho : Own3 w base x y z p) (hb : OwnB w base b bs) (hl : lo ≤ base) (hs : lo ≤ w.heap.size) (t : TypeId) : Vr (w.alloc (.cells #[x, y, z] t)) lo (w.alloc (.cells #[x, y, z] t)).heap.size w.heap.size x y z p b bs :=
  ⟨PV.new ho hl hs t, (hb.below ((Below.refl _ w).alloc (Nat.le_refl _) _)).mono hl, fun k hk => by have := (World.ownsRow.lt hb k hk).2; exact ⟨by simp; omega, by omega⟩, Nat.le_refl _⟩
/-- Marks into the pair; into the bools. -/
theorem Vr.markP {w w' : World} {lo hi bx : Nat} {x y z b : Value} {p p' : PR} {bs : List Bool} (h : Vr w lo hi bx x y z p b bs) (hk : Keep w w' x y z) (ho : Own3 w' lo x y z p') : Vr w' lo hi bx x y z p' b bs :=
  ⟨h.pv.mark hk ho, h.ob.same (fun k hb => hk.block k (World.ownsRow.lt h.ob k hb).2 (bool_apart h.ob h.pv.own k hb)), h.top, Nat.le_trans h.fit hk.size⟩
theorem Vr.markB {w w' : World} {lo hi bx : Nat} {x y z b : Value} {p : PR} {bs bs' : List Bool} (h : Vr w lo hi bx x y z p b bs) (hg : w.grownBy w' b.ownBlock) (ho : OwnB w' lo b bs') : Vr w' lo hi bx x y z p b bs' :=
  ⟨⟨h.pv.box.same (hg.block bx h.pv.box.lt (fun e => (h.top bx e.symm).2 rfl)) hg.size, h.pv.own.same (fun j hj => hg.block j (h.pv.own.lt j hj).2 (fun e => bool_apart h.ob h.pv.own j e.symm hj)), h.pv.rng, h.pv.rows⟩, ho, h.top, Nat.le_trans h.fit hg.size⟩
end Go.Proofs.Ytchddjidjfpehaa
