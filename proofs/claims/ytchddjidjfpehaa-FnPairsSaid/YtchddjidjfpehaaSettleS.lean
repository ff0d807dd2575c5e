/-
  'SettlePair' of the model.
-/
import Derived.Test.YtchddjidjfpehaaSettleI
import Derived.Test.YtchddjidjfpehaaStepS
namespace Go.Proofs.Ytchddjidjfpehaa
open Go.RowKit

def sideAt (n : Nat) : Int := if n = 1 then 1 else 0
theorem sideAt_or (n : Nat) : sideAt n = 0 ∨ sideAt n = 1 := by unfold sideAt; split <;> simp
/-- The pair behind n rounds: a hello said, and taken. -/
def settleAt (p : PR) : Nat → PR
  | 0 => ⟨p.st, p.lf, []⟩
  | n + 1 => stepP (stepP (settleAt p n) 1 (sideAt n)) 2 0
theorem settle_round (q : PR) (side : Int) (hs : side = 0 ∨ side = 1) (hq : q.ln = []) : canB q.ln 1 side = true ∧ canB (stepP q 1 side).ln 2 0 = true ∧ (stepP (stepP q 1 side) 2 0).ln = [] := by
  obtain ⟨st, lf, ln⟩ := q
  have hq : ln = [] := hq
  subst hq
  rcases hs with rfl | rfl <;> exact ⟨rfl, rfl, rfl⟩
theorem settle_ln (p : PR) : ∀ n, (settleAt p n).ln = []
  | 0 => rfl
  | n + 1 => (settle_round _ _ (sideAt_or n) (settle_ln p n)).2.2
theorem settle_can (p : PR) (n : Nat) : canB (settleAt p n).ln 1 (sideAt n) = true ∧ canB (stepP (settleAt p n) 1 (sideAt n)).ln 2 0 = true :=
  ⟨(settle_round _ _ (sideAt_or n) (settle_ln p n)).1, (settle_round _ _ (sideAt_or n) (settle_ln p n)).2.1⟩
theorem settle_two (p : PR) (n : Nat) : oneP (oneP (settleAt p n) ⟨1, sideAt n⟩) ⟨2, 0⟩ = settleAt p (n + 1) := by
  obtain ⟨h1, h2⟩ := settle_can p n
  have e1 : oneP (settleAt p n) ⟨1, sideAt n⟩ = stepP (settleAt p n) 1 (sideAt n) := by unfold oneP; rw [if_pos h1]
  rw [e1]
  unfold oneP
  rw [if_pos h2]
  rfl
theorem settle_play (p : PR) : playP ⟨p.st, p.lf, []⟩ settleSteps = settleAt p 3 := by
  have e : playP ⟨p.st, p.lf, []⟩ settleSteps = oneP (oneP (oneP (oneP (oneP (oneP (settleAt p 0) ⟨1, sideAt 0⟩) ⟨2, 0⟩) ⟨1, sideAt 1⟩) ⟨2, 0⟩) ⟨1, sideAt 2⟩) ⟨2, 0⟩ := by
    unfold settleSteps
    simp only [playP, settleAt]
    rfl
  rw [e, settle_two, settle_two, settle_two]
theorem settle_good (p : PR) (h : goodPr p = true) : ∀ n, goodPr (settleAt p n) = true
  | 0 => quiet_good p h
  | n + 1 => step_good _ _ _ (step_good _ _ _ (settle_good p h n) (settle_can p n).1) (settle_can p n).2
theorem settle_good1 (p : PR) (h : goodPr p = true) (n : Nat) : goodPr (stepP (settleAt p n) 1 (sideAt n)) = true := step_good _ _ _ (settle_good p h n) (settle_can p n).1

/-- What holds as the rounds go on: the pair's box bx, the sides' row bs, the answer's box. -/
structure Stl (W : World) (lo bx bs : Nat) (x y z : Value) (p : PR) (w : World) : Prop where
  px : Bx3 w bx x y z
  rx : Bx3 w (W.heap.size + 1) (.slice none 0 0) (.slice none 0 0) (.slice none 0 0)
  s0 : w.cell? ⟨bs, 0, none⟩ = some (.int .i64 0)
  s1 : w.cell? ⟨bs, 1, none⟩ = some (.int .i64 1)
  s2 : w.cell? ⟨bs, 2, none⟩ = some (.int .i64 0)
  sl : bs < w.heap.size
  ne : bs ≠ bx
  own : Own3 w lo x y z p
  nx : ¬ Has x y z bx
  ns : ¬ Has x y z bs
  since : Since W.heap.size W w
  low : W.heap.size + 2 ≤ lo
  bl : lo ≤ bx
  sb : lo ≤ bs
theorem Stl.step {W : World} {lo bx bs : Nat} {x y z : Value} {p : PR} {w w' : World} (h : Stl W lo bx bs x y z p w) (hb : Below w.heap.size w w') : Stl W lo bx bs x y z p w' :=
  ⟨h.px.below hb, h.rx.below hb, (hb.cell (p := ⟨bs, 0, none⟩) h.sl).trans h.s0, (hb.cell (p := ⟨bs, 1, none⟩) h.sl).trans h.s1, (hb.cell (p := ⟨bs, 2, none⟩) h.sl).trans h.s2, Nat.lt_of_lt_of_le h.sl hb.size, h.ne, h.own.below hb, h.nx, h.ns, h.since.step hb, h.low, h.bl, h.sb⟩
theorem Stl.base {W : World} {lo bx bs : Nat} {x y z : Value} {p : PR} {w : World} (h : Stl W lo bx bs x y z p w) : lo ≤ w.heap.size := Nat.le_trans h.bl (Nat.le_of_lt h.px.lt)
/-- Behind a step: the boxes are as they were, the pair is another one. -/
structure Stm (W : World) (lo bx bs : Nat) (a b c x y z : Value) (p : PR) (w : World) : Prop where
  px : Bx3 w bx a b c
  rx : Bx3 w (W.heap.size + 1) (.slice none 0 0) (.slice none 0 0) (.slice none 0 0)
  s0 : w.cell? ⟨bs, 0, none⟩ = some (.int .i64 0)
  s1 : w.cell? ⟨bs, 1, none⟩ = some (.int .i64 1)
  s2 : w.cell? ⟨bs, 2, none⟩ = some (.int .i64 0)
  sl : bs < w.heap.size
  ne : bs ≠ bx
  own : Own3 w lo x y z p
  nx : ¬ Has x y z bx
  ns : ¬ Has x y z bs
  since : Since W.heap.size W w
  low : W.heap.size + 2 ≤ lo
  bl : lo ≤ bx
  sb : lo ≤ bs
theorem Stl.mid {W : World} {lo bx bs : Nat} {x y z : Value} {p : PR} {w : World} (h : Stl W lo bx bs x y z p w) : Stm W lo bx bs x y z x y z p w := ⟨h.px, h.rx, h.s0, h.s1, h.s2, h.sl, h.ne, h.own, h.nx, h.ns, h.since, h.low, h.bl, h.sb⟩
theorem Stm.step {W : World} {lo bx bs : Nat} {a b c x y z : Value} {p : PR} {w w' : World} (h : Stm W lo bx bs a b c x y z p w) (hb : Below w.heap.size w w') : Stm W lo bx bs a b c x y z p w' :=
  ⟨h.px.below hb, h.rx.below hb, (hb.cell (p := ⟨bs, 0, none⟩) h.sl).trans h.s0, (hb.cell (p := ⟨bs, 1, none⟩) h.sl).trans h.s1, (hb.cell (p := ⟨bs, 2, none⟩) h.sl).trans h.s2, Nat.lt_of_lt_of_le h.sl hb.size, h.ne, h.own.below hb, h.nx, h.ns, h.since.step hb, h.low, h.bl, h.sb⟩
theorem Stm.base {W : World} {lo bx bs : Nat} {a b c x y z : Value} {p : PR} {w : World} (h : Stm W lo bx bs a b c x y z p w) : lo ≤ w.heap.size := Nat.le_trans h.bl (Nat.le_of_lt h.px.lt)
theorem Stm.next {W : World} {lo bx bs : Nat} {a b c x y z x' y' z' : Value} {p p' : PR} {w w' : World} (h : Stm W lo bx bs a b c x y z p w) (ho : Own3 w' lo x' y' z' p') (hb : Below lo w w') (hk : Keep w w' x y z)
    (hr : ∀ j, Has x' y' z' j → (Has x y z j ∧ j < w.heap.size) ∨ w.heap.size + 1 + 1 + 1 ≤ j) : Stm W lo bx bs a b c x' y' z' p' w' := by
  have es : w'.heap[bs]? = w.heap[bs]? := hk.block bs h.sl h.ns
  have hl := h.low
  have hx := h.px.lt
  have hsl := h.sl
  refine ⟨h.px.same (hk.block bx h.px.lt h.nx) hk.size, h.rx.same (hb.block _ (by omega)) hk.size, (World.cell?_of_block (a := ⟨bs, 0, none⟩) es).trans h.s0, (World.cell?_of_block (a := ⟨bs, 1, none⟩) es).trans h.s1, (World.cell?_of_block (a := ⟨bs, 2, none⟩) es).trans h.s2, Nat.lt_of_lt_of_le h.sl hk.size, h.ne, ho, fun hh => ?_, fun hh => ?_, ⟨h.since.1.trans (hb.mono (by omega)), Nat.le_trans h.since.2 hk.size⟩, h.low, h.bl, h.sb⟩
  · rcases hr _ hh with ⟨h1, -⟩ | h1
    · exact h.nx h1
    · omega
  · rcases hr _ hh with ⟨h1, -⟩ | h1
    · exact h.ns h1
    · omega
theorem Stm.put {W : World} {lo bx bs : Nat} {a b c x y z : Value} {p : PR} {w : World} (h : Stm W lo bx bs a b c x y z p w) : Stl W lo bx bs x y z p (((w.setCell ⟨bx, 0, none⟩ x).setCell ⟨bx, 1, none⟩ y).setCell ⟨bx, 2, none⟩ z) := by
  have e : ∀ j, j ≠ bx → (((w.setCell ⟨bx, 0, none⟩ x).setCell ⟨bx, 1, none⟩ y).setCell ⟨bx, 2, none⟩ z).heap[j]? = w.heap[j]? := fun j hj => (Below.heap_setCell _ _ _ _ hj).trans ((Below.heap_setCell _ _ _ _ hj).trans (Below.heap_setCell _ _ _ _ hj))
  have hz : (((w.setCell ⟨bx, 0, none⟩ x).setCell ⟨bx, 1, none⟩ y).setCell ⟨bx, 2, none⟩ z).heap.size = w.heap.size := by simp [World.setCell]
  have hl := h.low
  have hbl := h.bl
  refine ⟨((h.px.put0 _).put1 _).put2 _, h.rx.same (e _ (by omega)) (Nat.le_of_eq hz.symm), (World.cell?_of_block (a := ⟨bs, 0, none⟩) (e _ h.ne)).trans h.s0, (World.cell?_of_block (a := ⟨bs, 1, none⟩) (e _ h.ne)).trans h.s1, (World.cell?_of_block (a := ⟨bs, 2, none⟩) (e _ h.ne)).trans h.s2, by rw [hz]; exact h.sl, h.ne, h.own.same fun j hj => e j (fun e' => h.nx (e' ▸ hj)), h.nx, h.ns, ⟨((h.since.1.setCell (by show _ ≤ bx; omega) _).setCell (by show _ ≤ bx; omega) _).setCell (by show _ ≤ bx; omega) _, by rw [hz]; exact h.since.2⟩, h.low, h.bl, h.sb⟩
end Go.Proofs.Ytchddjidjfpehaa
