/-
  What holds as 'afterStep' goes on: the pair that came in, the step, the answer's box, and the copy that is being changed.
-/
import Derived.Test.YtchddjidjfpehatHear
import Derived.Test.YtchddjidjfpehatLineW
import Derived.Test.YtchddjidjfpehatSidesB
namespace Go.Proofs.Ytchddjidjfpehat
open Go.RowKit

structure Aft (W : World) (b : Nat) (x y z x' y' z' : Value) (kind k : Int) (q : PR) (w : World) : Prop where
  px : Bx3 w W.heap.size x y z
  sx : Bx2 w (W.heap.size + 1) (.int .i64 kind) (.int .i64 k)
  rx : Bx3 w (W.heap.size + 1 + 1) (.slice none 0 0) (.slice none 0 0) (.slice none 0 0)
  nx : Bx3 w b x' y' z'
  own : Own3 w (W.heap.size + 1 + 1 + 1) x' y' z' q
  sep : ¬ Has x' y' z' b
  lt : W.heap.size + 1 + 1 + 1 ≤ b
  below : Below W.heap.size W w
theorem Aft.step {W : World} {b : Nat} {x y z x' y' z' : Value} {kind k : Int} {q : PR} {w w' : World} (h : Aft W b x y z x' y' z' kind k q w) (hb : Below w.heap.size w w') : Aft W b x y z x' y' z' kind k q w' :=
  ⟨h.px.below hb, h.sx.below hb, h.rx.below hb, h.nx.below hb, h.own.below hb, h.sep, h.lt, h.below.trans (hb.mono h.below.size)⟩
theorem Aft.drew {W : World} {b : Nat} {x y z x' y' z' : Value} {kind k : Int} {q : PR} {w : World} (h : Aft W b x y z x' y' z' kind k q w) : Aft W b x y z x' y' z' kind k q w.drew := h.step ((Below.refl _ w).drew)
theorem Aft.lt2 {W : World} {b : Nat} {x y z x' y' z' : Value} {kind k : Int} {q : PR} {w : World} (h : Aft W b x y z x' y' z' kind k q w) : W.heap.size + 1 + 1 + 1 ≤ w.heap.size := Nat.le_trans h.lt (Nat.le_of_lt h.nx.lt)

/-- The copy is laid, and its box. -/
theorem Aft.start {W w1 : World} {x y z x' y' z' : Value} {kind k : Int} {p : PR}
    (hb : Below (W.heap.size + 1 + 1 + 1) (((W.alloc (.cells #[x, y, z] 25)).alloc (.cells #[.int .i64 kind, .int .i64 k] 41)).alloc (.cells #[.slice none 0 0, .slice none 0 0, .slice none 0 0] 25)) w1)
    (ho : Own3 w1 (W.heap.size + 1 + 1 + 1) x' y' z' p) : Aft W w1.heap.size x y z x' y' z' kind k p (w1.alloc (.cells #[x', y', z'] 25)) := by
  have e0 : (W.alloc (.cells #[x, y, z] 25)).heap.size = W.heap.size + 1 := by simp
  have e1 : ((W.alloc (.cells #[x, y, z] 25)).alloc (.cells #[.int .i64 kind, .int .i64 k] 41)).heap.size = W.heap.size + 1 + 1 := by simp
  have e2 : (((W.alloc (.cells #[x, y, z] 25)).alloc (.cells #[.int .i64 kind, .int .i64 k] 41)).alloc (.cells #[.slice none 0 0, .slice none 0 0, .slice none 0 0] 25)).heap.size = W.heap.size + 1 + 1 + 1 := by simp
  have hb' := hb
  rw [← e2] at hb'
  have hbn : Below w1.heap.size w1 (w1.alloc (.cells #[x', y', z'] 25)) := (Below.refl _ w1).alloc (Nat.le_refl _) _
  have hz : W.heap.size + 1 + 1 + 1 ≤ w1.heap.size := by rw [← e2]; exact hb'.size
  refine ⟨?_, ?_, ?_, Bx3.new _ _ _ _ _, ho.below hbn, fun hh => ?_, hz, ?_⟩
  · exact ((((Bx3.new W x y z 25).below ((Below.refl _ _).alloc (Nat.le_refl _) _)).below ((Below.refl _ _).alloc (Nat.le_refl _) _)).below hb').below hbn
  · have := (((Bx2.new (W.alloc (.cells #[x, y, z] 25)) (.int .i64 kind) (.int .i64 k) 41).below ((Below.refl _ _).alloc (Nat.le_refl _) _)).below hb').below hbn
    rw [e0] at this
    exact this
  · have := ((Bx3.new ((W.alloc (.cells #[x, y, z] 25)).alloc (.cells #[.int .i64 kind, .int .i64 k] 41)) (.slice none 0 0) (.slice none 0 0) (.slice none 0 0) 25).below hb').below hbn
    rw [e1] at this
    exact this
  · have := (ho.lt _ hh).2
    omega
  · exact ((((Below.refl _ W).alloc (Nat.le_refl _) _).alloc (by simp) _).alloc (by simp; omega) _).trans ((hb.mono (by omega)).trans (hbn.mono (by omega)))

theorem setCell_size (w : World) (a : Addr) (u : Value) : (w.setCell a u).heap.size = w.heap.size := by simp [World.setCell]

/-- The line is set anew. -/
theorem Aft.line {W : World} {b : Nat} {x y z x' y' z' : Value} {kind k : Int} {q : PR} {w : World} (h : Aft W b x y z x' y' z' kind k q w) {w' : World} {v' : Value} {ln' : List HD}
    (hz : w.heap.size ≤ w'.heap.size) (hk : ∀ j, j < w.heap.size → z'.ownBlock ≠ some j → w'.heap[j]? = w.heap[j]?) (hb : Below (W.heap.size + 1 + 1 + 1) w w') (ho : OwnH w' (W.heap.size + 1 + 1 + 1) v' ln')
    (hv : v'.ownBlock = z'.ownBlock ∨ ∀ j, v'.ownBlock = some j → w.heap.size ≤ j) : Aft W b x y z x' y' v' kind k ⟨q.st, q.lf, ln'⟩ (w'.setCell ⟨b, 2, none⟩ v') := by
  have hzb : ∀ j, z'.ownBlock = some j → W.heap.size + 1 + 1 + 1 ≤ j := fun j hj => (World.ownsRow.lt h.own.ln j hj).1
  have hlow : ∀ j, j < W.heap.size + 1 + 1 + 1 → (w'.setCell ⟨b, 2, none⟩ v').heap[j]? = w.heap[j]? := fun j hj => by
    have hl := h.lt
    rw [Below.heap_setCell _ _ _ _ (by show j ≠ b; omega)]
    exact hk j (by have := h.lt2; omega) (fun e => by have := hzb j e; omega)
  have hs : w.heap.size ≤ (w'.setCell ⟨b, 2, none⟩ v').heap.size := by rw [setCell_size]; exact hz
  have hsb : ∀ j, Has x' y' z' j → j ≠ b := fun j hj e => h.sep (e ▸ hj)
  have hvb : v'.ownBlock ≠ some b := by
    intro e
    rcases hv with e' | e'
    · exact h.sep (.inr (.inr (e'.symm.trans e)))
    · have := e' b e
      have := h.nx.lt
      omega
  refine ⟨h.px.same (hlow _ (by omega)) hs, h.sx.same (hlow _ (by omega)) hs, h.rx.same (hlow _ (by omega)) hs, ?_, ?_, ?_, h.lt, ?_⟩
  · have : Bx3 w' b x' y' z' := h.nx.same (hk b h.nx.lt (fun e => h.sep (.inr (.inr e)))) hz
    exact this.put2 _
  · have stOwn : Own w' (W.heap.size + 1 + 1 + 1) x' q.st := row_same h.own.st fun j hj => hk j (World.ownsRow.lt h.own.st j hj).2 (fun e => hello_apart h.own.ln h.own.st j e hj)
    have lfOwn : Own w' (W.heap.size + 1 + 1 + 1) y' q.lf := row_same h.own.lf fun j hj => hk j (World.ownsRow.lt h.own.lf j hj).2 (fun e => hello_apart h.own.ln h.own.lf j e hj)
    refine ⟨row_same stOwn fun j hj => ?_, row_same lfOwn fun j hj => ?_, row_same ho fun j hj => ?_, h.own.apart⟩
    · exact Below.heap_setCell _ _ _ _ (hsb j (.inl hj))
    · exact Below.heap_setCell _ _ _ _ (hsb j (.inr (.inl hj)))
    · exact Below.heap_setCell _ _ _ _ (fun e => hvb (hj.trans (congrArg some e)))
  · rintro (e | e | e)
    · exact h.sep (.inl e)
    · exact h.sep (.inr (.inl e))
    · exact hvb e
  · have hl := h.lt
    exact (h.below.trans (hb.mono (by omega))).setCell (by show W.heap.size ≤ b; omega) _

/-- One hello, laid into a block of its own, as what is appended. -/
theorem one_hello (w : World) (q : HD) : Source (w.alloc (.cells #[.int .i64 q.f, .bool q.h] 66)) (.slice (some ⟨w.heap.size, 0, none⟩) 1 1) [q].length (cellsH [q]) := by
  refine .inr ⟨_, _, rfl, fun j u hu => ?_⟩
  rw [add_at, Nat.zero_add, World.cell?_alloc_at _ _ _ _ rfl]
  simpa [cellsH] using hu
/-- One hello more on the line. -/
theorem say_line {W : World} {b : Nat} {x y z x' y' z' : Value} {kind k : Int} {q : PR} {w : World} (h : Aft W b x y z x' y' z' kind k q w) {w' : World} {v' : Value} {ln' : List HD} (hg : GrewH w (W.heap.size + 1 + 1 + 1) z' ln' v' w') :
    Aft W b x y z x' y' v' kind k ⟨q.st, q.lf, ln'⟩ (w'.setCell ⟨b, 2, none⟩ v') :=
  h.line hg.size (fun j hj hn => hg.grown.block j hj (fun e => hn e.symm)) hg.below hg.own (hg.lies.imp id fun e j hj => by rw [e] at hj; simp at hj; omega)
theorem say_box {W : World} {b : Nat} {x y z x' y' z' : Value} {kind k : Int} {q : PR} {w : World} (h : Aft W b x y z x' y' z' kind k q w) {w' : World} {v' : Value} {ln' : List HD} (hg : GrewH w (W.heap.size + 1 + 1 + 1) z' ln' v' w') : Bx3 w' b x' y' z' :=
  h.nx.same (hg.grown.block b h.nx.lt (fun e => h.sep (.inr (.inr e.symm)))) hg.size

/-- Sides are set anew. -/
theorem Aft.wrote {W : World} {b : Nat} {x y z x' y' z' : Value} {kind k : Int} {q q' : PR} {w w' : World} (h : Aft W b x y z x' y' z' kind k q w) (hw : Wrote w w' (W.heap.size + 1 + 1 + 1) x' y')
    (ho : Own3 w' (W.heap.size + 1 + 1 + 1) x' y' z' q') : Aft W b x y z x' y' z' kind k q' w' := by
  have hlow : ∀ j, j < W.heap.size + 1 + 1 + 1 → w'.heap[j]? = w.heap[j]? := fun j hj =>
    hw.block j (by have := h.lt2; omega) (fun e => by have := (h.own.lt j (.inl e)).1; omega) (fun e => by have := (h.own.lt j (.inr (.inl e))).1; omega)
  exact ⟨h.px.same (hlow _ (by omega)) hw.size, h.sx.same (hlow _ (by omega)) hw.size, h.rx.same (hlow _ (by omega)) hw.size, h.nx.same (hw.block b h.nx.lt (fun e => h.sep (.inl e)) (fun e => h.sep (.inr (.inl e)))) hw.size, ho, h.sep, h.lt, h.below.trans (hw.below.mono (by omega))⟩

/-- The end: the copy goes into the answer's box. -/
theorem Aft.fin {W : World} {b : Nat} {x y z x' y' z' : Value} {kind k : Int} {q : PR} {w : World} (h : Aft W b x y z x' y' z' kind k q w) :
    Own3 (((w.setCell ⟨W.heap.size + 1 + 1, 0, none⟩ x').setCell ⟨W.heap.size + 1 + 1, 1, none⟩ y').setCell ⟨W.heap.size + 1 + 1, 2, none⟩ z') W.heap.size x' y' z' q ∧
    Below W.heap.size W (((w.setCell ⟨W.heap.size + 1 + 1, 0, none⟩ x').setCell ⟨W.heap.size + 1 + 1, 1, none⟩ y').setCell ⟨W.heap.size + 1 + 1, 2, none⟩ z') :=
  ⟨(((h.own.setCell (by simp) _).setCell (by simp) _).setCell (by simp) _).mono (by omega), ((h.below.setCell (by simp; omega) _).setCell (by simp; omega) _).setCell (by simp; omega) _⟩
end Go.Proofs.Ytchddjidjfpehat
