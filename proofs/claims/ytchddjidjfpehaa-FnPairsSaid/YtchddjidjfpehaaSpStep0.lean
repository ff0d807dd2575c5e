/-
  What holds as 'l3Step' of the model goes on: the pair's box, the step's, the answer's, and the rows.
-/
import Derived.Test.YtchddjidjfpehaaTick
import Derived.Test.YtchddjidjfpehaaJl
namespace Go.Proofs.Ytchddjidjfpehaa
open Go.RowKit

structure Stp (W : World) (B : Nat) (x y z x' y' z' : Value) (kind k : Int) (q : PR) (w : World) : Prop where
  px : Bx3 w W.heap.size x' y' z'
  sx : Bx2 w (W.heap.size + 1) (.int .i64 kind) (.int .i64 k)
  rx : Bx3 w (W.heap.size + 1 + 1) (.slice none 0 0) (.slice none 0 0) (.slice none 0 0)
  own : Own3 w B x' y' z' q
  below : Below B W w
  keep : Keep W w x y z
  rows : ∀ j, Has x' y' z' j → (Has x y z j ∧ j < W.heap.size) ∨ W.heap.size + 1 + 1 + 1 ≤ j
  bB : B ≤ W.heap.size
theorem Stp.lt2 {W : World} {B : Nat} {x y z x' y' z' : Value} {kind k : Int} {q : PR} {w : World} (h : Stp W B x y z x' y' z' kind k q w) : W.heap.size + 1 + 1 + 1 ≤ w.heap.size := h.rx.lt
theorem Stp.base {W : World} {B : Nat} {x y z x' y' z' : Value} {kind k : Int} {q : PR} {w : World} (h : Stp W B x y z x' y' z' kind k q w) : B ≤ w.heap.size := by have := h.lt2; have := h.bB; omega
theorem Stp.step {W : World} {B : Nat} {x y z x' y' z' : Value} {kind k : Int} {q : PR} {w w' : World} (h : Stp W B x y z x' y' z' kind k q w) (hb : Below w.heap.size w w') : Stp W B x y z x' y' z' kind k q w' :=
  ⟨h.px.below hb, h.sx.below hb, h.rx.below hb, h.own.below hb, h.below.trans (hb.mono h.base), ⟨Nat.le_trans h.keep.size hb.size, fun b hl hn => (hb.block b (Nat.lt_of_lt_of_le hl h.keep.size)).trans (h.keep.block b hl hn)⟩, h.rows, h.bB⟩
theorem Stp.drew {W : World} {B : Nat} {x y z x' y' z' : Value} {kind k : Int} {q : PR} {w : World} (h : Stp W B x y z x' y' z' kind k q w) : Stp W B x y z x' y' z' kind k q w.drew := h.step ((Below.refl _ w).drew)

theorem Stp.start {W : World} {B : Nat} {x y z : Value} {p : PR} (kind k : Int) (h : Own3 W B x y z p) (hB : B ≤ W.heap.size) :
    Stp W B x y z x y z kind k p (((W.alloc (.cells #[x, y, z] 40)).alloc (.cells #[.int .i64 kind, .int .i64 k] 53)).alloc (.cells #[.slice none 0 0, .slice none 0 0, .slice none 0 0] 40)) := by
  have e0 : (W.alloc (.cells #[x, y, z] 40)).heap.size = W.heap.size + 1 := by simp
  have e1 : ((W.alloc (.cells #[x, y, z] 40)).alloc (.cells #[.int .i64 kind, .int .i64 k] 53)).heap.size = W.heap.size + 1 + 1 := by simp
  have hb : Below W.heap.size W (((W.alloc (.cells #[x, y, z] 40)).alloc (.cells #[.int .i64 kind, .int .i64 k] 53)).alloc (.cells #[.slice none 0 0, .slice none 0 0, .slice none 0 0] 40)) := (((Below.refl _ W).alloc (Nat.le_refl _) _).alloc (by simp) _).alloc (by simp; omega) _
  refine ⟨((Bx3.new W x y z 40).below ((Below.refl _ _).alloc (Nat.le_refl _) _)).below ((Below.refl _ _).alloc (Nat.le_refl _) _), ?_, ?_, h.below hb, hb.mono hB, ⟨hb.size, fun b hl _ => hb.block b hl⟩, fun j hj => .inl ⟨hj, (h.lt j hj).2⟩, hB⟩
  · have := (Bx2.new (W.alloc (.cells #[x, y, z] 40)) (.int .i64 kind) (.int .i64 k) 53).below ((Below.refl _ _).alloc (Nat.le_refl _) (.cells #[.slice none 0 0, .slice none 0 0, .slice none 0 0] 40))
    rw [e0] at this
    exact this
  · have := Bx3.new ((W.alloc (.cells #[x, y, z] 40)).alloc (.cells #[.int .i64 kind, .int .i64 k] 53)) (.slice none 0 0) (.slice none 0 0) (.slice none 0 0) 40
    rw [e1] at this
    exact this

/-- The own row of a value is none of the three boxes. -/
theorem Stp.box {W : World} {B : Nat} {x y z x' y' z' : Value} {kind k : Int} {q : PR} {w : World} (h : Stp W B x y z x' y' z' kind k q w) {j : Nat} (h0 : W.heap.size ≤ j) (h1 : j < W.heap.size + 1 + 1 + 1) : ¬ Has x' y' z' j := fun hh => by
  rcases h.rows j hh with ⟨-, hl⟩ | hl <;> omega

/-- What changes rows and nothing else. -/
theorem Stp.moved {W : World} {B : Nat} {x y z x' y' z' : Value} {kind k : Int} {q q' : PR} {w w' : World} (h : Stp W B x y z x' y' z' kind k q w) (hz : w.heap.size ≤ w'.heap.size) (hk : ∀ j, j < w.heap.size → ¬ Has x' y' z' j → w'.heap[j]? = w.heap[j]?)
    (hb : Below B w w') (ho : Own3 w' B x' y' z' q') : Stp W B x y z x' y' z' kind k q' w' := by
  have hl := h.lt2
  refine ⟨h.px.same (hk _ (by omega) (h.box (Nat.le_refl _) (by omega))) hz, h.sx.same (hk _ (by omega) (h.box (by omega) (by omega))) hz, h.rx.same (hk _ (by omega) (h.box (by omega) (by omega))) hz, ho, h.below.trans hb, ⟨Nat.le_trans h.keep.size hz, fun b hl hn => ?_⟩, h.rows, h.bB⟩
  refine (hk b (Nat.lt_of_lt_of_le hl h.keep.size) (fun hh => ?_)).trans (h.keep.block b hl hn)
  rcases h.rows b hh with ⟨h1, -⟩ | h1
  · exact hn h1
  · omega
theorem Stp.wrote {W : World} {B : Nat} {x y z x' y' z' : Value} {kind k : Int} {q q' : PR} {w w' : World} (h : Stp W B x y z x' y' z' kind k q w) (hw : Wrote w w' B x' y') (ho : Own3 w' B x' y' z' q') : Stp W B x y z x' y' z' kind k q' w' :=
  h.moved hw.size (fun j hj hn => hw.block j hj (fun e => hn (.inl e)) (fun e => hn (.inr (.inl e)))) hw.below ho
theorem Stp.setSt {W : World} {B r n c : Nat} {x y z y' z' : Value} {kind k : Int} {q : PR} {w : World} (h : Stp W B x y z (.slice (some ⟨r, 0, none⟩) n c) y' z' kind k q w) (i : Nat) (v : Int) (hn : n = q.st.length) : Stp W B x y z (.slice (some ⟨r, 0, none⟩) n c) y' z' kind k ⟨q.st.set i v, q.lf, q.ln⟩ (w.setCell ⟨r, i, none⟩ (.int .i64 v)) :=
  h.moved (by rw [show (w.setCell ⟨r, i, none⟩ (.int .i64 v)).heap.size = w.heap.size from by simp [World.setCell]]; exact Nat.le_refl _) (fun j _ hn => Below.heap_setCell _ _ _ _ (fun e => hn (.inl (by rw [e]; rfl)))) ((Below.refl _ w).setCell (h.own.lt r (.inl rfl)).1 _) (h.own.setSt i v hn)
theorem Stp.setLf {W : World} {B r n c : Nat} {x y z x' z' : Value} {kind k : Int} {q : PR} {w : World} (h : Stp W B x y z x' (.slice (some ⟨r, 0, none⟩) n c) z' kind k q w) (i : Nat) (v : Int) (hn : n = q.lf.length) : Stp W B x y z x' (.slice (some ⟨r, 0, none⟩) n c) z' kind k ⟨q.st, q.lf.set i v, q.ln⟩ (w.setCell ⟨r, i, none⟩ (.int .i64 v)) :=
  h.moved (by rw [show (w.setCell ⟨r, i, none⟩ (.int .i64 v)).heap.size = w.heap.size from by simp [World.setCell]]; exact Nat.le_refl _) (fun j _ hn => Below.heap_setCell _ _ _ _ (fun e => hn (.inr (.inl (by rw [e]; rfl))))) ((Below.refl _ w).setCell (h.own.lt r (.inr (.inl rfl))).1 _) (h.own.setLf i v hn)

/-- The line is set anew. -/
theorem Stp.line {W : World} {B : Nat} {x y z x' y' z' : Value} {kind k : Int} {q : PR} {w : World} (h : Stp W B x y z x' y' z' kind k q w) {w' : World} {v' : Value} {ln' : List HD}
    (hz : w.heap.size ≤ w'.heap.size) (hk : ∀ j, j < w.heap.size → z'.ownBlock ≠ some j → w'.heap[j]? = w.heap[j]?) (hb : Below B w w') (ho : OwnH w' B v' ln')
    (hv : v'.ownBlock = z'.ownBlock ∨ ∀ j, v'.ownBlock = some j → W.heap.size + 1 + 1 + 1 ≤ j) : Stp W B x y z x' y' v' kind k ⟨q.st, q.lf, ln'⟩ (w'.setCell ⟨W.heap.size, 2, none⟩ v') := by
  have hl := h.lt2
  have hs : w.heap.size ≤ (w'.setCell ⟨W.heap.size, 2, none⟩ v').heap.size := by rw [show (w'.setCell ⟨W.heap.size, 2, none⟩ v').heap.size = w'.heap.size from by simp [World.setCell]]; exact hz
  have hrow : ∀ j, Has x' y' v' j → (Has x y z j ∧ j < W.heap.size) ∨ W.heap.size + 1 + 1 + 1 ≤ j := by
    rintro j (e | e | e)
    · exact h.rows j (.inl e)
    · exact h.rows j (.inr (.inl e))
    · rcases hv with e' | e'
      · exact h.rows j (.inr (.inr (e'.symm.trans e)))
      · exact .inr (e' j e)
  have hset : ∀ j, j ≠ W.heap.size → (w'.setCell ⟨W.heap.size, 2, none⟩ v').heap[j]? = w'.heap[j]? := fun j hj => Below.heap_setCell _ _ _ _ hj
  have hzn : ∀ j, W.heap.size ≤ j → j < W.heap.size + 1 + 1 + 1 → z'.ownBlock ≠ some j := fun j h0 h1 e => h.box h0 h1 (.inr (.inr e))
  have hrn : ∀ j, Has x' y' v' j → j ≠ W.heap.size := fun j hj e => by rcases hrow j hj with ⟨-, h1⟩ | h1 <;> omega
  refine ⟨?_, ?_, ?_, ?_, ?_, ⟨Nat.le_trans h.keep.size hs, fun b hbl hn => ?_⟩, hrow, h.bB⟩
  · have : Bx3 w' W.heap.size x' y' z' := h.px.same (hk _ (by omega) (hzn _ (by omega) (by omega))) hz
    exact this.put2 _
  · exact h.sx.same ((hset _ (by omega)).trans (hk _ (by omega) (hzn _ (by omega) (by omega)))) hs
  · exact h.rx.same ((hset _ (by omega)).trans (hk _ (by omega) (hzn _ (by omega) (by omega)))) hs
  · have stOwn : Own w' B x' q.st := row_same h.own.st fun j hj => hk j (World.ownsRow.lt h.own.st j hj).2 (fun e => hello_apart h.own.ln h.own.st j e hj)
    have lfOwn : Own w' B y' q.lf := row_same h.own.lf fun j hj => hk j (World.ownsRow.lt h.own.lf j hj).2 (fun e => hello_apart h.own.ln h.own.lf j e hj)
    exact ⟨row_same stOwn fun j hj => hset j (hrn j (.inl hj)), row_same lfOwn fun j hj => hset j (hrn j (.inr (.inl hj))), row_same ho fun j hj => hset j (hrn j (.inr (.inr hj))), h.own.apart⟩
  · exact (h.below.trans hb).setCell h.bB _
  · refine (hset b (by omega)).trans ((hk b (Nat.lt_of_lt_of_le hbl h.keep.size) (fun e => ?_)).trans (h.keep.block b hbl hn))
    rcases h.rows b (.inr (.inr e)) with ⟨h1, -⟩ | h1
    · exact hn h1
    · omega

/-- An append onto a row that is none of the pair's. -/
theorem Stp.grow {W : World} {B : Nat} {x y z x' y' z' : Value} {kind k : Int} {q : PR} {w w' : World} {row : Option Nat} (h : Stp W B x y z x' y' z' kind k q w) (hg : w.grownBy w' row) (hrow : ∀ j, row = some j → W.heap.size + 1 + 1 + 1 ≤ j ∧ ¬ Has x' y' z' j) : Stp W B x y z x' y' z' kind k q w' := by
  have hl := h.lt2
  have hlow : ∀ j, j < W.heap.size + 1 + 1 + 1 → w'.heap[j]? = w.heap[j]? := fun j hj => hg.block j (by omega) (fun e => by have := (hrow j e.symm).1; omega)
  have hrows : ∀ j, Has x' y' z' j → w'.heap[j]? = w.heap[j]? := fun j hj => hg.block j (h.own.lt j hj).2 (fun e => (hrow j e.symm).2 hj)
  refine ⟨h.px.same (hlow _ (by omega)) hg.size, h.sx.same (hlow _ (by omega)) hg.size, h.rx.same (hlow _ (by omega)) hg.size, h.own.same hrows, (h.below.grown hg h.base (fun j hj => by have := (hrow j hj).1; have := h.bB; omega)), ⟨Nat.le_trans h.keep.size hg.size, fun b hb hn => (hlow b (by omega)).trans (h.keep.block b hb hn)⟩, h.rows, h.bB⟩
/-- An append onto the line, ahead of its store. -/
theorem Stp.mid {W : World} {B : Nat} {x y z x' y' z' : Value} {kind k : Int} {q : PR} {w : World} (h : Stp W B x y z x' y' z' kind k q w) {w' : World} {v' : Value} {ln' : List HD} (hg : GrewH w B z' ln' v' w') :
    Bx3 w' W.heap.size x' y' z' ∧ Bx2 w' (W.heap.size + 1) (.int .i64 kind) (.int .i64 k) ∧ Own w' B x' q.st ∧ Stp W B x y z x' y' v' kind k ⟨q.st, q.lf, ln'⟩ (w'.setCell ⟨W.heap.size, 2, none⟩ v') := by
  have hl := h.lt2
  have hk : ∀ j, j < w.heap.size → z'.ownBlock ≠ some j → w'.heap[j]? = w.heap[j]? := fun j hj hn => hg.grown.block j hj (fun e => hn e.symm)
  have hzn : ∀ j, W.heap.size ≤ j → j < W.heap.size + 1 + 1 + 1 → z'.ownBlock ≠ some j := fun j h0 h1 e => h.box h0 h1 (.inr (.inr e))
  refine ⟨h.px.same (hk _ (by omega) (hzn _ (by omega) (by omega))) hg.size, h.sx.same (hk _ (by omega) (hzn _ (by omega) (by omega))) hg.size, row_same h.own.st fun j hj => hk j (World.ownsRow.lt h.own.st j hj).2 (fun e => hello_apart h.own.ln h.own.st j e hj), h.line hg.size hk hg.below hg.own (hg.lies.imp id fun e j hj => ?_)⟩
  rw [e] at hj
  simp at hj
  omega

/-- What 'l3Step' leaves. -/
def StpPost (W : World) (B : Nat) (x y z : Value) (q : PR) (ok : Bool) (e : Ending) (W' : World) : Prop :=
  ∃ x' y' z', e = .returned (.tuple #[.agg #[x', y', z'], .bool ok]) ∧ Own3 W' B x' y' z' q ∧ Below B W W' ∧ Keep W W' x y z ∧ ∀ j, Has x' y' z' j → (Has x y z j ∧ j < W.heap.size) ∨ W.heap.size + 1 + 1 + 1 ≤ j

theorem Stp.fin {W : World} {B : Nat} {x y z x' y' z' : Value} {kind k : Int} {q : PR} {w : World} (h : Stp W B x y z x' y' z' kind k q w) (ok : Bool) :
    StpPost W B x y z q ok (.returned (.tuple #[.agg #[x', y', z'], .bool ok])) (((w.setCell ⟨W.heap.size + 1 + 1, 0, none⟩ x').setCell ⟨W.heap.size + 1 + 1, 1, none⟩ y').setCell ⟨W.heap.size + 1 + 1, 2, none⟩ z') := by
  have hn : ¬ Has x' y' z' (W.heap.size + 1 + 1) := h.box (by omega) (by omega)
  have hb : B ≤ W.heap.size + 1 + 1 := by have := h.bB; omega
  refine ⟨_, _, _, rfl, ((h.own.away (a := ⟨W.heap.size + 1 + 1, 0, none⟩) hn _).away (a := ⟨W.heap.size + 1 + 1, 1, none⟩) hn _).away (a := ⟨W.heap.size + 1 + 1, 2, none⟩) hn _, ((h.below.setCell (p := ⟨W.heap.size + 1 + 1, 0, none⟩) hb _).setCell (p := ⟨W.heap.size + 1 + 1, 1, none⟩) hb _).setCell (p := ⟨W.heap.size + 1 + 1, 2, none⟩) hb _, ⟨?_, fun b hl hh => ?_⟩, h.rows⟩
  · have := h.keep.size
    simpa [World.setCell] using this
  · refine (Below.heap_setCell _ _ _ _ (by show b ≠ _; simp; omega)).trans ((Below.heap_setCell _ _ _ _ (by show b ≠ _; simp; omega)).trans ((Below.heap_setCell _ _ _ _ (by show b ≠ _; simp; omega)).trans (h.keep.block b hl hh)))
end Go.Proofs.Ytchddjidjfpehaa
