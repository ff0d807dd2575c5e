/-
  Pairs in memory, and what the laws' functions over them answer: 'szPair', 'toPair', 'toPairStep', 'eqPair', 'markPair', 'heldPair'.
-/
import Derived.Test.YthdcfeafkellcaaHelloLaw
namespace Go.Proofs.Ythdcfeafkellcaa
open Go.RowKit

/-- Three cells at a block's head, free to be written. -/
structure Bx3 (W : World) (b : Nat) (x y z : Value) : Prop where
  lt : b < W.heap.size
  c0 : W.cell? ⟨b, 0, none⟩ = some x
  c1 : W.cell? ⟨b, 1, none⟩ = some y
  c2 : W.cell? ⟨b, 2, none⟩ = some z
  fz : ∀ j, W.frozen? ⟨b, j, none⟩ = false
theorem Bx3.below {W W' : World} {b : Nat} {x y z : Value} (h : Bx3 W b x y z) (hb : Below W.heap.size W W') : Bx3 W' b x y z :=
  ⟨Nat.lt_of_lt_of_le h.lt hb.size, (hb.cell (p := ⟨b, 0, none⟩) h.lt).trans h.c0, (hb.cell (p := ⟨b, 1, none⟩) h.lt).trans h.c1, (hb.cell (p := ⟨b, 2, none⟩) h.lt).trans h.c2, fun j => (hb.frozen (p := ⟨b, j, none⟩) h.lt).trans (h.fz j)⟩
theorem Bx3.new (W : World) (x y z : Value) (t : TypeId) : Bx3 (W.alloc (.cells #[x, y, z] t)) W.heap.size x y z := by
  refine ⟨by simp, ?_, ?_, ?_, fun j => ?_⟩
  · rw [World.cell?_alloc_at _ _ _ _ rfl]; rfl
  · rw [World.cell?_alloc_at _ _ _ _ rfl]; rfl
  · rw [World.cell?_alloc_at _ _ _ _ rfl]; rfl
  · exact World.frozen?_alloc_at _ _ _ _ rfl
theorem Bx3.other {W : World} {b : Nat} {x y z : Value} (h : Bx3 W b x y z) {p : Addr} (hp : p.block ≠ b) (u : Value) : Bx3 (W.setCell p u) b x y z := by
  have e : ∀ j, (W.setCell p u).cell? ⟨b, j, none⟩ = W.cell? ⟨b, j, none⟩ := fun j => World.cell?_of_block (Below.heap_setCell _ _ _ _ (fun e => hp e.symm))
  exact ⟨by simpa [World.setCell] using h.lt, (e 0).trans h.c0, (e 1).trans h.c1, (e 2).trans h.c2, fun j => (World.frozen?_of_block (Below.heap_setCell _ _ _ _ (fun e => hp e.symm))).trans (h.fz j)⟩
theorem Bx3.put0 {W : World} {b : Nat} {x y z : Value} (h : Bx3 W b x y z) (u : Value) : Bx3 (W.setCell ⟨b, 0, none⟩ u) b u y z :=
  ⟨by simpa [World.setCell] using h.lt, by simp [go_sem, h.c0], by simp [go_sem, h.c1], by simp [go_sem, h.c2], fun j => by simp [go_sem, h.fz]⟩
theorem Bx3.put1 {W : World} {b : Nat} {x y z : Value} (h : Bx3 W b x y z) (u : Value) : Bx3 (W.setCell ⟨b, 1, none⟩ u) b x u z :=
  ⟨by simpa [World.setCell] using h.lt, by simp [go_sem, h.c0], by simp [go_sem, h.c1], by simp [go_sem, h.c2], fun j => by simp [go_sem, h.fz]⟩
theorem Bx3.put2 {W : World} {b : Nat} {x y z : Value} (h : Bx3 W b x y z) (u : Value) : Bx3 (W.setCell ⟨b, 2, none⟩ u) b x y u :=
  ⟨by simpa [World.setCell] using h.lt, by simp [go_sem, h.c0], by simp [go_sem, h.c1], by simp [go_sem, h.c2], fun j => by simp [go_sem, h.fz]⟩

/-- The three slices of a pair read as its data. -/
structure Reads3 (W : World) (x y z : Value) (p : PR) : Prop where
  st : Reads W x p.st
  lf : Reads W y p.lf
  ln : ReadsH W z p.ln
theorem Reads3.below {W W' : World} {x y z : Value} {p : PR} (h : Reads3 W x y z p) (hb : Below W.heap.size W W') : Reads3 W' x y z p := ⟨h.st.below hb, h.lf.below hb, h.ln.below hb⟩

/-- The three slices of a pair own its data, no two of them one block. -/
structure Own3 (W : World) (B : Nat) (x y z : Value) (p : PR) : Prop where
  st : Own W B x p.st
  lf : Own W B y p.lf
  ln : OwnH W B z p.ln
  apart : ∀ k, x.ownBlock = some k → y.ownBlock ≠ some k
theorem Own3.below {W W' : World} {B : Nat} {x y z : Value} {p : PR} (h : Own3 W B x y z p) (hb : Below W.heap.size W W') : Own3 W' B x y z p := ⟨h.st.below hb, h.lf.below hb, h.ln.below hb, h.apart⟩
theorem Own3.mono {W : World} {B B' : Nat} {x y z : Value} {p : PR} (h : Own3 W B x y z p) (hB : B' ≤ B) : Own3 W B' x y z p := ⟨h.st.mono hB, h.lf.mono hB, h.ln.mono hB, h.apart⟩
theorem Own3.reads {W : World} {B : Nat} {x y z : Value} {p : PR} (h : Own3 W B x y z p) : Reads3 W x y z p := ⟨h.st.reads, h.lf.reads, h.ln.reads⟩
theorem Own3.nil (W : World) (B : Nat) : Own3 W B (.slice none 0 0) (.slice none 0 0) (.slice none 0 0) noP := ⟨Own.nil W B, Own.nil W B, OwnH.nil W B, fun k hk => by simp [Value.ownBlock] at hk⟩
theorem Own3.setCell {W : World} {B : Nat} {x y z : Value} {p : PR} (h : Own3 W B x y z p) {a : Addr} (ha : a.block < B) (u : Value) : Own3 (W.setCell a u) B x y z p := ⟨h.st.setCell ha u, h.lf.setCell ha u, h.ln.setCell ha u, h.apart⟩

/-- A block among the own blocks of three values. -/
def Has (x y z : Value) (j : Nat) : Prop := x.ownBlock = some j ∨ y.ownBlock = some j ∨ z.ownBlock = some j
/-- What goes on in the own blocks of three values alone. -/
structure Keep (W W' : World) (x y z : Value) : Prop where
  size : W.heap.size ≤ W'.heap.size
  block : ∀ b, b < W.heap.size → ¬ Has x y z b → W'.heap[b]? = W.heap[b]?
theorem Own3.lt {W : World} {B : Nat} {x y z : Value} {p : PR} (h : Own3 W B x y z p) (k : Nat) (hk : Has x y z k) : B ≤ k ∧ k < W.heap.size := by
  rcases hk with hk | hk | hk
  · exact World.ownsRow.lt h.st k hk
  · exact World.ownsRow.lt h.lf k hk
  · exact World.ownsRow.lt h.ln k hk
theorem row_same {W W' : World} {B : Nat} {e : TypeId} {size : Nat} {v : Value} {n : Nat} {xs : List Value} (h : W.ownsRow B e size v n xs) (he : ∀ k, v.ownBlock = some k → W'.heap[k]? = W.heap[k]?) : W'.ownsRow B e size v n xs := by
  refine ⟨h.1, ?_⟩
  rcases h.2 with hn | ⟨g, cap, cur, hv, h1, hg, hrest⟩
  · exact .inl hn
  · exact .inr ⟨g, cap, cur, hv, h1, (he g (by rw [hv]; rfl)).trans hg, hrest⟩
theorem Own3.same {W W' : World} {B : Nat} {x y z : Value} {p : PR} (h : Own3 W B x y z p) (he : ∀ k, Has x y z k → W'.heap[k]? = W.heap[k]?) : Own3 W' B x y z p :=
  ⟨row_same h.st fun k hk => he k (.inl hk), row_same h.lf fun k hk => he k (.inr (.inl hk)), row_same h.ln fun k hk => he k (.inr (.inr hk)), h.apart⟩
theorem Own3.keep {W W' : World} {B : Nat} {x y z x' y' z' : Value} {p : PR} (h : Own3 W B x y z p) (hk : Keep W W' x' y' z') (hne : ∀ k, Has x y z k → ¬ Has x' y' z' k) : Own3 W' B x y z p :=
  h.same fun k hx => hk.block k (h.lt k hx).2 (hne k hx)
theorem Bx3.keep {W W' : World} {b : Nat} {x y z x' y' z' : Value} (h : Bx3 W b x y z) (hk : Keep W W' x' y' z') (hne : ¬ Has x' y' z' b) : Bx3 W' b x y z := by
  have e := hk.block b h.lt hne
  exact ⟨Nat.lt_of_lt_of_le h.lt hk.size, (World.cell?_of_block e).trans h.c0, (World.cell?_of_block e).trans h.c1, (World.cell?_of_block e).trans h.c2, fun j => (World.frozen?_of_block e).trans (h.fz j)⟩

/-- What a pair leaves of a measure. -/
def szPr (p : PR) (left : Int) : Int := if (p.st.length : Int) + (p.lf.length : Int) + (p.ln.length : Int) ≤ left then left - (p.st.length : Int) - (p.lf.length : Int) - (p.ln.length : Int) else -1

theorem szPr_fit (p : PR) (h : ¬ szPr p 1048576 < 0) : p.st.length ≤ 1048576 ∧ p.lf.length ≤ 1048576 ∧ p.ln.length ≤ 1048576 := by
  unfold szPr at h
  by_cases hle : (p.st.length : Int) + (p.lf.length : Int) + (p.ln.length : Int) ≤ 1048576
  · exact ⟨by omega, by omega, by omega⟩
  · rw [if_neg hle] at h; omega
end Go.Proofs.Ythdcfeafkellcaa
