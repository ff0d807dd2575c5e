/-
  Lists of steps and of bools: what a list of steps makes of a pair, and how both lists lie in memory.
-/
import Derived.Test.YtchddjidjfpehaaStepI
namespace Go.Proofs.Ytchddjidjfpehaa
open Go.RowKit

/-- A step's data. -/
structure ST where
  kd : Int
  k : Int
def oneP (p : PR) (s : ST) : PR := if canB p.ln s.kd s.k then stepP p s.kd s.k else p
def playP (p : PR) : List ST → PR
  | [] => p
  | s :: ss => playP (oneP p s) ss
def playB (p : PR) : List ST → List Bool
  | [] => []
  | s :: ss => canB p.ln s.kd s.k :: playB (oneP p s) ss
theorem playP_app : ∀ (a b : List ST) (p : PR), playP p (a ++ b) = playP (playP p a) b
  | [], _, _ => rfl
  | s :: ss, b, p => playP_app ss b (oneP p s)
theorem playB_app : ∀ (a b : List ST) (p : PR), playB p (a ++ b) = playB p a ++ playB (playP p a) b
  | [], _, _ => rfl
  | s :: ss, b, p => congrArg (canB p.ln s.kd s.k :: ·) (playB_app ss b (oneP p s))
theorem playB_len : ∀ (a : List ST) (p : PR), (playB p a).length = a.length
  | [], _ => rfl
  | s :: ss, p => by simp [playB, playB_len ss]
theorem one_good (p : PR) (s : ST) (h : goodPr p = true) : goodPr (oneP p s) = true := by
  unfold oneP
  split
  · next hc => exact step_good p s.kd s.k h hc
  · exact h
theorem play_good : ∀ (ss : List ST) (p : PR), goodPr p = true → goodPr (playP p ss) = true
  | [], _, h => h
  | s :: ss, p, h => play_good ss _ (one_good p s h)
theorem play_next (p : PR) (ss : List ST) (n : Nat) (h : n < ss.length) : playP p (ss.take (n + 1)) = oneP (playP p (ss.take n)) ss[n] ∧ playB p (ss.take (n + 1)) = playB p (ss.take n) ++ [canB (playP p (ss.take n)).ln ss[n].kd ss[n].k] := by
  rw [List.take_succ_eq_append_getElem h, playP_app, playB_app]
  exact ⟨rfl, rfl⟩

/-- The slice v reads as the steps ss. -/
def StepAt (W : World) (g o : Nat) (s : ST) : Prop := W.cell? ⟨g, o, none⟩ = some (.int .i64 s.kd) ∧ W.cell? ⟨g, o + 1, none⟩ = some (.int .i64 s.k)
def ReadsS (W : World) (v : Value) (ss : List ST) : Prop :=
  ∃ (a : Option Addr) (cap : Nat), v = .slice a ss.length cap ∧ (ss = [] ∨ ∃ g off, a = some ⟨g, off, none⟩ ∧ g < W.heap.size ∧ ∀ j (hj : j < ss.length), StepAt W g (off + j * 2) ss[j])
theorem StepAt.below {W W' : World} {g o : Nat} {x : ST} (h : StepAt W g o x) (hg : g < W.heap.size) (hb : Below W.heap.size W W') : StepAt W' g o x :=
  ⟨(hb.cell (p := ⟨g, o, none⟩) hg).trans h.1, (hb.cell (p := ⟨g, o + 1, none⟩) hg).trans h.2⟩

theorem info4 : (Try.prog.info? 4).map (fun i => (i.zero, i.size, i.bytes)) = some (some (.bool false), 1, 1) := by kernel_rfl

/-- The slice v owns the bools bs, in a block from B on. -/
def OwnB (W : World) (B : Nat) (v : Value) (bs : List Bool) : Prop := W.ownsRow B 4 1 v bs.length (bs.map Value.bool)
theorem OwnB.nil (W : World) (B : Nat) : OwnB W B (.slice none 0 0) [] := World.ownsRow_nil W B 4 1
theorem OwnB.below {W W' : World} {B : Nat} {v : Value} {bs : List Bool} (h : OwnB W B v bs) (hb : Below W.heap.size W W') : OwnB W' B v bs := row_same h fun k hk => hb.block k (World.ownsRow.lt h k hk).2
theorem OwnB.mono {W : World} {B B' : Nat} {v : Value} {bs : List Bool} (h : OwnB W B v bs) (hB : B' ≤ B) : OwnB W B' v bs := ⟨h.1, h.2.imp id fun ⟨g, cap, cur, hv, h1, hr⟩ => ⟨g, cap, cur, hv, Nat.le_trans hB h1, hr⟩⟩
theorem OwnB.setCell {W : World} {B : Nat} {v : Value} {bs : List Bool} (h : OwnB W B v bs) {a : Addr} (ha : a.block < B) (u : Value) : OwnB (W.setCell a u) B v bs := row_same h fun k hk => Below.heap_setCell _ _ _ _ (fun e => by have := (World.ownsRow.lt h k hk).1; omega)
theorem OwnB.shape {W : World} {B : Nat} {v : Value} {bs : List Bool} (h : OwnB W B v bs) : ∃ a cap, v = .slice a bs.length cap := by
  rcases h.2 with ⟨hv, hn⟩ | ⟨g, cap, cur, hv, -⟩
  · exact ⟨none, 0, by rw [hv, hn]⟩
  · exact ⟨_, _, hv⟩
/-- A row of bools is none of a pair's rows. -/
theorem bool_apart {W : World} {B B' : Nat} {v x y z : Value} {bs : List Bool} {p : PR} (hv : OwnB W B v bs) (h : Own3 W B' x y z p) : ∀ k, v.ownBlock = some k → ¬ Has x y z k := by
  have key : ∀ {e : TypeId} {size n : Nat} {u : Value} {xs : List Value}, W.ownsRow B' e size u n xs → e ≠ 4 → ∀ k, v.ownBlock = some k → u.ownBlock ≠ some k := by
    intro e size n u xs hx hne k hk hk2
    rcases hv.2 with ⟨rfl, -⟩ | ⟨g, cap, cur, rfl, -, hg, -⟩
    · simp [Value.ownBlock] at hk
    · rcases hx.2 with ⟨rfl, -⟩ | ⟨g', cap', cur', rfl, -, hg', -⟩
      · simp [Value.ownBlock] at hk2
      · simp only [Value.ownBlock, Option.some.injEq] at hk hk2
        subst hk
        subst hk2
        rw [hg] at hg'
        simp only [Option.some.injEq, Obj.cells.injEq] at hg'
        exact hne hg'.2.1.symm
  rintro k hk (e | e | e)
  · exact key h.st (by decide) k hk e
  · exact key h.lf (by decide) k hk e
  · exact key h.ln (by decide) k hk e

structure GrewB (w : World) (B : Nat) (v : Value) (bs : List Bool) (v' : Value) (w' : World) : Prop where
  own : OwnB w' B v' bs
  below : Below B w w'
  size : w.heap.size ≤ w'.heap.size
  grown : w.grownBy w' v.ownBlock
theorem run_catB (w : World) (B : Nat) (v : Value) (bs : List Bool) (b : Bool) (hown : OwnB (w.alloc (.cells #[.bool b] 4)) B v bs) (hl : bs.length ≤ 2097152) (hB : B ≤ w.heap.size) (ty : TypeId) :
    ∃ v' w', (Builtin.append_ #[41, 41] ty #[v, .slice (some ⟨w.heap.size, 0, none⟩) 1 1]).run Try.prog (w.alloc (.cells #[.bool b] 4)) = .ok v' w' ∧ GrewB (w.alloc (.cells #[.bool b] 4)) B v (bs ++ [b]) v' w' := by
  obtain ⟨i0, hi, hz0, hz1, hz2⟩ := info_parts info4
  have hB2 : B ≤ (w.alloc (.cells #[.bool b] 4)).heap.size := by simp; omega
  obtain ⟨v', w', hr, h1, h2, h3⟩ := run_cat (w.alloc (.cells #[.bool b] 4)) B 41 ty 4 i0 (.bool false) 1 1 Try.underlying41 hi hz0 hz1 hz2 rfl (by decide) v bs.length _ hown (.slice (some ⟨w.heap.size, 0, none⟩) 1 1) 1 [.bool b]
    (.inr ⟨_, _, rfl, fun j u hu => by
      rw [add_at, Nat.zero_add, World.cell?_alloc_at _ _ _ _ rfl]
      simpa using hu⟩) rfl (fun u hu => by simp at hu; subst hu; rfl) (by unfold maxLen; omega) (by omega) hB2
  refine ⟨v', w', hr, ?_, (Below.refl B _).grown h2 hB2 (fun k hk => (World.ownsRow.lt hown k hk).1), h2.size, h2⟩
  unfold OwnB
  rw [List.map_append, List.length_append]
  exact h1
end Go.Proofs.Ytchddjidjfpehaa
