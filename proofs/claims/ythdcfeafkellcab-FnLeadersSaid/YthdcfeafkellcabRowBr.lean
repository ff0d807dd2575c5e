/-
  Lists of bridges: how they lie in memory; 'append' onto them.
-/
import Derived.Test.YthdcfeafkellcabRow0
import Derived.Deep.RegionWith
import Derived.BigRegion
namespace Go.Proofs.Ythdcfeafkellcab
open Go.RowKit
set_option linter.unusedVariables false

/-- The data of one. -/
structure BrD where
  id : Int
  rank : Int
  up : Bool

theorem infoBr : (Try.prog.info? 35).map (fun i => (i.zero, i.size, i.bytes)) = some (some (.agg #[.int .i64 0, .int .i64 0, .bool false]), 3, 24) := by kernel_rfl

/-- At a place of a block lies one. -/
def BrAt (W : World) (g o : Nat) (x : BrD) : Prop := W.cell? ⟨g, o, none⟩ = some (.int .i64 x.id) ∧ W.cell? ⟨g, o + 1, none⟩ = some (.int .i64 x.rank) ∧ W.cell? ⟨g, o + 2, none⟩ = some (.bool x.up)
theorem BrAt.below {W W' : World} {g o : Nat} {x : BrD} (h : BrAt W g o x) (hg : g < W.heap.size) (hb : Below W.heap.size W W') : BrAt W' g o x :=
  ⟨(hb.cell (p := ⟨g, o, none⟩) hg).trans h.1, (hb.cell (p := ⟨g, o + 1, none⟩) hg).trans h.2.1, (hb.cell (p := ⟨g, o + 2, none⟩) hg).trans h.2.2⟩
/-- The slice v reads as the list hs. -/
def ReadsBr (W : World) (v : Value) (hs : List BrD) : Prop :=
  ∃ (a : Option Addr) (cap : Nat), v = .slice a hs.length cap ∧ (hs = [] ∨ ∃ g off, a = some ⟨g, off, none⟩ ∧ g < W.heap.size ∧ ∀ j (hj : j < hs.length), BrAt W g (off + j * 3) hs[j])
theorem ReadsBr.below {W W' : World} {v : Value} {hs : List BrD} (h : ReadsBr W v hs) (hb : Below W.heap.size W W') : ReadsBr W' v hs := by
  obtain ⟨a, cap, hv, hc⟩ := h
  refine ⟨a, cap, hv, hc.imp id ?_⟩
  rintro ⟨g, off, ha, hg, hcell⟩
  exact ⟨g, off, ha, Nat.lt_of_lt_of_le hg hb.size, fun j hj => (hcell j hj).below hg hb⟩
theorem ReadsBr.shape {W : World} {v : Value} {hs : List BrD} (h : ReadsBr W v hs) : ∃ a cap, v = .slice a hs.length cap := by obtain ⟨a, cap, hv, -⟩ := h; exact ⟨a, cap, hv⟩

/-- Their cells. -/
def cellsBr : List BrD → List Value
  | [] => []
  | x :: xs => .int .i64 x.id :: .int .i64 x.rank :: .bool x.up :: cellsBr xs
theorem cellsBr_len : ∀ hs : List BrD, (cellsBr hs).length = hs.length * 3
  | [] => rfl
  | x :: xs => by have := cellsBr_len xs; simp only [cellsBr, List.length_cons]; omega
theorem cellsBr_app : ∀ a b : List BrD, cellsBr (a ++ b) = cellsBr a ++ cellsBr b
  | [], b => rfl
  | x :: xs, b => by simp only [List.cons_append, cellsBr, cellsBr_app xs b]
theorem cellsBr_get : ∀ (hs : List BrD) (j : Nat) (hj : j < hs.length), (cellsBr hs)[j * 3]? = some (.int .i64 hs[j].id) ∧ (cellsBr hs)[j * 3 + 1]? = some (.int .i64 hs[j].rank) ∧ (cellsBr hs)[j * 3 + 2]? = some (.bool hs[j].up)
  | x :: xs, 0, _ => ⟨rfl, rfl, rfl⟩
  | x :: xs, j + 1, hj => by
    have := cellsBr_get xs j (by simpa using hj)
    have e : (j + 1) * 3 = j * 3 + 1 + 1 + 1 := by omega
    simp only [cellsBr, e, List.getElem?_cons_succ, List.getElem_cons_succ]
    exact this
theorem cellsBr_one : ∀ (hs : List BrD), ∀ u ∈ cellsBr hs, u.oneCell' = true
  | [], u, hu => by cases hu
  | x :: xs, u, hu => by
    simp only [cellsBr, List.mem_cons] at hu
    rcases hu with rfl | rfl | rfl | hu
    · rfl
    · rfl
    · rfl
    · exact cellsBr_one xs u hu
theorem cellsBr_set : ∀ (hs : List BrD) (i : Nat) (x : BrD) (h : i < hs.length), cellsBr (hs.set i x) = ((((cellsBr hs)).set (i * 3) (.int .i64 x.id)).set (i * 3 + 1) (.int .i64 x.rank)).set (i * 3 + 2) (.bool x.up)
  | y :: ys, 0, x, _ => rfl
  | y :: ys, i + 1, x, h => by
    have e : (i + 1) * 3 = i * 3 + 1 + 1 + 1 := by omega
    simp only [List.set_cons_succ, cellsBr, e]
    rw [cellsBr_set ys i x (by simpa using h)]
theorem cellsBr_set_id : ∀ (hs : List BrD) (i : Nat) (u : Int) (h : i < hs.length), cellsBr (hs.set i { hs[i] with id := u }) = (cellsBr hs).set (i * 3) (.int .i64 u)
  | y :: ys, 0, u, _ => rfl
  | y :: ys, i + 1, u, h => by
    have e : (i + 1) * 3 = i * 3 + 1 + 1 + 1 := by omega
    simp only [List.set_cons_succ, cellsBr, List.getElem_cons_succ, e]
    rw [cellsBr_set_id ys i u (by simpa using h)]
theorem cellsBr_set_rank : ∀ (hs : List BrD) (i : Nat) (u : Int) (h : i < hs.length), cellsBr (hs.set i { hs[i] with rank := u }) = (cellsBr hs).set (i * 3 + 1) (.int .i64 u)
  | y :: ys, 0, u, _ => rfl
  | y :: ys, i + 1, u, h => by
    have e : (i + 1) * 3 + 1 = i * 3 + 1 + 1 + 1 + 1 := by omega
    simp only [List.set_cons_succ, cellsBr, List.getElem_cons_succ, e]
    rw [cellsBr_set_rank ys i u (by simpa using h)]
theorem cellsBr_set_up : ∀ (hs : List BrD) (i : Nat) (u : Bool) (h : i < hs.length), cellsBr (hs.set i { hs[i] with up := u }) = (cellsBr hs).set (i * 3 + 2) (.bool u)
  | y :: ys, 0, u, _ => rfl
  | y :: ys, i + 1, u, h => by
    have e : (i + 1) * 3 + 2 = i * 3 + 2 + 1 + 1 + 1 := by omega
    simp only [List.set_cons_succ, cellsBr, List.getElem_cons_succ, e]
    rw [cellsBr_set_up ys i u (by simpa using h)]

/-- The slice v owns the list hs, in a block from B on. -/
def OwnBr (W : World) (B : Nat) (v : Value) (hs : List BrD) : Prop := W.ownsRow B 35 3 v hs.length (cellsBr hs)
theorem OwnBr.nil (W : World) (B : Nat) : OwnBr W B (.slice none 0 0) [] := World.ownsRow_nil W B _ 3
theorem OwnBr.below {W W' : World} {B : Nat} {v : Value} {hs : List BrD} (h : OwnBr W B v hs) (hb : Below W.heap.size W W') : OwnBr W' B v hs := rowBelow h hb
theorem OwnBr.mono {W : World} {B B' : Nat} {v : Value} {hs : List BrD} (h : OwnBr W B v hs) (hB : B' ≤ B) : OwnBr W B' v hs := rowMono h hB
theorem OwnBr.shape {W : World} {B : Nat} {v : Value} {hs : List BrD} (h : OwnBr W B v hs) : ∃ a cap, v = .slice a hs.length cap := rowShape h
theorem OwnBr.reads {W : World} {B : Nat} {v : Value} {hs : List BrD} (h : OwnBr W B v hs) : ReadsBr W v hs := by
  have h' := h
  rcases h.2 with ⟨hv, hn⟩ | ⟨g, cap, cur, hv, hB, hg, -⟩
  · exact ⟨none, 0, by rw [hv, hn], .inl (List.eq_nil_of_length_eq_zero hn)⟩
  · subst hv
    refine ⟨_, _, rfl, .inr ⟨g, 0, rfl, (Array.getElem?_eq_some_iff.1 hg).1, fun j hj => ?_⟩⟩
    obtain ⟨c0, c1, c2⟩ := cellsBr_get hs j hj
    rw [Nat.zero_add]
    exact ⟨(World.ownsRow.cellAt h' _ (by omega)).trans c0, (World.ownsRow.cellAt h' _ (by omega)).trans c1, (World.ownsRow.cellAt h' _ (by omega)).trans c2⟩
theorem OwnBr.grow {W W' : World} {B : Nat} {v : Value} {hs : List BrD} {row : Option Nat} (h : OwnBr W B v hs) (hg : W.grownBy W' row) (hne : ∀ k, row = some k → v.ownBlock ≠ some k) : OwnBr W' B v hs := by
  refine World.ownsRow.kept h hg ?_
  rcases hv : v.ownBlock with _ | k
  · exact .inl rfl
  · exact .inr fun e => hne k e.symm hv
theorem OwnBr.setCell {W : World} {B : Nat} {v : Value} {hs : List BrD} (h : OwnBr W B v hs) {p : Addr} (hp : p.block < B) (u : Value) : OwnBr (W.setCell p u) B v hs := rowSet h hp u

/-- A store of a whole one. -/
theorem OwnBr.set {W : World} {B g cap : Nat} {hs : List BrD} (h : OwnBr W B (.slice (some ⟨g, 0, none⟩) hs.length cap) hs) (i : Nat) (hi : i < hs.length) (x : BrD) :
    OwnBr ((((W).setCell ⟨g, i * 3, none⟩ (.int .i64 x.id)).setCell ⟨g, i * 3 + 1, none⟩ (.int .i64 x.rank)).setCell ⟨g, i * 3 + 2, none⟩ (.bool x.up)) B (.slice (some ⟨g, 0, none⟩) hs.length cap) (hs.set i x) := by
  have h1 := (World.ownsRow.stored h (i * 3) (.int .i64 x.id)).1
  have h2 := (World.ownsRow.stored h1 (i * 3 + 1) (.int .i64 x.rank)).1
  have h3 := (World.ownsRow.stored h2 (i * 3 + 2) (.bool x.up)).1
  unfold OwnBr
  rw [List.length_set, cellsBr_set hs i x hi]
  exact h3
theorem OwnBr.set_id {W : World} {B g cap : Nat} {hs : List BrD} (h : OwnBr W B (.slice (some ⟨g, 0, none⟩) hs.length cap) hs) (i : Nat) (hi : i < hs.length) (u : Int) :
    OwnBr (W.setCell ⟨g, i * 3, none⟩ (.int .i64 u)) B (.slice (some ⟨g, 0, none⟩) hs.length cap) (hs.set i { hs[i] with id := u }) := by
  unfold OwnBr
  rw [List.length_set, cellsBr_set_id hs i u hi]
  exact (World.ownsRow.stored h (i * 3) (.int .i64 u)).1
theorem OwnBr.set_rank {W : World} {B g cap : Nat} {hs : List BrD} (h : OwnBr W B (.slice (some ⟨g, 0, none⟩) hs.length cap) hs) (i : Nat) (hi : i < hs.length) (u : Int) :
    OwnBr (W.setCell ⟨g, i * 3 + 1, none⟩ (.int .i64 u)) B (.slice (some ⟨g, 0, none⟩) hs.length cap) (hs.set i { hs[i] with rank := u }) := by
  unfold OwnBr
  rw [List.length_set, cellsBr_set_rank hs i u hi]
  exact (World.ownsRow.stored h (i * 3 + 1) (.int .i64 u)).1
theorem OwnBr.set_up {W : World} {B g cap : Nat} {hs : List BrD} (h : OwnBr W B (.slice (some ⟨g, 0, none⟩) hs.length cap) hs) (i : Nat) (hi : i < hs.length) (u : Bool) :
    OwnBr (W.setCell ⟨g, i * 3 + 2, none⟩ (.bool u)) B (.slice (some ⟨g, 0, none⟩) hs.length cap) (hs.set i { hs[i] with up := u }) := by
  unfold OwnBr
  rw [List.length_set, cellsBr_set_up hs i u hi]
  exact (World.ownsRow.stored h (i * 3 + 2) (.bool u)).1

theorem run_appBr (w : World) (B : Nat) (v : Value) (hs : List BrD) (hown : OwnBr w B v hs) (x : Value) (ys : List BrD) (hsrc : Src w x ys.length (cellsBr ys)) (hl : hs.length + ys.length ≤ 2097152) (hB : B ≤ w.heap.size) (ty : TypeId) :
    ∃ v' w', (Builtin.append_ #[23, 23] ty #[v, x]).run Try.prog w = .ok v' w' ∧ Grown w B 35 3 v (hs ++ ys).length (cellsBr (hs ++ ys)) v' w' := by
  obtain ⟨i0, hi, hz0, hz1, hz2⟩ := info_parts infoBr
  have := run_app w B 23 ty 35 i0 _ 3 24 Try.underlying23 hi hz0 hz1 hz2 rfl (by decide) v hs.length _ hown x ys.length _ hsrc (cellsBr_len ys) (cellsBr_one ys) (by unfold maxLen; omega) (by omega) hB
  rw [cellsBr_app, List.length_append]
  exact this
theorem ReadsBr.src {W : World} {v : Value} {hs : List BrD} (h : ReadsBr W v hs) : v = .slice none 0 0 ∨ (∃ a cap, v = .slice (some a) hs.length cap) ∨ hs = [] := by
  obtain ⟨a, cap, hv, hc⟩ := h
  rcases hc with rfl | ⟨g, o, rfl, -⟩
  · exact .inr (.inr rfl)
  · exact .inr (.inl ⟨_, _, hv⟩)
end Go.Proofs.Ythdcfeafkellcab
