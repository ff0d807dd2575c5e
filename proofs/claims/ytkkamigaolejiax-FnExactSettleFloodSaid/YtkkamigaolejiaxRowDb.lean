/-
  Lists of debts: how they lie in memory; 'append' onto them.
-/
import Derived.Test.YtkkamigaolejiaxRow0
import Derived.Deep.RegionWith
import Derived.BigRegion
namespace Go.Proofs.Ytkkamigaolejiax
open Go.RowKit
set_option linter.unusedVariables false

/-- The data of one. -/
structure DbD where
  p : Int
  q : Int

theorem infoDb : (Try.prog.info? 99).map (fun i => (i.zero, i.size, i.bytes)) = some (some (.agg #[.int .i64 0, .int .i64 0]), 2, 16) := by kernel_rfl

/-- At a place of a block lies one. -/
def DbAt (W : World) (g o : Nat) (x : DbD) : Prop := W.cell? ⟨g, o, none⟩ = some (.int .i64 x.p) ∧ W.cell? ⟨g, o + 1, none⟩ = some (.int .i64 x.q)
theorem DbAt.below {W W' : World} {g o : Nat} {x : DbD} (h : DbAt W g o x) (hg : g < W.heap.size) (hb : Below W.heap.size W W') : DbAt W' g o x :=
  ⟨(hb.cell (p := ⟨g, o, none⟩) hg).trans h.1, (hb.cell (p := ⟨g, o + 1, none⟩) hg).trans h.2⟩
/-- The slice v reads as the list hs. -/
def ReadsDb (W : World) (v : Value) (hs : List DbD) : Prop :=
  ∃ (a : Option Addr) (cap : Nat), v = .slice a hs.length cap ∧ (hs = [] ∨ ∃ g off, a = some ⟨g, off, none⟩ ∧ g < W.heap.size ∧ ∀ j (hj : j < hs.length), DbAt W g (off + j * 2) hs[j])
theorem ReadsDb.below {W W' : World} {v : Value} {hs : List DbD} (h : ReadsDb W v hs) (hb : Below W.heap.size W W') : ReadsDb W' v hs := by
  obtain ⟨a, cap, hv, hc⟩ := h
  refine ⟨a, cap, hv, hc.imp id ?_⟩
  rintro ⟨g, off, ha, hg, hcell⟩
  exact ⟨g, off, ha, Nat.lt_of_lt_of_le hg hb.size, fun j hj => (hcell j hj).below hg hb⟩
theorem ReadsDb.shape {W : World} {v : Value} {hs : List DbD} (h : ReadsDb W v hs) : ∃ a cap, v = .slice a hs.length cap := by obtain ⟨a, cap, hv, -⟩ := h; exact ⟨a, cap, hv⟩

/-- Their cells. -/
def cellsDb : List DbD → List Value
  | [] => []
  | x :: xs => .int .i64 x.p :: .int .i64 x.q :: cellsDb xs
theorem cellsDb_len : ∀ hs : List DbD, (cellsDb hs).length = hs.length * 2
  | [] => rfl
  | x :: xs => by have := cellsDb_len xs; simp only [cellsDb, List.length_cons]; omega
theorem cellsDb_app : ∀ a b : List DbD, cellsDb (a ++ b) = cellsDb a ++ cellsDb b
  | [], b => rfl
  | x :: xs, b => by simp only [List.cons_append, cellsDb, cellsDb_app xs b]
theorem cellsDb_get : ∀ (hs : List DbD) (j : Nat) (hj : j < hs.length), (cellsDb hs)[j * 2]? = some (.int .i64 hs[j].p) ∧ (cellsDb hs)[j * 2 + 1]? = some (.int .i64 hs[j].q)
  | x :: xs, 0, _ => ⟨rfl, rfl⟩
  | x :: xs, j + 1, hj => by
    have := cellsDb_get xs j (by simpa using hj)
    have e : (j + 1) * 2 = j * 2 + 1 + 1 := by omega
    simp only [cellsDb, e, List.getElem?_cons_succ, List.getElem_cons_succ]
    exact this
theorem cellsDb_one : ∀ (hs : List DbD), ∀ u ∈ cellsDb hs, u.oneCell' = true
  | [], u, hu => by cases hu
  | x :: xs, u, hu => by
    simp only [cellsDb, List.mem_cons] at hu
    rcases hu with rfl | rfl | hu
    · rfl
    · rfl
    · exact cellsDb_one xs u hu
theorem cellsDb_set : ∀ (hs : List DbD) (i : Nat) (x : DbD) (h : i < hs.length), cellsDb (hs.set i x) = (((cellsDb hs)).set (i * 2) (.int .i64 x.p)).set (i * 2 + 1) (.int .i64 x.q)
  | y :: ys, 0, x, _ => rfl
  | y :: ys, i + 1, x, h => by
    have e : (i + 1) * 2 = i * 2 + 1 + 1 := by omega
    simp only [List.set_cons_succ, cellsDb, e]
    rw [cellsDb_set ys i x (by simpa using h)]
theorem cellsDb_set_p : ∀ (hs : List DbD) (i : Nat) (u : Int) (h : i < hs.length), cellsDb (hs.set i { hs[i] with p := u }) = (cellsDb hs).set (i * 2) (.int .i64 u)
  | y :: ys, 0, u, _ => rfl
  | y :: ys, i + 1, u, h => by
    have e : (i + 1) * 2 = i * 2 + 1 + 1 := by omega
    simp only [List.set_cons_succ, cellsDb, List.getElem_cons_succ, e]
    rw [cellsDb_set_p ys i u (by simpa using h)]
theorem cellsDb_set_q : ∀ (hs : List DbD) (i : Nat) (u : Int) (h : i < hs.length), cellsDb (hs.set i { hs[i] with q := u }) = (cellsDb hs).set (i * 2 + 1) (.int .i64 u)
  | y :: ys, 0, u, _ => rfl
  | y :: ys, i + 1, u, h => by
    have e : (i + 1) * 2 + 1 = i * 2 + 1 + 1 + 1 := by omega
    simp only [List.set_cons_succ, cellsDb, List.getElem_cons_succ, e]
    rw [cellsDb_set_q ys i u (by simpa using h)]

/-- The slice v owns the list hs, in a block from B on. -/
def OwnDb (W : World) (B : Nat) (v : Value) (hs : List DbD) : Prop := W.ownsRow B 99 2 v hs.length (cellsDb hs)
theorem OwnDb.nil (W : World) (B : Nat) : OwnDb W B (.slice none 0 0) [] := World.ownsRow_nil W B _ 2
theorem OwnDb.below {W W' : World} {B : Nat} {v : Value} {hs : List DbD} (h : OwnDb W B v hs) (hb : Below W.heap.size W W') : OwnDb W' B v hs := rowBelow h hb
theorem OwnDb.mono {W : World} {B B' : Nat} {v : Value} {hs : List DbD} (h : OwnDb W B v hs) (hB : B' ≤ B) : OwnDb W B' v hs := rowMono h hB
theorem OwnDb.shape {W : World} {B : Nat} {v : Value} {hs : List DbD} (h : OwnDb W B v hs) : ∃ a cap, v = .slice a hs.length cap := rowShape h
theorem OwnDb.reads {W : World} {B : Nat} {v : Value} {hs : List DbD} (h : OwnDb W B v hs) : ReadsDb W v hs := by
  have h' := h
  rcases h.2 with ⟨hv, hn⟩ | ⟨g, cap, cur, hv, hB, hg, -⟩
  · exact ⟨none, 0, by rw [hv, hn], .inl (List.eq_nil_of_length_eq_zero hn)⟩
  · subst hv
    refine ⟨_, _, rfl, .inr ⟨g, 0, rfl, (Array.getElem?_eq_some_iff.1 hg).1, fun j hj => ?_⟩⟩
    obtain ⟨c0, c1⟩ := cellsDb_get hs j hj
    rw [Nat.zero_add]
    exact ⟨(World.ownsRow.cellAt h' _ (by omega)).trans c0, (World.ownsRow.cellAt h' _ (by omega)).trans c1⟩
theorem OwnDb.grow {W W' : World} {B : Nat} {v : Value} {hs : List DbD} {row : Option Nat} (h : OwnDb W B v hs) (hg : W.grownBy W' row) (hne : ∀ k, row = some k → v.ownBlock ≠ some k) : OwnDb W' B v hs := by
  refine World.ownsRow.kept h hg ?_
  rcases hv : v.ownBlock with _ | k
  · exact .inl rfl
  · exact .inr fun e => hne k e.symm hv
theorem OwnDb.setCell {W : World} {B : Nat} {v : Value} {hs : List DbD} (h : OwnDb W B v hs) {p : Addr} (hp : p.block < B) (u : Value) : OwnDb (W.setCell p u) B v hs := rowSet h hp u

/-- A store of a whole one. -/
theorem OwnDb.set {W : World} {B g cap : Nat} {hs : List DbD} (h : OwnDb W B (.slice (some ⟨g, 0, none⟩) hs.length cap) hs) (i : Nat) (hi : i < hs.length) (x : DbD) :
    OwnDb (((W).setCell ⟨g, i * 2, none⟩ (.int .i64 x.p)).setCell ⟨g, i * 2 + 1, none⟩ (.int .i64 x.q)) B (.slice (some ⟨g, 0, none⟩) hs.length cap) (hs.set i x) := by
  have h1 := (World.ownsRow.stored h (i * 2) (.int .i64 x.p)).1
  have h2 := (World.ownsRow.stored h1 (i * 2 + 1) (.int .i64 x.q)).1
  unfold OwnDb
  rw [List.length_set, cellsDb_set hs i x hi]
  exact h2
theorem OwnDb.set_p {W : World} {B g cap : Nat} {hs : List DbD} (h : OwnDb W B (.slice (some ⟨g, 0, none⟩) hs.length cap) hs) (i : Nat) (hi : i < hs.length) (u : Int) :
    OwnDb (W.setCell ⟨g, i * 2, none⟩ (.int .i64 u)) B (.slice (some ⟨g, 0, none⟩) hs.length cap) (hs.set i { hs[i] with p := u }) := by
  unfold OwnDb
  rw [List.length_set, cellsDb_set_p hs i u hi]
  exact (World.ownsRow.stored h (i * 2) (.int .i64 u)).1
theorem OwnDb.set_q {W : World} {B g cap : Nat} {hs : List DbD} (h : OwnDb W B (.slice (some ⟨g, 0, none⟩) hs.length cap) hs) (i : Nat) (hi : i < hs.length) (u : Int) :
    OwnDb (W.setCell ⟨g, i * 2 + 1, none⟩ (.int .i64 u)) B (.slice (some ⟨g, 0, none⟩) hs.length cap) (hs.set i { hs[i] with q := u }) := by
  unfold OwnDb
  rw [List.length_set, cellsDb_set_q hs i u hi]
  exact (World.ownsRow.stored h (i * 2 + 1) (.int .i64 u)).1

theorem run_appDb (w : World) (B : Nat) (v : Value) (hs : List DbD) (hown : OwnDb w B v hs) (x : Value) (ys : List DbD) (hsrc : Src w x ys.length (cellsDb ys)) (hl : hs.length + ys.length ≤ 2097152) (hB : B ≤ w.heap.size) (ty : TypeId) :
    ∃ v' w', (Builtin.append_ #[86, 86] ty #[v, x]).run Try.prog w = .ok v' w' ∧ Grown w B 99 2 v (hs ++ ys).length (cellsDb (hs ++ ys)) v' w' := by
  obtain ⟨i0, hi, hz0, hz1, hz2⟩ := info_parts infoDb
  have := run_app w B 86 ty 99 i0 _ 2 16 Try.underlying86 hi hz0 hz1 hz2 rfl (by decide) v hs.length _ hown x ys.length _ hsrc (cellsDb_len ys) (cellsDb_one ys) (by unfold maxLen; omega) (by omega) hB
  rw [cellsDb_app, List.length_append]
  exact this
theorem ReadsDb.src {W : World} {v : Value} {hs : List DbD} (h : ReadsDb W v hs) : v = .slice none 0 0 ∨ (∃ a cap, v = .slice (some a) hs.length cap) ∨ hs = [] := by
  obtain ⟨a, cap, hv, hc⟩ := h
  rcases hc with rfl | ⟨g, o, rfl, -⟩
  · exact .inr (.inr rfl)
  · exact .inr (.inl ⟨_, _, hv⟩)
end Go.Proofs.Ytkkamigaolejiax
