/-
  Lists of haves: how they lie in memory; 'append' onto them.
-/
import Derived.Test.YtkpdiojomgiocacRow0
import Derived.Deep.RegionWith
import Derived.BigRegion
namespace Go.Proofs.Ytkpdiojomgiocac
open Go.RowKit
set_option linter.unusedVariables false

/-- The data of one. -/
structure HvD where
  From : Int
  Seq : Int

theorem infoHv : (Try.prog.info? 41).map (fun i => (i.zero, i.size, i.bytes)) = some (some (.agg #[.int .i64 0, .int .i64 0]), 2, 16) := by kernel_rfl

/-- At a place of a block lies one. -/
def HvAt (W : World) (g o : Nat) (x : HvD) : Prop := W.cell? ⟨g, o, none⟩ = some (.int .i64 x.From) ∧ W.cell? ⟨g, o + 1, none⟩ = some (.int .i64 x.Seq)
theorem HvAt.below {W W' : World} {g o : Nat} {x : HvD} (h : HvAt W g o x) (hg : g < W.heap.size) (hb : Below W.heap.size W W') : HvAt W' g o x :=
  ⟨(hb.cell (p := ⟨g, o, none⟩) hg).trans h.1, (hb.cell (p := ⟨g, o + 1, none⟩) hg).trans h.2⟩
/-- The slice v reads as the list hs. -/
def ReadsHv (W : World) (v : Value) (hs : List HvD) : Prop :=
  ∃ (a : Option Addr) (cap : Nat), v = .slice a hs.length cap ∧ (hs = [] ∨ ∃ g off, a = some ⟨g, off, none⟩ ∧ g < W.heap.size ∧ ∀ j (hj : j < hs.length), HvAt W g (off + j * 2) hs[j])
theorem ReadsHv.below {W W' : World} {v : Value} {hs : List HvD} (h : ReadsHv W v hs) (hb : Below W.heap.size W W') : ReadsHv W' v hs := by
  obtain ⟨a, cap, hv, hc⟩ := h
  refine ⟨a, cap, hv, hc.imp id ?_⟩
  rintro ⟨g, off, ha, hg, hcell⟩
  exact ⟨g, off, ha, Nat.lt_of_lt_of_le hg hb.size, fun j hj => (hcell j hj).below hg hb⟩
theorem ReadsHv.shape {W : World} {v : Value} {hs : List HvD} (h : ReadsHv W v hs) : ∃ a cap, v = .slice a hs.length cap := by obtain ⟨a, cap, hv, -⟩ := h; exact ⟨a, cap, hv⟩

/-- Their cells. -/
def cellsHv : List HvD → List Value
  | [] => []
  | x :: xs => .int .i64 x.From :: .int .i64 x.Seq :: cellsHv xs
theorem cellsHv_len : ∀ hs : List HvD, (cellsHv hs).length = hs.length * 2
  | [] => rfl
  | x :: xs => by have := cellsHv_len xs; simp only [cellsHv, List.length_cons]; omega
theorem cellsHv_app : ∀ a b : List HvD, cellsHv (a ++ b) = cellsHv a ++ cellsHv b
  | [], b => rfl
  | x :: xs, b => by simp only [List.cons_append, cellsHv, cellsHv_app xs b]
theorem cellsHv_get : ∀ (hs : List HvD) (j : Nat) (hj : j < hs.length), (cellsHv hs)[j * 2]? = some (.int .i64 hs[j].From) ∧ (cellsHv hs)[j * 2 + 1]? = some (.int .i64 hs[j].Seq)
  | x :: xs, 0, _ => ⟨rfl, rfl⟩
  | x :: xs, j + 1, hj => by
    have := cellsHv_get xs j (by simpa using hj)
    have e : (j + 1) * 2 = j * 2 + 1 + 1 := by omega
    simp only [cellsHv, e, List.getElem?_cons_succ, List.getElem_cons_succ]
    exact this
theorem cellsHv_one : ∀ (hs : List HvD), ∀ u ∈ cellsHv hs, u.oneCell' = true
  | [], u, hu => by cases hu
  | x :: xs, u, hu => by
    simp only [cellsHv, List.mem_cons] at hu
    rcases hu with rfl | rfl | hu
    · rfl
    · rfl
    · exact cellsHv_one xs u hu
theorem cellsHv_set : ∀ (hs : List HvD) (i : Nat) (x : HvD) (h : i < hs.length), cellsHv (hs.set i x) = (((cellsHv hs)).set (i * 2) (.int .i64 x.From)).set (i * 2 + 1) (.int .i64 x.Seq)
  | y :: ys, 0, x, _ => rfl
  | y :: ys, i + 1, x, h => by
    have e : (i + 1) * 2 = i * 2 + 1 + 1 := by omega
    simp only [List.set_cons_succ, cellsHv, e]
    rw [cellsHv_set ys i x (by simpa using h)]
theorem cellsHv_set_From : ∀ (hs : List HvD) (i : Nat) (u : Int) (h : i < hs.length), cellsHv (hs.set i { hs[i] with From := u }) = (cellsHv hs).set (i * 2) (.int .i64 u)
  | y :: ys, 0, u, _ => rfl
  | y :: ys, i + 1, u, h => by
    have e : (i + 1) * 2 = i * 2 + 1 + 1 := by omega
    simp only [List.set_cons_succ, cellsHv, List.getElem_cons_succ, e]
    rw [cellsHv_set_From ys i u (by simpa using h)]
theorem cellsHv_set_Seq : ∀ (hs : List HvD) (i : Nat) (u : Int) (h : i < hs.length), cellsHv (hs.set i { hs[i] with Seq := u }) = (cellsHv hs).set (i * 2 + 1) (.int .i64 u)
  | y :: ys, 0, u, _ => rfl
  | y :: ys, i + 1, u, h => by
    have e : (i + 1) * 2 + 1 = i * 2 + 1 + 1 + 1 := by omega
    simp only [List.set_cons_succ, cellsHv, List.getElem_cons_succ, e]
    rw [cellsHv_set_Seq ys i u (by simpa using h)]

/-- The slice v owns the list hs, in a block from B on. -/
def OwnHv (W : World) (B : Nat) (v : Value) (hs : List HvD) : Prop := W.ownsRow B 41 2 v hs.length (cellsHv hs)
theorem OwnHv.nil (W : World) (B : Nat) : OwnHv W B (.slice none 0 0) [] := World.ownsRow_nil W B _ 2
theorem OwnHv.below {W W' : World} {B : Nat} {v : Value} {hs : List HvD} (h : OwnHv W B v hs) (hb : Below W.heap.size W W') : OwnHv W' B v hs := rowBelow h hb
theorem OwnHv.mono {W : World} {B B' : Nat} {v : Value} {hs : List HvD} (h : OwnHv W B v hs) (hB : B' ≤ B) : OwnHv W B' v hs := rowMono h hB
theorem OwnHv.shape {W : World} {B : Nat} {v : Value} {hs : List HvD} (h : OwnHv W B v hs) : ∃ a cap, v = .slice a hs.length cap := rowShape h
theorem OwnHv.reads {W : World} {B : Nat} {v : Value} {hs : List HvD} (h : OwnHv W B v hs) : ReadsHv W v hs := by
  have h' := h
  rcases h.2 with ⟨hv, hn⟩ | ⟨g, cap, cur, hv, hB, hg, -⟩
  · exact ⟨none, 0, by rw [hv, hn], .inl (List.eq_nil_of_length_eq_zero hn)⟩
  · subst hv
    refine ⟨_, _, rfl, .inr ⟨g, 0, rfl, (Array.getElem?_eq_some_iff.1 hg).1, fun j hj => ?_⟩⟩
    obtain ⟨c0, c1⟩ := cellsHv_get hs j hj
    rw [Nat.zero_add]
    exact ⟨(World.ownsRow.cellAt h' _ (by omega)).trans c0, (World.ownsRow.cellAt h' _ (by omega)).trans c1⟩
theorem OwnHv.grow {W W' : World} {B : Nat} {v : Value} {hs : List HvD} {row : Option Nat} (h : OwnHv W B v hs) (hg : W.grownBy W' row) (hne : ∀ k, row = some k → v.ownBlock ≠ some k) : OwnHv W' B v hs := by
  refine World.ownsRow.kept h hg ?_
  rcases hv : v.ownBlock with _ | k
  · exact .inl rfl
  · exact .inr fun e => hne k e.symm hv
theorem OwnHv.setCell {W : World} {B : Nat} {v : Value} {hs : List HvD} (h : OwnHv W B v hs) {p : Addr} (hp : p.block < B) (u : Value) : OwnHv (W.setCell p u) B v hs := rowSet h hp u

/-- A store of a whole one. -/
theorem OwnHv.set {W : World} {B g cap : Nat} {hs : List HvD} (h : OwnHv W B (.slice (some ⟨g, 0, none⟩) hs.length cap) hs) (i : Nat) (hi : i < hs.length) (x : HvD) :
    OwnHv (((W).setCell ⟨g, i * 2, none⟩ (.int .i64 x.From)).setCell ⟨g, i * 2 + 1, none⟩ (.int .i64 x.Seq)) B (.slice (some ⟨g, 0, none⟩) hs.length cap) (hs.set i x) := by
  have h1 := (World.ownsRow.stored h (i * 2) (.int .i64 x.From)).1
  have h2 := (World.ownsRow.stored h1 (i * 2 + 1) (.int .i64 x.Seq)).1
  unfold OwnHv
  rw [List.length_set, cellsHv_set hs i x hi]
  exact h2
theorem OwnHv.set_From {W : World} {B g cap : Nat} {hs : List HvD} (h : OwnHv W B (.slice (some ⟨g, 0, none⟩) hs.length cap) hs) (i : Nat) (hi : i < hs.length) (u : Int) :
    OwnHv (W.setCell ⟨g, i * 2, none⟩ (.int .i64 u)) B (.slice (some ⟨g, 0, none⟩) hs.length cap) (hs.set i { hs[i] with From := u }) := by
  unfold OwnHv
  rw [List.length_set, cellsHv_set_From hs i u hi]
  exact (World.ownsRow.stored h (i * 2) (.int .i64 u)).1
theorem OwnHv.set_Seq {W : World} {B g cap : Nat} {hs : List HvD} (h : OwnHv W B (.slice (some ⟨g, 0, none⟩) hs.length cap) hs) (i : Nat) (hi : i < hs.length) (u : Int) :
    OwnHv (W.setCell ⟨g, i * 2 + 1, none⟩ (.int .i64 u)) B (.slice (some ⟨g, 0, none⟩) hs.length cap) (hs.set i { hs[i] with Seq := u }) := by
  unfold OwnHv
  rw [List.length_set, cellsHv_set_Seq hs i u hi]
  exact (World.ownsRow.stored h (i * 2 + 1) (.int .i64 u)).1

theorem run_appHv (w : World) (B : Nat) (v : Value) (hs : List HvD) (hown : OwnHv w B v hs) (x : Value) (ys : List HvD) (hsrc : Src w x ys.length (cellsHv ys)) (hl : hs.length + ys.length ≤ 2097152) (hB : B ≤ w.heap.size) (ty : TypeId) :
    ∃ v' w', (Builtin.append_ #[23, 23] ty #[v, x]).run Try.prog w = .ok v' w' ∧ Grown w B 41 2 v (hs ++ ys).length (cellsHv (hs ++ ys)) v' w' := by
  obtain ⟨i0, hi, hz0, hz1, hz2⟩ := info_parts infoHv
  have := run_app w B 23 ty 41 i0 _ 2 16 Try.underlying23 hi hz0 hz1 hz2 rfl (by decide) v hs.length _ hown x ys.length _ hsrc (cellsHv_len ys) (cellsHv_one ys) (by unfold maxLen; omega) (by omega) hB
  rw [cellsHv_app, List.length_append]
  exact this
theorem ReadsHv.src {W : World} {v : Value} {hs : List HvD} (h : ReadsHv W v hs) : v = .slice none 0 0 ∨ (∃ a cap, v = .slice (some a) hs.length cap) ∨ hs = [] := by
  obtain ⟨a, cap, hv, hc⟩ := h
  rcases hc with rfl | ⟨g, o, rfl, -⟩
  · exact .inr (.inr rfl)
  · exact .inr (.inl ⟨_, _, hv⟩)
end Go.Proofs.Ytkpdiojomgiocac
