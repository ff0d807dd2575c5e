/-
  Lists of hops: how they lie in memory; 'append' onto them.
-/
import Derived.Test.YthlbmkefjjckaadBunA
import Derived.Deep.RegionWith
import Derived.BigRegion
namespace Go.Proofs.Ythlbmkefjjckaad
open Go.RowKit
set_option linter.unusedVariables false

/-- The data of one. -/
structure HopD where
  From : Int
  To : Int

theorem infoHop : (Try.prog.info? 36).map (fun i => (i.zero, i.size, i.bytes)) = some (some (.agg #[.int .i64 0, .int .i64 0]), 2, 16) := by kernel_rfl

/-- At a place of a block lies one. -/
def HopAt (W : World) (g o : Nat) (x : HopD) : Prop := W.cell? ⟨g, o, none⟩ = some (.int .i64 x.From) ∧ W.cell? ⟨g, o + 1, none⟩ = some (.int .i64 x.To)
theorem HopAt.below {W W' : World} {g o : Nat} {x : HopD} (h : HopAt W g o x) (hg : g < W.heap.size) (hb : Below W.heap.size W W') : HopAt W' g o x :=
  ⟨(hb.cell (p := ⟨g, o, none⟩) hg).trans h.1, (hb.cell (p := ⟨g, o + 1, none⟩) hg).trans h.2⟩
/-- The slice v reads as the list hs. -/
def ReadsHop (W : World) (v : Value) (hs : List HopD) : Prop :=
  ∃ (a : Option Addr) (cap : Nat), v = .slice a hs.length cap ∧ (hs = [] ∨ ∃ g off, a = some ⟨g, off, none⟩ ∧ g < W.heap.size ∧ ∀ j (hj : j < hs.length), HopAt W g (off + j * 2) hs[j])
theorem ReadsHop.below {W W' : World} {v : Value} {hs : List HopD} (h : ReadsHop W v hs) (hb : Below W.heap.size W W') : ReadsHop W' v hs := by
  obtain ⟨a, cap, hv, hc⟩ := h
  refine ⟨a, cap, hv, hc.imp id ?_⟩
  rintro ⟨g, off, ha, hg, hcell⟩
  exact ⟨g, off, ha, Nat.lt_of_lt_of_le hg hb.size, fun j hj => (hcell j hj).below hg hb⟩
theorem ReadsHop.shape {W : World} {v : Value} {hs : List HopD} (h : ReadsHop W v hs) : ∃ a cap, v = .slice a hs.length cap := by obtain ⟨a, cap, hv, -⟩ := h; exact ⟨a, cap, hv⟩

/-- Their cells. -/
def cellsHop : List HopD → List Value
  | [] => []
  | x :: xs => .int .i64 x.From :: .int .i64 x.To :: cellsHop xs
theorem cellsHop_len : ∀ hs : List HopD, (cellsHop hs).length = hs.length * 2
  | [] => rfl
  | x :: xs => by have := cellsHop_len xs; simp only [cellsHop, List.length_cons]; omega
theorem cellsHop_app : ∀ a b : List HopD, cellsHop (a ++ b) = cellsHop a ++ cellsHop b
  | [], b => rfl
  | x :: xs, b => by simp only [List.cons_append, cellsHop, cellsHop_app xs b]
theorem cellsHop_get : ∀ (hs : List HopD) (j : Nat) (hj : j < hs.length), (cellsHop hs)[j * 2]? = some (.int .i64 hs[j].From) ∧ (cellsHop hs)[j * 2 + 1]? = some (.int .i64 hs[j].To)
  | x :: xs, 0, _ => ⟨rfl, rfl⟩
  | x :: xs, j + 1, hj => by
    have := cellsHop_get xs j (by simpa using hj)
    have e : (j + 1) * 2 = j * 2 + 1 + 1 := by omega
    simp only [cellsHop, e, List.getElem?_cons_succ, List.getElem_cons_succ]
    exact this
theorem cellsHop_one : ∀ (hs : List HopD), ∀ u ∈ cellsHop hs, u.oneCell' = true
  | [], u, hu => by cases hu
  | x :: xs, u, hu => by
    simp only [cellsHop, List.mem_cons] at hu
    rcases hu with rfl | rfl | hu
    · rfl
    · rfl
    · exact cellsHop_one xs u hu
theorem cellsHop_set : ∀ (hs : List HopD) (i : Nat) (x : HopD) (h : i < hs.length), cellsHop (hs.set i x) = (((cellsHop hs)).set (i * 2) (.int .i64 x.From)).set (i * 2 + 1) (.int .i64 x.To)
  | y :: ys, 0, x, _ => rfl
  | y :: ys, i + 1, x, h => by
    have e : (i + 1) * 2 = i * 2 + 1 + 1 := by omega
    simp only [List.set_cons_succ, cellsHop, e]
    rw [cellsHop_set ys i x (by simpa using h)]
theorem cellsHop_set_From : ∀ (hs : List HopD) (i : Nat) (u : Int) (h : i < hs.length), cellsHop (hs.set i { hs[i] with From := u }) = (cellsHop hs).set (i * 2) (.int .i64 u)
  | y :: ys, 0, u, _ => rfl
  | y :: ys, i + 1, u, h => by
    have e : (i + 1) * 2 = i * 2 + 1 + 1 := by omega
    simp only [List.set_cons_succ, cellsHop, List.getElem_cons_succ, e]
    rw [cellsHop_set_From ys i u (by simpa using h)]
theorem cellsHop_set_To : ∀ (hs : List HopD) (i : Nat) (u : Int) (h : i < hs.length), cellsHop (hs.set i { hs[i] with To := u }) = (cellsHop hs).set (i * 2 + 1) (.int .i64 u)
  | y :: ys, 0, u, _ => rfl
  | y :: ys, i + 1, u, h => by
    have e : (i + 1) * 2 + 1 = i * 2 + 1 + 1 + 1 := by omega
    simp only [List.set_cons_succ, cellsHop, List.getElem_cons_succ, e]
    rw [cellsHop_set_To ys i u (by simpa using h)]

/-- The slice v owns the list hs, in a block from B on. -/
def OwnHop (W : World) (B : Nat) (v : Value) (hs : List HopD) : Prop := W.ownsRow B 36 2 v hs.length (cellsHop hs)
theorem OwnHop.nil (W : World) (B : Nat) : OwnHop W B (.slice none 0 0) [] := World.ownsRow_nil W B _ 2
theorem OwnHop.below {W W' : World} {B : Nat} {v : Value} {hs : List HopD} (h : OwnHop W B v hs) (hb : Below W.heap.size W W') : OwnHop W' B v hs := rowBelow h hb
theorem OwnHop.mono {W : World} {B B' : Nat} {v : Value} {hs : List HopD} (h : OwnHop W B v hs) (hB : B' ≤ B) : OwnHop W B' v hs := rowMono h hB
theorem OwnHop.shape {W : World} {B : Nat} {v : Value} {hs : List HopD} (h : OwnHop W B v hs) : ∃ a cap, v = .slice a hs.length cap := rowShape h
theorem OwnHop.reads {W : World} {B : Nat} {v : Value} {hs : List HopD} (h : OwnHop W B v hs) : ReadsHop W v hs := by
  have h' := h
  rcases h.2 with ⟨hv, hn⟩ | ⟨g, cap, cur, hv, hB, hg, -⟩
  · exact ⟨none, 0, by rw [hv, hn], .inl (List.eq_nil_of_length_eq_zero hn)⟩
  · subst hv
    refine ⟨_, _, rfl, .inr ⟨g, 0, rfl, (Array.getElem?_eq_some_iff.1 hg).1, fun j hj => ?_⟩⟩
    obtain ⟨c0, c1⟩ := cellsHop_get hs j hj
    rw [Nat.zero_add]
    exact ⟨(World.ownsRow.cellAt h' _ (by omega)).trans c0, (World.ownsRow.cellAt h' _ (by omega)).trans c1⟩
theorem OwnHop.grow {W W' : World} {B : Nat} {v : Value} {hs : List HopD} {row : Option Nat} (h : OwnHop W B v hs) (hg : W.grownBy W' row) (hne : ∀ k, row = some k → v.ownBlock ≠ some k) : OwnHop W' B v hs := by
  refine World.ownsRow.kept h hg ?_
  rcases hv : v.ownBlock with _ | k
  · exact .inl rfl
  · exact .inr fun e => hne k e.symm hv
theorem OwnHop.setCell {W : World} {B : Nat} {v : Value} {hs : List HopD} (h : OwnHop W B v hs) {p : Addr} (hp : p.block < B) (u : Value) : OwnHop (W.setCell p u) B v hs := rowSet h hp u

/-- A store of a whole one. -/
theorem OwnHop.set {W : World} {B g cap : Nat} {hs : List HopD} (h : OwnHop W B (.slice (some ⟨g, 0, none⟩) hs.length cap) hs) (i : Nat) (hi : i < hs.length) (x : HopD) :
    OwnHop (((W).setCell ⟨g, i * 2, none⟩ (.int .i64 x.From)).setCell ⟨g, i * 2 + 1, none⟩ (.int .i64 x.To)) B (.slice (some ⟨g, 0, none⟩) hs.length cap) (hs.set i x) := by
  have h1 := (World.ownsRow.stored h (i * 2) (.int .i64 x.From)).1
  have h2 := (World.ownsRow.stored h1 (i * 2 + 1) (.int .i64 x.To)).1
  unfold OwnHop
  rw [List.length_set, cellsHop_set hs i x hi]
  exact h2
theorem OwnHop.set_From {W : World} {B g cap : Nat} {hs : List HopD} (h : OwnHop W B (.slice (some ⟨g, 0, none⟩) hs.length cap) hs) (i : Nat) (hi : i < hs.length) (u : Int) :
    OwnHop (W.setCell ⟨g, i * 2, none⟩ (.int .i64 u)) B (.slice (some ⟨g, 0, none⟩) hs.length cap) (hs.set i { hs[i] with From := u }) := by
  unfold OwnHop
  rw [List.length_set, cellsHop_set_From hs i u hi]
  exact (World.ownsRow.stored h (i * 2) (.int .i64 u)).1
theorem OwnHop.set_To {W : World} {B g cap : Nat} {hs : List HopD} (h : OwnHop W B (.slice (some ⟨g, 0, none⟩) hs.length cap) hs) (i : Nat) (hi : i < hs.length) (u : Int) :
    OwnHop (W.setCell ⟨g, i * 2 + 1, none⟩ (.int .i64 u)) B (.slice (some ⟨g, 0, none⟩) hs.length cap) (hs.set i { hs[i] with To := u }) := by
  unfold OwnHop
  rw [List.length_set, cellsHop_set_To hs i u hi]
  exact (World.ownsRow.stored h (i * 2 + 1) (.int .i64 u)).1

theorem run_appHop (w : World) (B : Nat) (v : Value) (hs : List HopD) (hown : OwnHop w B v hs) (x : Value) (ys : List HopD) (hsrc : Src w x ys.length (cellsHop ys)) (hl : hs.length + ys.length ≤ 2097152) (hB : B ≤ w.heap.size) (ty : TypeId) :
    ∃ v' w', (Builtin.append_ #[32, 32] ty #[v, x]).run Try.prog w = .ok v' w' ∧ Grown w B 36 2 v (hs ++ ys).length (cellsHop (hs ++ ys)) v' w' := by
  obtain ⟨i0, hi, hz0, hz1, hz2⟩ := info_parts infoHop
  have := run_app w B 32 ty 36 i0 _ 2 16 Try.underlying32 hi hz0 hz1 hz2 rfl (by decide) v hs.length _ hown x ys.length _ hsrc (cellsHop_len ys) (cellsHop_one ys) (by unfold maxLen; omega) (by omega) hB
  rw [cellsHop_app, List.length_append]
  exact this
theorem ReadsHop.src {W : World} {v : Value} {hs : List HopD} (h : ReadsHop W v hs) : v = .slice none 0 0 ∨ (∃ a cap, v = .slice (some a) hs.length cap) ∨ hs = [] := by
  obtain ⟨a, cap, hv, hc⟩ := h
  rcases hc with rfl | ⟨g, o, rfl, -⟩
  · exact .inr (.inr rfl)
  · exact .inr (.inl ⟨_, _, hv⟩)
end Go.Proofs.Ythlbmkefjjckaad
