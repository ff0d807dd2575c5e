/-
  Lists of edges: how they lie in memory; 'append' onto them.
-/
import Derived.Test.YthlbmkefjjckaadBunA
import Derived.Deep.RegionWith
import Derived.BigRegion
namespace Go.Proofs.Ythlbmkefjjckaad
open Go.RowKit
set_option linter.unusedVariables false

/-- The data of one. -/
structure EdD where
  A : Int
  B : Int
  Cost : Int

theorem infoEd : (Try.prog.info? 84).map (fun i => (i.zero, i.size, i.bytes)) = some (some (.agg #[.int .i64 0, .int .i64 0, .int .i64 0]), 3, 24) := by kernel_rfl

/-- At a place of a block lies one. -/
def EdAt (W : World) (g o : Nat) (x : EdD) : Prop := W.cell? ⟨g, o, none⟩ = some (.int .i64 x.A) ∧ W.cell? ⟨g, o + 1, none⟩ = some (.int .i64 x.B) ∧ W.cell? ⟨g, o + 2, none⟩ = some (.int .i64 x.Cost)
theorem EdAt.below {W W' : World} {g o : Nat} {x : EdD} (h : EdAt W g o x) (hg : g < W.heap.size) (hb : Below W.heap.size W W') : EdAt W' g o x :=
  ⟨(hb.cell (p := ⟨g, o, none⟩) hg).trans h.1, (hb.cell (p := ⟨g, o + 1, none⟩) hg).trans h.2.1, (hb.cell (p := ⟨g, o + 2, none⟩) hg).trans h.2.2⟩
/-- The slice v reads as the list hs. -/
def ReadsEd (W : World) (v : Value) (hs : List EdD) : Prop :=
  ∃ (a : Option Addr) (cap : Nat), v = .slice a hs.length cap ∧ (hs = [] ∨ ∃ g off, a = some ⟨g, off, none⟩ ∧ g < W.heap.size ∧ ∀ j (hj : j < hs.length), EdAt W g (off + j * 3) hs[j])
theorem ReadsEd.below {W W' : World} {v : Value} {hs : List EdD} (h : ReadsEd W v hs) (hb : Below W.heap.size W W') : ReadsEd W' v hs := by
  obtain ⟨a, cap, hv, hc⟩ := h
  refine ⟨a, cap, hv, hc.imp id ?_⟩
  rintro ⟨g, off, ha, hg, hcell⟩
  exact ⟨g, off, ha, Nat.lt_of_lt_of_le hg hb.size, fun j hj => (hcell j hj).below hg hb⟩
theorem ReadsEd.shape {W : World} {v : Value} {hs : List EdD} (h : ReadsEd W v hs) : ∃ a cap, v = .slice a hs.length cap := by obtain ⟨a, cap, hv, -⟩ := h; exact ⟨a, cap, hv⟩

/-- Their cells. -/
def cellsEd : List EdD → List Value
  | [] => []
  | x :: xs => .int .i64 x.A :: .int .i64 x.B :: .int .i64 x.Cost :: cellsEd xs
theorem cellsEd_len : ∀ hs : List EdD, (cellsEd hs).length = hs.length * 3
  | [] => rfl
  | x :: xs => by have := cellsEd_len xs; simp only [cellsEd, List.length_cons]; omega
theorem cellsEd_app : ∀ a b : List EdD, cellsEd (a ++ b) = cellsEd a ++ cellsEd b
  | [], b => rfl
  | x :: xs, b => by simp only [List.cons_append, cellsEd, cellsEd_app xs b]
theorem cellsEd_get : ∀ (hs : List EdD) (j : Nat) (hj : j < hs.length), (cellsEd hs)[j * 3]? = some (.int .i64 hs[j].A) ∧ (cellsEd hs)[j * 3 + 1]? = some (.int .i64 hs[j].B) ∧ (cellsEd hs)[j * 3 + 2]? = some (.int .i64 hs[j].Cost)
  | x :: xs, 0, _ => ⟨rfl, rfl, rfl⟩
  | x :: xs, j + 1, hj => by
    have := cellsEd_get xs j (by simpa using hj)
    have e : (j + 1) * 3 = j * 3 + 1 + 1 + 1 := by omega
    simp only [cellsEd, e, List.getElem?_cons_succ, List.getElem_cons_succ]
    exact this
theorem cellsEd_one : ∀ (hs : List EdD), ∀ u ∈ cellsEd hs, u.oneCell' = true
  | [], u, hu => by cases hu
  | x :: xs, u, hu => by
    simp only [cellsEd, List.mem_cons] at hu
    rcases hu with rfl | rfl | rfl | hu
    · rfl
    · rfl
    · rfl
    · exact cellsEd_one xs u hu
theorem cellsEd_set : ∀ (hs : List EdD) (i : Nat) (x : EdD) (h : i < hs.length), cellsEd (hs.set i x) = ((((cellsEd hs)).set (i * 3) (.int .i64 x.A)).set (i * 3 + 1) (.int .i64 x.B)).set (i * 3 + 2) (.int .i64 x.Cost)
  | y :: ys, 0, x, _ => rfl
  | y :: ys, i + 1, x, h => by
    have e : (i + 1) * 3 = i * 3 + 1 + 1 + 1 := by omega
    simp only [List.set_cons_succ, cellsEd, e]
    rw [cellsEd_set ys i x (by simpa using h)]
theorem cellsEd_set_A : ∀ (hs : List EdD) (i : Nat) (u : Int) (h : i < hs.length), cellsEd (hs.set i { hs[i] with A := u }) = (cellsEd hs).set (i * 3) (.int .i64 u)
  | y :: ys, 0, u, _ => rfl
  | y :: ys, i + 1, u, h => by
    have e : (i + 1) * 3 = i * 3 + 1 + 1 + 1 := by omega
    simp only [List.set_cons_succ, cellsEd, List.getElem_cons_succ, e]
    rw [cellsEd_set_A ys i u (by simpa using h)]
theorem cellsEd_set_B : ∀ (hs : List EdD) (i : Nat) (u : Int) (h : i < hs.length), cellsEd (hs.set i { hs[i] with B := u }) = (cellsEd hs).set (i * 3 + 1) (.int .i64 u)
  | y :: ys, 0, u, _ => rfl
  | y :: ys, i + 1, u, h => by
    have e : (i + 1) * 3 + 1 = i * 3 + 1 + 1 + 1 + 1 := by omega
    simp only [List.set_cons_succ, cellsEd, List.getElem_cons_succ, e]
    rw [cellsEd_set_B ys i u (by simpa using h)]
theorem cellsEd_set_Cost : ∀ (hs : List EdD) (i : Nat) (u : Int) (h : i < hs.length), cellsEd (hs.set i { hs[i] with Cost := u }) = (cellsEd hs).set (i * 3 + 2) (.int .i64 u)
  | y :: ys, 0, u, _ => rfl
  | y :: ys, i + 1, u, h => by
    have e : (i + 1) * 3 + 2 = i * 3 + 2 + 1 + 1 + 1 := by omega
    simp only [List.set_cons_succ, cellsEd, List.getElem_cons_succ, e]
    rw [cellsEd_set_Cost ys i u (by simpa using h)]

/-- The slice v owns the list hs, in a block from B on. -/
def OwnEd (W : World) (B : Nat) (v : Value) (hs : List EdD) : Prop := W.ownsRow B 84 3 v hs.length (cellsEd hs)
theorem OwnEd.nil (W : World) (B : Nat) : OwnEd W B (.slice none 0 0) [] := World.ownsRow_nil W B _ 3
theorem OwnEd.below {W W' : World} {B : Nat} {v : Value} {hs : List EdD} (h : OwnEd W B v hs) (hb : Below W.heap.size W W') : OwnEd W' B v hs := rowBelow h hb
theorem OwnEd.mono {W : World} {B B' : Nat} {v : Value} {hs : List EdD} (h : OwnEd W B v hs) (hB : B' ≤ B) : OwnEd W B' v hs := rowMono h hB
theorem OwnEd.shape {W : World} {B : Nat} {v : Value} {hs : List EdD} (h : OwnEd W B v hs) : ∃ a cap, v = .slice a hs.length cap := rowShape h
theorem OwnEd.reads {W : World} {B : Nat} {v : Value} {hs : List EdD} (h : OwnEd W B v hs) : ReadsEd W v hs := by
  have h' := h
  rcases h.2 with ⟨hv, hn⟩ | ⟨g, cap, cur, hv, hB, hg, -⟩
  · exact ⟨none, 0, by rw [hv, hn], .inl (List.eq_nil_of_length_eq_zero hn)⟩
  · subst hv
    refine ⟨_, _, rfl, .inr ⟨g, 0, rfl, (Array.getElem?_eq_some_iff.1 hg).1, fun j hj => ?_⟩⟩
    obtain ⟨c0, c1, c2⟩ := cellsEd_get hs j hj
    rw [Nat.zero_add]
    exact ⟨(World.ownsRow.cellAt h' _ (by omega)).trans c0, (World.ownsRow.cellAt h' _ (by omega)).trans c1, (World.ownsRow.cellAt h' _ (by omega)).trans c2⟩
theorem OwnEd.grow {W W' : World} {B : Nat} {v : Value} {hs : List EdD} {row : Option Nat} (h : OwnEd W B v hs) (hg : W.grownBy W' row) (hne : ∀ k, row = some k → v.ownBlock ≠ some k) : OwnEd W' B v hs := by
  refine World.ownsRow.kept h hg ?_
  rcases hv : v.ownBlock with _ | k
  · exact .inl rfl
  · exact .inr fun e => hne k e.symm hv
theorem OwnEd.setCell {W : World} {B : Nat} {v : Value} {hs : List EdD} (h : OwnEd W B v hs) {p : Addr} (hp : p.block < B) (u : Value) : OwnEd (W.setCell p u) B v hs := rowSet h hp u

/-- A store of a whole one. -/
theorem OwnEd.set {W : World} {B g cap : Nat} {hs : List EdD} (h : OwnEd W B (.slice (some ⟨g, 0, none⟩) hs.length cap) hs) (i : Nat) (hi : i < hs.length) (x : EdD) :
    OwnEd ((((W).setCell ⟨g, i * 3, none⟩ (.int .i64 x.A)).setCell ⟨g, i * 3 + 1, none⟩ (.int .i64 x.B)).setCell ⟨g, i * 3 + 2, none⟩ (.int .i64 x.Cost)) B (.slice (some ⟨g, 0, none⟩) hs.length cap) (hs.set i x) := by
  have h1 := (World.ownsRow.stored h (i * 3) (.int .i64 x.A)).1
  have h2 := (World.ownsRow.stored h1 (i * 3 + 1) (.int .i64 x.B)).1
  have h3 := (World.ownsRow.stored h2 (i * 3 + 2) (.int .i64 x.Cost)).1
  unfold OwnEd
  rw [List.length_set, cellsEd_set hs i x hi]
  exact h3
theorem OwnEd.set_A {W : World} {B g cap : Nat} {hs : List EdD} (h : OwnEd W B (.slice (some ⟨g, 0, none⟩) hs.length cap) hs) (i : Nat) (hi : i < hs.length) (u : Int) :
    OwnEd (W.setCell ⟨g, i * 3, none⟩ (.int .i64 u)) B (.slice (some ⟨g, 0, none⟩) hs.length cap) (hs.set i { hs[i] with A := u }) := by
  unfold OwnEd
  rw [List.length_set, cellsEd_set_A hs i u hi]
  exact (World.ownsRow.stored h (i * 3) (.int .i64 u)).1
theorem OwnEd.set_B {W : World} {B g cap : Nat} {hs : List EdD} (h : OwnEd W B (.slice (some ⟨g, 0, none⟩) hs.length cap) hs) (i : Nat) (hi : i < hs.length) (u : Int) :
    OwnEd (W.setCell ⟨g, i * 3 + 1, none⟩ (.int .i64 u)) B (.slice (some ⟨g, 0, none⟩) hs.length cap) (hs.set i { hs[i] with B := u }) := by
  unfold OwnEd
  rw [List.length_set, cellsEd_set_B hs i u hi]
  exact (World.ownsRow.stored h (i * 3 + 1) (.int .i64 u)).1
theorem OwnEd.set_Cost {W : World} {B g cap : Nat} {hs : List EdD} (h : OwnEd W B (.slice (some ⟨g, 0, none⟩) hs.length cap) hs) (i : Nat) (hi : i < hs.length) (u : Int) :
    OwnEd (W.setCell ⟨g, i * 3 + 2, none⟩ (.int .i64 u)) B (.slice (some ⟨g, 0, none⟩) hs.length cap) (hs.set i { hs[i] with Cost := u }) := by
  unfold OwnEd
  rw [List.length_set, cellsEd_set_Cost hs i u hi]
  exact (World.ownsRow.stored h (i * 3 + 2) (.int .i64 u)).1

theorem run_appEd (w : World) (B : Nat) (v : Value) (hs : List EdD) (hown : OwnEd w B v hs) (x : Value) (ys : List EdD) (hsrc : Src w x ys.length (cellsEd ys)) (hl : hs.length + ys.length ≤ 2097152) (hB : B ≤ w.heap.size) (ty : TypeId) :
    ∃ v' w', (Builtin.append_ #[23, 23] ty #[v, x]).run Try.prog w = .ok v' w' ∧ Grown w B 84 3 v (hs ++ ys).length (cellsEd (hs ++ ys)) v' w' := by
  obtain ⟨i0, hi, hz0, hz1, hz2⟩ := info_parts infoEd
  have := run_app w B 23 ty 84 i0 _ 3 24 Try.underlying23 hi hz0 hz1 hz2 rfl (by decide) v hs.length _ hown x ys.length _ hsrc (cellsEd_len ys) (cellsEd_one ys) (by unfold maxLen; omega) (by omega) hB
  rw [cellsEd_app, List.length_append]
  exact this
theorem ReadsEd.src {W : World} {v : Value} {hs : List EdD} (h : ReadsEd W v hs) : v = .slice none 0 0 ∨ (∃ a cap, v = .slice (some a) hs.length cap) ∨ hs = [] := by
  obtain ⟨a, cap, hv, hc⟩ := h
  rcases hc with rfl | ⟨g, o, rfl, -⟩
  · exact .inr (.inr rfl)
  · exact .inr (.inl ⟨_, _, hv⟩)
end Go.Proofs.Ythlbmkefjjckaad
