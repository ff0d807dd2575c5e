/-
  Lists of steps: how they lie in memory; 'append' onto them.
-/
import Derived.Test.YtchddjidjfpehaaRow0
import Derived.Deep.RegionWith
import Derived.BigRegion
namespace Go.Proofs.Ytchddjidjfpehaa
open Go.RowKit
set_option linter.unusedVariables false

/-- The data of one. -/
structure StD where
  kd : Int
  k : Int

theorem infoSt : (Try.prog.info? 53).map (fun i => (i.zero, i.size, i.bytes)) = some (some (.agg #[.int .i64 0, .int .i64 0]), 2, 16) := by kernel_rfl

/-- At a place of a block lies one. -/
def StAt (W : World) (g o : Nat) (x : StD) : Prop := W.cell? ⟨g, o, none⟩ = some (.int .i64 x.kd) ∧ W.cell? ⟨g, o + 1, none⟩ = some (.int .i64 x.k)
theorem StAt.below {W W' : World} {g o : Nat} {x : StD} (h : StAt W g o x) (hg : g < W.heap.size) (hb : Below W.heap.size W W') : StAt W' g o x :=
  ⟨(hb.cell (p := ⟨g, o, none⟩) hg).trans h.1, (hb.cell (p := ⟨g, o + 1, none⟩) hg).trans h.2⟩
/-- The slice v reads as the list hs. -/
def ReadsSt (W : World) (v : Value) (hs : List StD) : Prop :=
  ∃ (a : Option Addr) (cap : Nat), v = .slice a hs.length cap ∧ (hs = [] ∨ ∃ g off, a = some ⟨g, off, none⟩ ∧ g < W.heap.size ∧ ∀ j (hj : j < hs.length), StAt W g (off + j * 2) hs[j])
theorem ReadsSt.below {W W' : World} {v : Value} {hs : List StD} (h : ReadsSt W v hs) (hb : Below W.heap.size W W') : ReadsSt W' v hs := by
  obtain ⟨a, cap, hv, hc⟩ := h
  refine ⟨a, cap, hv, hc.imp id ?_⟩
  rintro ⟨g, off, ha, hg, hcell⟩
  exact ⟨g, off, ha, Nat.lt_of_lt_of_le hg hb.size, fun j hj => (hcell j hj).below hg hb⟩
theorem ReadsSt.shape {W : World} {v : Value} {hs : List StD} (h : ReadsSt W v hs) : ∃ a cap, v = .slice a hs.length cap := by obtain ⟨a, cap, hv, -⟩ := h; exact ⟨a, cap, hv⟩

/-- Their cells. -/
def cellsSt : List StD → List Value
  | [] => []
  | x :: xs => .int .i64 x.kd :: .int .i64 x.k :: cellsSt xs
theorem cellsSt_len : ∀ hs : List StD, (cellsSt hs).length = hs.length * 2
  | [] => rfl
  | x :: xs => by have := cellsSt_len xs; simp only [cellsSt, List.length_cons]; omega
theorem cellsSt_app : ∀ a b : List StD, cellsSt (a ++ b) = cellsSt a ++ cellsSt b
  | [], b => rfl
  | x :: xs, b => by simp only [List.cons_append, cellsSt, cellsSt_app xs b]
theorem cellsSt_get : ∀ (hs : List StD) (j : Nat) (hj : j < hs.length), (cellsSt hs)[j * 2]? = some (.int .i64 hs[j].kd) ∧ (cellsSt hs)[j * 2 + 1]? = some (.int .i64 hs[j].k)
  | x :: xs, 0, _ => ⟨rfl, rfl⟩
  | x :: xs, j + 1, hj => by
    have := cellsSt_get xs j (by simpa using hj)
    have e : (j + 1) * 2 = j * 2 + 1 + 1 := by omega
    simp only [cellsSt, e, List.getElem?_cons_succ, List.getElem_cons_succ]
    exact this
theorem cellsSt_one : ∀ (hs : List StD), ∀ u ∈ cellsSt hs, u.oneCell' = true
  | [], u, hu => by cases hu
  | x :: xs, u, hu => by
    simp only [cellsSt, List.mem_cons] at hu
    rcases hu with rfl | rfl | hu
    · rfl
    · rfl
    · exact cellsSt_one xs u hu
theorem cellsSt_set : ∀ (hs : List StD) (i : Nat) (x : StD) (h : i < hs.length), cellsSt (hs.set i x) = (((cellsSt hs)).set (i * 2) (.int .i64 x.kd)).set (i * 2 + 1) (.int .i64 x.k)
  | y :: ys, 0, x, _ => rfl
  | y :: ys, i + 1, x, h => by
    have e : (i + 1) * 2 = i * 2 + 1 + 1 := by omega
    simp only [List.set_cons_succ, cellsSt, e]
    rw [cellsSt_set ys i x (by simpa using h)]
theorem cellsSt_set_kd : ∀ (hs : List StD) (i : Nat) (u : Int) (h : i < hs.length), cellsSt (hs.set i { hs[i] with kd := u }) = (cellsSt hs).set (i * 2) (.int .i64 u)
  | y :: ys, 0, u, _ => rfl
  | y :: ys, i + 1, u, h => by
    have e : (i + 1) * 2 = i * 2 + 1 + 1 := by omega
    simp only [List.set_cons_succ, cellsSt, List.getElem_cons_succ, e]
    rw [cellsSt_set_kd ys i u (by simpa using h)]
theorem cellsSt_set_k : ∀ (hs : List StD) (i : Nat) (u : Int) (h : i < hs.length), cellsSt (hs.set i { hs[i] with k := u }) = (cellsSt hs).set (i * 2 + 1) (.int .i64 u)
  | y :: ys, 0, u, _ => rfl
  | y :: ys, i + 1, u, h => by
    have e : (i + 1) * 2 + 1 = i * 2 + 1 + 1 + 1 := by omega
    simp only [List.set_cons_succ, cellsSt, List.getElem_cons_succ, e]
    rw [cellsSt_set_k ys i u (by simpa using h)]

/-- The slice v owns the list hs, in a block from B on. -/
def OwnSt (W : World) (B : Nat) (v : Value) (hs : List StD) : Prop := W.ownsRow B 53 2 v hs.length (cellsSt hs)
theorem OwnSt.nil (W : World) (B : Nat) : OwnSt W B (.slice none 0 0) [] := World.ownsRow_nil W B _ 2
theorem OwnSt.below {W W' : World} {B : Nat} {v : Value} {hs : List StD} (h : OwnSt W B v hs) (hb : Below W.heap.size W W') : OwnSt W' B v hs := rowBelow h hb
theorem OwnSt.mono {W : World} {B B' : Nat} {v : Value} {hs : List StD} (h : OwnSt W B v hs) (hB : B' ≤ B) : OwnSt W B' v hs := rowMono h hB
theorem OwnSt.shape {W : World} {B : Nat} {v : Value} {hs : List StD} (h : OwnSt W B v hs) : ∃ a cap, v = .slice a hs.length cap := rowShape h
theorem OwnSt.reads {W : World} {B : Nat} {v : Value} {hs : List StD} (h : OwnSt W B v hs) : ReadsSt W v hs := by
  have h' := h
  rcases h.2 with ⟨hv, hn⟩ | ⟨g, cap, cur, hv, hB, hg, -⟩
  · exact ⟨none, 0, by rw [hv, hn], .inl (List.eq_nil_of_length_eq_zero hn)⟩
  · subst hv
    refine ⟨_, _, rfl, .inr ⟨g, 0, rfl, (Array.getElem?_eq_some_iff.1 hg).1, fun j hj => ?_⟩⟩
    obtain ⟨c0, c1⟩ := cellsSt_get hs j hj
    rw [Nat.zero_add]
    exact ⟨(World.ownsRow.cellAt h' _ (by omega)).trans c0, (World.ownsRow.cellAt h' _ (by omega)).trans c1⟩
theorem OwnSt.grow {W W' : World} {B : Nat} {v : Value} {hs : List StD} {row : Option Nat} (h : OwnSt W B v hs) (hg : W.grownBy W' row) (hne : ∀ k, row = some k → v.ownBlock ≠ some k) : OwnSt W' B v hs := by
  refine World.ownsRow.kept h hg ?_
  rcases hv : v.ownBlock with _ | k
  · exact .inl rfl
  · exact .inr fun e => hne k e.symm hv
theorem OwnSt.setCell {W : World} {B : Nat} {v : Value} {hs : List StD} (h : OwnSt W B v hs) {p : Addr} (hp : p.block < B) (u : Value) : OwnSt (W.setCell p u) B v hs := rowSet h hp u

/-- A store of a whole one. -/
theorem OwnSt.set {W : World} {B g cap : Nat} {hs : List StD} (h : OwnSt W B (.slice (some ⟨g, 0, none⟩) hs.length cap) hs) (i : Nat) (hi : i < hs.length) (x : StD) :
    OwnSt (((W).setCell ⟨g, i * 2, none⟩ (.int .i64 x.kd)).setCell ⟨g, i * 2 + 1, none⟩ (.int .i64 x.k)) B (.slice (some ⟨g, 0, none⟩) hs.length cap) (hs.set i x) := by
  have h1 := (World.ownsRow.stored h (i * 2) (.int .i64 x.kd)).1
  have h2 := (World.ownsRow.stored h1 (i * 2 + 1) (.int .i64 x.k)).1
  unfold OwnSt
  rw [List.length_set, cellsSt_set hs i x hi]
  exact h2
theorem OwnSt.set_kd {W : World} {B g cap : Nat} {hs : List StD} (h : OwnSt W B (.slice (some ⟨g, 0, none⟩) hs.length cap) hs) (i : Nat) (hi : i < hs.length) (u : Int) :
    OwnSt (W.setCell ⟨g, i * 2, none⟩ (.int .i64 u)) B (.slice (some ⟨g, 0, none⟩) hs.length cap) (hs.set i { hs[i] with kd := u }) := by
  unfold OwnSt
  rw [List.length_set, cellsSt_set_kd hs i u hi]
  exact (World.ownsRow.stored h (i * 2) (.int .i64 u)).1
theorem OwnSt.set_k {W : World} {B g cap : Nat} {hs : List StD} (h : OwnSt W B (.slice (some ⟨g, 0, none⟩) hs.length cap) hs) (i : Nat) (hi : i < hs.length) (u : Int) :
    OwnSt (W.setCell ⟨g, i * 2 + 1, none⟩ (.int .i64 u)) B (.slice (some ⟨g, 0, none⟩) hs.length cap) (hs.set i { hs[i] with k := u }) := by
  unfold OwnSt
  rw [List.length_set, cellsSt_set_k hs i u hi]
  exact (World.ownsRow.stored h (i * 2 + 1) (.int .i64 u)).1

theorem run_appSt (w : World) (B : Nat) (v : Value) (hs : List StD) (hown : OwnSt w B v hs) (x : Value) (ys : List StD) (hsrc : Src w x ys.length (cellsSt ys)) (hl : hs.length + ys.length ≤ 2097152) (hB : B ≤ w.heap.size) (ty : TypeId) :
    ∃ v' w', (Builtin.append_ #[35, 35] ty #[v, x]).run Try.prog w = .ok v' w' ∧ Grown w B 53 2 v (hs ++ ys).length (cellsSt (hs ++ ys)) v' w' := by
  obtain ⟨i0, hi, hz0, hz1, hz2⟩ := info_parts infoSt
  have := run_app w B 35 ty 53 i0 _ 2 16 Try.underlying35 hi hz0 hz1 hz2 rfl (by decide) v hs.length _ hown x ys.length _ hsrc (cellsSt_len ys) (cellsSt_one ys) (by unfold maxLen; omega) (by omega) hB
  rw [cellsSt_app, List.length_append]
  exact this
theorem ReadsSt.src {W : World} {v : Value} {hs : List StD} (h : ReadsSt W v hs) : v = .slice none 0 0 ∨ (∃ a cap, v = .slice (some a) hs.length cap) ∨ hs = [] := by
  obtain ⟨a, cap, hv, hc⟩ := h
  rcases hc with rfl | ⟨g, o, rfl, -⟩
  · exact .inr (.inr rfl)
  · exact .inr (.inl ⟨_, _, hv⟩)
end Go.Proofs.Ytchddjidjfpehaa
