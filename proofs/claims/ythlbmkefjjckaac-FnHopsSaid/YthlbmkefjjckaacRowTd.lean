/-
  Lists of tellings: how they lie in memory; 'append' onto them.
-/
import Derived.Test.YthlbmkefjjckaacRow0
import Derived.Deep.RegionWith
import Derived.BigRegion
namespace Go.Proofs.Ythlbmkefjjckaac
open Go.RowKit
set_option linter.unusedVariables false

/-- The data of one. -/
structure TdD where
  By : Int
  Near : Int
  Cost : Int

theorem infoTd : (Try.prog.info? 71).map (fun i => (i.zero, i.size, i.bytes)) = some (some (.agg #[.int .i64 0, .int .i64 0, .int .i64 0]), 3, 24) := by kernel_rfl

/-- At a place of a block lies one. -/
def TdAt (W : World) (g o : Nat) (x : TdD) : Prop := W.cell? ⟨g, o, none⟩ = some (.int .i64 x.By) ∧ W.cell? ⟨g, o + 1, none⟩ = some (.int .i64 x.Near) ∧ W.cell? ⟨g, o + 2, none⟩ = some (.int .i64 x.Cost)
theorem TdAt.below {W W' : World} {g o : Nat} {x : TdD} (h : TdAt W g o x) (hg : g < W.heap.size) (hb : Below W.heap.size W W') : TdAt W' g o x :=
  ⟨(hb.cell (p := ⟨g, o, none⟩) hg).trans h.1, (hb.cell (p := ⟨g, o + 1, none⟩) hg).trans h.2.1, (hb.cell (p := ⟨g, o + 2, none⟩) hg).trans h.2.2⟩
/-- The slice v reads as the list hs. -/
def ReadsTd (W : World) (v : Value) (hs : List TdD) : Prop :=
  ∃ (a : Option Addr) (cap : Nat), v = .slice a hs.length cap ∧ (hs = [] ∨ ∃ g off, a = some ⟨g, off, none⟩ ∧ g < W.heap.size ∧ ∀ j (hj : j < hs.length), TdAt W g (off + j * 3) hs[j])
theorem ReadsTd.below {W W' : World} {v : Value} {hs : List TdD} (h : ReadsTd W v hs) (hb : Below W.heap.size W W') : ReadsTd W' v hs := by
  obtain ⟨a, cap, hv, hc⟩ := h
  refine ⟨a, cap, hv, hc.imp id ?_⟩
  rintro ⟨g, off, ha, hg, hcell⟩
  exact ⟨g, off, ha, Nat.lt_of_lt_of_le hg hb.size, fun j hj => (hcell j hj).below hg hb⟩
theorem ReadsTd.shape {W : World} {v : Value} {hs : List TdD} (h : ReadsTd W v hs) : ∃ a cap, v = .slice a hs.length cap := by obtain ⟨a, cap, hv, -⟩ := h; exact ⟨a, cap, hv⟩

/-- Their cells. -/
def cellsTd : List TdD → List Value
  | [] => []
  | x :: xs => .int .i64 x.By :: .int .i64 x.Near :: .int .i64 x.Cost :: cellsTd xs
theorem cellsTd_len : ∀ hs : List TdD, (cellsTd hs).length = hs.length * 3
  | [] => rfl
  | x :: xs => by have := cellsTd_len xs; simp only [cellsTd, List.length_cons]; omega
theorem cellsTd_app : ∀ a b : List TdD, cellsTd (a ++ b) = cellsTd a ++ cellsTd b
  | [], b => rfl
  | x :: xs, b => by simp only [List.cons_append, cellsTd, cellsTd_app xs b]
theorem cellsTd_get : ∀ (hs : List TdD) (j : Nat) (hj : j < hs.length), (cellsTd hs)[j * 3]? = some (.int .i64 hs[j].By) ∧ (cellsTd hs)[j * 3 + 1]? = some (.int .i64 hs[j].Near) ∧ (cellsTd hs)[j * 3 + 2]? = some (.int .i64 hs[j].Cost)
  | x :: xs, 0, _ => ⟨rfl, rfl, rfl⟩
  | x :: xs, j + 1, hj => by
    have := cellsTd_get xs j (by simpa using hj)
    have e : (j + 1) * 3 = j * 3 + 1 + 1 + 1 := by omega
    simp only [cellsTd, e, List.getElem?_cons_succ, List.getElem_cons_succ]
    exact this
theorem cellsTd_one : ∀ (hs : List TdD), ∀ u ∈ cellsTd hs, u.oneCell' = true
  | [], u, hu => by cases hu
  | x :: xs, u, hu => by
    simp only [cellsTd, List.mem_cons] at hu
    rcases hu with rfl | rfl | rfl | hu
    · rfl
    · rfl
    · rfl
    · exact cellsTd_one xs u hu
theorem cellsTd_set : ∀ (hs : List TdD) (i : Nat) (x : TdD) (h : i < hs.length), cellsTd (hs.set i x) = ((((cellsTd hs)).set (i * 3) (.int .i64 x.By)).set (i * 3 + 1) (.int .i64 x.Near)).set (i * 3 + 2) (.int .i64 x.Cost)
  | y :: ys, 0, x, _ => rfl
  | y :: ys, i + 1, x, h => by
    have e : (i + 1) * 3 = i * 3 + 1 + 1 + 1 := by omega
    simp only [List.set_cons_succ, cellsTd, e]
    rw [cellsTd_set ys i x (by simpa using h)]
theorem cellsTd_set_By : ∀ (hs : List TdD) (i : Nat) (u : Int) (h : i < hs.length), cellsTd (hs.set i { hs[i] with By := u }) = (cellsTd hs).set (i * 3) (.int .i64 u)
  | y :: ys, 0, u, _ => rfl
  | y :: ys, i + 1, u, h => by
    have e : (i + 1) * 3 = i * 3 + 1 + 1 + 1 := by omega
    simp only [List.set_cons_succ, cellsTd, List.getElem_cons_succ, e]
    rw [cellsTd_set_By ys i u (by simpa using h)]
theorem cellsTd_set_Near : ∀ (hs : List TdD) (i : Nat) (u : Int) (h : i < hs.length), cellsTd (hs.set i { hs[i] with Near := u }) = (cellsTd hs).set (i * 3 + 1) (.int .i64 u)
  | y :: ys, 0, u, _ => rfl
  | y :: ys, i + 1, u, h => by
    have e : (i + 1) * 3 + 1 = i * 3 + 1 + 1 + 1 + 1 := by omega
    simp only [List.set_cons_succ, cellsTd, List.getElem_cons_succ, e]
    rw [cellsTd_set_Near ys i u (by simpa using h)]
theorem cellsTd_set_Cost : ∀ (hs : List TdD) (i : Nat) (u : Int) (h : i < hs.length), cellsTd (hs.set i { hs[i] with Cost := u }) = (cellsTd hs).set (i * 3 + 2) (.int .i64 u)
  | y :: ys, 0, u, _ => rfl
  | y :: ys, i + 1, u, h => by
    have e : (i + 1) * 3 + 2 = i * 3 + 2 + 1 + 1 + 1 := by omega
    simp only [List.set_cons_succ, cellsTd, List.getElem_cons_succ, e]
    rw [cellsTd_set_Cost ys i u (by simpa using h)]

/-- The slice v owns the list hs, in a block from B on. -/
def OwnTd (W : World) (B : Nat) (v : Value) (hs : List TdD) : Prop := W.ownsRow B 71 3 v hs.length (cellsTd hs)
theorem OwnTd.nil (W : World) (B : Nat) : OwnTd W B (.slice none 0 0) [] := World.ownsRow_nil W B _ 3
theorem OwnTd.below {W W' : World} {B : Nat} {v : Value} {hs : List TdD} (h : OwnTd W B v hs) (hb : Below W.heap.size W W') : OwnTd W' B v hs := rowBelow h hb
theorem OwnTd.mono {W : World} {B B' : Nat} {v : Value} {hs : List TdD} (h : OwnTd W B v hs) (hB : B' ≤ B) : OwnTd W B' v hs := rowMono h hB
theorem OwnTd.shape {W : World} {B : Nat} {v : Value} {hs : List TdD} (h : OwnTd W B v hs) : ∃ a cap, v = .slice a hs.length cap := rowShape h
theorem OwnTd.reads {W : World} {B : Nat} {v : Value} {hs : List TdD} (h : OwnTd W B v hs) : ReadsTd W v hs := by
  have h' := h
  rcases h.2 with ⟨hv, hn⟩ | ⟨g, cap, cur, hv, hB, hg, -⟩
  · exact ⟨none, 0, by rw [hv, hn], .inl (List.eq_nil_of_length_eq_zero hn)⟩
  · subst hv
    refine ⟨_, _, rfl, .inr ⟨g, 0, rfl, (Array.getElem?_eq_some_iff.1 hg).1, fun j hj => ?_⟩⟩
    obtain ⟨c0, c1, c2⟩ := cellsTd_get hs j hj
    rw [Nat.zero_add]
    exact ⟨(World.ownsRow.cellAt h' _ (by omega)).trans c0, (World.ownsRow.cellAt h' _ (by omega)).trans c1, (World.ownsRow.cellAt h' _ (by omega)).trans c2⟩
theorem OwnTd.grow {W W' : World} {B : Nat} {v : Value} {hs : List TdD} {row : Option Nat} (h : OwnTd W B v hs) (hg : W.grownBy W' row) (hne : ∀ k, row = some k → v.ownBlock ≠ some k) : OwnTd W' B v hs := by
  refine World.ownsRow.kept h hg ?_
  rcases hv : v.ownBlock with _ | k
  · exact .inl rfl
  · exact .inr fun e => hne k e.symm hv
theorem OwnTd.setCell {W : World} {B : Nat} {v : Value} {hs : List TdD} (h : OwnTd W B v hs) {p : Addr} (hp : p.block < B) (u : Value) : OwnTd (W.setCell p u) B v hs := rowSet h hp u

/-- A store of a whole one. -/
theorem OwnTd.set {W : World} {B g cap : Nat} {hs : List TdD} (h : OwnTd W B (.slice (some ⟨g, 0, none⟩) hs.length cap) hs) (i : Nat) (hi : i < hs.length) (x : TdD) :
    OwnTd ((((W).setCell ⟨g, i * 3, none⟩ (.int .i64 x.By)).setCell ⟨g, i * 3 + 1, none⟩ (.int .i64 x.Near)).setCell ⟨g, i * 3 + 2, none⟩ (.int .i64 x.Cost)) B (.slice (some ⟨g, 0, none⟩) hs.length cap) (hs.set i x) := by
  have h1 := (World.ownsRow.stored h (i * 3) (.int .i64 x.By)).1
  have h2 := (World.ownsRow.stored h1 (i * 3 + 1) (.int .i64 x.Near)).1
  have h3 := (World.ownsRow.stored h2 (i * 3 + 2) (.int .i64 x.Cost)).1
  unfold OwnTd
  rw [List.length_set, cellsTd_set hs i x hi]
  exact h3
theorem OwnTd.set_By {W : World} {B g cap : Nat} {hs : List TdD} (h : OwnTd W B (.slice (some ⟨g, 0, none⟩) hs.length cap) hs) (i : Nat) (hi : i < hs.length) (u : Int) :
    OwnTd (W.setCell ⟨g, i * 3, none⟩ (.int .i64 u)) B (.slice (some ⟨g, 0, none⟩) hs.length cap) (hs.set i { hs[i] with By := u }) := by
  unfold OwnTd
  rw [List.length_set, cellsTd_set_By hs i u hi]
  exact (World.ownsRow.stored h (i * 3) (.int .i64 u)).1
theorem OwnTd.set_Near {W : World} {B g cap : Nat} {hs : List TdD} (h : OwnTd W B (.slice (some ⟨g, 0, none⟩) hs.length cap) hs) (i : Nat) (hi : i < hs.length) (u : Int) :
    OwnTd (W.setCell ⟨g, i * 3 + 1, none⟩ (.int .i64 u)) B (.slice (some ⟨g, 0, none⟩) hs.length cap) (hs.set i { hs[i] with Near := u }) := by
  unfold OwnTd
  rw [List.length_set, cellsTd_set_Near hs i u hi]
  exact (World.ownsRow.stored h (i * 3 + 1) (.int .i64 u)).1
theorem OwnTd.set_Cost {W : World} {B g cap : Nat} {hs : List TdD} (h : OwnTd W B (.slice (some ⟨g, 0, none⟩) hs.length cap) hs) (i : Nat) (hi : i < hs.length) (u : Int) :
    OwnTd (W.setCell ⟨g, i * 3 + 2, none⟩ (.int .i64 u)) B (.slice (some ⟨g, 0, none⟩) hs.length cap) (hs.set i { hs[i] with Cost := u }) := by
  unfold OwnTd
  rw [List.length_set, cellsTd_set_Cost hs i u hi]
  exact (World.ownsRow.stored h (i * 3 + 2) (.int .i64 u)).1

theorem run_appTd (w : World) (B : Nat) (v : Value) (hs : List TdD) (hown : OwnTd w B v hs) (x : Value) (ys : List TdD) (hsrc : Src w x ys.length (cellsTd ys)) (hl : hs.length + ys.length ≤ 2097152) (hB : B ≤ w.heap.size) (ty : TypeId) :
    ∃ v' w', (Builtin.append_ #[64, 64] ty #[v, x]).run Try.prog w = .ok v' w' ∧ Grown w B 71 3 v (hs ++ ys).length (cellsTd (hs ++ ys)) v' w' := by
  obtain ⟨i0, hi, hz0, hz1, hz2⟩ := info_parts infoTd
  have := run_app w B 64 ty 71 i0 _ 3 24 Try.underlying64 hi hz0 hz1 hz2 rfl (by decide) v hs.length _ hown x ys.length _ hsrc (cellsTd_len ys) (cellsTd_one ys) (by unfold maxLen; omega) (by omega) hB
  rw [cellsTd_app, List.length_append]
  exact this
theorem ReadsTd.src {W : World} {v : Value} {hs : List TdD} (h : ReadsTd W v hs) : v = .slice none 0 0 ∨ (∃ a cap, v = .slice (some a) hs.length cap) ∨ hs = [] := by
  obtain ⟨a, cap, hv, hc⟩ := h
  rcases hc with rfl | ⟨g, o, rfl, -⟩
  · exact .inr (.inr rfl)
  · exact .inr (.inl ⟨_, _, hv⟩)
end Go.Proofs.Ythlbmkefjjckaac
