/-
  Lists of letters: how they lie in memory; 'append' onto them.
-/
import Derived.Test.YtkkamigaolejiaxRow0
import Derived.Deep.RegionWith
import Derived.BigRegion
namespace Go.Proofs.Ytkkamigaolejiax
open Go.RowKit
set_option linter.unusedVariables false

/-- The data of one. -/
structure LtD where
  tt : Int
  bb : Int
  fr : Int
  sq : Int
  ak : Bool

theorem infoLt : (Try.prog.info? 66).map (fun i => (i.zero, i.size, i.bytes)) = some (some (.agg #[.int .i64 0, .int .i64 0, .int .i64 0, .int .i64 0, .bool false]), 5, 40) := by kernel_rfl

/-- At a place of a block lies one. -/
def LtAt (W : World) (g o : Nat) (x : LtD) : Prop := W.cell? ⟨g, o, none⟩ = some (.int .i64 x.tt) ∧ W.cell? ⟨g, o + 1, none⟩ = some (.int .i64 x.bb) ∧ W.cell? ⟨g, o + 2, none⟩ = some (.int .i64 x.fr) ∧ W.cell? ⟨g, o + 3, none⟩ = some (.int .i64 x.sq) ∧ W.cell? ⟨g, o + 4, none⟩ = some (.bool x.ak)
theorem LtAt.below {W W' : World} {g o : Nat} {x : LtD} (h : LtAt W g o x) (hg : g < W.heap.size) (hb : Below W.heap.size W W') : LtAt W' g o x :=
  ⟨(hb.cell (p := ⟨g, o, none⟩) hg).trans h.1, (hb.cell (p := ⟨g, o + 1, none⟩) hg).trans h.2.1, (hb.cell (p := ⟨g, o + 2, none⟩) hg).trans h.2.2.1, (hb.cell (p := ⟨g, o + 3, none⟩) hg).trans h.2.2.2.1, (hb.cell (p := ⟨g, o + 4, none⟩) hg).trans h.2.2.2.2⟩
/-- The slice v reads as the list hs. -/
def ReadsLt (W : World) (v : Value) (hs : List LtD) : Prop :=
  ∃ (a : Option Addr) (cap : Nat), v = .slice a hs.length cap ∧ (hs = [] ∨ ∃ g off, a = some ⟨g, off, none⟩ ∧ g < W.heap.size ∧ ∀ j (hj : j < hs.length), LtAt W g (off + j * 5) hs[j])
theorem ReadsLt.below {W W' : World} {v : Value} {hs : List LtD} (h : ReadsLt W v hs) (hb : Below W.heap.size W W') : ReadsLt W' v hs := by
  obtain ⟨a, cap, hv, hc⟩ := h
  refine ⟨a, cap, hv, hc.imp id ?_⟩
  rintro ⟨g, off, ha, hg, hcell⟩
  exact ⟨g, off, ha, Nat.lt_of_lt_of_le hg hb.size, fun j hj => (hcell j hj).below hg hb⟩
theorem ReadsLt.shape {W : World} {v : Value} {hs : List LtD} (h : ReadsLt W v hs) : ∃ a cap, v = .slice a hs.length cap := by obtain ⟨a, cap, hv, -⟩ := h; exact ⟨a, cap, hv⟩

/-- Their cells. -/
def cellsLt : List LtD → List Value
  | [] => []
  | x :: xs => .int .i64 x.tt :: .int .i64 x.bb :: .int .i64 x.fr :: .int .i64 x.sq :: .bool x.ak :: cellsLt xs
theorem cellsLt_len : ∀ hs : List LtD, (cellsLt hs).length = hs.length * 5
  | [] => rfl
  | x :: xs => by have := cellsLt_len xs; simp only [cellsLt, List.length_cons]; omega
theorem cellsLt_app : ∀ a b : List LtD, cellsLt (a ++ b) = cellsLt a ++ cellsLt b
  | [], b => rfl
  | x :: xs, b => by simp only [List.cons_append, cellsLt, cellsLt_app xs b]
theorem cellsLt_get : ∀ (hs : List LtD) (j : Nat) (hj : j < hs.length), (cellsLt hs)[j * 5]? = some (.int .i64 hs[j].tt) ∧ (cellsLt hs)[j * 5 + 1]? = some (.int .i64 hs[j].bb) ∧ (cellsLt hs)[j * 5 + 2]? = some (.int .i64 hs[j].fr) ∧ (cellsLt hs)[j * 5 + 3]? = some (.int .i64 hs[j].sq) ∧ (cellsLt hs)[j * 5 + 4]? = some (.bool hs[j].ak)
  | x :: xs, 0, _ => ⟨rfl, rfl, rfl, rfl, rfl⟩
  | x :: xs, j + 1, hj => by
    have := cellsLt_get xs j (by simpa using hj)
    have e : (j + 1) * 5 = j * 5 + 1 + 1 + 1 + 1 + 1 := by omega
    simp only [cellsLt, e, List.getElem?_cons_succ, List.getElem_cons_succ]
    exact this
theorem cellsLt_one : ∀ (hs : List LtD), ∀ u ∈ cellsLt hs, u.oneCell' = true
  | [], u, hu => by cases hu
  | x :: xs, u, hu => by
    simp only [cellsLt, List.mem_cons] at hu
    rcases hu with rfl | rfl | rfl | rfl | rfl | hu
    · rfl
    · rfl
    · rfl
    · rfl
    · rfl
    · exact cellsLt_one xs u hu
theorem cellsLt_set : ∀ (hs : List LtD) (i : Nat) (x : LtD) (h : i < hs.length), cellsLt (hs.set i x) = ((((((cellsLt hs)).set (i * 5) (.int .i64 x.tt)).set (i * 5 + 1) (.int .i64 x.bb)).set (i * 5 + 2) (.int .i64 x.fr)).set (i * 5 + 3) (.int .i64 x.sq)).set (i * 5 + 4) (.bool x.ak)
  | y :: ys, 0, x, _ => rfl
  | y :: ys, i + 1, x, h => by
    have e : (i + 1) * 5 = i * 5 + 1 + 1 + 1 + 1 + 1 := by omega
    simp only [List.set_cons_succ, cellsLt, e]
    rw [cellsLt_set ys i x (by simpa using h)]
theorem cellsLt_set_tt : ∀ (hs : List LtD) (i : Nat) (u : Int) (h : i < hs.length), cellsLt (hs.set i { hs[i] with tt := u }) = (cellsLt hs).set (i * 5) (.int .i64 u)
  | y :: ys, 0, u, _ => rfl
  | y :: ys, i + 1, u, h => by
    have e : (i + 1) * 5 = i * 5 + 1 + 1 + 1 + 1 + 1 := by omega
    simp only [List.set_cons_succ, cellsLt, List.getElem_cons_succ, e]
    rw [cellsLt_set_tt ys i u (by simpa using h)]
theorem cellsLt_set_bb : ∀ (hs : List LtD) (i : Nat) (u : Int) (h : i < hs.length), cellsLt (hs.set i { hs[i] with bb := u }) = (cellsLt hs).set (i * 5 + 1) (.int .i64 u)
  | y :: ys, 0, u, _ => rfl
  | y :: ys, i + 1, u, h => by
    have e : (i + 1) * 5 + 1 = i * 5 + 1 + 1 + 1 + 1 + 1 + 1 := by omega
    simp only [List.set_cons_succ, cellsLt, List.getElem_cons_succ, e]
    rw [cellsLt_set_bb ys i u (by simpa using h)]
theorem cellsLt_set_fr : ∀ (hs : List LtD) (i : Nat) (u : Int) (h : i < hs.length), cellsLt (hs.set i { hs[i] with fr := u }) = (cellsLt hs).set (i * 5 + 2) (.int .i64 u)
  | y :: ys, 0, u, _ => rfl
  | y :: ys, i + 1, u, h => by
    have e : (i + 1) * 5 + 2 = i * 5 + 2 + 1 + 1 + 1 + 1 + 1 := by omega
    simp only [List.set_cons_succ, cellsLt, List.getElem_cons_succ, e]
    rw [cellsLt_set_fr ys i u (by simpa using h)]
theorem cellsLt_set_sq : ∀ (hs : List LtD) (i : Nat) (u : Int) (h : i < hs.length), cellsLt (hs.set i { hs[i] with sq := u }) = (cellsLt hs).set (i * 5 + 3) (.int .i64 u)
  | y :: ys, 0, u, _ => rfl
  | y :: ys, i + 1, u, h => by
    have e : (i + 1) * 5 + 3 = i * 5 + 3 + 1 + 1 + 1 + 1 + 1 := by omega
    simp only [List.set_cons_succ, cellsLt, List.getElem_cons_succ, e]
    rw [cellsLt_set_sq ys i u (by simpa using h)]
theorem cellsLt_set_ak : ∀ (hs : List LtD) (i : Nat) (u : Bool) (h : i < hs.length), cellsLt (hs.set i { hs[i] with ak := u }) = (cellsLt hs).set (i * 5 + 4) (.bool u)
  | y :: ys, 0, u, _ => rfl
  | y :: ys, i + 1, u, h => by
    have e : (i + 1) * 5 + 4 = i * 5 + 4 + 1 + 1 + 1 + 1 + 1 := by omega
    simp only [List.set_cons_succ, cellsLt, List.getElem_cons_succ, e]
    rw [cellsLt_set_ak ys i u (by simpa using h)]

/-- The slice v owns the list hs, in a block from B on. -/
def OwnLt (W : World) (B : Nat) (v : Value) (hs : List LtD) : Prop := W.ownsRow B 66 5 v hs.length (cellsLt hs)
theorem OwnLt.nil (W : World) (B : Nat) : OwnLt W B (.slice none 0 0) [] := World.ownsRow_nil W B _ 5
theorem OwnLt.below {W W' : World} {B : Nat} {v : Value} {hs : List LtD} (h : OwnLt W B v hs) (hb : Below W.heap.size W W') : OwnLt W' B v hs := rowBelow h hb
theorem OwnLt.mono {W : World} {B B' : Nat} {v : Value} {hs : List LtD} (h : OwnLt W B v hs) (hB : B' ≤ B) : OwnLt W B' v hs := rowMono h hB
theorem OwnLt.shape {W : World} {B : Nat} {v : Value} {hs : List LtD} (h : OwnLt W B v hs) : ∃ a cap, v = .slice a hs.length cap := rowShape h
theorem OwnLt.reads {W : World} {B : Nat} {v : Value} {hs : List LtD} (h : OwnLt W B v hs) : ReadsLt W v hs := by
  have h' := h
  rcases h.2 with ⟨hv, hn⟩ | ⟨g, cap, cur, hv, hB, hg, -⟩
  · exact ⟨none, 0, by rw [hv, hn], .inl (List.eq_nil_of_length_eq_zero hn)⟩
  · subst hv
    refine ⟨_, _, rfl, .inr ⟨g, 0, rfl, (Array.getElem?_eq_some_iff.1 hg).1, fun j hj => ?_⟩⟩
    obtain ⟨c0, c1, c2, c3, c4⟩ := cellsLt_get hs j hj
    rw [Nat.zero_add]
    exact ⟨(World.ownsRow.cellAt h' _ (by omega)).trans c0, (World.ownsRow.cellAt h' _ (by omega)).trans c1, (World.ownsRow.cellAt h' _ (by omega)).trans c2, (World.ownsRow.cellAt h' _ (by omega)).trans c3, (World.ownsRow.cellAt h' _ (by omega)).trans c4⟩
theorem OwnLt.grow {W W' : World} {B : Nat} {v : Value} {hs : List LtD} {row : Option Nat} (h : OwnLt W B v hs) (hg : W.grownBy W' row) (hne : ∀ k, row = some k → v.ownBlock ≠ some k) : OwnLt W' B v hs := by
  refine World.ownsRow.kept h hg ?_
  rcases hv : v.ownBlock with _ | k
  · exact .inl rfl
  · exact .inr fun e => hne k e.symm hv
theorem OwnLt.setCell {W : World} {B : Nat} {v : Value} {hs : List LtD} (h : OwnLt W B v hs) {p : Addr} (hp : p.block < B) (u : Value) : OwnLt (W.setCell p u) B v hs := rowSet h hp u

/-- A store of a whole one. -/
theorem OwnLt.set {W : World} {B g cap : Nat} {hs : List LtD} (h : OwnLt W B (.slice (some ⟨g, 0, none⟩) hs.length cap) hs) (i : Nat) (hi : i < hs.length) (x : LtD) :
    OwnLt ((((((W).setCell ⟨g, i * 5, none⟩ (.int .i64 x.tt)).setCell ⟨g, i * 5 + 1, none⟩ (.int .i64 x.bb)).setCell ⟨g, i * 5 + 2, none⟩ (.int .i64 x.fr)).setCell ⟨g, i * 5 + 3, none⟩ (.int .i64 x.sq)).setCell ⟨g, i * 5 + 4, none⟩ (.bool x.ak)) B (.slice (some ⟨g, 0, none⟩) hs.length cap) (hs.set i x) := by
  have h1 := (World.ownsRow.stored h (i * 5) (.int .i64 x.tt)).1
  have h2 := (World.ownsRow.stored h1 (i * 5 + 1) (.int .i64 x.bb)).1
  have h3 := (World.ownsRow.stored h2 (i * 5 + 2) (.int .i64 x.fr)).1
  have h4 := (World.ownsRow.stored h3 (i * 5 + 3) (.int .i64 x.sq)).1
  have h5 := (World.ownsRow.stored h4 (i * 5 + 4) (.bool x.ak)).1
  unfold OwnLt
  rw [List.length_set, cellsLt_set hs i x hi]
  exact h5
theorem OwnLt.set_tt {W : World} {B g cap : Nat} {hs : List LtD} (h : OwnLt W B (.slice (some ⟨g, 0, none⟩) hs.length cap) hs) (i : Nat) (hi : i < hs.length) (u : Int) :
    OwnLt (W.setCell ⟨g, i * 5, none⟩ (.int .i64 u)) B (.slice (some ⟨g, 0, none⟩) hs.length cap) (hs.set i { hs[i] with tt := u }) := by
  unfold OwnLt
  rw [List.length_set, cellsLt_set_tt hs i u hi]
  exact (World.ownsRow.stored h (i * 5) (.int .i64 u)).1
theorem OwnLt.set_bb {W : World} {B g cap : Nat} {hs : List LtD} (h : OwnLt W B (.slice (some ⟨g, 0, none⟩) hs.length cap) hs) (i : Nat) (hi : i < hs.length) (u : Int) :
    OwnLt (W.setCell ⟨g, i * 5 + 1, none⟩ (.int .i64 u)) B (.slice (some ⟨g, 0, none⟩) hs.length cap) (hs.set i { hs[i] with bb := u }) := by
  unfold OwnLt
  rw [List.length_set, cellsLt_set_bb hs i u hi]
  exact (World.ownsRow.stored h (i * 5 + 1) (.int .i64 u)).1
theorem OwnLt.set_fr {W : World} {B g cap : Nat} {hs : List LtD} (h : OwnLt W B (.slice (some ⟨g, 0, none⟩) hs.length cap) hs) (i : Nat) (hi : i < hs.length) (u : Int) :
    OwnLt (W.setCell ⟨g, i * 5 + 2, none⟩ (.int .i64 u)) B (.slice (some ⟨g, 0, none⟩) hs.length cap) (hs.set i { hs[i] with fr := u }) := by
  unfold OwnLt
  rw [List.length_set, cellsLt_set_fr hs i u hi]
  exact (World.ownsRow.stored h (i * 5 + 2) (.int .i64 u)).1
theorem OwnLt.set_sq {W : World} {B g cap : Nat} {hs : List LtD} (h : OwnLt W B (.slice (some ⟨g, 0, none⟩) hs.length cap) hs) (i : Nat) (hi : i < hs.length) (u : Int) :
    OwnLt (W.setCell ⟨g, i * 5 + 3, none⟩ (.int .i64 u)) B (.slice (some ⟨g, 0, none⟩) hs.length cap) (hs.set i { hs[i] with sq := u }) := by
  unfold OwnLt
  rw [List.length_set, cellsLt_set_sq hs i u hi]
  exact (World.ownsRow.stored h (i * 5 + 3) (.int .i64 u)).1
theorem OwnLt.set_ak {W : World} {B g cap : Nat} {hs : List LtD} (h : OwnLt W B (.slice (some ⟨g, 0, none⟩) hs.length cap) hs) (i : Nat) (hi : i < hs.length) (u : Bool) :
    OwnLt (W.setCell ⟨g, i * 5 + 4, none⟩ (.bool u)) B (.slice (some ⟨g, 0, none⟩) hs.length cap) (hs.set i { hs[i] with ak := u }) := by
  unfold OwnLt
  rw [List.length_set, cellsLt_set_ak hs i u hi]
  exact (World.ownsRow.stored h (i * 5 + 4) (.bool u)).1

theorem run_appLt (w : World) (B : Nat) (v : Value) (hs : List LtD) (hown : OwnLt w B v hs) (x : Value) (ys : List LtD) (hsrc : Src w x ys.length (cellsLt ys)) (hl : hs.length + ys.length ≤ 2097152) (hB : B ≤ w.heap.size) (ty : TypeId) :
    ∃ v' w', (Builtin.append_ #[29, 29] ty #[v, x]).run Try.prog w = .ok v' w' ∧ Grown w B 66 5 v (hs ++ ys).length (cellsLt (hs ++ ys)) v' w' := by
  obtain ⟨i0, hi, hz0, hz1, hz2⟩ := info_parts infoLt
  have := run_app w B 29 ty 66 i0 _ 5 40 Try.underlying29 hi hz0 hz1 hz2 rfl (by decide) v hs.length _ hown x ys.length _ hsrc (cellsLt_len ys) (cellsLt_one ys) (by unfold maxLen; omega) (by omega) hB
  rw [cellsLt_app, List.length_append]
  exact this
theorem ReadsLt.src {W : World} {v : Value} {hs : List LtD} (h : ReadsLt W v hs) : v = .slice none 0 0 ∨ (∃ a cap, v = .slice (some a) hs.length cap) ∨ hs = [] := by
  obtain ⟨a, cap, hv, hc⟩ := h
  rcases hc with rfl | ⟨g, o, rfl, -⟩
  · exact .inr (.inr rfl)
  · exact .inr (.inl ⟨_, _, hv⟩)
end Go.Proofs.Ytkkamigaolejiax
