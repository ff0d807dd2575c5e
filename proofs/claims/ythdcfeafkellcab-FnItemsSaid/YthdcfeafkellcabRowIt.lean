/-
  Lists of items: how they lie in memory; 'append' onto them.
-/
import Derived.Test.YthdcfeafkellcabRow0
import Derived.Deep.RegionWith
import Derived.BigRegion
namespace Go.Proofs.Ythdcfeafkellcab
open Go.RowKit
set_option linter.unusedVariables false

/-- The data of one. -/
structure ItD where
  frm : Int
  seq : Int
  age : Int
  text : ByteArray

theorem infoIt : (Try.prog.info? 60).map (fun i => (i.zero, i.size, i.bytes)) = some (some (.agg #[.int .i64 0, .int .i64 0, .int .i64 0, .string ByteArray.empty]), 4, 40) := by kernel_rfl

/-- At a place of a block lies one. -/
def ItAt (W : World) (g o : Nat) (x : ItD) : Prop := W.cell? ⟨g, o, none⟩ = some (.int .i64 x.frm) ∧ W.cell? ⟨g, o + 1, none⟩ = some (.int .i64 x.seq) ∧ W.cell? ⟨g, o + 2, none⟩ = some (.int .i64 x.age) ∧ W.cell? ⟨g, o + 3, none⟩ = some (.string x.text)
theorem ItAt.below {W W' : World} {g o : Nat} {x : ItD} (h : ItAt W g o x) (hg : g < W.heap.size) (hb : Below W.heap.size W W') : ItAt W' g o x :=
  ⟨(hb.cell (p := ⟨g, o, none⟩) hg).trans h.1, (hb.cell (p := ⟨g, o + 1, none⟩) hg).trans h.2.1, (hb.cell (p := ⟨g, o + 2, none⟩) hg).trans h.2.2.1, (hb.cell (p := ⟨g, o + 3, none⟩) hg).trans h.2.2.2⟩
/-- The slice v reads as the list hs. -/
def ReadsIt (W : World) (v : Value) (hs : List ItD) : Prop :=
  ∃ (a : Option Addr) (cap : Nat), v = .slice a hs.length cap ∧ (hs = [] ∨ ∃ g off, a = some ⟨g, off, none⟩ ∧ g < W.heap.size ∧ ∀ j (hj : j < hs.length), ItAt W g (off + j * 4) hs[j])
theorem ReadsIt.below {W W' : World} {v : Value} {hs : List ItD} (h : ReadsIt W v hs) (hb : Below W.heap.size W W') : ReadsIt W' v hs := by
  obtain ⟨a, cap, hv, hc⟩ := h
  refine ⟨a, cap, hv, hc.imp id ?_⟩
  rintro ⟨g, off, ha, hg, hcell⟩
  exact ⟨g, off, ha, Nat.lt_of_lt_of_le hg hb.size, fun j hj => (hcell j hj).below hg hb⟩
theorem ReadsIt.shape {W : World} {v : Value} {hs : List ItD} (h : ReadsIt W v hs) : ∃ a cap, v = .slice a hs.length cap := by obtain ⟨a, cap, hv, -⟩ := h; exact ⟨a, cap, hv⟩

/-- Their cells. -/
def cellsIt : List ItD → List Value
  | [] => []
  | x :: xs => .int .i64 x.frm :: .int .i64 x.seq :: .int .i64 x.age :: .string x.text :: cellsIt xs
theorem cellsIt_len : ∀ hs : List ItD, (cellsIt hs).length = hs.length * 4
  | [] => rfl
  | x :: xs => by have := cellsIt_len xs; simp only [cellsIt, List.length_cons]; omega
theorem cellsIt_app : ∀ a b : List ItD, cellsIt (a ++ b) = cellsIt a ++ cellsIt b
  | [], b => rfl
  | x :: xs, b => by simp only [List.cons_append, cellsIt, cellsIt_app xs b]
theorem cellsIt_get : ∀ (hs : List ItD) (j : Nat) (hj : j < hs.length), (cellsIt hs)[j * 4]? = some (.int .i64 hs[j].frm) ∧ (cellsIt hs)[j * 4 + 1]? = some (.int .i64 hs[j].seq) ∧ (cellsIt hs)[j * 4 + 2]? = some (.int .i64 hs[j].age) ∧ (cellsIt hs)[j * 4 + 3]? = some (.string hs[j].text)
  | x :: xs, 0, _ => ⟨rfl, rfl, rfl, rfl⟩
  | x :: xs, j + 1, hj => by
    have := cellsIt_get xs j (by simpa using hj)
    have e : (j + 1) * 4 = j * 4 + 1 + 1 + 1 + 1 := by omega
    simp only [cellsIt, e, List.getElem?_cons_succ, List.getElem_cons_succ]
    exact this
theorem cellsIt_one : ∀ (hs : List ItD), ∀ u ∈ cellsIt hs, u.oneCell' = true
  | [], u, hu => by cases hu
  | x :: xs, u, hu => by
    simp only [cellsIt, List.mem_cons] at hu
    rcases hu with rfl | rfl | rfl | rfl | hu
    · rfl
    · rfl
    · rfl
    · rfl
    · exact cellsIt_one xs u hu
theorem cellsIt_set : ∀ (hs : List ItD) (i : Nat) (x : ItD) (h : i < hs.length), cellsIt (hs.set i x) = (((((cellsIt hs)).set (i * 4) (.int .i64 x.frm)).set (i * 4 + 1) (.int .i64 x.seq)).set (i * 4 + 2) (.int .i64 x.age)).set (i * 4 + 3) (.string x.text)
  | y :: ys, 0, x, _ => rfl
  | y :: ys, i + 1, x, h => by
    have e : (i + 1) * 4 = i * 4 + 1 + 1 + 1 + 1 := by omega
    simp only [List.set_cons_succ, cellsIt, e]
    rw [cellsIt_set ys i x (by simpa using h)]
theorem cellsIt_set_frm : ∀ (hs : List ItD) (i : Nat) (u : Int) (h : i < hs.length), cellsIt (hs.set i { hs[i] with frm := u }) = (cellsIt hs).set (i * 4) (.int .i64 u)
  | y :: ys, 0, u, _ => rfl
  | y :: ys, i + 1, u, h => by
    have e : (i + 1) * 4 = i * 4 + 1 + 1 + 1 + 1 := by omega
    simp only [List.set_cons_succ, cellsIt, List.getElem_cons_succ, e]
    rw [cellsIt_set_frm ys i u (by simpa using h)]
theorem cellsIt_set_seq : ∀ (hs : List ItD) (i : Nat) (u : Int) (h : i < hs.length), cellsIt (hs.set i { hs[i] with seq := u }) = (cellsIt hs).set (i * 4 + 1) (.int .i64 u)
  | y :: ys, 0, u, _ => rfl
  | y :: ys, i + 1, u, h => by
    have e : (i + 1) * 4 + 1 = i * 4 + 1 + 1 + 1 + 1 + 1 := by omega
    simp only [List.set_cons_succ, cellsIt, List.getElem_cons_succ, e]
    rw [cellsIt_set_seq ys i u (by simpa using h)]
theorem cellsIt_set_age : ∀ (hs : List ItD) (i : Nat) (u : Int) (h : i < hs.length), cellsIt (hs.set i { hs[i] with age := u }) = (cellsIt hs).set (i * 4 + 2) (.int .i64 u)
  | y :: ys, 0, u, _ => rfl
  | y :: ys, i + 1, u, h => by
    have e : (i + 1) * 4 + 2 = i * 4 + 2 + 1 + 1 + 1 + 1 := by omega
    simp only [List.set_cons_succ, cellsIt, List.getElem_cons_succ, e]
    rw [cellsIt_set_age ys i u (by simpa using h)]
theorem cellsIt_set_text : ∀ (hs : List ItD) (i : Nat) (u : ByteArray) (h : i < hs.length), cellsIt (hs.set i { hs[i] with text := u }) = (cellsIt hs).set (i * 4 + 3) (.string u)
  | y :: ys, 0, u, _ => rfl
  | y :: ys, i + 1, u, h => by
    have e : (i + 1) * 4 + 3 = i * 4 + 3 + 1 + 1 + 1 + 1 := by omega
    simp only [List.set_cons_succ, cellsIt, List.getElem_cons_succ, e]
    rw [cellsIt_set_text ys i u (by simpa using h)]

/-- The slice v owns the list hs, in a block from B on. -/
def OwnIt (W : World) (B : Nat) (v : Value) (hs : List ItD) : Prop := W.ownsRow B 60 4 v hs.length (cellsIt hs)
theorem OwnIt.nil (W : World) (B : Nat) : OwnIt W B (.slice none 0 0) [] := World.ownsRow_nil W B _ 4
theorem OwnIt.below {W W' : World} {B : Nat} {v : Value} {hs : List ItD} (h : OwnIt W B v hs) (hb : Below W.heap.size W W') : OwnIt W' B v hs := rowBelow h hb
theorem OwnIt.mono {W : World} {B B' : Nat} {v : Value} {hs : List ItD} (h : OwnIt W B v hs) (hB : B' ≤ B) : OwnIt W B' v hs := rowMono h hB
theorem OwnIt.shape {W : World} {B : Nat} {v : Value} {hs : List ItD} (h : OwnIt W B v hs) : ∃ a cap, v = .slice a hs.length cap := rowShape h
theorem OwnIt.reads {W : World} {B : Nat} {v : Value} {hs : List ItD} (h : OwnIt W B v hs) : ReadsIt W v hs := by
  have h' := h
  rcases h.2 with ⟨hv, hn⟩ | ⟨g, cap, cur, hv, hB, hg, -⟩
  · exact ⟨none, 0, by rw [hv, hn], .inl (List.eq_nil_of_length_eq_zero hn)⟩
  · subst hv
    refine ⟨_, _, rfl, .inr ⟨g, 0, rfl, (Array.getElem?_eq_some_iff.1 hg).1, fun j hj => ?_⟩⟩
    obtain ⟨c0, c1, c2, c3⟩ := cellsIt_get hs j hj
    rw [Nat.zero_add]
    exact ⟨(World.ownsRow.cellAt h' _ (by omega)).trans c0, (World.ownsRow.cellAt h' _ (by omega)).trans c1, (World.ownsRow.cellAt h' _ (by omega)).trans c2, (World.ownsRow.cellAt h' _ (by omega)).trans c3⟩
theorem OwnIt.grow {W W' : World} {B : Nat} {v : Value} {hs : List ItD} {row : Option Nat} (h : OwnIt W B v hs) (hg : W.grownBy W' row) (hne : ∀ k, row = some k → v.ownBlock ≠ some k) : OwnIt W' B v hs := by
  refine World.ownsRow.kept h hg ?_
  rcases hv : v.ownBlock with _ | k
  · exact .inl rfl
  · exact .inr fun e => hne k e.symm hv
theorem OwnIt.setCell {W : World} {B : Nat} {v : Value} {hs : List ItD} (h : OwnIt W B v hs) {p : Addr} (hp : p.block < B) (u : Value) : OwnIt (W.setCell p u) B v hs := rowSet h hp u

/-- A store of a whole one. -/
theorem OwnIt.set {W : World} {B g cap : Nat} {hs : List ItD} (h : OwnIt W B (.slice (some ⟨g, 0, none⟩) hs.length cap) hs) (i : Nat) (hi : i < hs.length) (x : ItD) :
    OwnIt (((((W).setCell ⟨g, i * 4, none⟩ (.int .i64 x.frm)).setCell ⟨g, i * 4 + 1, none⟩ (.int .i64 x.seq)).setCell ⟨g, i * 4 + 2, none⟩ (.int .i64 x.age)).setCell ⟨g, i * 4 + 3, none⟩ (.string x.text)) B (.slice (some ⟨g, 0, none⟩) hs.length cap) (hs.set i x) := by
  have h1 := (World.ownsRow.stored h (i * 4) (.int .i64 x.frm)).1
  have h2 := (World.ownsRow.stored h1 (i * 4 + 1) (.int .i64 x.seq)).1
  have h3 := (World.ownsRow.stored h2 (i * 4 + 2) (.int .i64 x.age)).1
  have h4 := (World.ownsRow.stored h3 (i * 4 + 3) (.string x.text)).1
  unfold OwnIt
  rw [List.length_set, cellsIt_set hs i x hi]
  exact h4
theorem OwnIt.set_frm {W : World} {B g cap : Nat} {hs : List ItD} (h : OwnIt W B (.slice (some ⟨g, 0, none⟩) hs.length cap) hs) (i : Nat) (hi : i < hs.length) (u : Int) :
    OwnIt (W.setCell ⟨g, i * 4, none⟩ (.int .i64 u)) B (.slice (some ⟨g, 0, none⟩) hs.length cap) (hs.set i { hs[i] with frm := u }) := by
  unfold OwnIt
  rw [List.length_set, cellsIt_set_frm hs i u hi]
  exact (World.ownsRow.stored h (i * 4) (.int .i64 u)).1
theorem OwnIt.set_seq {W : World} {B g cap : Nat} {hs : List ItD} (h : OwnIt W B (.slice (some ⟨g, 0, none⟩) hs.length cap) hs) (i : Nat) (hi : i < hs.length) (u : Int) :
    OwnIt (W.setCell ⟨g, i * 4 + 1, none⟩ (.int .i64 u)) B (.slice (some ⟨g, 0, none⟩) hs.length cap) (hs.set i { hs[i] with seq := u }) := by
  unfold OwnIt
  rw [List.length_set, cellsIt_set_seq hs i u hi]
  exact (World.ownsRow.stored h (i * 4 + 1) (.int .i64 u)).1
theorem OwnIt.set_age {W : World} {B g cap : Nat} {hs : List ItD} (h : OwnIt W B (.slice (some ⟨g, 0, none⟩) hs.length cap) hs) (i : Nat) (hi : i < hs.length) (u : Int) :
    OwnIt (W.setCell ⟨g, i * 4 + 2, none⟩ (.int .i64 u)) B (.slice (some ⟨g, 0, none⟩) hs.length cap) (hs.set i { hs[i] with age := u }) := by
  unfold OwnIt
  rw [List.length_set, cellsIt_set_age hs i u hi]
  exact (World.ownsRow.stored h (i * 4 + 2) (.int .i64 u)).1
theorem OwnIt.set_text {W : World} {B g cap : Nat} {hs : List ItD} (h : OwnIt W B (.slice (some ⟨g, 0, none⟩) hs.length cap) hs) (i : Nat) (hi : i < hs.length) (u : ByteArray) :
    OwnIt (W.setCell ⟨g, i * 4 + 3, none⟩ (.string u)) B (.slice (some ⟨g, 0, none⟩) hs.length cap) (hs.set i { hs[i] with text := u }) := by
  unfold OwnIt
  rw [List.length_set, cellsIt_set_text hs i u hi]
  exact (World.ownsRow.stored h (i * 4 + 3) (.string u)).1

theorem run_appIt (w : World) (B : Nat) (v : Value) (hs : List ItD) (hown : OwnIt w B v hs) (x : Value) (ys : List ItD) (hsrc : Src w x ys.length (cellsIt ys)) (hl : hs.length + ys.length ≤ 2097152) (hB : B ≤ w.heap.size) (ty : TypeId) :
    ∃ v' w', (Builtin.append_ #[65, 65] ty #[v, x]).run Try.prog w = .ok v' w' ∧ Grown w B 60 4 v (hs ++ ys).length (cellsIt (hs ++ ys)) v' w' := by
  obtain ⟨i0, hi, hz0, hz1, hz2⟩ := info_parts infoIt
  have := run_app w B 65 ty 60 i0 _ 4 40 Try.underlying65 hi hz0 hz1 hz2 rfl (by decide) v hs.length _ hown x ys.length _ hsrc (cellsIt_len ys) (cellsIt_one ys) (by unfold maxLen; omega) (by omega) hB
  rw [cellsIt_app, List.length_append]
  exact this
theorem ReadsIt.src {W : World} {v : Value} {hs : List ItD} (h : ReadsIt W v hs) : v = .slice none 0 0 ∨ (∃ a cap, v = .slice (some a) hs.length cap) ∨ hs = [] := by
  obtain ⟨a, cap, hv, hc⟩ := h
  rcases hc with rfl | ⟨g, o, rfl, -⟩
  · exact .inr (.inr rfl)
  · exact .inr (.inl ⟨_, _, hv⟩)
end Go.Proofs.Ythdcfeafkellcab
