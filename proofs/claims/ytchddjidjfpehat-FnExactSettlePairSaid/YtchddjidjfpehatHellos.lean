/-
  Lists of hellos: how they lie in memory, and what the laws' functions over them answer: 'szHelloS', 'toHelloS', 'eqHelloS', 'markHelloS', 'heldHelloS'.
-/
import Derived.Test.YtchddjidjfpehatSides
import Derived.Deep.RegionWith
import Derived.BigRegion
namespace Go.Proofs.Ytchddjidjfpehat
open Go.RowKit

theorem infoH : (Try.prog.info? 66).map (fun i => (i.zero, i.size, i.bytes)) = some (some (.agg #[.int .i64 0, .bool false]), 2, 16) := by kernel_rfl

/-- At a place of a block lies a hello. -/
def HelloAt (W : World) (g o : Nat) (x : HD) : Prop := W.cell? ⟨g, o, none⟩ = some (.int .i64 x.f) ∧ W.cell? ⟨g, o + 1, none⟩ = some (.bool x.h)
theorem HelloAt.below {W W' : World} {g o : Nat} {x : HD} (h : HelloAt W g o x) (hg : g < W.heap.size) (hb : Below W.heap.size W W') : HelloAt W' g o x :=
  ⟨(hb.cell (p := ⟨g, o, none⟩) hg).trans h.1, (hb.cell (p := ⟨g, o + 1, none⟩) hg).trans h.2⟩
/-- The slice v reads as the hellos hs. -/
def ReadsH (W : World) (v : Value) (hs : List HD) : Prop :=
  ∃ (a : Option Addr) (cap : Nat), v = .slice a hs.length cap ∧ (hs = [] ∨ ∃ g off, a = some ⟨g, off, none⟩ ∧ g < W.heap.size ∧ ∀ j (hj : j < hs.length), HelloAt W g (off + j * 2) hs[j])
theorem ReadsH.below {W W' : World} {v : Value} {hs : List HD} (h : ReadsH W v hs) (hb : Below W.heap.size W W') : ReadsH W' v hs := by
  obtain ⟨a, cap, hv, hc⟩ := h
  refine ⟨a, cap, hv, hc.imp id ?_⟩
  rintro ⟨g, off, ha, hg, hcell⟩
  exact ⟨g, off, ha, Nat.lt_of_lt_of_le hg hb.size, fun j hj => (hcell j hj).below hg hb⟩
theorem ReadsH.shape {W : World} {v : Value} {hs : List HD} (h : ReadsH W v hs) : ∃ a cap, v = .slice a hs.length cap := by obtain ⟨a, cap, hv, -⟩ := h; exact ⟨a, cap, hv⟩

/-- The cells of hellos. -/
def cellsH : List HD → List Value
  | [] => []
  | x :: xs => .int .i64 x.f :: .bool x.h :: cellsH xs
theorem cellsH_len : ∀ hs : List HD, (cellsH hs).length = hs.length * 2
  | [] => rfl
  | x :: xs => by have := cellsH_len xs; simp only [cellsH, List.length_cons]; omega
theorem cellsH_app : ∀ a b : List HD, cellsH (a ++ b) = cellsH a ++ cellsH b
  | [], b => rfl
  | x :: xs, b => by simp only [List.cons_append, cellsH, cellsH_app xs b]
theorem cellsH_get : ∀ (hs : List HD) (j : Nat) (hj : j < hs.length), (cellsH hs)[j * 2]? = some (.int .i64 hs[j].f) ∧ (cellsH hs)[j * 2 + 1]? = some (.bool hs[j].h)
  | x :: xs, 0, _ => ⟨rfl, rfl⟩
  | x :: xs, j + 1, hj => by
    have := cellsH_get xs j (by simpa using hj)
    have e : (j + 1) * 2 = j * 2 + 1 + 1 := by omega
    simp only [cellsH, e, List.getElem?_cons_succ, List.getElem_cons_succ]
    exact this
theorem cellsH_one : ∀ (hs : List HD), ∀ u ∈ cellsH hs, u.oneCell' = true
  | [], u, hu => by cases hu
  | x :: xs, u, hu => by
    simp only [cellsH, List.mem_cons] at hu
    rcases hu with rfl | rfl | hu
    · rfl
    · rfl
    · exact cellsH_one xs u hu
theorem cellsH_setF : ∀ (hs : List HD) (i : Nat) (k : Int) (h : i < hs.length), cellsH (hs.set i ⟨k, hs[i].h⟩) = (cellsH hs).set (i * 2) (.int .i64 k)
  | x :: xs, 0, k, _ => rfl
  | x :: xs, i + 1, k, h => by
    have e : (i + 1) * 2 = i * 2 + 1 + 1 := by omega
    simp only [List.set_cons_succ, cellsH, List.getElem_cons_succ, e]
    rw [cellsH_setF xs i k (by simpa using h)]
theorem cellsH_setH : ∀ (hs : List HD) (i : Nat) (b : Bool) (h : i < hs.length), cellsH (hs.set i ⟨hs[i].f, b⟩) = (cellsH hs).set (i * 2 + 1) (.bool b)
  | x :: xs, 0, k, _ => rfl
  | x :: xs, i + 1, k, h => by
    have e : (i + 1) * 2 + 1 = i * 2 + 1 + 1 + 1 := by omega
    simp only [List.set_cons_succ, cellsH, List.getElem_cons_succ, e]
    rw [cellsH_setH xs i k (by simpa using h)]
theorem cellsH_drop : ∀ (hs : List HD) (k : Nat), cellsH (hs.drop k) = (cellsH hs).drop (k * 2)
  | hs, 0 => by simp
  | [], k + 1 => by simp [cellsH]
  | x :: xs, k + 1 => by
    have e : (k + 1) * 2 = k * 2 + 1 + 1 := by omega
    simp only [List.drop_succ_cons, cellsH, e]
    exact cellsH_drop xs k
theorem cellsH_take : ∀ (hs : List HD) (k : Nat), cellsH (hs.take k) = (cellsH hs).take (k * 2)
  | hs, 0 => by simp [cellsH]
  | [], k + 1 => by simp [cellsH]
  | x :: xs, k + 1 => by
    have e : (k + 1) * 2 = k * 2 + 1 + 1 := by omega
    simp only [List.take_succ_cons, cellsH, e]
    rw [cellsH_take xs k]

/-- The slice v owns the hellos hs, in a block from B on. -/
def OwnH (W : World) (B : Nat) (v : Value) (hs : List HD) : Prop := W.ownsRow B 66 2 v hs.length (cellsH hs)
theorem OwnH.nil (W : World) (B : Nat) : OwnH W B (.slice none 0 0) [] := World.ownsRow_nil W B _ 2
theorem OwnH.below {W W' : World} {B : Nat} {v : Value} {hs : List HD} (h : OwnH W B v hs) (hb : Below W.heap.size W W') : OwnH W' B v hs := by
  refine ⟨h.1, ?_⟩
  rcases h.2 with hn | ⟨g, cap, cur, hv, h1, hg, hrest⟩
  · exact .inl hn
  · exact .inr ⟨g, cap, cur, hv, h1, (hb.block g (Array.getElem?_eq_some_iff.1 hg).1).trans hg, hrest⟩
theorem OwnH.mono {W : World} {B B' : Nat} {v : Value} {hs : List HD} (h : OwnH W B v hs) (hB : B' ≤ B) : OwnH W B' v hs := by
  refine ⟨h.1, ?_⟩
  rcases h.2 with hn | ⟨g, cap, cur, hv, h1, hrest⟩
  · exact .inl hn
  · exact .inr ⟨g, cap, cur, hv, Nat.le_trans hB h1, hrest⟩
theorem OwnH.shape {W : World} {B : Nat} {v : Value} {hs : List HD} (h : OwnH W B v hs) : ∃ a cap, v = .slice a hs.length cap := by
  rcases h.2 with ⟨hv, hn⟩ | ⟨g, cap, cur, hv, -⟩
  · exact ⟨none, 0, by rw [hv, hn]⟩
  · exact ⟨_, _, hv⟩
theorem OwnH.reads {W : World} {B : Nat} {v : Value} {hs : List HD} (h : OwnH W B v hs) : ReadsH W v hs := by
  have h' := h
  rcases h.2 with ⟨hv, hn⟩ | ⟨g, cap, cur, hv, hB, hg, -⟩
  · exact ⟨none, 0, by rw [hv, hn], .inl (List.eq_nil_of_length_eq_zero hn)⟩
  · subst hv
    refine ⟨_, _, rfl, .inr ⟨g, 0, rfl, (Array.getElem?_eq_some_iff.1 hg).1, fun j hj => ?_⟩⟩
    obtain ⟨c0, c1⟩ := cellsH_get hs j hj
    rw [Nat.zero_add]
    exact ⟨(World.ownsRow.cellAt h' _ (by omega)).trans c0, (World.ownsRow.cellAt h' _ (by omega)).trans c1⟩
theorem OwnH.grow {W W' : World} {B : Nat} {v : Value} {hs : List HD} {row : Option Nat} (h : OwnH W B v hs) (hg : W.grownBy W' row) (hne : ∀ k, row = some k → v.ownBlock ≠ some k) : OwnH W' B v hs := by
  refine World.ownsRow.kept h hg ?_
  rcases hv : v.ownBlock with _ | k
  · exact .inl rfl
  · exact .inr fun e => hne k e.symm hv
theorem OwnH.setCell {W : World} {B : Nat} {v : Value} {hs : List HD} (h : OwnH W B v hs) {p : Addr} (hp : p.block < B) (u : Value) : OwnH (W.setCell p u) B v hs := by
  refine ⟨h.1, ?_⟩
  rcases h.2 with hn | ⟨g, cap, cur, hv, h1, hg, hrest⟩
  · exact .inl hn
  · exact .inr ⟨g, cap, cur, hv, h1, (Below.heap_setCell _ _ _ _ (by omega)).trans hg, hrest⟩
/-- A row of hellos is no row of numbers. -/
theorem hello_apart {W : World} {B B' : Nat} {v x : Value} {zs : List Int} {hs : List HD} (hv : OwnH W B v hs) (hx : Own W B' x zs) : ∀ k, v.ownBlock = some k → x.ownBlock ≠ some k := by
  intro k hk hk2
  rcases hv.2 with ⟨rfl, -⟩ | ⟨g, cap, cur, rfl, -, hg, -⟩
  · simp [Value.ownBlock] at hk
  · rcases hx.2 with ⟨rfl, -⟩ | ⟨g', cap', cur', rfl, -, hg', -⟩
    · simp [Value.ownBlock] at hk2
    · simp only [Value.ownBlock, Option.some.injEq] at hk hk2
      subst hk
      subst hk2
      rw [hg] at hg'
      simp at hg'
end Go.Proofs.Ytchddjidjfpehat
