/-
  Lists of hellos: how they lie in memory, and what the laws' functions over them answer: 'szHelloS', 'toHelloS', 'eqHelloS', 'markHelloS', 'heldHelloS'.
-/

/-
  What the laws' functions over lists of hellos answer: 'szHelloS', 'toHelloS', 'eqHelloS', 'markHelloS', 'heldHelloS'.
-/

/-
  Pairs in memory, and what the laws' functions over them answer: 'szPair', 'toPair', 'toPairStep', 'eqPair', 'markPair', 'heldPair'.
-/

/-
  'toPair', 'toPairStep', 'eqPair', 'markPair', 'heldPair'.
-/
import Derived.Test.YtchddjidjfpehaaSides
import Derived.Deep.RegionWith
import Derived.BigRegion
namespace Go.Proofs.Ytchddjidjfpehaa
open Go.RowKit

theorem infoH : (Try.prog.info? 61).map (fun i => (i.zero, i.size, i.bytes)) = some (some (.agg #[.int .i64 0, .bool false]), 2, 16) := by kernel_rfl

/-- At a place of a block lies a hello. -/
def HelloAt (W : World) (g o : Nat) (x : HD) : Prop := W.cell? ⟨g, o, none⟩ = some (.int .i64 x.f) ∧ W.cell? ⟨g, o + 1, none⟩ = some (.bool x.h)
theorem HelloAt.below {W W' : World} {g o : Nat} {x : HD} (h : HelloAt W g o x) (hg : g < W.heap.size) (hb : Below W.heap.size W W') : HelloAt W' g o x :=
  ⟨(hb.cell (p := ⟨g, o, none⟩) hg).trans h.1, (hb.cell (p := ⟨g, o + 1, none⟩) hg).trans h.2⟩
/-- The slice v reads as the hellos hs. -/
def ReadsH (W : World) (v : Value) (hs : List HD) : Prop :=
  ∃ (a : Option Addr) (cap : Nat), v = .slice a hs.length cap ∧ (hs = [] ∨ ∃ g off, a = some ⟨g, off, none⟩ ∧ g < W.heap.size ∧ ∀ j (hj : j < hs.length), HelloAt W g (off + j * 2) hs[j])
theorem ReadsH.below {W W' : World} {v : Value} {hs : List HD} (h : ReadsH W v hs) (hb : Below W.heap.size W W') : ReadsH W' v hs := by
  obtain ⟨a, cap, hv, hc⟩ := h
  refine ⟨a, cap, hv, hc.imp id ?_⟩
  rintro ⟨g, off, ha, hg, hcell⟩
  exact ⟨g, off, ha, Nat.lt_of_lt_of_le hg hb.size, fun j hj => (hcell j hj).below hg hb⟩
theorem ReadsH.shape {W : World} {v : Value} {hs : List HD} (h : ReadsH W v hs) : ∃ a cap, v = .slice a hs.length cap := by obtain ⟨a, cap, hv, -⟩ := h; exact ⟨a, cap, hv⟩

/-- The cells of hellos. -/
def cellsH : List HD → List Value
  | [] => []
  | x :: xs => .int .i64 x.f :: .bool x.h :: cellsH xs
theorem cellsH_len : ∀ hs : List HD, (cellsH hs).length = hs.length * 2
  | [] => rfl
  | x :: xs => by have := cellsH_len xs; simp only [cellsH, List.length_cons]; omega
theorem cellsH_app : ∀ a b : List HD, cellsH (a ++ b) = cellsH a ++ cellsH b
  | [], b => rfl
  | x :: xs, b => by simp only [List.cons_append, cellsH, cellsH_app xs b]
theorem cellsH_get : ∀ (hs : List HD) (j : Nat) (hj : j < hs.length), (cellsH hs)[j * 2]? = some (.int .i64 hs[j].f) ∧ (cellsH hs)[j * 2 + 1]? = some (.bool hs[j].h)
  | x :: xs, 0, _ => ⟨rfl, rfl⟩
  | x :: xs, j + 1, hj => by
    have := cellsH_get xs j (by simpa using hj)
    have e : (j + 1) * 2 = j * 2 + 1 + 1 := by omega
    simp only [cellsH, e, List.getElem?_cons_succ, List.getElem_cons_succ]
    exact this
theorem cellsH_one : ∀ (hs : List HD), ∀ u ∈ cellsH hs, u.oneCell' = true
  | [], u, hu => by cases hu
  | x :: xs, u, hu => by
    simp only [cellsH, List.mem_cons] at hu
    rcases hu with rfl | rfl | hu
    · rfl
    · rfl
    · exact cellsH_one xs u hu
theorem cellsH_setF : ∀ (hs : List HD) (i : Nat) (k : Int) (h : i < hs.length), cellsH (hs.set i ⟨k, hs[i].h⟩) = (cellsH hs).set (i * 2) (.int .i64 k)
  | x :: xs, 0, k, _ => rfl
  | x :: xs, i + 1, k, h => by
    have e : (i + 1) * 2 = i * 2 + 1 + 1 := by omega
    simp only [List.set_cons_succ, cellsH, List.getElem_cons_succ, e]
    rw [cellsH_setF xs i k (by simpa using h)]
theorem cellsH_setH : ∀ (hs : List HD) (i : Nat) (b : Bool) (h : i < hs.length), cellsH (hs.set i ⟨hs[i].f, b⟩) = (cellsH hs).set (i * 2 + 1) (.bool b)
  | x :: xs, 0, k, _ => rfl
  | x :: xs, i + 1, k, h => by
    have e : (i + 1) * 2 + 1 = i * 2 + 1 + 1 + 1 := by omega
    simp only [List.set_cons_succ, cellsH, List.getElem_cons_succ, e]
    rw [cellsH_setH xs i k (by simpa using h)]
theorem cellsH_drop : ∀ (hs : List HD) (k : Nat), cellsH (hs.drop k) = (cellsH hs).drop (k * 2)
  | hs, 0 => by simp
  | [], k + 1 => by simp [cellsH]
  | x :: xs, k + 1 => by
    have e : (k + 1) * 2 = k * 2 + 1 + 1 := by omega
    simp only [List.drop_succ_cons, cellsH, e]
    exact cellsH_drop xs k
theorem cellsH_take : ∀ (hs : List HD) (k : Nat), cellsH (hs.take k) = (cellsH hs).take (k * 2)
  | hs, 0 => by simp [cellsH]
  | [], k + 1 => by simp [cellsH]
  | x :: xs, k + 1 => by
    have e : (k + 1) * 2 = k * 2 + 1 + 1 := by omega
    simp only [List.take_succ_cons, cellsH, e]
    rw [cellsH_take xs k]

/-- The slice v owns the hellos hs, in a block from B on. -/
def OwnH (W : World) (B : Nat) (v : Value) (hs : List HD) : Prop := W.ownsRow B 61 2 v hs.length (cellsH hs)
theorem OwnH.nil (W : World) (B : Nat) : OwnH W B (.slice none 0 0) [] := World.ownsRow_nil W B _ 2
theorem OwnH.below {W W' : World} {B : Nat} {v : Value} {hs : List HD} (h : OwnH W B v hs) (hb : Below W.heap.size W W') : OwnH W' B v hs := by
  refine ⟨h.1, ?_⟩
  rcases h.2 with hn | ⟨g, cap, cur, hv, h1, hg, hrest⟩
  · exact .inl hn
  · exact .inr ⟨g, cap, cur, hv, h1, (hb.block g (Array.getElem?_eq_some_iff.1 hg).1).trans hg, hrest⟩
theorem OwnH.mono {W : World} {B B' : Nat} {v : Value} {hs : List HD} (h : OwnH W B v hs) (hB : B' ≤ B) : OwnH W B' v hs := by
  refine ⟨h.1, ?_⟩
  rcases h.2 with hn | ⟨g, cap, cur, hv, h1, hrest⟩
  · exact .inl hn
  · exact .inr ⟨g, cap, cur, hv, Nat.le_trans hB h1, hrest⟩
theorem OwnH.shape {W : World} {B : Nat} {v : Value} {hs : List HD} (h : OwnH W B v hs) : ∃ a cap, v = .slice a hs.length cap := by
  rcases h.2 with ⟨hv, hn⟩ | ⟨g, cap, cur, hv, -⟩
  · exact ⟨none, 0, by rw [hv, hn]⟩
  · exact ⟨_, _, hv⟩
theorem OwnH.reads {W : World} {B : Nat} {v : Value} {hs : List HD} (h : OwnH W B v hs) : ReadsH W v hs := by
  have h' := h
  rcases h.2 with ⟨hv, hn⟩ | ⟨g, cap, cur, hv, hB, hg, -⟩
  · exact ⟨none, 0, by rw [hv, hn], .inl (List.eq_nil_of_length_eq_zero hn)⟩
  · subst hv
    refine ⟨_, _, rfl, .inr ⟨g, 0, rfl, (Array.getElem?_eq_some_iff.1 hg).1, fun j hj => ?_⟩⟩
    obtain ⟨c0, c1⟩ := cellsH_get hs j hj
    rw [Nat.zero_add]
    exact ⟨(World.ownsRow.cellAt h' _ (by omega)).trans c0, (World.ownsRow.cellAt h' _ (by omega)).trans c1⟩
theorem OwnH.grow {W W' : World} {B : Nat} {v : Value} {hs : List HD} {row : Option Nat} (h : OwnH W B v hs) (hg : W.grownBy W' row) (hne : ∀ k, row = some k → v.ownBlock ≠ some k) : OwnH W' B v hs := by
  refine World.ownsRow.kept h hg ?_
  rcases hv : v.ownBlock with _ | k
  · exact .inl rfl
  · exact .inr fun e => hne k e.symm hv
theorem OwnH.setCell {W : World} {B : Nat} {v : Value} {hs : List HD} (h : OwnH W B v hs) {p : Addr} (hp : p.block < B) (u : Value) : OwnH (W.setCell p u) B v hs := by
  refine ⟨h.1, ?_⟩
  rcases h.2 with hn | ⟨g, cap, cur, hv, h1, hg, hrest⟩
  · exact .inl hn
  · exact .inr ⟨g, cap, cur, hv, h1, (Below.heap_setCell _ _ _ _ (by omega)).trans hg, hrest⟩
/-- A row of hellos is no row of numbers. -/
theorem hello_apart {W : World} {B B' : Nat} {v x : Value} {zs : List Int} {hs : List HD} (hv : OwnH W B v hs) (hx : Own W B' x zs) : ∀ k, v.ownBlock = some k → x.ownBlock ≠ some k := by
  intro k hk hk2
  rcases hv.2 with ⟨rfl, -⟩ | ⟨g, cap, cur, rfl, -, hg, -⟩
  · simp [Value.ownBlock] at hk
  · rcases hx.2 with ⟨rfl, -⟩ | ⟨g', cap', cur', rfl, -, hg', -⟩
    · simp [Value.ownBlock] at hk2
    · simp only [Value.ownBlock, Option.some.injEq] at hk hk2
      subst hk
      subst hk2
      rw [hg] at hg'
      simp at hg'
end Go.Proofs.Ytchddjidjfpehaa

namespace Go.Proofs.Ytchddjidjfpehaa
open Go.RowKit

def noH : HD := ⟨0, false⟩
theorem made_hellos : ∀ n : Nat, (madeCells #[.int .i64 0, .bool false] (n * 2)).toList = cellsH (List.replicate n noH)
  | 0 => by simp [madeCells, cellsH]
  | n + 1 => by
    have e : (n + 1) * 2 = n * 2 + 1 + 1 := by omega
    have ih := made_hellos n
    have m0 : n * 2 % 2 = 0 := by omega
    have m1 : (n * 2 + 1) % 2 = 1 := by omega
    rw [List.replicate_succ', cellsH_app, ← ih, e]
    unfold madeCells
    simp [Array.range_succ, cellsH, m0, m1, noH]

theorem make_hellos (n : Nat) (hn : n ≤ 4194304) (w : World) : ∃ W1 : World,
    (Instr.makeSlice 38 (.int .i64 (n : Int)) (.int .i64 (n : Int))).run Try.prog w = .ok (.slice (some ⟨w.heap.size, 0, none⟩) n n) W1 ∧
    OwnH W1 w.heap.size (.slice (some ⟨w.heap.size, 0, none⟩) n n) (List.replicate n noH) ∧ Below w.heap.size w W1 ∧ w.heap.size < W1.heap.size := by
  obtain ⟨i0, hi, hz0, hz1, hz2⟩ := info_parts infoH
  obtain ⟨w', hr, ho, hg⟩ := run_make_full (P := Try.prog) w w.heap.size 38 61 i0 _ 2 Try.underlying38 hi hz0 hz1 .i64 .i64 n (by rw [hz2]; omega) (by unfold maxLen; omega) (Nat.le_refl _)
  have hlt := (World.ownsRow.lt ho w.heap.size rfl).2
  refine ⟨w', hr, ?_, (Below.refl _ w).grown hg (Nat.le_refl _) (fun k hk => by cases hk), hlt⟩
  unfold OwnH
  rw [List.length_replicate]
  rw [show (Value.agg #[Value.int IntKind.i64 0, Value.bool false]).cells = #[.int .i64 0, .bool false] from rfl, made_hellos] at ho
  exact ho

/-- The list of which the first k are copied. -/
theorem to_next (hs : List HD) (k : Nat) (h : k < hs.length) : hs.take (k + 1) ++ List.replicate (hs.length - (k + 1)) noH = (hs.take k ++ List.replicate (hs.length - k) noH).set k hs[k] := by
  have e : hs.length - k = (hs.length - (k + 1)) + 1 := by omega
  rw [e, List.replicate_succ, List.set_append_right _ _ (by simp; omega), List.take_succ_eq_append_getElem h]
  have e2 : k - (hs.take k).length = 0 := by simp; omega
  rw [e2, List.set_cons_zero, List.append_assoc]
  rfl

/-- A store of a whole hello. -/
theorem OwnH.set {W : World} {B g cap : Nat} {hs : List HD} (h : OwnH W B (.slice (some ⟨g, 0, none⟩) hs.length cap) hs) (i : Nat) (hi : i < hs.length) (x : HD) :
    OwnH ((W.setCell ⟨g, i * 2, none⟩ (.int .i64 x.f)).setCell ⟨g, i * 2 + 1, none⟩ (.bool x.h)) B (.slice (some ⟨g, 0, none⟩) hs.length cap) (hs.set i x) := by
  have h1 := (World.ownsRow.stored h (i * 2) (.int .i64 x.f)).1
  have h2 := (World.ownsRow.stored h1 (i * 2 + 1) (.bool x.h)).1
  have e1 := cellsH_setF hs i x.f hi
  have e2 := cellsH_setH (hs.set i ⟨x.f, hs[i].h⟩) i x.h (by simpa using hi)
  rw [List.getElem_set_self, List.set_set, e1] at e2
  unfold OwnH
  rw [List.length_set, e2]
  exact h2

/-- A hello with marks from k on; a list so. -/
def markH (k : Nat) : HD := ⟨(k : Int), decide ((k + 1) % 3 = 0)⟩
def marksH (k n : Nat) : List HD := (List.range n).map fun j => markH (k + 2 * j)
theorem marksH_len (k n : Nat) : (marksH k n).length = n := by simp [marksH]
theorem marksH_get (k n j : Nat) (h : j < (marksH k n).length) : (marksH k n)[j] = markH (k + 2 * j) := by simp [marksH]
def markedH (k : Nat) (hs : List HD) (i : Nat) : List HD := marksH k i ++ hs.drop i
theorem markedH_len (k : Nat) (hs : List HD) (i : Nat) (h : i ≤ hs.length) : (markedH k hs i).length = hs.length := by simp [markedH, marksH_len]; omega
theorem markedH_next (k : Nat) (hs : List HD) (i : Nat) (h : i < hs.length) : markedH k hs (i + 1) = (markedH k hs i).set i (markH (k + 2 * i)) := by
  unfold markedH
  have e : hs.drop i = hs[i] :: hs.drop (i + 1) := List.drop_eq_getElem_cons h
  rw [List.set_append_right _ _ (by rw [marksH_len]; exact Nat.le_refl _), marksH_len, Nat.sub_self, e, List.set_cons_zero]
  simp [marksH, List.range_succ]
theorem markedH_all (k : Nat) (hs : List HD) : markedH k hs hs.length = marksH k hs.length := by simp [markedH]

theorem rem3 (k : Nat) : ((((k : Int) + 1) % 3 == 0) : Bool) = decide ((k + 1) % 3 = 0) := by
  rw [Bool.eq_iff_iff]
  simp
  omega

end Go.Proofs.Ytchddjidjfpehaa

namespace Go.Proofs.Ytchddjidjfpehaa
open Go.RowKit

/-- Three cells at a block's head, free to be written. -/
structure Bx3 (W : World) (b : Nat) (x y z : Value) : Prop where
  lt : b < W.heap.size
  c0 : W.cell? ⟨b, 0, none⟩ = some x
  c1 : W.cell? ⟨b, 1, none⟩ = some y
  c2 : W.cell? ⟨b, 2, none⟩ = some z
  fz : ∀ j, W.frozen? ⟨b, j, none⟩ = false
theorem Bx3.below {W W' : World} {b : Nat} {x y z : Value} (h : Bx3 W b x y z) (hb : Below W.heap.size W W') : Bx3 W' b x y z :=
  ⟨Nat.lt_of_lt_of_le h.lt hb.size, (hb.cell (p := ⟨b, 0, none⟩) h.lt).trans h.c0, (hb.cell (p := ⟨b, 1, none⟩) h.lt).trans h.c1, (hb.cell (p := ⟨b, 2, none⟩) h.lt).trans h.c2, fun j => (hb.frozen (p := ⟨b, j, none⟩) h.lt).trans (h.fz j)⟩
theorem Bx3.new (W : World) (x y z : Value) (t : TypeId) : Bx3 (W.alloc (.cells #[x, y, z] t)) W.heap.size x y z := by
  refine ⟨by simp, ?_, ?_, ?_, fun j => ?_⟩
  · rw [World.cell?_alloc_at _ _ _ _ rfl]; rfl
  · rw [World.cell?_alloc_at _ _ _ _ rfl]; rfl
  · rw [World.cell?_alloc_at _ _ _ _ rfl]; rfl
  · exact World.frozen?_alloc_at _ _ _ _ rfl
theorem Bx3.other {W : World} {b : Nat} {x y z : Value} (h : Bx3 W b x y z) {p : Addr} (hp : p.block ≠ b) (u : Value) : Bx3 (W.setCell p u) b x y z := by
  have e : ∀ j, (W.setCell p u).cell? ⟨b, j, none⟩ = W.cell? ⟨b, j, none⟩ := fun j => World.cell?_of_block (Below.heap_setCell _ _ _ _ (fun e => hp e.symm))
  exact ⟨by simpa [World.setCell] using h.lt, (e 0).trans h.c0, (e 1).trans h.c1, (e 2).trans h.c2, fun j => (World.frozen?_of_block (Below.heap_setCell _ _ _ _ (fun e => hp e.symm))).trans (h.fz j)⟩
theorem Bx3.put0 {W : World} {b : Nat} {x y z : Value} (h : Bx3 W b x y z) (u : Value) : Bx3 (W.setCell ⟨b, 0, none⟩ u) b u y z :=
  ⟨by simpa [World.setCell] using h.lt, by simp [go_sem, h.c0], by simp [go_sem, h.c1], by simp [go_sem, h.c2], fun j => by simp [go_sem, h.fz]⟩
theorem Bx3.put1 {W : World} {b : Nat} {x y z : Value} (h : Bx3 W b x y z) (u : Value) : Bx3 (W.setCell ⟨b, 1, none⟩ u) b x u z :=
  ⟨by simpa [World.setCell] using h.lt, by simp [go_sem, h.c0], by simp [go_sem, h.c1], by simp [go_sem, h.c2], fun j => by simp [go_sem, h.fz]⟩
theorem Bx3.put2 {W : World} {b : Nat} {x y z : Value} (h : Bx3 W b x y z) (u : Value) : Bx3 (W.setCell ⟨b, 2, none⟩ u) b x y u :=
  ⟨by simpa [World.setCell] using h.lt, by simp [go_sem, h.c0], by simp [go_sem, h.c1], by simp [go_sem, h.c2], fun j => by simp [go_sem, h.fz]⟩

/-- The three slices of a pair read as its data. -/
structure Reads3 (W : World) (x y z : Value) (p : PR) : Prop where
  st : Reads W x p.st
  lf : Reads W y p.lf
  ln : ReadsH W z p.ln
theorem Reads3.below {W W' : World} {x y z : Value} {p : PR} (h : Reads3 W x y z p) (hb : Below W.heap.size W W') : Reads3 W' x y z p := ⟨h.st.below hb, h.lf.below hb, h.ln.below hb⟩

/-- The three slices of a pair own its data, no two of them one block. -/
structure Own3 (W : World) (B : Nat) (x y z : Value) (p : PR) : Prop where
  st : Own W B x p.st
  lf : Own W B y p.lf
  ln : OwnH W B z p.ln
  apart : ∀ k, x.ownBlock = some k → y.ownBlock ≠ some k
theorem Own3.below {W W' : World} {B : Nat} {x y z : Value} {p : PR} (h : Own3 W B x y z p) (hb : Below W.heap.size W W') : Own3 W' B x y z p := ⟨h.st.below hb, h.lf.below hb, h.ln.below hb, h.apart⟩
theorem Own3.mono {W : World} {B B' : Nat} {x y z : Value} {p : PR} (h : Own3 W B x y z p) (hB : B' ≤ B) : Own3 W B' x y z p := ⟨h.st.mono hB, h.lf.mono hB, h.ln.mono hB, h.apart⟩
theorem Own3.reads {W : World} {B : Nat} {x y z : Value} {p : PR} (h : Own3 W B x y z p) : Reads3 W x y z p := ⟨h.st.reads, h.lf.reads, h.ln.reads⟩
theorem Own3.nil (W : World) (B : Nat) : Own3 W B (.slice none 0 0) (.slice none 0 0) (.slice none 0 0) noP := ⟨Own.nil W B, Own.nil W B, OwnH.nil W B, fun k hk => by simp [Value.ownBlock] at hk⟩
theorem Own3.setCell {W : World} {B : Nat} {x y z : Value} {p : PR} (h : Own3 W B x y z p) {a : Addr} (ha : a.block < B) (u : Value) : Own3 (W.setCell a u) B x y z p := ⟨h.st.setCell ha u, h.lf.setCell ha u, h.ln.setCell ha u, h.apart⟩

/-- A block among the own blocks of three values. -/
def Has (x y z : Value) (j : Nat) : Prop := x.ownBlock = some j ∨ y.ownBlock = some j ∨ z.ownBlock = some j
/-- What goes on in the own blocks of three values alone. -/
structure Keep (W W' : World) (x y z : Value) : Prop where
  size : W.heap.size ≤ W'.heap.size
  block : ∀ b, b < W.heap.size → ¬ Has x y z b → W'.heap[b]? = W.heap[b]?
theorem Own3.lt {W : World} {B : Nat} {x y z : Value} {p : PR} (h : Own3 W B x y z p) (k : Nat) (hk : Has x y z k) : B ≤ k ∧ k < W.heap.size := by
  rcases hk with hk | hk | hk
  · exact World.ownsRow.lt h.st k hk
  · exact World.ownsRow.lt h.lf k hk
  · exact World.ownsRow.lt h.ln k hk
theorem row_same {W W' : World} {B : Nat} {e : TypeId} {size : Nat} {v : Value} {n : Nat} {xs : List Value} (h : W.ownsRow B e size v n xs) (he : ∀ k, v.ownBlock = some k → W'.heap[k]? = W.heap[k]?) : W'.ownsRow B e size v n xs := by
  refine ⟨h.1, ?_⟩
  rcases h.2 with hn | ⟨g, cap, cur, hv, h1, hg, hrest⟩
  · exact .inl hn
  · exact .inr ⟨g, cap, cur, hv, h1, (he g (by rw [hv]; rfl)).trans hg, hrest⟩
theorem Own3.same {W W' : World} {B : Nat} {x y z : Value} {p : PR} (h : Own3 W B x y z p) (he : ∀ k, Has x y z k → W'.heap[k]? = W.heap[k]?) : Own3 W' B x y z p :=
  ⟨row_same h.st fun k hk => he k (.inl hk), row_same h.lf fun k hk => he k (.inr (.inl hk)), row_same h.ln fun k hk => he k (.inr (.inr hk)), h.apart⟩
theorem Own3.keep {W W' : World} {B : Nat} {x y z x' y' z' : Value} {p : PR} (h : Own3 W B x y z p) (hk : Keep W W' x' y' z') (hne : ∀ k, Has x y z k → ¬ Has x' y' z' k) : Own3 W' B x y z p :=
  h.same fun k hx => hk.block k (h.lt k hx).2 (hne k hx)
theorem Bx3.keep {W W' : World} {b : Nat} {x y z x' y' z' : Value} (h : Bx3 W b x y z) (hk : Keep W W' x' y' z') (hne : ¬ Has x' y' z' b) : Bx3 W' b x y z := by
  have e := hk.block b h.lt hne
  exact ⟨Nat.lt_of_lt_of_le h.lt hk.size, (World.cell?_of_block e).trans h.c0, (World.cell?_of_block e).trans h.c1, (World.cell?_of_block e).trans h.c2, fun j => (World.frozen?_of_block e).trans (h.fz j)⟩

/-- What a pair leaves of a measure. -/
def szPr (p : PR) (left : Int) : Int := if (p.st.length : Int) + (p.lf.length : Int) + (p.ln.length : Int) ≤ left then left - (p.st.length : Int) - (p.lf.length : Int) - (p.ln.length : Int) else -1

theorem szPr_fit (p : PR) (h : ¬ szPr p 1048576 < 0) : p.st.length ≤ 1048576 ∧ p.lf.length ≤ 1048576 ∧ p.ln.length ≤ 1048576 := by
  unfold szPr at h
  by_cases hle : (p.st.length : Int) + (p.lf.length : Int) + (p.ln.length : Int) ≤ 1048576
  · exact ⟨by omega, by omega, by omega⟩
  · rw [if_neg hle] at h; omega
end Go.Proofs.Ytchddjidjfpehaa

namespace Go.Proofs.Ytchddjidjfpehaa
open Go.RowKit

/-- What a mark leaves of other rows. -/
theorem Own.far {W W' : World} {B : Nat} {v : Value} {zs : List Int} {u : Value} (h : Own W B v zs) (hg : W.grownBy W' u.ownBlock) (hne : ∀ k, u.ownBlock = some k → v.ownBlock ≠ some k) : Own W' B v zs := h.grow hg hne

/-- A pair with marks from k on. -/
def markPr (p : PR) (k : Nat) : PR := ⟨marks (k : Int) p.st.length, marks ((k + p.st.length : Nat) : Int) p.lf.length, marksH (k + p.st.length + p.lf.length) p.ln.length⟩
def endPr (p : PR) (k : Nat) : Nat := k + p.st.length + p.lf.length + 2 * p.ln.length

end Go.Proofs.Ytchddjidjfpehaa
