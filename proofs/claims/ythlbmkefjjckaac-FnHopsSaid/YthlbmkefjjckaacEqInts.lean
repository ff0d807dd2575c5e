/-
  What the laws' 'eqIntS', 'markIntS' and 'heldIntS' answer.
-/
import Derived.Test.YthlbmkefjjckaacInts
import Derived.Deep.RegionWith
import Derived.BigRegion
import Derived.BigQuiet
import Derived.Deep.QuietTactic
namespace Go.Proofs.Ythlbmkefjjckaac
open Go.RowKit

/-- The slice v reads as the numbers zs. -/
def Reads (W : World) (v : Value) (zs : List Int) : Prop :=
  ∃ (a : Option Addr) (cap : Nat), v = .slice a zs.length cap ∧ (zs = [] ∨ ∃ g off, a = some ⟨g, off, none⟩ ∧ g < W.heap.size ∧ ∀ j (hj : j < zs.length), W.cell? ⟨g, off + j, none⟩ = some (.int .i64 zs[j]))
theorem Own.reads {W : World} {B : Nat} {v : Value} {zs : List Int} (h : Own W B v zs) : Reads W v zs := by
  obtain ⟨a, cap, hv, hc⟩ := h.form
  refine ⟨a, cap, hv, hc.imp id ?_⟩
  rintro ⟨g, ha, -, hg, hcell, -⟩
  exact ⟨g, 0, ha, hg, fun j hj => by rw [Nat.zero_add]; exact hcell j hj⟩
/-- A store below the rows. -/
theorem Own.setCell {W : World} {B : Nat} {v : Value} {zs : List Int} (h : Own W B v zs) {p : Addr} (hp : p.block < B) (u : Value) : Own (W.setCell p u) B v zs := by
  refine ⟨h.1, ?_⟩
  rcases h.2 with hn | ⟨g, cap, cur, hv, h1, hg, hrest⟩
  · exact .inl hn
  · exact .inr ⟨g, cap, cur, hv, h1, (Below.heap_setCell _ _ _ _ (by omega)).trans hg, hrest⟩
theorem Own.shape {W : World} {B : Nat} {v : Value} {zs : List Int} (h : Own W B v zs) : ∃ a cap, v = .slice a zs.length cap := by obtain ⟨a, cap, hv, -⟩ := h.form; exact ⟨a, cap, hv⟩
theorem Reads.shape {W : World} {v : Value} {zs : List Int} (h : Reads W v zs) : ∃ a cap, v = .slice a zs.length cap := by obtain ⟨a, cap, hv, -⟩ := h; exact ⟨a, cap, hv⟩
theorem Reads.below {W W' : World} {v : Value} {zs : List Int} (h : Reads W v zs) (hb : Below W.heap.size W W') : Reads W' v zs := by
  obtain ⟨a, cap, hv, hc⟩ := h
  refine ⟨a, cap, hv, hc.imp id ?_⟩
  rintro ⟨g, off, ha, hg, hcell⟩
  exact ⟨g, off, ha, Nat.lt_of_lt_of_le hg hb.size, fun j hj => (hb.cell (p := ⟨g, off + j, none⟩) hg).trans (hcell j hj)⟩

/-- Numbers that rise by one from k on. -/
def marks (k : Int) (n : Nat) : List Int := (List.range n).map fun j : Nat => k + (j : Int)
theorem marks_len (k : Int) (n : Nat) : (marks k n).length = n := by simp [marks]
theorem marks_get (k : Int) (n j : Nat) (h : j < (marks k n).length) : (marks k n)[j] = k + (j : Int) := by simp [marks]

/-- The numbers of which the first i are marks. -/
def marked (k0 : Int) (zs : List Int) (i : Nat) : List Int := marks k0 i ++ zs.drop i
theorem marked_len (k0 : Int) (zs : List Int) (i : Nat) (h : i ≤ zs.length) : (marked k0 zs i).length = zs.length := by simp [marked, marks_len]; omega
theorem marked_next (k0 : Int) (zs : List Int) (i : Nat) (h : i < zs.length) : marked k0 zs (i + 1) = (marked k0 zs i).set i (k0 + (i : Int)) := by
  unfold marked
  have e : zs.drop i = zs[i] :: zs.drop (i + 1) := List.drop_eq_getElem_cons h
  rw [List.set_append_right _ _ (by rw [marks_len]; exact Nat.le_refl _), marks_len, Nat.sub_self, e, List.set_cons_zero]
  simp [marks, List.range_succ]
theorem marked_all (k0 : Int) (zs : List Int) : marked k0 zs zs.length = marks k0 zs.length := by simp [marked]

theorem Own.set {W : World} {B : Nat} {zs : List Int} {g cap : Nat} (h : Own W B (.slice (some ⟨g, 0, none⟩) zs.length cap) zs) (j : Nat) (z : Int) :
    Own (W.setCell ⟨g, j, none⟩ (.int .i64 z)) B (.slice (some ⟨g, 0, none⟩) zs.length cap) (zs.set j z) := by
  have := (World.ownsRow.stored h j (.int .i64 z)).1
  unfold Own
  rw [List.length_set, List.map_set]
  exact this

end Go.Proofs.Ythlbmkefjjckaac
