/-
  One left out of a line of hellos.
-/
import Derived.Test.YtchddjidjfpehatCopyP
import Derived.Test.YtchddjidjfpehatCatH
namespace Go.Proofs.Ytchddjidjfpehat
open Go.RowKit

theorem add_at (g o j : Nat) : (⟨g, o, none⟩ : Addr).add j = ⟨g, o + j, none⟩ := by simp [Addr.add]

/-- The head and the rest of a row of hellos, as what is appended. -/
theorem source_take {W : World} {B g cap : Nat} {hs : List HD} (h : OwnH W B (.slice (some ⟨g, 0, none⟩) hs.length cap) hs) (k c : Nat) (hk : k ≤ hs.length) : Source W (.slice (some ⟨g, 0, none⟩) k c) (hs.take k).length (cellsH (hs.take k)) := by
  rw [show (hs.take k).length = k from by simp; omega]
  refine .inr ⟨_, _, rfl, fun j u hu => ?_⟩
  rw [cellsH_take] at hu
  rw [add_at, Nat.zero_add]
  have hj : j < k * 2 := by
    have := (List.getElem?_eq_some_iff.1 hu).1
    rw [List.length_take] at this
    omega
  rw [World.ownsRow.cellAt h j (by omega)]
  rw [List.getElem?_take_of_lt hj] at hu
  exact hu
theorem source_drop {W : World} {B g cap : Nat} {hs : List HD} (h : OwnH W B (.slice (some ⟨g, 0, none⟩) hs.length cap) hs) (k c : Nat) : Source W (.slice (some ⟨g, k * 2, none⟩) (hs.length - k) c) (hs.drop k).length (cellsH (hs.drop k)) := by
  rw [show (hs.drop k).length = hs.length - k from by simp]
  refine .inr ⟨_, _, rfl, fun j u hu => ?_⟩
  rw [cellsH_drop, List.getElem?_drop] at hu
  rw [add_at]
  have hj : k * 2 + j < hs.length * 2 := by
    have := (List.getElem?_eq_some_iff.1 hu).1
    rw [cellsH_len] at this
    omega
  rw [World.ownsRow.cellAt h _ hj]
  exact hu
theorem source_none {W : World} (a : Addr) (c : Nat) : Source W (.slice (some a) 0 c) 0 [] := .inr ⟨_, _, rfl, fun j u hu => by simp at hu⟩

theorem wrap_succ (k : Nat) (h : k ≤ 1048576) : IntKind.i64.wrap ((k : Int) + 1) = (k : Int) + 1 := by rw [IntKind.wrap_i64]; omega

theorem erase_cat (hs : List HD) (k : Nat) : hs.take k ++ hs.drop (k + 1) = hs.eraseIdx k := (List.eraseIdx_eq_take_drop_succ hs k).symm

theorem lineWithout_any (W : World) (B : Nat) (v : Value) (hs : List HD) (k : Nat) (h : OwnH W B v hs) (hk : k < hs.length) (hl : hs.length ≤ 1048576) :
    Calls Try.prog 63 #[v, .int .i64 (k : Int)] W fun e W' => ∃ v', e = .returned v' ∧ OwnH W' W.heap.size v' (hs.eraseIdx k) ∧ Below W.heap.size W W' := by
  rw [← erase_cat hs k]
  exact withoutH_any W B v hs k h hk hl
end Go.Proofs.Ytchddjidjfpehat
