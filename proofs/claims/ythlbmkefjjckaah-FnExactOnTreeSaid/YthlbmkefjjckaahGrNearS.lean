/-
  'NearOf' and 'DegreesOf' of the program and of the model.
-/
import Derived.Test.YthlbmkefjjckaahGrNear
namespace Go.Proofs.Ythlbmkefjjckaah
open Go.RowKit
set_option linter.unusedVariables false

def nearOk (n : Int) (l : List EdD) (a : Int) : Bool := goodEd n l && decide (0 ≤ a ∧ a < n)
def nearOut (n : Int) (l : List EdD) (a : Int) : List Int := if nearOk n l a then nearTo l a n.toNat else []
theorem nearOut_len (n : Int) (l : List EdD) (a : Int) : (nearOut n l a).length ≤ 4194304 := by
  unfold nearOut
  split
  · next h =>
    unfold nearOk at h
    rw [Bool.and_eq_true] at h
    have := (goodEd_true h.1).1
    have := nearTo_len l a n.toNat
    omega
  · simp
def NearPost (W : World) (out : List Int) (ok : Bool) (e : Ending) (W' : World) : Prop := ∃ u, e = .returned (.tuple #[u, .bool ok]) ∧ Own W' W.heap.size u out ∧ Below W.heap.size W W'
theorem NearPost.zero {W W' : World} {out : List Int} {ok : Bool} (h1 : ok = false) (h2 : out = []) (hb : Below W.heap.size W W') : NearPost W out ok (.returned (.tuple #[.slice none 0 0, .bool false])) W' := ⟨_, by rw [h1], by rw [h2]; exact Own.nil _ _, hb⟩
theorem NearPost.mk {W W' : World} {out zs : List Int} {ok : Bool} {u : Value} (h1 : ok = true) (h2 : out = zs) (ho : Own W' W.heap.size u zs) (hb : Below W.heap.size W W') : NearPost W out ok (.returned (.tuple #[u, .bool true])) W' := ⟨u, by rw [h1], by rw [h2]; exact ho, hb⟩

def degTo (l : List EdD) (n k : Nat) : List Int := (iota k).map fun s => ((nearTo l s n).length : Int)
theorem degTo_len (l : List EdD) (n k : Nat) : (degTo l n k).length = k := by simp [degTo, iota_len]
theorem degTo_succ (l : List EdD) (n k : Nat) : degTo l n (k + 1) = degTo l n k ++ [((nearTo l (k : Int) n).length : Int)] := by
  unfold degTo
  rw [iota_succ, List.map_append]
  rfl
def degOut (n : Int) (l : List EdD) : List Int := if goodEd n l then degTo l n.toNat n.toNat else []
theorem degOut_len (n : Int) (l : List EdD) : (degOut n l).length ≤ 4194304 := by
  unfold degOut
  split
  · next h =>
    have := (goodEd_true h).1
    rw [degTo_len]
    omega
  · simp

end Go.Proofs.Ythlbmkefjjckaah
