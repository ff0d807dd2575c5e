/-
  'areEnds' and 'l9Two'; 'FarsFrom' and 'RelaxAll' of the program and of the model.
-/
import Derived.Test.YthlbmkefjjckaagGrFarS
namespace Go.Proofs.Ythlbmkefjjckaag
open Go.RowKit
set_option linter.unusedVariables false

def endsOk (n : Int) (l : List EdD) (a b : Int) : Bool := goodEd n l && decide (0 ≤ a ∧ a < n) && decide (0 ≤ b ∧ b < n)
theorem endsOk_true {n : Int} {l : List EdD} {a b : Int} (h : endsOk n l a b = true) : goodEd n l = true ∧ (0 ≤ a ∧ a < n) ∧ (0 ≤ b ∧ b < n) := by
  unfold endsOk at h
  rw [Bool.and_eq_true, Bool.and_eq_true] at h
  exact ⟨h.1.1, of_decide_eq_true h.1.2, of_decide_eq_true h.2⟩

def farsOk (n : Int) (l : List EdD) (a : Int) : Bool := goodEd n l && decide (0 ≤ a ∧ a < n)
def farsOut (n : Int) (l : List EdD) (a : Int) : List Int := if farsOk n l a then fars n.toNat l a else []
theorem farsOk_true {n : Int} {l : List EdD} {a : Int} (h : farsOk n l a = true) : goodEd n l = true ∧ 0 ≤ a ∧ a < n := by
  unfold farsOk at h
  rw [Bool.and_eq_true] at h
  exact ⟨h.1, of_decide_eq_true h.2⟩
theorem farsOut_len (n : Int) (l : List EdD) (a : Int) : (farsOut n l a).length ≤ 4194304 := by
  unfold farsOut
  split
  · next h =>
    have := (goodEd_true (farsOk_true h).1).1
    rw [fars_len]
    omega
  · simp
theorem ends_fars (n : Int) (l : List EdD) (a : Int) : endsOk n l a a = farsOk n l a := by
  unfold endsOk farsOk
  cases goodEd n l <;> cases decide (0 ≤ a ∧ a < n) <;> rfl

end Go.Proofs.Ythlbmkefjjckaag
