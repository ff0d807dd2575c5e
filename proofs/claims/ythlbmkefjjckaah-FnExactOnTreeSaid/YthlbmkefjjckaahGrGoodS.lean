/-
  'GoodEdges' of the model.
-/
import Derived.Test.YthlbmkefjjckaahGrGood
import Derived.Test.YthlbmkefjjckaahNums
import Derived.BigQuiet
namespace Go.Proofs.Ythlbmkefjjckaah
open Go.RowKit
set_option linter.unusedVariables false

/-- As said up to spot u. -/
def okU (u : Int) (x : EdD) : Bool := decide (0 ≤ x.A ∧ x.A ≤ u) && (decide (0 ≤ x.B ∧ x.B ≤ u) && (!decide (x.B ≤ x.A) && decide (1 ≤ x.Cost ∧ x.Cost ≤ 100)))
def stepU (u : Int) (l : List EdD) (j : Nat) : Bool := okU u (l.getD j ed0) && (decide (j = 0) || ahead (l.getD (j - 1) ed0) (l.getD j ed0))
theorem okU_ok (n u : Int) (hu : u = n - 1) (x : EdD) : okU u x = okEd n x := by
  subst hu
  unfold okU okEd
  rw [Bool.eq_iff_iff]
  simp
  omega
theorem stepU_step (n u : Int) (hu : u = n - 1) (l : List EdD) (j : Nat) : stepU u l j = stepEd n l j := by
  unfold stepU stepEd
  rw [okU_ok n u hu]
theorem goodU_no (n u : Int) (l : List EdD) (k : Nat) (hu : (1 ≤ n ∧ n ≤ 12) → u = n - 1) (h : k < l.length) (hf : stepU u l k = false) : goodEd n l = false := by
  by_cases hn : 1 ≤ n ∧ n ≤ 12
  · rw [stepU_step n u (hu hn)] at hf
    exact goodEd_no n l k h hf
  · exact goodEd_spots n l hn
theorem stepU_zero (u : Int) (l : List EdD) (h : 0 < l.length) : stepU u l 0 = okU u l[0] := by
  unfold stepU
  rw [getEd l 0 h]
  simp
theorem stepU_succ (u : Int) (l : List EdD) (j : Nat) (h : j + 1 < l.length) : stepU u l (j + 1) = (okU u l[j + 1] && ahead l[j] l[j + 1]) := by
  unfold stepU
  rw [getEd l (j + 1) h, Nat.add_sub_cancel, getEd l j (by omega)]
  simp

end Go.Proofs.Ythlbmkefjjckaah
