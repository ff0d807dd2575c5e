/-
  Groups by passes: 'l8Groups' of the model; 'GroupsOf' of both.
-/
import Derived.Test.YthlbmkefjjckaafGrGrp
import Derived.Test.YthlbmkefjjckaafGrNearS
namespace Go.Proofs.Ythlbmkefjjckaaf
open Go.RowKit
set_option linter.unusedVariables false

theorem l1Least_any (W : World) (a b : Int) : Calls Try.prog 37 #[.int .i64 a, .int .i64 b] W fun e W' => e = .returned (.int .i64 (min a b)) ∧ W' = W := by
  by_cases h : a < b
  · rw [Int.min_eq_left (by omega)]
    go_enter Try.func37, Try.ntmps37
    go_wp2
    go_ret
    exact ⟨rfl, rfl⟩
  · rw [Int.min_eq_right (by omega)]
    go_enter Try.func37, Try.ntmps37
    go_wp2
    go_ret
    exact ⟨rfl, rfl⟩
theorem least2_nat (zs : List Int) (p q : Nat) (hp : p < zs.length) (hq : q < zs.length) : least2 zs (p : Int) (q : Int) = (zs.set p (min zs[p] zs[q])).set q (min zs[p] zs[q]) := by
  unfold least2
  rw [lab_get zs p hp, lab_get zs q hq, Int.toNat_natCast, Int.toNat_natCast]

def grpOut (n : Int) (l : List EdD) : List Int := if goodEd n l then grp n l else []
theorem grpOut_len (n : Int) (l : List EdD) : (grpOut n l).length ≤ 4194304 := by
  unfold grpOut
  split
  · next h =>
    obtain ⟨hn, -, hf, -⟩ := goodEd_true h
    rw [grp_len n l hf]
    omega
  · simp

end Go.Proofs.Ythlbmkefjjckaaf
