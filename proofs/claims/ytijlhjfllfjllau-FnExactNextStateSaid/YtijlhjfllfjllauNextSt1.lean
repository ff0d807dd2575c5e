/-
  'NextState', the program's and the model's, in a seat that holds little more.
-/
import Derived.Test.YtijlhjfllfjllauPlain
import Derived.Test.YtijlhjfllfjllauPairMath
namespace Go.Proofs.Ytijlhjfllfjllau
open Go.RowKit

theorem ret_bool {a b : Bool} (h : a = b) : Ending.returned (.bool a) = .returned (.bool b) := by rw [h]

theorem l1In_any (n lo hi : Int) (w : World) : Calls Try.prog 6 #[.int .i64 n, .int .i64 lo, .int .i64 hi] w fun e w' => e = .returned (.bool (decide (lo ≤ n ∧ n ≤ hi))) ∧ w' = w := by
  by_cases h1 : lo ≤ n
  · have d1 : decide (lo ≤ n) = true := by simp; omega
    by_cases h2 : n ≤ hi
    · have d2 : decide (n ≤ hi) = true := by simp; omega
      have e : decide (lo ≤ n ∧ n ≤ hi) = true := by simp; omega
      rw [e]; clear e
      go_enter Try.func6, Try.ntmps6
      go_wp2
      go_ret
      exact ⟨rfl, rfl⟩
    · have d2 : decide (n ≤ hi) = false := by simp; omega
      have e : decide (lo ≤ n ∧ n ≤ hi) = false := by simp; omega
      rw [e]; clear e
      go_enter Try.func6, Try.ntmps6
      go_wp2
      go_ret
      exact ⟨rfl, rfl⟩
  · have d1 : decide (lo ≤ n) = false := by simp; omega
    have e : decide (lo ≤ n ∧ n ≤ hi) = false := by simp; omega
    rw [e]; clear e
    go_enter Try.func6, Try.ntmps6
    go_wp2
    go_ret
    exact ⟨rfl, rfl⟩

def stateB (s : Int) : Bool := decide (0 ≤ s ∧ s ≤ 2)
theorem isState_any (s : Int) (W : World) : Calls Try.prog 7 #[.int .i64 s] W fun e W' => e = .returned (.bool (stateB s)) ∧ W' = W := by
  have HE : Hid ((s == 0 || s == 1 || s == 2) = stateB s) := by
    show _ = _
    unfold stateB
    rw [Bool.eq_iff_iff]
    simp
    omega
  go_enter Try.func7, Try.ntmps7
  go_wp2
  all_goals
    go_ret
    first | exact ⟨ret_bool HE.out, rfl⟩ | (subst_vars; exact ⟨rfl, rfl⟩)

def nextS (s : Int) (h : Bool) : Int := if stateB s then heardS h else 0

theorem implNext_any (s : Int) (h : Bool) (W : World) : Calls Try.prog 5 #[.int .i64 s, .bool h] W fun e W' => e = .returned (.tuple #[.int .i64 (nextS s h), .bool (stateB s)]) ∧ W' = W := by
  unfold nextS
  cases hs : stateB s with
  | false =>
    have HS : Hid (stateB s = false) := hs
    clear hs
    go_enter Try.func5, Try.ntmps5
    go_wp2_with fail
    refine (isState_any _ _).mono ?_
    rintro e w1 ⟨rfl, rfl⟩
    rw [HS.out]
    go_wp2
    go_ret2
    exact ⟨rfl, rfl⟩
  | true =>
    have HS : Hid (stateB s = true) := hs
    clear hs
    cases h
    · go_enter Try.func5, Try.ntmps5
      go_wp2_with fail
      refine (isState_any _ _).mono ?_
      rintro e w1 ⟨rfl, rfl⟩
      rw [HS.out]
      go_wp2
      go_ret2
      exact ⟨rfl, rfl⟩
    · go_enter Try.func5, Try.ntmps5
      go_wp2_with fail
      refine (isState_any _ _).mono ?_
      rintro e w1 ⟨rfl, rfl⟩
      rw [HS.out]
      go_wp2
      go_ret2
      exact ⟨rfl, rfl⟩

theorem specNext_any (s : Int) (h : Bool) (W : World) : Calls Try.prog 4 #[.int .i64 s, .bool h] W fun e W' => e = .returned (.tuple #[.int .i64 (nextS s h), .bool (stateB s)]) ∧ W' = W := by
  unfold nextS
  cases hs : stateB s with
  | false =>
    have HS : Hid (decide (0 ≤ s ∧ s ≤ 2) = false) := hs
    clear hs
    go_enter Try.func4, Try.ntmps4
    go_wp2_with fail
    refine (l1In_any _ _ _ _).mono ?_
    rintro e w1 ⟨rfl, rfl⟩
    rw [HS.out]
    go_wp2
    go_ret2
    exact ⟨rfl, rfl⟩
  | true =>
    have HS : Hid (decide (0 ≤ s ∧ s ≤ 2) = true) := hs
    clear hs
    cases h
    · go_enter Try.func4, Try.ntmps4
      go_wp2_with fail
      refine (l1In_any _ _ _ _).mono ?_
      rintro e w1 ⟨rfl, rfl⟩
      rw [HS.out]
      go_wp2
      go_ret2
      exact ⟨rfl, rfl⟩
    · go_enter Try.func4, Try.ntmps4
      go_wp2_with fail
      refine (l1In_any _ _ _ _).mono ?_
      rintro e w1 ⟨rfl, rfl⟩
      rw [HS.out]
      go_wp2
      go_ret2
      exact ⟨rfl, rfl⟩

end Go.Proofs.Ytijlhjfllfjllau
