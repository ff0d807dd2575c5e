/-
  'NextState', the program's and the model's.
-/
import Derived.Test.YtchddjidjfpehaaSides
namespace Go.Proofs.Ytchddjidjfpehaa
open Go.RowKit

def nextS (s : Int) (h : Bool) : Int := if stateB s then heardS h else 0

theorem implNext_any (s : Int) (h : Bool) (W : World) : Calls Try.prog 27 #[.int .i64 s, .bool h] W fun e W' => e = .returned (.tuple #[.int .i64 (nextS s h), .bool (stateB s)]) ∧ W' = W := by
  unfold nextS
  cases hs : stateB s with
  | false =>
    have HS : Hid (stateB s = false) := hs
    clear hs
    go_enter Try.func27, Try.ntmps27
    go_wp2_with fail
    refine (isState_any _ _).mono ?_
    rintro e w1 ⟨rfl, rfl⟩
    rw [HS.out]
    go_wp2
    go_ret2
    exact ⟨rfl, rfl⟩
  | true =>
    have HS : Hid (stateB s = true) := hs
    clear hs
    cases h
    · go_enter Try.func27, Try.ntmps27
      go_wp2_with fail
      refine (isState_any _ _).mono ?_
      rintro e w1 ⟨rfl, rfl⟩
      rw [HS.out]
      go_wp2
      go_ret2
      exact ⟨rfl, rfl⟩
    · go_enter Try.func27, Try.ntmps27
      go_wp2_with fail
      refine (isState_any _ _).mono ?_
      rintro e w1 ⟨rfl, rfl⟩
      rw [HS.out]
      go_wp2
      go_ret2
      exact ⟨rfl, rfl⟩

theorem specNext_any (s : Int) (h : Bool) (W : World) : Calls Try.prog 28 #[.int .i64 s, .bool h] W fun e W' => e = .returned (.tuple #[.int .i64 (nextS s h), .bool (stateB s)]) ∧ W' = W := by
  unfold nextS
  cases hs : stateB s with
  | false =>
    have HS : Hid (decide (0 ≤ s ∧ s ≤ 2) = false) := hs
    clear hs
    go_enter Try.func28, Try.ntmps28
    go_wp2_with fail
    refine (l1In_any _ _ _ _).mono ?_
    rintro e w1 ⟨rfl, rfl⟩
    rw [HS.out]
    go_wp2
    go_ret2
    exact ⟨rfl, rfl⟩
  | true =>
    have HS : Hid (decide (0 ≤ s ∧ s ≤ 2) = true) := hs
    clear hs
    cases h
    · go_enter Try.func28, Try.ntmps28
      go_wp2_with fail
      refine (l1In_any _ _ _ _).mono ?_
      rintro e w1 ⟨rfl, rfl⟩
      rw [HS.out]
      go_wp2
      go_ret2
      exact ⟨rfl, rfl⟩
    · go_enter Try.func28, Try.ntmps28
      go_wp2_with fail
      refine (l1In_any _ _ _ _).mono ?_
      rintro e w1 ⟨rfl, rfl⟩
      rw [HS.out]
      go_wp2
      go_ret2
      exact ⟨rfl, rfl⟩

end Go.Proofs.Ytchddjidjfpehaa
