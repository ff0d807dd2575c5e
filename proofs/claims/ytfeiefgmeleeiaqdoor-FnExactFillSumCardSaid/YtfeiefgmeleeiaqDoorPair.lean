/-
  What the program's 'hasPair' answers.
-/
import Derived.Test.YtfeiefgmeleeiaqDoorRows
import Derived.WalkKit
import Derived.Below
namespace Go.Proofs.YtfeiefgmeleeiaqDoor
open Go.RowKit

/-- A place that is a pair's, as the program asks it. -/
theorem hasPair_yes (s : ByteArray) (k : Int) (w : World) (hs : s.size ≤ 200) (k0 : 0 ≤ k) (k1 : k + 1 < s.size) :
    Calls Tryd.prog 21 #[.string s, .int .i64 k] w fun e w' => e = .returned (.bool true) ∧ w' = w := by
  have hd : decide ((s.size : Int) ≤ 200) = true := by simp; omega
  have hd2 : decide (0 ≤ k) = true := by simp; omega
  have hd3 : decide (k < (s.size : Int) - 1) = true := by simp; omega
  go_enter Tryd.func21, Tryd.ntmps21
  go_wp2
  go_ret
  exact ⟨rfl, rfl⟩

theorem hasPair_no (s : ByteArray) (k : Int) (w : World) (hm : s.size ≤ maxLen) (h : 200 < s.size ∨ k < 0 ∨ (s.size : Int) ≤ k + 1) :
    Calls Tryd.prog 21 #[.string s, .int .i64 k] w fun e w' => e = .returned (.bool false) ∧ w' = w := by
  unfold maxLen at hm
  by_cases h1 : 200 < s.size
  · have hd : decide ((s.size : Int) ≤ 200) = false := by simp; omega
    clear h
    go_enter Tryd.func21, Tryd.ntmps21
    go_wp2
    go_ret
    exact ⟨rfl, rfl⟩
  · have hd : decide ((s.size : Int) ≤ 200) = true := by simp; omega
    by_cases h2 : k < 0
    · have hd2 : decide (0 ≤ k) = false := by simp; omega
      clear h
      go_enter Tryd.func21, Tryd.ntmps21
      go_wp2
      go_ret
      exact ⟨rfl, rfl⟩
    · have hd2 : decide (0 ≤ k) = true := by simp; omega
      have hd3 : decide (k < (s.size : Int) - 1) = false := by simp; omega
      clear h
      go_enter Tryd.func21, Tryd.ntmps21
      go_wp2
      go_ret
      exact ⟨rfl, rfl⟩
end Go.Proofs.YtfeiefgmeleeiaqDoor
