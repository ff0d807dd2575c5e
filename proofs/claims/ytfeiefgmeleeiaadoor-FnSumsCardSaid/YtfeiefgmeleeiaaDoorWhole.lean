/-
  What 'IsWhole' answers, the program's and the model's.
-/
import Derived.Test.YtfeiefgmeleeiaaDoorDoor
namespace Go.Proofs.YtfeiefgmeleeiaaDoor
open Go.RowKit

/-- Both sums are nought. -/
def wholeB (l : List UInt8) : Bool := decide (flA l = 0) && decide (flB l = 0)

set_option maxHeartbeats 400000 in
theorem specWhole_yes (s : ByteArray) (w : World) (hs : s.size ≤ 200) :
    Calls Tryd.prog 26 #[.string s] w fun e w' => e = .returned (.tuple #[.bool (wholeB s.data.toList), .bool true]) ∧ w' = w := by
  have hd : decide ((s.size : Int) ≤ 200) = true := by simp; omega
  by_cases ha : flA s.data.toList = 0
  · by_cases hb : flB s.data.toList = 0
    · have HE : Hid (wholeB s.data.toList = true) := by show _ = _; simp [wholeB, ha, hb]
      go_enter Tryd.func26, Tryd.ntmps26
      go_wp2_with (first | (go_at_call 30; go_in) | (go_at_call 31; refine (l1Sums_any _ _ hs).mono ?_; rintro e w' ⟨rfl, rfl⟩))
      go_ret2
      rw [HE.out]
      exact ⟨rfl, rfl⟩
    · have HE : Hid (wholeB s.data.toList = false) := by show _ = _; simp [wholeB, hb]
      have hb' : (flB s.data.toList == 0) = false := by simpa using hb
      go_enter Tryd.func26, Tryd.ntmps26
      go_wp2_with (first | (go_at_call 30; go_in) | (go_at_call 31; refine (l1Sums_any _ _ hs).mono ?_; rintro e w' ⟨rfl, rfl⟩))
      go_ret2
      rw [HE.out]
      exact ⟨rfl, rfl⟩
  · have HE : Hid (wholeB s.data.toList = false) := by show _ = _; simp [wholeB, ha]
    have ha' : (flA s.data.toList == 0) = false := by simpa using ha
    go_enter Tryd.func26, Tryd.ntmps26
    go_wp2_with (first | (go_at_call 30; go_in) | (go_at_call 31; refine (l1Sums_any _ _ hs).mono ?_; rintro e w' ⟨rfl, rfl⟩))
    go_ret2
    rw [HE.out]
    exact ⟨rfl, rfl⟩

theorem specWhole_no (s : ByteArray) (w : World) (hs : 200 < s.size) (hm : s.size ≤ maxLen) :
    Calls Tryd.prog 26 #[.string s] w fun e w' => e = .returned (.tuple #[.bool false, .bool false]) ∧ w' = w := by
  unfold maxLen at hm
  have hd : decide ((s.size : Int) ≤ 200) = false := by simp; omega
  go_enter Tryd.func26, Tryd.ntmps26
  go_wp2
  go_ret2
  exact ⟨rfl, rfl⟩

set_option maxHeartbeats 400000 in
theorem implWhole_yes (s : ByteArray) (w : World) (hs : s.size ≤ 200) (ht : Tab w) :
    Calls Tryd.prog 21 #[.string s] w fun e w' => e = .returned (.tuple #[.bool (wholeB s.data.toList), .bool true]) ∧ Below w.heap.size w w' := by
  have HT : Hid (Tab w) := ht
  clear ht
  by_cases ha : flA s.data.toList = 0
  · by_cases hb : flB s.data.toList = 0
    · have HE : Hid (wholeB s.data.toList = true) := by show _ = _; simp [wholeB, ha, hb]
      go_enter Tryd.func21, Tryd.ntmps21
      go_wp2_with (go_at_call 6; refine (implSumOf_yes _ _ hs HT.out).mono ?_; rintro e w' ⟨rfl, hbel⟩)
      go_ret2
      rw [HE.out]
      exact ⟨rfl, by assumption⟩
    · have HE : Hid (wholeB s.data.toList = false) := by show _ = _; simp [wholeB, hb]
      have hb' : (flB s.data.toList == 0) = false := by simpa using hb
      go_enter Tryd.func21, Tryd.ntmps21
      go_wp2_with (go_at_call 6; refine (implSumOf_yes _ _ hs HT.out).mono ?_; rintro e w' ⟨rfl, hbel⟩)
      go_ret2
      rw [HE.out]
      exact ⟨rfl, by assumption⟩
  · have HE : Hid (wholeB s.data.toList = false) := by show _ = _; simp [wholeB, ha]
    have ha' : (flA s.data.toList == 0) = false := by simpa using ha
    go_enter Tryd.func21, Tryd.ntmps21
    go_wp2_with (go_at_call 6; refine (implSumOf_yes _ _ hs HT.out).mono ?_; rintro e w' ⟨rfl, hbel⟩)
    go_ret2
    rw [HE.out]
    exact ⟨rfl, by assumption⟩

theorem implWhole_no (s : ByteArray) (w : World) (hs : 200 < s.size) (hm : s.size ≤ maxLen) :
    Calls Tryd.prog 21 #[.string s] w fun e w' => e = .returned (.tuple #[.bool false, .bool false]) ∧ w' = w := by
  have HM : Hid (s.size ≤ maxLen) := hm
  clear hm
  go_enter Tryd.func21, Tryd.ntmps21
  go_wp2_with (go_at_call 6; refine (implSumOf_no _ _ hs HM.out).mono ?_; rintro e w' ⟨rfl, rfl⟩)
  go_ret2
  exact ⟨rfl, rfl⟩
end Go.Proofs.YtfeiefgmeleeiaaDoor
