/-
  What 'SkipPart' answers, the program's and the model's: the same.
-/
import Derived.Test.YtijlhjfllfjllaaByteAt
import Derived.Test.YtijlhjfllfjllaaClone
import Derived.Test.YtijlhjfllfjllaaSince0
import Derived.Deep.RegionWith
import Derived.BigRegion
import Derived.BigQuiet
import Derived.Deep.QuietTactic
namespace Go.Proofs.Ytijlhjfllfjllaa
open Go.RowKit

/-- Whether a part stands at a text's front. -/
def skipB (s : ByteArray) : Bool := decide (2 ≤ s.size ∧ s.size ≤ 200 ∧ byteAt s 1 ≤ (s.size : Int) - 2)
/-- What stands behind its first two bytes. -/
def skipT (s : ByteArray) : ByteArray := s.extract 2 (2 + (byteAt s 1).toNat)
theorem skipT_size (s : ByteArray) (h : skipB s = true) : (skipT s).size = (byteAt s 1).toNat := by
  have h' := of_decide_eq_true h
  have := byteAt_bd s 1
  unfold skipT
  rw [ByteArray.size_extract]
  omega

set_option maxRecDepth 100000 in
set_option maxHeartbeats 1000000 in
theorem specSkip_yes (s : ByteArray) (w : World) (h : skipB s = true) :
    Calls Try.prog 15 #[.string s] w fun e w' => e = .returned (.tuple #[.int .i64 (byteAt s 0), .int .i64 (byteAt s 1), .string (skipT s), .bool true]) ∧ Below w.heap.size w w' := by
  obtain ⟨h2, h200, hle⟩ := of_decide_eq_true h
  have b0 := byteAt_bd s 0
  have b1 := byteAt_bd s 1
  obtain ⟨n, hn⟩ : ∃ n : Nat, byteAt s 1 = n := ⟨(byteAt s 1).toNat, by omega⟩
  have HT : Hid (skipT s = s.extract 2 (2 + n)) := by show _ = _; unfold skipT; rw [hn]; rfl
  have e0 := byteAt_eq s 0 (by omega)
  have e1 := byteAt_eq s 1 (by omega)
  rw [hn] at e1 b1 hle
  have d1 : decide ((2 : Int) ≤ (s.size : Int)) = true := by simp; omega
  have d2 : decide ((s.size : Int) ≤ 200) = true := by simp; omega
  have d3 : decide ((s.size : Int) - 2 < (n : Int)) = false := by simp; omega
  have p1 : (2 : Int) ≤ 2 + (n : Int) := by omega
  have p2 : 2 + (n : Int) ≤ (s.size : Int) := by omega
  rw [hn]
  clear h hn
  go_enter Try.func15, Try.ntmps15
  go_wp2
  go_quiet (fail)
  go_wp2
  refine bodyPost_ret (results_tmp4 rfl _ _ _) rfl ?_
  exact ⟨by rw [HT.out]; rfl, below_drewN (Below.refl _ _) _⟩

set_option maxRecDepth 100000 in
set_option maxHeartbeats 1000000 in
theorem implSkip_yes (s : ByteArray) (w : World) (h : skipB s = true) :
    Calls Try.prog 14 #[.string s] w fun e w' => e = .returned (.tuple #[.int .i64 (byteAt s 0), .int .i64 (byteAt s 1), .string (skipT s), .bool true]) ∧ Below w.heap.size w w' := by
  obtain ⟨h2, h200, hle⟩ := of_decide_eq_true h
  have b0 := byteAt_bd s 0
  have b1 := byteAt_bd s 1
  obtain ⟨n, hn⟩ : ∃ n : Nat, byteAt s 1 = n := ⟨(byteAt s 1).toNat, by omega⟩
  have HT : Hid (skipT s = s.extract 2 (2 + n)) := by show _ = _; unfold skipT; rw [hn]; rfl
  have e0 := byteAt_eq s 0 (by omega)
  have e1 := byteAt_eq s 1 (by omega)
  rw [hn] at e1 b1 hle
  have d1 : decide ((200 : Int) < (s.size : Int)) = false := by simp; omega
  have d2 : decide ((s.size : Int) < 2) = false := by simp; omega
  have d3 : decide ((s.size : Int) - 2 < (n : Int)) = false := by simp; omega
  have p1 : (2 : Int) ≤ 2 + (n : Int) := by omega
  have p2 : 2 + (n : Int) ≤ (s.size : Int) := by omega
  have hwr : IntKind.i64.wrap (2 + (n : Int)) = 2 + (n : Int) := by rw [IntKind.wrap_i64]; omega
  have hwb : IntKind.i64.wrap (byteAt s 0) = byteAt s 0 := by rw [IntKind.wrap_i64]; omega
  have hz : (s.extract 2 (2 + n)).size ≤ 1048576 := by rw [ByteArray.size_extract]; omega
  rw [hn]
  clear h hn
  go_enter Try.func14, Try.ntmps14
  go_wp2
  go_region_with (go_at_call 53; refine (clone_any _ _ hz).mono ?_; rintro e w' ⟨rfl, hb⟩)
  all_goals
    go_wp2
    refine bodyPost_ret (results_tmp4 rfl _ _ _) rfl ?_
    exact ⟨by rw [HT.out]; rfl, ((Below.refl _ w).drew).trans (by assumption)⟩

/-- Where none stands. -/
theorem specSkip_no (s : ByteArray) (w : World) (hm : s.size ≤ maxLen) (h : skipB s = false) :
    Calls Try.prog 15 #[.string s] w fun e w' => e = .returned (.tuple #[.int .i64 0, .int .i64 0, .string ⟨#[]⟩, .bool false]) ∧ w' = w := by
  unfold maxLen at hm
  have h' := of_decide_eq_false h
  clear h
  by_cases h2 : s.size < 2
  · have d1 : decide ((2 : Int) ≤ (s.size : Int)) = false := by simp; omega
    clear h'
    go_enter Try.func15, Try.ntmps15
    go_wp2
    refine bodyPost_ret (results_tmp4 rfl _ _ _) rfl ?_
    exact ⟨rfl, rfl⟩
  · have d1 : decide ((2 : Int) ≤ (s.size : Int)) = true := by simp; omega
    by_cases h3 : 200 < s.size
    · have d2 : decide ((s.size : Int) ≤ 200) = false := by simp; omega
      clear h'
      go_enter Try.func15, Try.ntmps15
      go_wp2
      refine bodyPost_ret (results_tmp4 rfl _ _ _) rfl ?_
      exact ⟨rfl, rfl⟩
    · have d2 : decide ((s.size : Int) ≤ 200) = true := by simp; omega
      have h4 : (s.size : Int) - 2 < byteAt s 1 := by omega
      have b1 := byteAt_bd s 1
      have d3 : decide ((s.size : Int) - 2 < byteAt s 1) = true := by simp; omega
      have e1 := byteAt_eq s 1 (by omega)
      clear h'
      go_enter Try.func15, Try.ntmps15
      go_wp2
      refine bodyPost_ret (results_tmp4 rfl _ _ _) rfl ?_
      exact ⟨rfl, rfl⟩

theorem implSkip_no (s : ByteArray) (w : World) (hm : s.size ≤ maxLen) (h : skipB s = false) :
    Calls Try.prog 14 #[.string s] w fun e w' => e = .returned (.tuple #[.int .i64 0, .int .i64 0, .string ⟨#[]⟩, .bool false]) ∧ w' = w := by
  unfold maxLen at hm
  have h' := of_decide_eq_false h
  clear h
  by_cases h3 : 200 < s.size
  · have d1 : decide ((200 : Int) < (s.size : Int)) = true := by simp; omega
    clear h'
    go_enter Try.func14, Try.ntmps14
    go_wp2
    refine bodyPost_ret (results_tmp4 rfl _ _ _) rfl ?_
    exact ⟨rfl, rfl⟩
  · have d1 : decide ((200 : Int) < (s.size : Int)) = false := by simp; omega
    by_cases h2 : s.size < 2
    · have d2 : decide ((s.size : Int) < 2) = true := by simp; omega
      clear h'
      go_enter Try.func14, Try.ntmps14
      go_wp2
      refine bodyPost_ret (results_tmp4 rfl _ _ _) rfl ?_
      exact ⟨rfl, rfl⟩
    · have d2 : decide ((s.size : Int) < 2) = false := by simp; omega
      have h4 : (s.size : Int) - 2 < byteAt s 1 := by omega
      have b1 := byteAt_bd s 1
      have d3 : decide ((s.size : Int) - 2 < byteAt s 1) = true := by simp; omega
      have e1 := byteAt_eq s 1 (by omega)
      clear h'
      go_enter Try.func14, Try.ntmps14
      go_wp2
      refine bodyPost_ret (results_tmp4 rfl _ _ _) rfl ?_
      exact ⟨rfl, rfl⟩
end Go.Proofs.Ytijlhjfllfjllaa
