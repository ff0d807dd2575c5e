/-
  What the model's 'FillSum' answers.
-/
import Derived.Test.YtfeiefgmeleeiaaDoorSince
import Derived.Test.YtfeiefgmeleeiaaDoorSums
import Derived.Test.YtfeiefgmeleeiaaDoorFillMath
namespace Go.Proofs.YtfeiefgmeleeiaaDoor
open Go.RowKit

/-- Both bytes are made nought. -/
def fillT (s : ByteArray) (k : Int) : ByteArray := setZ (setZ s k 0) (k + 1) 0
def fillX (s : ByteArray) (k : Int) : Int := xOf (flA (fillT s k).data.toList) (flB (fillT s k).data.toList) ((s.size : Int) - k - 1)
def fillY (s : ByteArray) (k : Int) : Int := yOf (flA (fillT s k).data.toList) (fillX s k)
/-- The text filled. -/
def fillS (s : ByteArray) (k : Int) : ByteArray := setZ (setZ (fillT s k) k (fillX s k)) (k + 1) (fillY s k)
theorem fillT_size (s : ByteArray) (k : Int) : (fillT s k).size = s.size := by simp only [fillT, setZ_size]

theorem l1Sums_t (s : ByteArray) (k : Int) (w : World) (hs : s.size ≤ 200) :
    Calls Tryd.prog 31 #[.string (setZ (setZ s k 0) (k + 1) 0)] w fun e w' => e = .returned (.tuple #[.int .i64 (flA (fillT s k).data.toList), .int .i64 (flB (fillT s k).data.toList)]) ∧ w' = w :=
  l1Sums_any (fillT s k) w (by rw [fillT_size]; exact hs)

set_option maxHeartbeats 800000 in
theorem specFill_yes {B : Nat} {w0 : World} (s : ByteArray) (k : Int) (w : World) (hw : Since B w0 w) (hs : s.size ≤ 200) (k0 : 0 ≤ k) (k1 : k + 1 < s.size) :
    Calls Tryd.prog 20 #[.string s, .int .i64 k] w fun e w' => e = .returned (.tuple #[.string (fillS s k), .bool true]) ∧ Since B w0 w' := by
  have hd : decide ((s.size : Int) ≤ 200) = true := by simp; omega
  have hd2 : decide (k < 0) = false := by simp; omega
  have hd3 : decide ((s.size : Int) - 1 ≤ k) = false := by simp; omega
  have ba := fl_bd (fillT s k).data.toList
  have bm := mul_bd' (flA (fillT s k).data.toList) ((s.size : Int) - k - 1) ba.1 ⟨by omega, by omega⟩
  have hX : ((-flB (fillT s k).data.toList + ((s.size : Int) - k - 1) * flA (fillT s k).data.toList).tmod 255 + 255) % 255 = fillX s k := xOf_spec _ _ _
  have hY : ((-flA (fillT s k).data.toList - fillX s k).tmod 255 + 255) % 255 = fillY s k := yOf_spec _ _
  have tX := tmod_bd (-flB (fillT s k).data.toList + ((s.size : Int) - k - 1) * flA (fillT s k).data.toList)
  have tY := tmod_bd (-flA (fillT s k).data.toList - fillX s k)
  have bX : 0 ≤ fillX s k ∧ fillX s k ≤ 254 := xOf_bd _ _ _
  have bY : 0 ≤ fillY s k ∧ fillY s k ≤ 254 := yOf_bd _ _
  go_enter Tryd.func20, Tryd.ntmps20
  go_wp2_with (first | (go_at_call 30; go_in) | (go_at_call 31; refine (l1Sums_t s k _ hs).mono ?_; rintro e w' ⟨rfl, rfl⟩) | (go_at_call 36; refine (l1With_z _ _ _ _ (by assumption) (by omega) (by first | omega | (simp only [setZ_size]; omega)) (by omega) (by omega)).mono ?_; rintro e w' ⟨rfl, hw'⟩))
  go_ret2
  exact ⟨rfl, by assumption⟩

set_option maxHeartbeats 800000 in
theorem specFill_no (s : ByteArray) (k : Int) (w : World) (hm : s.size ≤ maxLen) (h : 200 < s.size ∨ k < 0 ∨ (s.size : Int) ≤ k + 1) :
    Calls Tryd.prog 20 #[.string s, .int .i64 k] w fun e w' => e = .returned (.tuple #[.string ⟨#[]⟩, .bool false]) ∧ w' = w := by
  unfold maxLen at hm
  by_cases h1 : 200 < s.size
  · have hd : decide ((s.size : Int) ≤ 200) = false := by simp; omega
    clear h
    go_enter Tryd.func20, Tryd.ntmps20
    go_wp2
    go_ret2
    exact ⟨rfl, rfl⟩
  · have hd : decide ((s.size : Int) ≤ 200) = true := by simp; omega
    by_cases h2 : k < 0
    · have hd2 : decide (k < 0) = true := by simp; omega
      clear h
      go_enter Tryd.func20, Tryd.ntmps20
      go_wp2
      go_ret2
      exact ⟨rfl, rfl⟩
    · have hd2 : decide (k < 0) = false := by simp; omega
      have h3 : (s.size : Int) - 1 ≤ k := by omega
      have hd3 : decide ((s.size : Int) - 1 ≤ k) = true := by simp; omega
      clear h
      go_enter Tryd.func20, Tryd.ntmps20
      go_wp2
      go_ret2
      exact ⟨rfl, rfl⟩
end Go.Proofs.YtfeiefgmeleeiaaDoor
