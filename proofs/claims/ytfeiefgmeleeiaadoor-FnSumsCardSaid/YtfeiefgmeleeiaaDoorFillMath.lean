/-
  Plain facts on the two bytes that make both sums nought, without the program.
-/
import Derived.WalkKit
namespace Go.Proofs.YtfeiefgmeleeiaaDoor

/-- The first byte, of both sums and of how often the second byte is counted. -/
def xOf (a b c : Int) : Int := (c * a - b) % 255
/-- The second one. -/
def yOf (a x : Int) : Int := (-a - x) % 255

theorem tmod_up (v : Int) : (v.tmod 255 + 255) % 255 = v % 255 := by
  rw [Int.tmod_eq_emod]
  split <;> omega
theorem tmod_bd (v : Int) : -254 ≤ v.tmod 255 ∧ v.tmod 255 ≤ 254 := by
  rw [Int.tmod_eq_emod]
  split <;> omega
theorem xOf_spec (a b c : Int) : ((-b + c * a).tmod 255 + 255) % 255 = xOf a b c := by
  rw [tmod_up]; unfold xOf; congr 1; omega
theorem yOf_spec (a x : Int) : ((-a - x).tmod 255 + 255) % 255 = yOf a x := tmod_up _
theorem xOf_impl (a b c : Int) : (a * c + 255 - b) % 255 = xOf a b c := by
  unfold xOf; rw [Int.mul_comm a c]; omega
theorem yOf_impl (a x : Int) : (510 - a - x) % 255 = yOf a x := by unfold yOf; omega
theorem xOf_bd (a b c : Int) : 0 ≤ xOf a b c ∧ xOf a b c ≤ 254 := by unfold xOf; omega
theorem yOf_bd (a x : Int) : 0 ≤ yOf a x ∧ yOf a x ≤ 254 := by unfold yOf; omega
theorem mul_bd' (a c : Int) (ha : 0 ≤ a ∧ a ≤ 254) (hc : 0 ≤ c ∧ c ≤ 200) : 0 ≤ c * a ∧ c * a ≤ 50800 := by
  refine ⟨Int.mul_nonneg hc.1 ha.1, ?_⟩
  have h1 : c * a ≤ 200 * a := Int.mul_le_mul_of_nonneg_right hc.2 ha.1
  omega
end Go.Proofs.YtfeiefgmeleeiaaDoor
