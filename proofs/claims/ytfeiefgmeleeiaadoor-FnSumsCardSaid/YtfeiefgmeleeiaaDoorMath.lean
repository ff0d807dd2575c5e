/-
  Plain facts on numbers and bytes, without the program: the table of multiples of 255, a remainder taken by it step by step, and both sums of a list of bytes.
-/
import Derived.WalkKit
namespace Go.Proofs.YtfeiefgmeleeiaaDoor
open Go.RowKit

/-- The table's number at a place. -/
def modAt (k : Nat) : Int := [32640, 16320, 8160, 4080, 2040, 1020, 510, 255].getD k 0

theorem modAt_bd (k : Nat) (h : k < 8) : 255 ≤ modAt k ∧ modAt k ≤ 32640 := by
  match k, h with
  | 0, _ | 1, _ | 2, _ | 3, _ | 4, _ | 5, _ | 6, _ | 7, _ => exact ⟨by decide, by decide⟩

/-- One step of the table's remainder: 2 * modAt k bounds it ahead, modAt k behind. -/
theorem rem_sub (k : Nat) (h : k < 8) (m : Int) (h0 : modAt k ≤ m) (h1 : m < 2 * modAt k) : 0 ≤ m - modAt k ∧ m - modAt k < modAt k ∧ (m - modAt k) % 255 = m % 255 := by
  match k, h with
  | 0, _ | 1, _ | 2, _ | 3, _ | 4, _ | 5, _ | 6, _ | 7, _ => simp only [modAt, List.getD_cons_zero, List.getD_cons_succ] at *; omega

theorem modAt_next (k : Nat) (h : k < 7) : modAt k = 2 * modAt (k + 1) := by
  match k, h with
  | 0, _ | 1, _ | 2, _ | 3, _ | 4, _ | 5, _ | 6, _ => decide

theorem modAt_one : modAt 1 = 16320 := by decide

/-- What is left at last is the remainder. -/
theorem rem_last (m n : Int) (h0 : 0 ≤ m) (h1 : m < modAt 7) (h : m % 255 = n % 255) : m = n % 255 := by
  have : modAt 7 = 255 := by decide
  omega

/-- Both sums of bytes, from the front. -/
def fl (l : List UInt8) : Int × Int := l.foldl (fun p x => ((p.1 + (x.toNat : Int)) % 255, (p.2 + (p.1 + (x.toNat : Int)) % 255) % 255)) (0, 0)
def flA (l : List UInt8) : Int := (fl l).1
def flB (l : List UInt8) : Int := (fl l).2

theorem flA_snoc (l : List UInt8) (c : UInt8) : flA (l ++ [c]) = (flA l + (c.toNat : Int)) % 255 := by simp [flA, fl]
theorem flB_snoc (l : List UInt8) (c : UInt8) : flB (l ++ [c]) = (flB l + (flA l + (c.toNat : Int)) % 255) % 255 := by simp [flA, flB, fl]
theorem fl_bd (l : List UInt8) : (0 ≤ flA l ∧ flA l ≤ 254) ∧ (0 ≤ flB l ∧ flB l ≤ 254) := by
  rcases List.eq_nil_or_concat l with rfl | ⟨l', c, rfl⟩
  · decide
  · rw [List.concat_eq_append, flA_snoc, flB_snoc]; omega

theorem ret_int {k : IntKind} {a b : Int} (h : a = b) : Ending.returned (.int k a) = .returned (.int k b) := by rw [h]
theorem val_int {k : IntKind} {a b : Int} (h : a = b) : Value.int k a = .int k b := by rw [h]
theorem take_snoc (s : ByteArray) (k : Nat) (h : k < s.size) : s.data.toList.take (k + 1) = s.data.toList.take k ++ [s[k]] := by
  rw [List.take_succ_eq_append_getElem (by simpa using h)]; rfl
theorem take_all (s : ByteArray) (k : Nat) (h : ¬ k < s.size) : s.data.toList.take k = s.data.toList := by
  rw [List.take_of_length_le (by simp; omega)]
end Go.Proofs.YtfeiefgmeleeiaaDoor
