/-
  What the functions of chapter 1 answer at every argument, in one form for the program and the model alike; what they leave of the world.
-/
import Derived.Test.YtfeiefgmeleeiaaDoorAddSums
import Derived.Test.YtfeiefgmeleeiaaDoorWhole
import Derived.Test.YtfeiefgmeleeiaaDoorSince
namespace Go.Proofs.YtfeiefgmeleeiaaDoor
open Go.RowKit

theorem Since.tab {B : Nat} {w0 w : World} (h : Since B w0 w) (ht : Tab w0) (hB : 0 < B) : Tab w := ht.below hB h.1

/-- 'IsWhole'. -/
def wholeR (s : ByteArray) : Bool × Bool := if s.size ≤ 200 then (wholeB s.data.toList, true) else (false, false)
theorem implWhole_u {B : Nat} {w0 : World} (s : ByteArray) (W : World) (hm : s.size ≤ maxLen) (hS : Since B w0 W) (ht : Tab w0) (hB : 0 < B) :
    Calls Tryd.prog 21 #[.string s] W fun e W' => e = .returned (.tuple #[.bool (wholeR s).1, .bool (wholeR s).2]) ∧ Since B w0 W' := by
  by_cases h : s.size ≤ 200
  · have e : wholeR s = (wholeB s.data.toList, true) := if_pos h
    rw [e]
    exact (implWhole_yes s W h (hS.tab ht hB)).mono fun e W' ⟨he, hb⟩ => ⟨he, hS.step hb⟩
  · have e : wholeR s = (false, false) := if_neg h
    rw [e]
    exact (implWhole_no s W (by omega) hm).mono fun e W' ⟨he, hb⟩ => ⟨he, by rw [hb]; exact hS⟩
theorem specWhole_u {B : Nat} {w0 : World} (s : ByteArray) (W : World) (hm : s.size ≤ maxLen) (hS : Since B w0 W) :
    Calls Tryd.prog 26 #[.string s] W fun e W' => e = .returned (.tuple #[.bool (wholeR s).1, .bool (wholeR s).2]) ∧ Since B w0 W' := by
  by_cases h : s.size ≤ 200
  · have e : wholeR s = (wholeB s.data.toList, true) := if_pos h
    rw [e]
    exact (specWhole_yes s W h).mono fun e W' ⟨he, hb⟩ => ⟨he, by rw [hb]; exact hS⟩
  · have e : wholeR s = (false, false) := if_neg h
    rw [e]
    exact (specWhole_no s W (by omega) hm).mono fun e W' ⟨he, hb⟩ => ⟨he, by rw [hb]; exact hS⟩

/-- 'SumOf'. -/
def sumR (s : ByteArray) : Int × Int × Bool := if s.size ≤ 200 then (flA s.data.toList, flB s.data.toList, true) else (0, 0, false)
theorem implSumOf_u {B : Nat} {w0 : World} (s : ByteArray) (W : World) (hm : s.size ≤ maxLen) (hS : Since B w0 W) (ht : Tab w0) (hB : 0 < B) :
    Calls Tryd.prog 6 #[.string s] W fun e W' => e = .returned (.tuple #[.int .i64 (sumR s).1, .int .i64 (sumR s).2.1, .bool (sumR s).2.2]) ∧ Since B w0 W' := by
  by_cases h : s.size ≤ 200
  · have e : sumR s = (flA s.data.toList, flB s.data.toList, true) := if_pos h
    rw [e]
    exact (implSumOf_yes s W h (hS.tab ht hB)).mono fun e W' ⟨he, hb⟩ => ⟨he, hS.step hb⟩
  · have e : sumR s = (0, 0, false) := if_neg h
    rw [e]
    exact (implSumOf_no s W (by omega) hm).mono fun e W' ⟨he, hb⟩ => ⟨he, by rw [hb]; exact hS⟩
theorem specSumOf_u {B : Nat} {w0 : World} (s : ByteArray) (W : World) (hm : s.size ≤ maxLen) (hS : Since B w0 W) :
    Calls Tryd.prog 7 #[.string s] W fun e W' => e = .returned (.tuple #[.int .i64 (sumR s).1, .int .i64 (sumR s).2.1, .bool (sumR s).2.2]) ∧ Since B w0 W' := by
  by_cases h : s.size ≤ 200
  · have e : sumR s = (flA s.data.toList, flB s.data.toList, true) := if_pos h
    rw [e]
    exact (specSumOf_yes s W h).mono fun e W' ⟨he, hb⟩ => ⟨he, by rw [hb]; exact hS⟩
  · have e : sumR s = (0, 0, false) := if_neg h
    rw [e]
    exact (specSumOf_no s W (by omega) hm).mono fun e W' ⟨he, hb⟩ => ⟨he, by rw [hb]; exact hS⟩

/-- 'AddSums'. -/
def addR (a b c d long : Int) : Int × Int × Bool := if goodAdd a b c d long = true then ((a + c) % 255, (b + d + long * a) % 255, true) else (0, 0, false)
theorem implAdd_u {B : Nat} {w0 : World} (a b c d long : Int) (W : World) (hS : Since B w0 W) (ht : Tab w0) (hB : 0 < B) :
    Calls Tryd.prog 9 #[.int .i64 a, .int .i64 b, .int .i64 c, .int .i64 d, .int .i64 long] W fun e W' => e = .returned (.tuple #[.int .i64 (addR a b c d long).1, .int .i64 (addR a b c d long).2.1, .bool (addR a b c d long).2.2]) ∧ Since B w0 W' := by
  cases h : goodAdd a b c d long with
  | true =>
    have e : addR a b c d long = ((a + c) % 255, (b + d + long * a) % 255, true) := if_pos h
    rw [e]
    exact (implAdd_yes a b c d long W h (hS.tab ht hB)).mono fun e W' ⟨he, hb⟩ => ⟨he, by rw [hb]; exact hS⟩
  | false =>
    have e : addR a b c d long = (0, 0, false) := if_neg (by rw [h]; exact Bool.false_ne_true)
    rw [e]
    exact (implAdd_no a b c d long W h).mono fun e W' ⟨he, hb⟩ => ⟨he, by rw [hb]; exact hS⟩
theorem specAdd_u {B : Nat} {w0 : World} (a b c d long : Int) (W : World) (hS : Since B w0 W) :
    Calls Tryd.prog 15 #[.int .i64 a, .int .i64 b, .int .i64 c, .int .i64 d, .int .i64 long] W fun e W' => e = .returned (.tuple #[.int .i64 (addR a b c d long).1, .int .i64 (addR a b c d long).2.1, .bool (addR a b c d long).2.2]) ∧ Since B w0 W' := by
  cases h : goodAdd a b c d long with
  | true =>
    have e : addR a b c d long = ((a + c) % 255, (b + d + long * a) % 255, true) := if_pos h
    rw [e]
    exact (specAdd_yes a b c d long W h).mono fun e W' ⟨he, hb⟩ => ⟨he, hS.step hb⟩
  | false =>
    have e : addR a b c d long = (0, 0, false) := if_neg (by rw [h]; exact Bool.false_ne_true)
    rw [e]
    exact (specAdd_no a b c d long W h).mono fun e W' ⟨he, hb⟩ => ⟨he, hS.step hb⟩

/-- 'WeightAt'. -/
def weightR (s : ByteArray) (k : Int) : Int × Bool := if s.size ≤ 200 ∧ 0 ≤ k ∧ k < (s.size : Int) then ((s.size : Int) - k, true) else (0, false)
theorem weight_walks (s : ByteArray) (k : Int) (w : World) (hm : s.size ≤ maxLen) :
    (Calls Tryd.prog 10 #[.string s, .int .i64 k] w fun e w' => e = .returned (.tuple #[.int .i64 (weightR s k).1, .bool (weightR s k).2]) ∧ w' = w) ∧
    (Calls Tryd.prog 17 #[.string s, .int .i64 k] w fun e w' => e = .returned (.tuple #[.int .i64 (weightR s k).1, .bool (weightR s k).2]) ∧ w' = w) := by
  unfold maxLen at hm
  by_cases h2 : s.size ≤ 200
  · have hd : decide ((s.size : Int) ≤ 200) = true := by simp; omega
    by_cases h3 : k < 0
    · have e : weightR s k = (0, false) := if_neg (by omega)
      rw [e]
      have hd2 : decide (k < 0) = true := by simp; omega
      have hd3 : decide (0 ≤ k) = false := by simp; omega
      clear e
      refine ⟨?_, ?_⟩
      · go_enter Tryd.func10, Tryd.ntmps10
        go_wp2
        go_ret2
        exact ⟨rfl, rfl⟩
      · go_enter Tryd.func17, Tryd.ntmps17
        go_wp2
        go_ret2
        exact ⟨rfl, rfl⟩
    · have hd2 : decide (k < 0) = false := by simp; omega
      have hd3 : decide (0 ≤ k) = true := by simp; omega
      by_cases h4 : k < s.size
      · have e : weightR s k = ((s.size : Int) - k, true) := if_pos (by omega)
        rw [e]
        have hd4 : decide (k < (s.size : Int)) = true := by simp; omega
        have hd5 : decide ((s.size : Int) ≤ k) = false := by simp; omega
        clear e
        refine ⟨?_, ?_⟩
        · go_enter Tryd.func10, Tryd.ntmps10
          go_wp2
          go_ret2
          exact ⟨rfl, rfl⟩
        · go_enter Tryd.func17, Tryd.ntmps17
          go_wp2
          go_ret2
          exact ⟨rfl, rfl⟩
      · have e : weightR s k = (0, false) := if_neg (by omega)
        rw [e]
        have hd4 : decide (k < (s.size : Int)) = false := by simp; omega
        have hd5 : decide ((s.size : Int) ≤ k) = true := by simp; omega
        clear e
        refine ⟨?_, ?_⟩
        · go_enter Tryd.func10, Tryd.ntmps10
          go_wp2
          go_ret2
          exact ⟨rfl, rfl⟩
        · go_enter Tryd.func17, Tryd.ntmps17
          go_wp2
          go_ret2
          exact ⟨rfl, rfl⟩
  · have e : weightR s k = (0, false) := if_neg (by omega)
    rw [e]
    have hd : decide ((s.size : Int) ≤ 200) = false := by simp; omega
    clear e
    refine ⟨?_, ?_⟩
    · go_enter Tryd.func10, Tryd.ntmps10
      go_wp2
      go_ret2
      exact ⟨rfl, rfl⟩
    · go_enter Tryd.func17, Tryd.ntmps17
      go_wp2
      go_ret2
      exact ⟨rfl, rfl⟩
end Go.Proofs.YtfeiefgmeleeiaaDoor
