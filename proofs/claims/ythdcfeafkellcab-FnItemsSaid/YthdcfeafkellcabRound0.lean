/-
  Numbers that go round: 'isSeq', 'stepsBetween', 'isAhead', and the model's; 'NextSeq', 'IsNewer', 'StepsTo' of both.
-/
import Derived.Test.YthdcfeafkellcabNums
namespace Go.Proofs.Ythdcfeafkellcab
open Go.RowKit
set_option linter.unusedVariables false

theorem ret_int {a b : Int} (h : a = b) : Ending.returned (.int .i64 a) = .returned (.int .i64 b) := by rw [h]

/-- A number of the round. -/
def seqB (n : Int) : Bool := decide (0 ≤ n ∧ n ≤ 63)
/-- How many steps lead from one to another one. -/
def stepsZ (a b : Int) : Int := (b - a) % 64
/-- Whether the first one is newer. -/
def newerB (a b : Int) : Bool := decide (1 ≤ stepsZ b a ∧ stepsZ b a ≤ 31)
theorem seqB_iff {n : Int} : seqB n = true ↔ 0 ≤ n ∧ n ≤ 63 := by simp [seqB]
theorem seqB_mod (n : Int) : seqB (n % 64) = true := by rw [seqB_iff]; omega

theorem isSeq_any (W : World) (n : Int) : Calls Try.prog 75 #[.int .i64 n] W fun e W' => e = .returned (.bool (seqB n)) ∧ W' = W := by
  by_cases h1 : 0 ≤ n
  · have d1 : decide (0 ≤ n) = true := by simp; omega
    have HE : Hid (decide (n < 64) = seqB n) := by show _ = _; unfold seqB; rw [Bool.eq_iff_iff]; simp; omega
    go_enter Try.func75, Try.ntmps75
    go_wp2
    go_ret
    exact ⟨ret_bool HE.out, rfl⟩
  · have d1 : decide (0 ≤ n) = false := by simp; omega
    have HE : Hid (false = seqB n) := by show _ = _; unfold seqB; rw [Bool.eq_iff_iff]; simp; omega
    go_enter Try.func75, Try.ntmps75
    go_wp2
    go_ret
    exact ⟨ret_bool HE.out, rfl⟩

theorem l5Seq_any (W : World) (n : Int) : Calls Try.prog 77 #[.int .i64 n] W fun e W' => e = .returned (.bool (seqB n)) ∧ W' = W := by
  have HE : Hid (decide (0 ≤ n ∧ n ≤ 63) = seqB n) := rfl
  go_enter Try.func77, Try.ntmps77
  go_wp2_with fail
  refine (l1In_any _ _ _ _).mono ?_
  rintro e w1 ⟨rfl, rfl⟩
  rw [HE.out]
  go_wp2
  go_ret
  exact ⟨rfl, rfl⟩

theorem stepsBetween_any (W : World) (a b : Int) (ha : seqB a = true) (hb : seqB b = true) : Calls Try.prog 79 #[.int .i64 a, .int .i64 b] W fun e W' => e = .returned (.int .i64 (stepsZ a b)) ∧ W' = W := by
  have HE : Hid ((b - a) % 64 = stepsZ a b) := rfl
  have a1 := (seqB_iff.1 ha).1
  have a2 := (seqB_iff.1 ha).2
  have b1 := (seqB_iff.1 hb).1
  have b2 := (seqB_iff.1 hb).2
  have htm : (b - a + 64).tmod 64 = (b - a + 64) % 64 := Int.tmod_eq_emod_of_nonneg (by omega)
  clear ha hb
  go_enter Try.func79, Try.ntmps79
  go_wp2
  go_ret
  exact ⟨ret_int HE.out, rfl⟩

theorem l5Steps_any (W : World) (a b : Int) (ha : seqB a = true) (hb : seqB b = true) : Calls Try.prog 80 #[.int .i64 a, .int .i64 b] W fun e W' => e = .returned (.int .i64 (stepsZ a b)) ∧ W' = W := by
  have HE : Hid ((b - a) % 64 = stepsZ a b) := rfl
  have a1 := (seqB_iff.1 ha).1
  have a2 := (seqB_iff.1 ha).2
  have b1 := (seqB_iff.1 hb).1
  have b2 := (seqB_iff.1 hb).2
  have htm : (b - a + 64).tmod 64 = (b - a + 64) % 64 := Int.tmod_eq_emod_of_nonneg (by omega)
  clear ha hb
  go_enter Try.func80, Try.ntmps80
  go_wp2
  go_ret
  exact ⟨ret_int HE.out, rfl⟩

theorem isAhead_any (W : World) (a b : Int) (ha : seqB a = true) (hb : seqB b = true) : Calls Try.prog 76 #[.int .i64 a, .int .i64 b] W fun e W' => e = .returned (.bool (newerB a b)) ∧ W' = W := by
  obtain ⟨s, hs⟩ : ∃ s, s = stepsZ b a := ⟨_, rfl⟩
  have CC : Hid (Calls Try.prog 79 #[.int .i64 b, .int .i64 a] W fun e W' => e = .returned (.int .i64 s) ∧ W' = W) := by rw [hs]; exact stepsBetween_any W b a hb ha
  have HN : Hid (newerB a b = decide (1 ≤ s ∧ s ≤ 31)) := by show _ = _; rw [hs]; rfl
  clear hs ha hb
  by_cases h1 : 1 ≤ s
  · have d1 : decide (1 ≤ s) = true := by simp; omega
    have HE : Hid (decide (s < 32) = newerB a b) := by show _ = _; rw [HN.out, Bool.eq_iff_iff]; simp; omega
    go_enter Try.func76, Try.ntmps76
    go_wp2_with fail
    refine CC.out.mono ?_
    rintro e w1 ⟨rfl, rfl⟩
    go_wp2
    go_ret
    exact ⟨ret_bool HE.out, rfl⟩
  · have d1 : decide (1 ≤ s) = false := by simp; omega
    have HE : Hid (false = newerB a b) := by show _ = _; rw [HN.out, Bool.eq_iff_iff]; simp; omega
    go_enter Try.func76, Try.ntmps76
    go_wp2_with fail
    refine CC.out.mono ?_
    rintro e w1 ⟨rfl, rfl⟩
    go_wp2
    go_ret
    exact ⟨ret_bool HE.out, rfl⟩

theorem l5Newer_any (W : World) (a b : Int) (ha : seqB a = true) (hb : seqB b = true) : Calls Try.prog 78 #[.int .i64 a, .int .i64 b] W fun e W' => e = .returned (.bool (newerB a b)) ∧ W' = W := by
  obtain ⟨s, hs⟩ : ∃ s, s = stepsZ b a := ⟨_, rfl⟩
  have CC : Hid (Calls Try.prog 80 #[.int .i64 b, .int .i64 a] W fun e W' => e = .returned (.int .i64 s) ∧ W' = W) := by rw [hs]; exact l5Steps_any W b a hb ha
  have HN : Hid (decide (1 ≤ s ∧ s ≤ 31) = newerB a b) := by show _ = _; rw [hs]; rfl
  clear hs ha hb
  go_enter Try.func78, Try.ntmps78
  go_wp2_with fail
  refine CC.out.mono ?_
  rintro e w1 ⟨rfl, rfl⟩
  go_wp2_with fail
  refine (l1In_any _ _ _ _).mono ?_
  rintro e w2 ⟨rfl, rfl⟩
  rw [HN.out]
  go_wp2
  go_ret
  exact ⟨rfl, rfl⟩

/-- The answers of 'NextSeq', 'IsNewer', 'StepsTo'. -/
def nextZ (n : Int) : Int := if seqB n then (n + 1) % 64 else 0
def bothB (a b : Int) : Bool := seqB a && seqB b
def isNewZ (a b : Int) : Bool := bothB a b && newerB a b
def stepsToZ (a b : Int) : Int := if bothB a b then stepsZ a b else 0

theorem implNextSeq_any (W : World) (n : Int) : Calls Try.prog 34 #[.int .i64 n] W fun e W' => e = .returned (.tuple #[.int .i64 (nextZ n), .bool (seqB n)]) ∧ W' = W := by
  unfold nextZ
  cases hs : seqB n with
  | false =>
    have HS : Hid (seqB n = false) := hs
    clear hs
    go_enter Try.func34, Try.ntmps34
    go_wp2_with fail
    refine (isSeq_any _ _).mono ?_
    rintro e w1 ⟨rfl, rfl⟩
    rw [HS.out]
    go_wp2
    go_ret2
    exact ⟨rfl, rfl⟩
  | true =>
    have HS : Hid (seqB n = true) := hs
    have n1 := (seqB_iff.1 hs).1
    have n2 := (seqB_iff.1 hs).2
    have htm : (n + 1).tmod 64 = (n + 1) % 64 := Int.tmod_eq_emod_of_nonneg (by omega)
    clear hs
    go_enter Try.func34, Try.ntmps34
    go_wp2_with fail
    refine (isSeq_any _ _).mono ?_
    rintro e w1 ⟨rfl, rfl⟩
    rw [HS.out]
    go_wp2
    go_ret2
    exact ⟨rfl, rfl⟩

theorem specNextSeq_any (W : World) (n : Int) : Calls Try.prog 35 #[.int .i64 n] W fun e W' => e = .returned (.tuple #[.int .i64 (nextZ n), .bool (seqB n)]) ∧ W' = W := by
  unfold nextZ
  cases hs : seqB n with
  | false =>
    have HS : Hid (seqB n = false) := hs
    clear hs
    go_enter Try.func35, Try.ntmps35
    go_wp2_with fail
    refine (l5Seq_any _ _).mono ?_
    rintro e w1 ⟨rfl, rfl⟩
    rw [HS.out]
    go_wp2
    go_ret2
    exact ⟨rfl, rfl⟩
  | true =>
    have HS : Hid (seqB n = true) := hs
    have n1 := (seqB_iff.1 hs).1
    have n2 := (seqB_iff.1 hs).2
    have htm : (n + 1).tmod 64 = (n + 1) % 64 := Int.tmod_eq_emod_of_nonneg (by omega)
    clear hs
    go_enter Try.func35, Try.ntmps35
    go_wp2_with fail
    refine (l5Seq_any _ _).mono ?_
    rintro e w1 ⟨rfl, rfl⟩
    rw [HS.out]
    go_wp2
    go_ret2
    exact ⟨rfl, rfl⟩

theorem implIsNewer_any (W : World) (a b : Int) : Calls Try.prog 30 #[.int .i64 a, .int .i64 b] W fun e W' => e = .returned (.tuple #[.bool (isNewZ a b), .bool (bothB a b)]) ∧ W' = W := by
  unfold isNewZ bothB
  cases ha : seqB a with
  | false =>
    have HA : Hid (seqB a = false) := ha
    clear ha
    go_enter Try.func30, Try.ntmps30
    go_wp2_with fail
    refine (isSeq_any _ _).mono ?_
    rintro e w1 ⟨rfl, rfl⟩
    rw [HA.out]
    go_wp2
    go_ret2
    exact ⟨rfl, rfl⟩
  | true =>
    have HA : Hid (seqB a = true) := ha
    clear ha
    cases hb : seqB b with
    | false =>
      have HB : Hid (seqB b = false) := hb
      clear hb
      go_enter Try.func30, Try.ntmps30
      go_wp2_with fail
      refine (isSeq_any _ _).mono ?_
      rintro e w1 ⟨rfl, rfl⟩
      rw [HA.out]
      go_wp2_with fail
      refine (isSeq_any _ _).mono ?_
      rintro e w2 ⟨rfl, rfl⟩
      rw [HB.out]
      go_wp2
      go_ret2
      exact ⟨rfl, rfl⟩
    | true =>
      have HB : Hid (seqB b = true) := hb
      clear hb
      go_enter Try.func30, Try.ntmps30
      go_wp2_with fail
      refine (isSeq_any _ _).mono ?_
      rintro e w1 ⟨rfl, rfl⟩
      rw [HA.out]
      go_wp2_with fail
      refine (isSeq_any _ _).mono ?_
      rintro e w2 ⟨rfl, rfl⟩
      rw [HB.out]
      go_wp2_with fail
      refine (isAhead_any _ _ _ HA.out HB.out).mono ?_
      rintro e w3 ⟨rfl, rfl⟩
      go_wp2
      go_ret2
      exact ⟨rfl, rfl⟩

theorem implStepsTo_any (W : World) (a b : Int) : Calls Try.prog 32 #[.int .i64 a, .int .i64 b] W fun e W' => e = .returned (.tuple #[.int .i64 (stepsToZ a b), .bool (bothB a b)]) ∧ W' = W := by
  unfold stepsToZ bothB
  cases ha : seqB a with
  | false =>
    have HA : Hid (seqB a = false) := ha
    clear ha
    go_enter Try.func32, Try.ntmps32
    go_wp2_with fail
    refine (isSeq_any _ _).mono ?_
    rintro e w1 ⟨rfl, rfl⟩
    rw [HA.out]
    go_wp2
    go_ret2
    exact ⟨rfl, rfl⟩
  | true =>
    have HA : Hid (seqB a = true) := ha
    clear ha
    cases hb : seqB b with
    | false =>
      have HB : Hid (seqB b = false) := hb
      clear hb
      go_enter Try.func32, Try.ntmps32
      go_wp2_with fail
      refine (isSeq_any _ _).mono ?_
      rintro e w1 ⟨rfl, rfl⟩
      rw [HA.out]
      go_wp2_with fail
      refine (isSeq_any _ _).mono ?_
      rintro e w2 ⟨rfl, rfl⟩
      rw [HB.out]
      go_wp2
      go_ret2
      exact ⟨rfl, rfl⟩
    | true =>
      have HB : Hid (seqB b = true) := hb
      clear hb
      go_enter Try.func32, Try.ntmps32
      go_wp2_with fail
      refine (isSeq_any _ _).mono ?_
      rintro e w1 ⟨rfl, rfl⟩
      rw [HA.out]
      go_wp2_with fail
      refine (isSeq_any _ _).mono ?_
      rintro e w2 ⟨rfl, rfl⟩
      rw [HB.out]
      go_wp2_with fail
      refine (stepsBetween_any _ _ _ HA.out HB.out).mono ?_
      rintro e w3 ⟨rfl, rfl⟩
      go_wp2
      go_ret2
      exact ⟨rfl, rfl⟩

theorem specIsNewer_any (W : World) (a b : Int) : Calls Try.prog 31 #[.int .i64 a, .int .i64 b] W fun e W' => e = .returned (.tuple #[.bool (isNewZ a b), .bool (bothB a b)]) ∧ W' = W := by
  unfold isNewZ bothB
  cases ha : seqB a with
  | false =>
    have HA : Hid (seqB a = false) := ha
    clear ha
    go_enter Try.func31, Try.ntmps31
    go_wp2_with fail
    refine (l5Seq_any _ _).mono ?_
    rintro e w1 ⟨rfl, rfl⟩
    rw [HA.out]
    go_wp2
    go_ret2
    exact ⟨rfl, rfl⟩
  | true =>
    have HA : Hid (seqB a = true) := ha
    clear ha
    cases hb : seqB b with
    | false =>
      have HB : Hid (seqB b = false) := hb
      clear hb
      go_enter Try.func31, Try.ntmps31
      go_wp2_with fail
      refine (l5Seq_any _ _).mono ?_
      rintro e w1 ⟨rfl, rfl⟩
      rw [HA.out]
      go_wp2_with fail
      refine (l5Seq_any _ _).mono ?_
      rintro e w2 ⟨rfl, rfl⟩
      rw [HB.out]
      go_wp2
      go_ret2
      exact ⟨rfl, rfl⟩
    | true =>
      have HB : Hid (seqB b = true) := hb
      clear hb
      go_enter Try.func31, Try.ntmps31
      go_wp2_with fail
      refine (l5Seq_any _ _).mono ?_
      rintro e w1 ⟨rfl, rfl⟩
      rw [HA.out]
      go_wp2_with fail
      refine (l5Seq_any _ _).mono ?_
      rintro e w2 ⟨rfl, rfl⟩
      rw [HB.out]
      go_wp2_with fail
      refine (l5Newer_any _ _ _ HA.out HB.out).mono ?_
      rintro e w3 ⟨rfl, rfl⟩
      go_wp2
      go_ret2
      exact ⟨rfl, rfl⟩

theorem specStepsTo_any (W : World) (a b : Int) : Calls Try.prog 33 #[.int .i64 a, .int .i64 b] W fun e W' => e = .returned (.tuple #[.int .i64 (stepsToZ a b), .bool (bothB a b)]) ∧ W' = W := by
  unfold stepsToZ bothB
  cases ha : seqB a with
  | false =>
    have HA : Hid (seqB a = false) := ha
    clear ha
    go_enter Try.func33, Try.ntmps33
    go_wp2_with fail
    refine (l5Seq_any _ _).mono ?_
    rintro e w1 ⟨rfl, rfl⟩
    rw [HA.out]
    go_wp2
    go_ret2
    exact ⟨rfl, rfl⟩
  | true =>
    have HA : Hid (seqB a = true) := ha
    clear ha
    cases hb : seqB b with
    | false =>
      have HB : Hid (seqB b = false) := hb
      clear hb
      go_enter Try.func33, Try.ntmps33
      go_wp2_with fail
      refine (l5Seq_any _ _).mono ?_
      rintro e w1 ⟨rfl, rfl⟩
      rw [HA.out]
      go_wp2_with fail
      refine (l5Seq_any _ _).mono ?_
      rintro e w2 ⟨rfl, rfl⟩
      rw [HB.out]
      go_wp2
      go_ret2
      exact ⟨rfl, rfl⟩
    | true =>
      have HB : Hid (seqB b = true) := hb
      clear hb
      go_enter Try.func33, Try.ntmps33
      go_wp2_with fail
      refine (l5Seq_any _ _).mono ?_
      rintro e w1 ⟨rfl, rfl⟩
      rw [HA.out]
      go_wp2_with fail
      refine (l5Seq_any _ _).mono ?_
      rintro e w2 ⟨rfl, rfl⟩
      rw [HB.out]
      go_wp2_with fail
      refine (l5Steps_any _ _ _ HA.out HB.out).mono ?_
      rintro e w3 ⟨rfl, rfl⟩
      go_wp2
      go_ret2
      exact ⟨rfl, rfl⟩

end Go.Proofs.Ythdcfeafkellcab
