/-
  'areEnds' and 'l9Two'; 'FarsFrom' and 'RelaxAll' of the program and of the model.
-/
import Derived.Test.YthlbmkefjjckaafGrFarS
namespace Go.Proofs.Ythlbmkefjjckaaf
open Go.RowKit
set_option linter.unusedVariables false

def endsOk (n : Int) (l : List EdD) (a b : Int) : Bool := goodEd n l && decide (0 ≤ a ∧ a < n) && decide (0 ≤ b ∧ b < n)
theorem endsOk_true {n : Int} {l : List EdD} {a b : Int} (h : endsOk n l a b = true) : goodEd n l = true ∧ (0 ≤ a ∧ a < n) ∧ (0 ≤ b ∧ b < n) := by
  unfold endsOk at h
  rw [Bool.and_eq_true, Bool.and_eq_true] at h
  exact ⟨h.1.1, of_decide_eq_true h.1.2, of_decide_eq_true h.2⟩

set_option maxRecDepth 100000 in
set_option maxHeartbeats 2000000 in
theorem areEnds_any (W : World) (v : Value) (n : Int) (l : List EdD) (a b : Int) (h : ReadsEd W v l) (hl : l.length ≤ 2097152) :
    Calls Try.prog 17 #[.int .i64 n, v, .int .i64 a, .int .i64 b] W fun e W' => e = .returned (.bool (endsOk n l a b)) ∧ Below W.heap.size W W' := by
  have CG : Hid (Calls Try.prog 23 #[.int .i64 n, v] W fun e W' => e = .returned (.bool (goodEd n l)) ∧ Below W.heap.size W W') := implGoodEd_any W v n l h hl
  obtain ⟨a1, c1, rfl⟩ := h.shape
  have HD : Hid (endsOk n l a b = (goodEd n l && decide (0 ≤ a ∧ a < n) && decide (0 ≤ b ∧ b < n))) := rfl
  generalize endsOk n l a b = ok at *
  clear h
  cases hg : goodEd n l with
  | false =>
    have HF : Hid (ok = false) := HD.out.trans (by rw [hg]; rfl)
    rw [hg] at CG
    clear hg HD
    go_enter Try.func17, Try.ntmps17
    go_wp2_with fail
    refine CG.out.mono ?_
    rintro e w1 ⟨rfl, hb1⟩
    have HB1 : Hid (Below W.heap.size W w1) := hb1
    clear hb1
    go_wp2
    go_ret
    exact ⟨congrArg (fun q => Ending.returned (Value.bool q)) HF.out.symm, HB1.out⟩
  | true =>
    have HGT : Hid ((1 ≤ n ∧ n ≤ 12) ∧ l.length ≤ 40 ∧ FitEd n l ∧ RiseEd l) := goodEd_true hg
    have hu : IntKind.i64.wrap (n - 1) = n - 1 := by have := HGT.out.1; rw [IntKind.wrap_i64]; omega
    rw [hg] at CG
    cases hs : decide (0 ≤ a ∧ a < n) with
    | false =>
      have hs' : decide (0 ≤ a ∧ a ≤ n - 1) = false := by simp at hs ⊢; omega
      have HF : Hid (ok = false) := HD.out.trans (by rw [hg, hs]; rfl)
      clear hg HD
      go_enter Try.func17, Try.ntmps17
      go_wp2_with fail
      refine CG.out.mono ?_
      rintro e w1 ⟨rfl, hb1⟩
      have HB1 : Hid (Below W.heap.size W w1) := hb1
      clear hb1
      go_wp2_with fail
      refine (isSpot_any _ a n).mono ?_
      rintro e ww ⟨rfl, hww⟩
      obtain rfl := hww
      rw [hs]
      go_wp2
      go_ret
      exact ⟨congrArg (fun q => Ending.returned (Value.bool q)) HF.out.symm, HB1.out⟩
    | true =>
      have hs' : decide (0 ≤ a ∧ a ≤ n - 1) = true := by simp at hs ⊢; omega
      have HF : Hid (ok = decide (0 ≤ b ∧ b < n)) := HD.out.trans (by rw [hg, hs]; rfl)
      have ht' : decide (0 ≤ b ∧ b ≤ n - 1) = decide (0 ≤ b ∧ b < n) := by rw [decide_eq_decide]; omega
      clear hg HD
      go_enter Try.func17, Try.ntmps17
      go_wp2_with fail
      refine CG.out.mono ?_
      rintro e w1 ⟨rfl, hb1⟩
      have HB1 : Hid (Below W.heap.size W w1) := hb1
      clear hb1
      go_wp2_with fail
      refine (isSpot_any _ a n).mono ?_
      rintro e ww ⟨rfl, hww⟩
      obtain rfl := hww
      rw [hs]
      go_wp2_with fail
      refine (isSpot_any _ b n).mono ?_
      rintro e ww ⟨rfl, hww⟩
      obtain rfl := hww
      generalize decide (0 ≤ b ∧ b < n) = okb at *
      go_wp2
      go_ret
      exact ⟨congrArg (fun q => Ending.returned (Value.bool q)) HF.out.symm, HB1.out⟩

def farsOk (n : Int) (l : List EdD) (a : Int) : Bool := goodEd n l && decide (0 ≤ a ∧ a < n)
def farsOut (n : Int) (l : List EdD) (a : Int) : List Int := if farsOk n l a then fars n.toNat l a else []
theorem farsOk_true {n : Int} {l : List EdD} {a : Int} (h : farsOk n l a = true) : goodEd n l = true ∧ 0 ≤ a ∧ a < n := by
  unfold farsOk at h
  rw [Bool.and_eq_true] at h
  exact ⟨h.1, of_decide_eq_true h.2⟩
theorem farsOut_len (n : Int) (l : List EdD) (a : Int) : (farsOut n l a).length ≤ 4194304 := by
  unfold farsOut
  split
  · next h =>
    have := (goodEd_true (farsOk_true h).1).1
    rw [fars_len]
    omega
  · simp
theorem ends_fars (n : Int) (l : List EdD) (a : Int) : endsOk n l a a = farsOk n l a := by
  unfold endsOk farsOk
  cases goodEd n l <;> cases decide (0 ≤ a ∧ a < n) <;> rfl

end Go.Proofs.Ythlbmkefjjckaaf
