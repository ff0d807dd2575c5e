/-
  'l10Two', 'l10Joined' of the model.
-/
import Derived.Test.YthlbmkefjjckaahTrGoodB
import Derived.Test.YthlbmkefjjckaahPut2
namespace Go.Proofs.Ythlbmkefjjckaah
open Go.RowKit
set_option linter.unusedVariables false

def twoOk (ps : List Int) (a b : Int) : Bool := goodU ps && decide (0 ≤ a ∧ a < (ps.length : Int)) && decide (0 ≤ b ∧ b < (ps.length : Int))
theorem twoOk_true {ps : List Int} {a b : Int} (h : twoOk ps a b = true) : goodU ps = true ∧ (0 ≤ a ∧ a < (ps.length : Int)) ∧ (0 ≤ b ∧ b < (ps.length : Int)) := by
  unfold twoOk at h
  rw [Bool.and_eq_true, Bool.and_eq_true] at h
  exact ⟨h.1.1, of_decide_eq_true h.1.2, of_decide_eq_true h.2⟩

set_option maxRecDepth 100000 in
set_option maxHeartbeats 2000000 in
theorem l10Two_any (W : World) (B : Nat) (u : Value) (ps : List Int) (a b : Int) (hu : Own W B u ps) (hl : ps.length ≤ 1048576) :
    Calls Try.prog 10 #[u, .int .i64 a, .int .i64 b] W fun e W' => e = .returned (.bool (twoOk ps a b)) ∧ W' = W := by
  have CG : Hid (Calls Try.prog 14 #[u] W fun e W' => e = .returned (.bool (goodU ps)) ∧ W' = W) := specGoodParents_any W B u ps hu hl
  obtain ⟨au, cu, rfl⟩ := hu.shape
  have hwr : IntKind.i64.wrap ((ps.length : Int) - 1) = (ps.length : Int) - 1 := by rw [IntKind.wrap_i64]; omega
  have HD : Hid (twoOk ps a b = (goodU ps && decide (0 ≤ a ∧ a < (ps.length : Int)) && decide (0 ≤ b ∧ b < (ps.length : Int)))) := rfl
  generalize twoOk ps a b = ok at *
  generalize goodU ps = g at *
  clear hu
  cases g with
  | false =>
    have HF : Hid (false = ok) := HD.out.symm
    clear HD
    go_enter Try.func10, Try.ntmps10
    go_wp2_with fail
    refine CG.out.mono ?_
    rintro e ww ⟨rfl, hww⟩
    obtain rfl : W = ww := hww.symm
    go_wp2
    go_ret
    exact ⟨congrArg (fun q => Ending.returned (Value.bool q)) HF.out, rfl⟩
  | true =>
    cases ha : decide (0 ≤ a ∧ a < (ps.length : Int)) with
    | false =>
      have ha' : decide (0 ≤ a ∧ a ≤ (ps.length : Int) - 1) = false := by simp at ha ⊢; omega
      have HF : Hid (false = ok) := by rw [ha] at HD; exact HD.out.symm
      clear HD ha
      go_enter Try.func10, Try.ntmps10
      go_wp2_with fail
      refine CG.out.mono ?_
      rintro e ww ⟨rfl, hww⟩
      obtain rfl : W = ww := hww.symm
      go_wp2_with fail
      refine (l1In_any a 0 ((ps.length : Int) - 1) W).mono ?_
      rintro e ww ⟨rfl, hww⟩
      obtain rfl : W = ww := hww.symm
      rw [ha']
      go_wp2
      go_ret
      exact ⟨congrArg (fun q => Ending.returned (Value.bool q)) HF.out, rfl⟩
    | true =>
      have ha' : decide (0 ≤ a ∧ a ≤ (ps.length : Int) - 1) = true := by simp at ha ⊢; omega
      have hb' : decide (0 ≤ b ∧ b ≤ (ps.length : Int) - 1) = decide (0 ≤ b ∧ b < (ps.length : Int)) := by
        rw [Bool.eq_iff_iff, decide_eq_true_iff, decide_eq_true_iff]
        omega
      have HF : Hid (decide (0 ≤ b ∧ b < (ps.length : Int)) = ok) := by rw [ha] at HD; exact HD.out.symm
      generalize decide (0 ≤ b ∧ b < (ps.length : Int)) = bb at *
      clear HD ha
      have hf := HF.out
      clear HF
      subst hf
      go_enter Try.func10, Try.ntmps10
      go_wp2_with fail
      refine CG.out.mono ?_
      rintro e ww ⟨rfl, hww⟩
      obtain rfl : W = ww := hww.symm
      go_wp2_with fail
      refine (l1In_any a 0 ((ps.length : Int) - 1) W).mono ?_
      rintro e ww ⟨rfl, hww⟩
      obtain rfl : W = ww := hww.symm
      rw [ha']
      go_wp2_with fail
      refine (l1In_any b 0 ((ps.length : Int) - 1) W).mono ?_
      rintro e ww ⟨rfl, hww⟩
      obtain rfl : W = ww := hww.symm
      rw [hb']
      go_wp2
      go_ret
      exact ⟨rfl, rfl⟩

def joinT (p : List Int) (a : Int) (k : Nat) : List Int := (iota k).filter fun s => joinU p a s
theorem joinT_succ (p : List Int) (a : Int) (k : Nat) : joinT p a (k + 1) = joinT p a k ++ if joinU p a (k : Int) then [(k : Int)] else [] := by
  unfold joinT
  rw [iota_succ, List.filter_append]
  congr 1
  cases h : joinU p a (k : Int) <;> simp [h]
theorem joinT_len (p : List Int) (a : Int) (k : Nat) : (joinT p a k).length ≤ k := Nat.le_trans (List.length_filter_le _ _) (by rw [iota_len]; exact Nat.le_refl _)
theorem insL_endT : ∀ (n : Int) (zs : List Int), (∀ y ∈ zs, y < n) → insL n zs = zs ++ [n]
  | _, [], _ => rfl
  | n, z :: zs, h => by
    have h1 := h z (List.mem_cons_self ..)
    rw [insL, if_pos h1, insL_endT n zs fun y hy => h y (List.mem_cons_of_mem _ hy)]
    rfl
theorem joinT_lt (p : List Int) (a : Int) (k : Nat) : ∀ y ∈ joinT p a k, y < (k : Int) := fun y hy => ((mem_iota k y).1 (List.mem_filter.1 hy).1).2

end Go.Proofs.Ythlbmkefjjckaah
