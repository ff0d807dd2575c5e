/-
  'OnTree', 'ComesFrom' of the model.
-/
import Derived.Test.YthlbmkefjjckaahTrOnS
namespace Go.Proofs.Ythlbmkefjjckaah
open Go.RowKit
set_option linter.unusedVariables false

set_option maxRecDepth 100000 in
set_option maxHeartbeats 4000000 in
theorem specOnTree_any (W : World) (B : Nat) (u : Value) (ps : List Int) (a b : Int) (hu : Own W B u ps) (hl : ps.length ≤ 1048576) :
    Calls Try.prog 4 #[u, .int .i64 a, .int .i64 b] W (NearPost W (otOut ps a b) (otOk ps a b)) := by
  have CG : Hid (Calls Try.prog 10 #[u, .int .i64 a, .int .i64 b] W fun e W' => e = .returned (.bool (twoOk ps a b)) ∧ W' = W) := l10Two_any W B u ps a b hu hl
  have CS : Hid (twoOk ps a b = true → Calls Try.prog 11 #[u, .int .i64 a, .int .i64 b] W (NearPost W (onOut ps a b) (onTOk ps a b))) := fun h => l10On_any W B u ps a b hu (twoOk_true h).1 (twoOk_true h).2.1 (twoOk_true h).2.2
  have HD : Hid (otOk ps a b = (twoOk ps a b && onTOk ps a b) ∧ (otOut ps a b = if otOk ps a b then onOut ps a b else []) ∧ (onTOk ps a b = false → onOut ps a b = [])) := ⟨rfl, rfl, fun h => by
    unfold onTOk at h
    unfold onOut
    cases hm : meetU ps a b with
    | none => rfl
    | some i => rw [hm] at h; cases h⟩
  obtain ⟨au, cu, rfl⟩ := hu.shape
  generalize otOut ps a b = out at *
  generalize otOk ps a b = ok at *
  generalize twoOk ps a b = tk at *
  generalize onOut ps a b = oo at *
  generalize onTOk ps a b = ot at *
  clear hu
  cases tk with
  | false =>
    have HF : Hid (ok = false ∧ out = []) := by
      have h1 : ok = false := HD.out.1.trans (Bool.false_and _)
      exact ⟨h1, HD.out.2.1.trans (by rw [h1]; rfl)⟩
    clear HD CS
    go_enter Try.func4, Try.ntmps4
    go_wp2_with fail
    refine CG.out.mono ?_
    rintro e ww ⟨rfl, hww⟩
    obtain rfl : W = ww := hww.symm
    go_wp2
    refine bodyPost_ret (results_tmp2 rfl _ _ _) rfl ?_
    exact NearPost.zero HF.out.1 HF.out.2 (Below.refl _ _)
  | true =>
    have HF : Hid (ok = ot ∧ out = oo) := by
      have h1 : ok = ot := HD.out.1.trans (Bool.true_and _)
      refine ⟨h1, HD.out.2.1.trans ?_⟩
      rw [h1]
      cases ho : ot with
      | true => rfl
      | false => rw [HD.out.2.2 ho]; rfl
    have CS1 : Hid (Calls Try.prog 11 #[.slice au ps.length cu, .int .i64 a, .int .i64 b] W (NearPost W oo ot)) := CS.out rfl
    clear HD CS
    go_enter Try.func4, Try.ntmps4
    go_wp2_with fail
    refine CG.out.mono ?_
    rintro e ww ⟨rfl, hww⟩
    obtain rfl : W = ww := hww.symm
    go_wp2_with fail
    refine CS1.out.mono ?_
    rintro e w1 ⟨u1, rfl, ho1, hb1⟩
    have H1 : Hid (Own w1 W.heap.size u1 oo ∧ Below W.heap.size W w1) := ⟨ho1, hb1⟩
    obtain ⟨a9, c9, rfl⟩ := ho1.shape
    clear ho1 hb1
    go_wp2
    refine bodyPost_ret (results_tmp2 rfl _ _ _) rfl ?_
    exact ⟨_, by rw [HF.out.1]; rfl, by rw [HF.out.2]; exact H1.out.1, H1.out.2⟩

end Go.Proofs.Ythlbmkefjjckaah
