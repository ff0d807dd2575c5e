/-
  'OnTree', 'ComesFrom' of the model.
-/
import Derived.Test.YthlbmkefjjckaagTrOnS
namespace Go.Proofs.Ythlbmkefjjckaag
open Go.RowKit
set_option linter.unusedVariables false

set_option maxRecDepth 100000 in
set_option maxHeartbeats 4000000 in
theorem specComesFrom_any (W : World) (B : Nat) (u : Value) (ps : List Int) (a b : Int) (hu : Own W B u ps) (hl : ps.length ≤ 1048576) :
    Calls Try.prog 19 #[u, .int .i64 a, .int .i64 b] W (CfPost W (cfOut ps a b) (cfOk ps a b)) := by
  have CG : Hid (Calls Try.prog 39 #[u, .int .i64 a, .int .i64 b] W fun e W' => e = .returned (.bool (twoOk ps a b)) ∧ W' = W) := l10Two_any W B u ps a b hu hl
  have CS : Hid (twoOk ps a b = true → Calls Try.prog 44 #[u, .int .i64 a, .int .i64 b] W (NearPost W (onOut ps a b) (onTOk ps a b))) := fun h => l10On_any W B u ps a b hu (twoOk_true h).1 (twoOk_true h).2.1 (twoOk_true h).2.2
  have HD : Hid (cfOk ps a b = ((twoOk ps a b && onTOk ps a b) && !decide (a = b)) ∧ (cfOut ps a b = if cfOk ps a b then (onOut ps a b).getD ((onOut ps a b).length - 2) 0 else 0) ∧ (twoOk ps a b = true → onTOk ps a b = true → (a ≠ b → 2 ≤ (onOut ps a b).length) ∧ (onOut ps a b).length ≤ 24)) := ⟨rfl, rfl, fun h h' => ⟨onOut_two (by rw [otOk, h, h']; rfl), by
    have h1 := (twoOk_true h).1
    have := ((goodU_iff ps).1 h1).1
    have := onOut_len ps a b
    omega⟩⟩
  obtain ⟨au, cu, rfl⟩ := hu.shape
  generalize cfOut ps a b = out at *
  generalize cfOk ps a b = ok at *
  generalize twoOk ps a b = tk at *
  generalize onOut ps a b = ws at *
  generalize onTOk ps a b = ot at *
  clear hu
  cases tk with
  | false =>
    have HF : Hid (ok = false ∧ out = 0) := by
      have h1 : ok = false := HD.out.1.trans (by rw [Bool.false_and, Bool.false_and])
      exact ⟨h1, HD.out.2.1.trans (by rw [h1]; rfl)⟩
    clear HD CS
    go_enter Try.func19, Try.ntmps19
    go_wp2_with fail
    refine CG.out.mono ?_
    rintro e ww ⟨rfl, hww⟩
    obtain rfl : W = ww := hww.symm
    go_wp2
    refine bodyPost_ret (results_tmp2 rfl _ _ _) rfl ?_
    exact ⟨by rw [HF.out.1, HF.out.2]; rfl, Below.refl _ _⟩
  | true =>
    have CS1 : Hid (Calls Try.prog 44 #[.slice au ps.length cu, .int .i64 a, .int .i64 b] W (NearPost W ws ot)) := CS.out rfl
    by_cases hab : a = b
    · have HF : Hid (ok = false ∧ out = 0) := by
        have h1 : ok = false := HD.out.1.trans (by rw [decide_eq_true hab]; simp)
        exact ⟨h1, HD.out.2.1.trans (by rw [h1]; rfl)⟩
      have hbb : (a == b) = true := by simpa using hab
      clear HD CS CS1 hab
      go_enter Try.func19, Try.ntmps19
      go_wp2_with fail
      refine CG.out.mono ?_
      rintro e ww ⟨rfl, hww⟩
      obtain rfl : W = ww := hww.symm
      go_wp2
      refine bodyPost_ret (results_tmp2 rfl _ _ _) rfl ?_
      exact ⟨by rw [HF.out.1, HF.out.2]; rfl, Below.refl _ _⟩
    · have hbb : (a == b) = false := by simpa using hab
      cases hot : ot with
      | false =>
        have HF : Hid (ok = false ∧ out = 0) := by
          have h1 : ok = false := HD.out.1.trans (by rw [hot]; rfl)
          exact ⟨h1, HD.out.2.1.trans (by rw [h1]; rfl)⟩
        rw [hot] at CS1
        clear HD CS hab hot
        go_enter Try.func19, Try.ntmps19
        go_wp2_with fail
        refine CG.out.mono ?_
        rintro e ww ⟨rfl, hww⟩
        obtain rfl : W = ww := hww.symm
        go_wp2_with fail
        refine CS1.out.mono ?_
        rintro e w1 ⟨u1, rfl, ho1, hb1⟩
        have H1 : Hid (Below W.heap.size W w1) := hb1
        obtain ⟨a9, c9, rfl⟩ := ho1.shape
        clear ho1 hb1
        go_wp2
        refine bodyPost_ret (results_tmp2 rfl _ _ _) rfl ?_
        exact ⟨by rw [HF.out.1, HF.out.2]; rfl, H1.out⟩
      | true =>
        obtain ⟨h2, h3⟩ := HD.out.2.2 rfl hot
        have HF : Hid (ok = true ∧ out = ws.getD (ws.length - 2) 0) := by
          have h1 : ok = true := HD.out.1.trans (by rw [hot, decide_eq_false hab]; rfl)
          exact ⟨h1, HD.out.2.1.trans (by rw [h1]; rfl)⟩
        have h4 := h2 hab
        rw [hot] at CS1
        clear HD CS hab hot h2
        obtain ⟨m, hm⟩ : ∃ m, ws.length = m + 2 := ⟨ws.length - 2, by omega⟩
        have hgm : ws.getD (ws.length - 2) 0 = ws[m]'(by omega) := by
          have e : ws.length - 2 = m := by omega
          rw [e, List.getD_eq_getElem?_getD, List.getElem?_eq_getElem (by omega)]; rfl
        rw [hgm] at HF
        have hwr : IntKind.i64.wrap ((m : Int) + 2 - 2) = (m : Int) := by rw [IntKind.wrap_i64]; omega
        have hwr2 : IntKind.i64.wrap (m : Int) = (m : Int) := by rw [IntKind.wrap_i64]; omega
        have hmlt : (m : Int) < (m : Int) + 2 := by omega
        go_enter Try.func19, Try.ntmps19
        go_wp2_with fail
        refine CG.out.mono ?_
        rintro e ww ⟨rfl, hww⟩
        obtain rfl : W = ww := hww.symm
        go_wp2_with fail
        refine CS1.out.mono ?_
        rintro e w1 ⟨u1, rfl, ho1, hb1⟩
        have H1 : Hid (Below W.heap.size W w1) := hb1
        obtain ⟨g2, c2, rfl, -⟩ := own_at ho1 (by omega)
        have hc := own_cellG ho1 rfl m (by omega)
        rw [hm]
        clear ho1 hb1 hgm
        generalize ws[m]'(by omega) = z at *
        go_wp2
        refine bodyPost_ret (results_tmp2 rfl _ _ _) rfl ?_
        exact ⟨by rw [HF.out.1, HF.out.2]; rfl, H1.out⟩
end Go.Proofs.Ythlbmkefjjckaag
