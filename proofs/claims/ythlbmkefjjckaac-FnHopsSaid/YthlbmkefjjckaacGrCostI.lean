/-
  'CostOf' of the program.
-/
import Derived.Test.YthlbmkefjjckaacGrSteps
import Derived.Test.YthlbmkefjjckaacGrCostO
namespace Go.Proofs.Ythlbmkefjjckaac
open Go.RowKit
set_option linter.unusedVariables false

def stepC (l : List EdD) (ws : List Int) (j : Nat) : Int := costB l (ws.getD j 0) (ws.getD (j + 1) 0)
def sumC (l : List EdD) (ws : List Int) : Nat → Int
  | 0 => 0
  | k + 1 => sumC l ws k + stepC l ws k
def okC (l : List EdD) (ws : List Int) : Nat → Bool
  | 0 => true
  | k + 1 => okC l ws k && decide (stepC l ws k ≠ 0)
def pathOk (n : Int) (l : List EdD) (ws : List Int) : Bool := goodEd n l && decide (1 ≤ ws.length ∧ ws.length ≤ 12) && decide (0 ≤ ws.getD 0 0 ∧ ws.getD 0 0 < n) && okC l ws (ws.length - 1)
def pathCost (n : Int) (l : List EdD) (ws : List Int) : Int := if pathOk n l ws then sumC l ws (ws.length - 1) else 0
theorem okC_no (l : List EdD) (ws : List Int) (k : Nat) (h : stepC l ws k = 0) : ∀ m, k < m → okC l ws m = false
  | 0, hm => by omega
  | m + 1, hm => by
    rw [okC]
    by_cases e : k = m
    · rw [← e, decide_eq_false (not_not_intro h), Bool.and_false]
    · rw [okC_no l ws k h m (by omega), Bool.false_and]
theorem sumC_low {n : Int} {l : List EdD} (hf : FitEd n l) (ws : List Int) : ∀ k : Nat, 0 ≤ sumC l ws k ∧ sumC l ws k ≤ 100 * k
  | 0 => by simp [sumC]
  | k + 1 => by
    have h1 := sumC_low hf ws k
    have h2 := costB_low hf (ws.getD k 0) (ws.getD (k + 1) 0)
    rw [sumC]
    unfold stepC
    omega
theorem getD_atC (zs : List Int) (j : Nat) (h : j < zs.length) : zs.getD j 0 = zs[j] := by simp [List.getD_eq_getElem?_getD, h]
theorem sumX_pairs (l : List EdD) (ws : List Int) : ∀ k, sumX l (pairsT ws k) = sumC l ws k
  | 0 => rfl
  | k + 1 => by rw [pairsT_succ, sumX_snoc, sumX_pairs l ws k]; rfl
theorem okX_pairs (l : List EdD) (ws : List Int) : ∀ k, okX l (pairsT ws k) = okC l ws k
  | 0 => rfl
  | k + 1 => by rw [pairsT_succ, okX_snoc, okX_pairs l ws k]; rfl

set_option maxRecDepth 100000 in
set_option maxHeartbeats 8000000 in
theorem implCostOf_any (W : World) (B : Nat) (v u : Value) (n : Int) (l : List EdD) (ws : List Int) (h : ReadsEd W v l) (hu : Own W B u ws) (hl : l.length ≤ 2097152) (hwl : ws.length ≤ 1048576) :
    Calls Try.prog 62 #[.int .i64 n, v, u] W (CostPost W (pathCost n l ws) (pathOk n l ws)) := by
  have CG : Hid (Calls Try.prog 36 #[.int .i64 n, v] W fun e w2 => e = .returned (.bool (goodEd n l)) ∧ Below W.heap.size W w2) := implGoodEd_any W v n l h hl
  have HRD : Hid (∀ w', Since W.heap.size W w' → ReadsEd w' v l) := fun w' hs => h.below hs.1
  have HUD : Hid (∀ w', Since W.heap.size W w' → Own w' B u ws) := fun w' hs => hu.below hs.1
  have HS0 : Hid (Since W.heap.size W W) := Since.start W
  obtain ⟨a1, c1, rfl⟩ := h.shape
  obtain ⟨aw, cw, rfl⟩ := hu.shape
  have HD : Hid (pathOk n l ws = (goodEd n l && decide (1 ≤ ws.length ∧ ws.length ≤ 12) && decide (0 ≤ ws.getD 0 0 ∧ ws.getD 0 0 < n) && okC l ws (ws.length - 1)) ∧ pathCost n l ws = if pathOk n l ws then sumC l ws (ws.length - 1) else 0) := ⟨rfl, rfl⟩
  generalize pathOk n l ws = ok at *
  generalize pathCost n l ws = out at *
  clear h hu
  cases hg : goodEd n l with
  | false =>
    have HF : Hid (ok = false ∧ out = 0) := by
      have h1 : ok = false := HD.out.1.trans (by rw [hg]; rfl)
      exact ⟨h1, HD.out.2.trans (by rw [h1]; rfl)⟩
    rw [hg] at CG
    clear hg HD HUD HRD
    go_enter Try.func62, Try.ntmps62
    go_wp2_with fail
    refine CG.out.mono ?_
    rintro e w1 ⟨rfl, hb1⟩
    have HS1 : Hid (Since W.heap.size W w1) := HS0.out.step hb1
    clear hb1
    go_wp2
    refine bodyPost_ret (results_tmp2 rfl _ _ _) rfl ?_
    exact ⟨by rw [HF.out.1, HF.out.2]; rfl, HS1.out.1⟩
  | true =>
    have HGT : Hid ((1 ≤ n ∧ n ≤ 12) ∧ l.length ≤ 40 ∧ FitEd n l ∧ RiseEd l) := goodEd_true hg
    rw [hg] at CG
    by_cases hl1 : ws.length < 1
    · have HF : Hid (ok = false ∧ out = 0) := by
        have h1 : ok = false := HD.out.1.trans (by rw [hg, decide_eq_false (by omega)]; rfl)
        exact ⟨h1, HD.out.2.trans (by rw [h1]; rfl)⟩
      have q1 : decide ((ws.length : Int) < 1) = true := by simp; omega
      clear hg HD HUD HRD HGT hl1
      go_enter Try.func62, Try.ntmps62
      go_wp2_with fail
      refine CG.out.mono ?_
      rintro e w1 ⟨rfl, hb1⟩
      have HS1 : Hid (Since W.heap.size W w1) := HS0.out.step hb1
      clear hb1
      go_wp2
      refine bodyPost_ret (results_tmp2 rfl _ _ _) rfl ?_
      exact ⟨by rw [HF.out.1, HF.out.2]; rfl, HS1.out.1⟩
    have q1 : decide ((ws.length : Int) < 1) = false := by simp; omega
    by_cases hl2 : 12 < ws.length
    · have HF : Hid (ok = false ∧ out = 0) := by
        have h1 : ok = false := HD.out.1.trans (by rw [hg, decide_eq_false (by omega)]; rfl)
        exact ⟨h1, HD.out.2.trans (by rw [h1]; rfl)⟩
      have q2 : decide (12 < (ws.length : Int)) = true := by simp; omega
      clear hg HD HUD HRD HGT hl1 hl2
      go_enter Try.func62, Try.ntmps62
      go_wp2_with fail
      refine CG.out.mono ?_
      rintro e w1 ⟨rfl, hb1⟩
      have HS1 : Hid (Since W.heap.size W w1) := HS0.out.step hb1
      clear hb1
      go_wp2
      refine bodyPost_ret (results_tmp2 rfl _ _ _) rfl ?_
      exact ⟨by rw [HF.out.1, HF.out.2]; rfl, HS1.out.1⟩
    have q2 : decide (12 < (ws.length : Int)) = false := by simp; omega
    have hw1 : 1 ≤ ws.length := by omega
    have hw2 : ws.length ≤ 12 := by omega
    have hpos : 0 < (ws.length : Int) := by omega
    obtain ⟨wg, rfl, HWC⟩ : ∃ wg, aw = some ⟨wg, 0, none⟩ ∧ Hid (∀ w, Since W.heap.size W w → w.cell? ⟨wg, 0, none⟩ = some (.int .i64 (ws.getD 0 0))) := by
      rcases (HUD.out W (Since.start W)).2 with ⟨hv, h0⟩ | ⟨g, cap, cur, hv, -⟩
      · omega
      · cases hv
        refine ⟨g, rfl, fun w hs => ?_⟩
        have := own_cellG (HUD.out w hs) rfl 0 (by omega)
        rw [getD_atC ws 0 (by omega)]
        exact this
    cases hsp : decide (0 ≤ ws.getD 0 0 ∧ ws.getD 0 0 < n) with
    | false =>
      have HF : Hid (ok = false ∧ out = 0) := by
        have h1 : ok = false := HD.out.1.trans (by rw [hg, hsp]; simp)
        exact ⟨h1, HD.out.2.trans (by rw [h1]; rfl)⟩
      clear hg HD HUD HRD HGT hl1 hl2
      generalize ws.getD 0 0 = x0 at *
      go_enter Try.func62, Try.ntmps62
      go_wp2_with fail
      refine CG.out.mono ?_
      rintro e w1 ⟨rfl, hb1⟩
      have HS1 : Hid (Since W.heap.size W w1) := HS0.out.step hb1
      clear hb1
      have hcx := HWC.out w1 HS1.out
      go_wp2_with fail
      refine (isSpot_any w1 x0 n).mono ?_
      rintro e ww ⟨rfl, hww⟩
      obtain rfl : w1 = ww := hww.symm
      rw [hsp]
      go_wp2
      refine bodyPost_ret (results_tmp2 rfl _ _ _) rfl ?_
      exact ⟨by rw [HF.out.1, HF.out.2]; rfl, HS1.out.1⟩
    | true =>
      have HOUT : Hid (ok = okX l (pairsT ws (ws.length - 1)) ∧ out = if okX l (pairsT ws (ws.length - 1)) then sumX l (pairsT ws (ws.length - 1)) else 0) := by
        rw [okX_pairs, sumX_pairs]
        have e : ok = okC l ws (ws.length - 1) := HD.out.1.trans (by rw [hg, hsp, decide_eq_true ⟨hw1, hw2⟩]; rfl)
        exact ⟨e, HD.out.2.trans (by rw [e])⟩
      have CO : Hid (∀ (w1 : World), Since W.heap.size W w1 → Calls Try.prog 117 #[.slice a1 l.length c1, .func (.func 138) #[] #[.pointer (some ⟨w1.heap.size, 0, none⟩)]] (w1.alloc (.cells #[.slice (some ⟨wg, 0, none⟩) ws.length cw] 35)) (CostPost (w1.alloc (.cells #[.slice (some ⟨wg, 0, none⟩) ws.length cw] 35)) out ok)) := fun w1 hs => by
        have hb : Since W.heap.size W (w1.alloc (.cells #[.slice (some ⟨wg, 0, none⟩) ws.length cw] 35)) := hs.step ((Below.refl _ w1).alloc (Nat.le_refl _) _)
        rw [HOUT.out.1, HOUT.out.2]
        exact costOver_any _ _ n l _ _ (fun b => b < W.heap.size ∨ b = w1.heap.size) _ (HRD.out _ hb) HGT.out.2.2.1 hl (enters_of Try.func138 (by kernel_rfl) rfl)
          (stepsIt_any _ w1.heap.size ws W _ B wg cw hw1 (by omega) (.inr rfl) (Boxed.new w1 _ _).cell (HUD.out W (Since.start W)) hb.1 (fun b hb => .inl hb)) (fun b hb => by have := hs.2; rcases hb with hb | hb <;> simp <;> omega) (by rw [pairsT_len]; omega)
      clear hg HD HRD HGT hl1 hl2 HUD HOUT
      generalize ws.getD 0 0 = x0 at *
      go_enter Try.func62, Try.ntmps62
      go_wp2_with fail
      refine CG.out.mono ?_
      rintro e w1 ⟨rfl, hb1⟩
      have HS1 : Hid (Since W.heap.size W w1) := HS0.out.step hb1
      clear hb1
      have hcx := HWC.out w1 HS1.out
      go_wp2_with fail
      refine (isSpot_any w1 x0 n).mono ?_
      rintro e ww ⟨rfl, hww⟩
      obtain rfl : w1 = ww := hww.symm
      rw [hsp]
      clear hcx
      go_wp2_with fail
      refine (stepsOf_any w1 (.slice (some ⟨wg, 0, none⟩) ws.length cw) ⟨_, _, _, rfl⟩).mono ?_
      rintro e w2 ⟨rfl, hw2⟩
      rw [hw2]
      clear hw2
      go_wp2_with fail
      refine (CO.out w1 HS1.out).mono ?_
      rintro e w3 ⟨rfl, hb3⟩
      have HS3 : Hid (Since W.heap.size W w3) := (HS1.out.step ((Below.refl _ w1).alloc (Nat.le_refl _) _)).step hb3
      clear hb3
      go_wp2
      refine bodyPost_ret (results_tmp2 rfl _ _ _) rfl ?_
      exact ⟨rfl, HS3.out.1⟩
end Go.Proofs.Ythlbmkefjjckaac
