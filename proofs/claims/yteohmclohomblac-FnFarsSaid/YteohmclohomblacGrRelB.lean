/-
  'RelaxAll' of the model.
-/
import Derived.Test.YteohmclohomblacGrRelA
namespace Go.Proofs.Yteohmclohomblac
open Go.RowKit
set_option linter.unusedVariables false

set_option maxRecDepth 100000 in
set_option maxHeartbeats 4000000 in
theorem specRelaxAll_any (W : World) (B : Nat) (v u : Value) (n : Int) (l : List EdD) (far : List Int) (h : ReadsEd W v l) (hu : Own W B u far) (hl : l.length ≤ 2097152) (hfl : far.length ≤ 1048576) :
    Calls Try.prog 55 #[.int .i64 n, v, u] W (NearPost W (relOut n l far) (relOk n l far)) := by
  have CG : Hid (Calls Try.prog 91 #[.int .i64 n, v] W fun e W' => e = .returned (.bool (goodEd n l)) ∧ Below W.heap.size W W') := specGoodEd_any W v n l h hl
  have HRD : Hid (∀ w', Since W.heap.size W w' → ReadsEd w' v l) := fun w' hs => h.below hs.1
  have HUD : Hid (∀ w', Since W.heap.size W w' → Own w' B u far) := fun w' hs => hu.below hs.1
  have HS0 : Hid (Since W.heap.size W W) := Since.start W
  obtain ⟨a1, c1, rfl⟩ := h.shape
  obtain ⟨af, cf, rfl⟩ := hu.shape
  have HD : Hid (relOk n l far = (goodEd n l && decide ((far.length : Int) = n) && inFar far) ∧ relOut n l far = if relOk n l far then relD l far else []) := ⟨rfl, rfl⟩
  have HT : Hid (relOk n l far = true → goodEd n l = true ∧ (far.length : Int) = n ∧ ∀ i : Int, 0 ≤ i → i < far.length → 0 ≤ lab far i ∧ lab far i ≤ farC) := relOk_true
  have CA : Hid (∀ w', Since W.heap.size W w' → Calls Try.prog 98 #[.slice af far.length cf, .int .i64 0, .int .i64 100000] w' fun e w2 => e = .returned (.bool (inFar far)) ∧ w2 = w') := fun w' hs => l1AllG_any w' B _ far (HUD.out w' hs) hfl
  generalize relOk n l far = ok at *
  generalize relOut n l far = out at *
  clear h hu
  cases hg : goodEd n l with
  | false =>
    have HF : Hid (ok = false ∧ out = []) := by
      have h1 : ok = false := HD.out.1.trans (by rw [hg]; rfl)
      exact ⟨h1, HD.out.2.trans (by rw [h1]; rfl)⟩
    rw [hg] at CG
    clear hg HD HT CA
    go_enter Try.func55, Try.ntmps55
    go_wp2_with fail
    refine CG.out.mono ?_
    rintro e w1 ⟨rfl, hb1⟩
    have HB1 : Hid (Below W.heap.size W w1) := hb1
    clear hb1
    go_wp2
    refine bodyPost_ret (results_tmp2 rfl _ _ _) rfl ?_
    exact NearPost.zero HF.out.1 HF.out.2 HB1.out
  | true =>
    have HGT : Hid ((1 ≤ n ∧ n ≤ 12) ∧ l.length ≤ 40 ∧ FitEd n l ∧ RiseEd l) := goodEd_true hg
    rw [hg] at CG
    by_cases hs : (far.length : Int) = n
    · subst hs
      have hn12 : far.length ≤ 12 := by have := HGT.out.1; omega
      cases hi : inFar far with
      | false =>
        have HF : Hid (ok = false ∧ out = []) := by
          have h1 : ok = false := HD.out.1.trans (by rw [hg, hi]; simp)
          exact ⟨h1, HD.out.2.trans (by rw [h1]; rfl)⟩
        rw [hi] at CA
        clear hg HD HT HGT hi
        go_enter Try.func55, Try.ntmps55
        go_wp2_with fail
        refine CG.out.mono ?_
        rintro e w1 ⟨rfl, hb1⟩
        have HS1 : Hid (Since W.heap.size W w1) := HS0.out.step hb1
        clear hb1
        go_wp2_with fail
        refine (CA.out _ HS1.out).mono ?_
        rintro e ww ⟨rfl, hww⟩
        obtain rfl : w1 = ww := hww.symm
        go_wp2
        refine bodyPost_ret (results_tmp2 rfl _ _ _) rfl ?_
        exact NearPost.zero HF.out.1 HF.out.2 HS1.out.1
      | true =>
        have HOK : Hid (ok = true ∧ out = relD l far) := by
          have h1 : ok = true := HD.out.1.trans (by rw [hg, hi]; simp)
          exact ⟨h1, HD.out.2.trans (by rw [h1]; rfl)⟩
        rw [hi] at CA
        have CN : Hid (∀ w', Since W.heap.size W w' → Calls Try.prog 110 #[.slice a1 l.length c1, .slice af far.length cf] w' fun e w2 => ∃ u, e = .returned u ∧ Own w2 w'.heap.size u (relD l far) ∧ Below w'.heap.size w' w2) := fun w' hs2 => by
          obtain ⟨g1, g2, g3, g4⟩ := HGT.out
          exact l9Relax_any w' _ _ l far B (HRD.out w' hs2) (HUD.out w' hs2) g3 (by omega) g2 (HT.out HOK.out.1).2.2
        clear hg HD HT HGT hi
        go_enter Try.func55, Try.ntmps55
        go_wp2_with fail
        refine CG.out.mono ?_
        rintro e w1 ⟨rfl, hb1⟩
        have HS1 : Hid (Since W.heap.size W w1) := HS0.out.step hb1
        clear hb1
        go_wp2_with fail
        refine (CA.out _ HS1.out).mono ?_
        rintro e ww ⟨rfl, hww⟩
        obtain rfl : w1 = ww := hww.symm
        go_wp2_with fail
        refine (CN.out _ HS1.out).mono ?_
        rintro e w2 ⟨u2, rfl, ho2, hb2⟩
        have HO2 : Hid (Own w2 W.heap.size u2 (relD l far)) := ho2.mono HS1.out.2
        have HS2 : Hid (Since W.heap.size W w2) := HS1.out.step hb2
        clear ho2 hb2
        go_wp2
        refine bodyPost_ret (results_tmp2 rfl _ _ _) rfl ?_
        exact NearPost.mk HOK.out.1 HOK.out.2 HO2.out HS2.out.1
    · have HF : Hid (ok = false ∧ out = []) := by
        have h1 : ok = false := HD.out.1.trans (by rw [hg, decide_eq_false hs]; rfl)
        exact ⟨h1, HD.out.2.trans (by rw [h1]; rfl)⟩
      clear hg HD HT CA
      have hs1 : ((far.length : Int) == n) = false := by simpa using hs
      go_enter Try.func55, Try.ntmps55
      go_wp2_with fail
      refine CG.out.mono ?_
      rintro e w1 ⟨rfl, hb1⟩
      have HB1 : Hid (Below W.heap.size W w1) := hb1
      clear hb1
      go_wp2
      refine bodyPost_ret (results_tmp2 rfl _ _ _) rfl ?_
      exact NearPost.zero HF.out.1 HF.out.2 HB1.out
end Go.Proofs.Yteohmclohomblac
