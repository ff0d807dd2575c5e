/-
  What the law of chapter 9's distances asks.
-/
import Derived.Test.YteohmclohomblacDrawRx
import Derived.Test.YteohmclohomblacGrRelB
import Derived.Test.YteohmclohomblacGrCentre
import Derived.Test.YteohmclohomblacGrGrpS
namespace Go.Proofs.Yteohmclohomblac
open Go.RowKit
set_option linter.unusedVariables false

theorem relOut_le {n : Int} {l : List EdD} {far : List Int} : ∀ k : Nat, k < (relOut n l far).length → k < far.length ∧ lab (relOut n l far) k ≤ lab far k := by
  intro k hk
  unfold relOut at hk ⊢
  by_cases h : relOk n l far = true
  · rw [if_pos h] at hk ⊢
    rw [relD_len] at hk
    exact ⟨hk, by rw [lab_relD l far k (by omega) (by omega)]; exact ((le_relAt l far k _).1 (Int.le_refl _)).1⟩
  · rw [if_neg h] at hk
    cases hk
theorem fars_law {n : Int} {l : List EdD} {a : Int} (h : farsOk n l a = true) :
    (0 ≤ a ∧ a < n) ∧ ((farsOut n l a).length : Int) = n ∧ (relOk n l (farsOut n l a) = true ∧ relOut n l (farsOut n l a) = farsOut n l a) ∧ (goodEd n l = true ∧ ((grpOut n l).length : Int) = n) ∧ lab (farsOut n l a) a = 0 ∧
      (∀ k, 0 ≤ k → k < n → 0 ≤ lab (farsOut n l a) k ∧ lab (farsOut n l a) k ≤ 100000) ∧
      ∀ k, 0 ≤ k → k < n → farsOk n l k = true ∧ ((farsOut n l k).length : Int) = n ∧ lab (farsOut n l k) a = lab (farsOut n l a) k ∧ (lab (farsOut n l a) k = 100000 ↔ lab (grpOut n l) k ≠ lab (grpOut n l) a) ∧ (∀ j, 0 ≤ j → j < n → 0 ≤ lab (farsOut n l k) j ∧ lab (farsOut n l k) j ≤ 100000) ∧ ∀ j, 0 ≤ j → j < n → lab (farsOut n l a) j ≤ lab (farsOut n l a) k + lab (farsOut n l k) j := by
  obtain ⟨hg, hA⟩ := farsOk_true h
  obtain ⟨g1, g2, g3, g4⟩ := goodEd_true hg
  obtain ⟨N, rfl⟩ : ∃ N : Nat, n = (N : Int) := ⟨n.toNat, by omega⟩
  have hok : ∀ k : Int, 0 ≤ k → k < (N : Int) → farsOk (N : Int) l k = true := fun k h0 hk => by unfold farsOk; rw [hg, decide_eq_true ⟨h0, hk⟩]; rfl
  have hout : ∀ k : Int, 0 ≤ k → k < (N : Int) → farsOut (N : Int) l k = fars N l k := fun k h0 hk => by unfold farsOut; rw [if_pos (hok k h0 hk)]; rfl
  have hgo : grpOut (N : Int) l = grp (N : Int) l := by unfold grpOut; rw [hg]; rfl
  have hrange : ∀ k : Int, 0 ≤ k → k < (N : Int) → ∀ j : Int, 0 ≤ j → j < (N : Int) → 0 ≤ lab (fars N l k) j ∧ lab (fars N l k) j ≤ 100000 := fun k h0 hk j j0 hj => ⟨fars_nonneg g3 ⟨h0, hk⟩ j j0 hj, fars_far ⟨h0, hk⟩ j j0 hj⟩
  have hro : relOk (N : Int) l (fars N l a) = true := by
    unfold relOk
    rw [hg, fars_len, decide_eq_true rfl]
    show (true && true && inFar (fars N l a)) = true
    rw [Bool.true_and, Bool.true_and]
    refine List.all_eq_true.2 fun x hx => decide_eq_true ?_
    obtain ⟨j, hj, rfl⟩ := List.getElem_of_mem hx
    rw [fars_len] at hj
    have := hrange a hA.1 hA.2 (j : Int) (by omega) (by omega)
    rwa [lab_get _ j (by rw [fars_len]; exact hj)] at this
  rw [hout a hA.1 hA.2, hgo]
  refine ⟨hA, by rw [fars_len], ⟨hro, ?_⟩, ⟨hg, by rw [grp_len _ l g3]; omega⟩, fars_at g3 hA, hrange a hA.1 hA.2, fun k h0 hk => ?_⟩
  · unfold relOut
    rw [if_pos hro, fars_rests g3 hA]
  · rw [hout k h0 hk]
    exact ⟨hok k h0 hk, by rw [fars_len], fars_back g3 ⟨h0, hk⟩ hA, fars_groups g3 (by omega) hA (isGrp_grp _ l g3) k ⟨h0, hk⟩, hrange k h0 hk, fun j j0 hj => fars_round g3 hA ⟨h0, hk⟩ j j0 hj⟩

theorem drawCen_any (B : Nat) (w0 W : World) (a : Option Addr) (len cap : Nat) (hC : Code B w0 a len) (hl : len ≤ 9223372036854775807) (h : Since B w0 W) :
    Calls Try.prog 56 #[.slice a len cap] W (DrawnE B w0 W) := by
  have HC : Hid (Calls Try.prog 89 #[.slice a len cap] W (DrawnE B w0 W)) := drawGood_any B w0 W a len cap hC hl h
  clear hC h
  go_enter Try.func56, Try.ntmps56
  go_wp2_with fail
  refine HC.out.mono ?_
  rintro e W1 ⟨n, v, l, rfl, ho1, hl1, hn1, hs1⟩
  have HP : Hid (DrawnE B w0 W (.returned (.tuple #[.int .i64 (n : Int), v])) W1) := ⟨n, v, l, rfl, ho1, hl1, hn1, hs1⟩
  clear ho1 hs1
  go_wp2
  refine bodyPost_ret (results_tmp2 rfl _ _ _) rfl ?_
  exact HP.out
end Go.Proofs.Yteohmclohomblac
