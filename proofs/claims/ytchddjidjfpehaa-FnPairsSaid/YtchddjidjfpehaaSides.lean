/-
  A pair's sides, as the program holds them: 'silentSide', 'isState', 'isSide', 'isGood', 'afterTick'.
-/
import Derived.Test.YtchddjidjfpehaaJb
import Derived.Test.YtchddjidjfpehaaPairMath
namespace Go.Proofs.Ytchddjidjfpehaa
open Go.RowKit

/-- A side's value. -/
def sideV (s l : Int) : Value := .agg #[.int .i64 s, .int .i64 l]

theorem silentSide_any (W : World) : Calls Try.prog 84 #[] W fun e W' => e = .returned (.agg #[.int .i64 0, .int .i64 0]) ∧ Below W.heap.size W W' := by
  go_enter Try.func84, Try.ntmps84
  go_wp2
  refine bodyPost_ret (v := .agg #[.int .i64 0, .int .i64 0]) (by simp [results, Try.results84, go_sem]) rfl ⟨rfl, ?_⟩
  exact (Below.refl _ W).alloc (Nat.le_refl _) _

def stateB (s : Int) : Bool := decide (0 ≤ s ∧ s ≤ 2)
theorem isState_any (s : Int) (W : World) : Calls Try.prog 65 #[.int .i64 s] W fun e W' => e = .returned (.bool (stateB s)) ∧ W' = W := by
  have HE : Hid ((s == 0 || s == 1 || s == 2) = stateB s) := by
    show _ = _
    unfold stateB
    rw [Bool.eq_iff_iff]
    simp
    omega
  go_enter Try.func65, Try.ntmps65
  go_wp2
  all_goals
    go_ret
    first | exact ⟨ret_bool HE.out, rfl⟩ | (subst_vars; exact ⟨rfl, rfl⟩)

theorem bcells {W w1 : World} (hb : Below W.heap.size W w1) : (∀ b o, b < W.heap.size → w1.cell? ⟨b, o, none⟩ = W.cell? ⟨b, o, none⟩) ∧ (∀ b o, b < W.heap.size → w1.frozen? ⟨b, o, none⟩ = W.frozen? ⟨b, o, none⟩) :=
  ⟨fun b o h => hb.cell (p := ⟨b, o, none⟩) h, fun b o h => hb.frozen (p := ⟨b, o, none⟩) h⟩

theorem isSide_any (s : Int) (W : World) : Calls Try.prog 60 #[.int .i64 s] W fun e W' => e = .returned (.bool (sideB s)) ∧ W' = W := by
  by_cases h0 : 0 ≤ s
  · have d0 : decide (0 ≤ s) = true := decide_eq_true h0
    have HE : Hid (decide (s < 2) = sideB s) := by
      show _ = _
      unfold sideB
      by_cases h2 : s < 2
      · rw [decide_eq_true h2, decide_eq_true (by omega)]
      · rw [decide_eq_false h2, decide_eq_false (by omega)]
    go_enter Try.func60, Try.ntmps60
    go_wp2
    go_ret
    exact ⟨ret_bool HE.out, rfl⟩
  · have d0 : decide (0 ≤ s) = false := decide_eq_false h0
    have HE : Hid (false = sideB s) := by
      show _ = _
      unfold sideB
      rw [decide_eq_false (by omega)]
    go_enter Try.func60, Try.ntmps60
    go_wp2
    go_ret
    exact ⟨ret_bool HE.out, rfl⟩

set_option maxHeartbeats 1000000 in
theorem isGood_any (s l : Int) (W : World) : Calls Try.prog 59 #[.agg #[.int .i64 s, .int .i64 l]] W fun e W' => e = .returned (.bool (goodS s l)) ∧ Below W.heap.size W W' := by
  have HB : Hid (Since W.heap.size W (W.alloc (.cells #[.int .i64 s, .int .i64 l] 98))) := (Since.start W).step ((Below.refl _ W).alloc (Nat.le_refl _) _)
  by_cases h0 : s = 0 ∧ l = 0
  · obtain ⟨rfl, rfl⟩ := h0
    go_enter Try.func59, Try.ntmps59
    go_wp2
    go_region_with (go_at_call 84; refine (silentSide_any _).mono ?_; rintro e w1 ⟨rfl, hb⟩; obtain ⟨hc, -⟩ := bcells hb)
    all_goals
      go_wp2
      go_ret
      exact ⟨rfl, (HB.out.drew.step hb).1⟩
  · by_cases hs : s = 0
    · subst hs
      have hl : ¬ l = 0 := fun e => h0 ⟨rfl, e⟩
      have HE : Hid (false = goodS 0 l) := by show _ = _; unfold goodS; rw [decide_eq_false (by omega)]
      clear h0
      go_enter Try.func59, Try.ntmps59
      go_wp2
      go_region_with (go_at_call 84; refine (silentSide_any _).mono ?_; rintro e w1 ⟨rfl, hb⟩; obtain ⟨hc, -⟩ := bcells hb)
      all_goals
        have HS : Hid (Since W.heap.size W w1) := HB.out.drew.step hb
        clear hb
        go_wp2_with fail
        refine (isState_any _ _).mono ?_
        rintro e w2 ⟨rfl, rfl⟩
        go_wp2
        go_ret
        exact ⟨ret_bool HE.out, HS.out.1⟩
    · clear h0
      go_enter Try.func59, Try.ntmps59
      go_wp2
      go_region_with (go_at_call 84; refine (silentSide_any _).mono ?_; rintro e w1 ⟨rfl, hb⟩; obtain ⟨hc, -⟩ := bcells hb)
      all_goals
        have HS : Hid (Since W.heap.size W w1) := HB.out.drew.step hb
        clear hb
        go_wp2_with fail
        refine (isState_any _ _).mono ?_
        rintro e w2 ⟨rfl, rfl⟩
        go_wp2
        all_goals
          go_ret
          refine ⟨ret_bool ?_, HS.out.1⟩
          clear HS hc HB
          unfold stateB at *
          unfold goodS
          rw [Bool.eq_iff_iff]
          simp at *
          omega

end Go.Proofs.Ytchddjidjfpehaa
