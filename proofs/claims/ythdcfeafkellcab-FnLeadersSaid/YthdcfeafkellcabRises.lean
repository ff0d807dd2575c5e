/-
  Rising lists: 'isRising' of the program, 'l1Rising' of the model.
-/
import Derived.Test.YthdcfeafkellcabNums
namespace Go.Proofs.Ythdcfeafkellcab
open Go.RowKit
set_option linter.unusedVariables false

def risesB (zs : List Int) : Bool := (List.range zs.length).all fun j => decide (j + 1 < zs.length → zs.getD j 0 < zs.getD (j + 1) 0)
theorem getD_at (zs : List Int) (j : Nat) (h : j < zs.length) : zs.getD j 0 = zs[j] := by simp [List.getD_eq_getElem?_getD, h]
theorem risesB_no (zs : List Int) (k : Nat) (h : k + 1 < zs.length) (hz : zs[k + 1] ≤ zs[k]) : risesB zs = false := by
  rw [Bool.eq_false_iff]
  intro e
  have h2 := of_decide_eq_true (List.all_eq_true.1 e k (List.mem_range.2 (by omega))) h
  rw [getD_at zs k (by omega), getD_at zs (k + 1) h] at h2
  omega
theorem risesB_yes (zs : List Int) (h : ∀ j (hj : j + 1 < zs.length), zs[j] < zs[j + 1]) : risesB zs = true :=
  List.all_eq_true.2 fun j hj => decide_eq_true fun h1 => by
    rw [getD_at zs j (by omega), getD_at zs (j + 1) h1]
    exact h j h1

set_option maxRecDepth 100000 in
set_option maxHeartbeats 1000000 in
theorem isRising_any (W : World) (v : Value) (zs : List Int) (h : Reads W v zs) (hl : zs.length ≤ 4194304) :
    Calls Try.prog 96 #[v] W fun e W' => e = .returned (.bool (risesB zs)) ∧ Below W.heap.size W W' := by
  obtain ⟨a1, cap1, rfl, hc1⟩ := h
  rcases hc1 with rfl | ⟨g1, o1, rfl, -, hc1⟩
  · simp only [List.length_nil]
    go_enter Try.func96, Try.ntmps96
    go_wp2
    refine wp_loop_rounds 1 ?_
    rw [rounds_succ]
    go_wp2
    go_ret
    exact ⟨rfl, Below.refl _ _⟩
  · have HC1 : Hid (∀ j (hj : j < zs.length), W.cell? ⟨g1, o1 + j, none⟩ = some (.int .i64 zs[j])) := hc1
    clear hc1
    go_enter Try.func96, Try.ntmps96
    go_wp2
    go_loopw [3] (fun i wr => ∃ k : Nat, k ≤ zs.length + 1 ∧ i = .int .i64 ((k : Int) + 1) ∧ Hid (∀ j (hj : j + 1 < zs.length), j < k → zs[j] < zs[j + 1]) ∧ ∃ n, wr = W.drewN n) (fun i _ => zs.length + 2 - (intOf i).toNat)
    case atStart => exact ⟨0, Nat.zero_le _, rfl, fun j hj h => absurd h (Nat.not_lt_zero _), 0, rfl⟩
    case round =>
      obtain ⟨k, hk, rfl, HA, n, rfl⟩ := hrel
      by_cases hlt : k + 1 < zs.length
      · have c1 := HC1.out k (by omega)
        have c2 := HC1.out (k + 1) hlt
        have q1 : (k : Int) + 1 - 1 = (k : Int) := by omega
        have q2 : (k : Int) + 1 < (zs.length : Int) := by omega
        have q3 : (k : Int) < (zs.length : Int) := by omega
        have q4 : (0 : Int) ≤ (k : Int) + 1 := by omega
        have q5 : IntKind.i64.wrap ((k : Int) + 1 - 1) = (k : Int) := by rw [IntKind.wrap_i64]; omega
        by_cases h1 : zs[k + 1] ≤ zs[k]
        · have HF : Hid (risesB zs = false) := risesB_no zs k hlt h1
          generalize zs[k] = x at *
          generalize zs[k + 1] = y at *
          have d1 : decide (y ≤ x) = true := by simp; omega
          go_wp2
          go_quiet (fail)
          go_wp2
          go_ret
          exact ⟨ret_bool HF.out.symm, below_drewN (below_drewN (Below.refl _ W) _) _⟩
        · have HA1 : Hid (∀ j (hj : j + 1 < zs.length), j < k + 1 → zs[j] < zs[j + 1]) := fun j hj h => by
            by_cases e : j = k
            · subst e; omega
            · exact HA.out j hj (by omega)
          generalize zs[k] = x at *
          generalize zs[k + 1] = y at *
          have d1 : decide (y ≤ x) = false := by simp; omega
          go_wp2
          go_quiet (fail)
          go_wp2
          go_roundw
          case rel => exact ⟨k + 1, by omega, by go_num, HA1, _, rfl⟩
          case measure => simp [intOf]; omega
      · have HF : Hid (risesB zs = true) := risesB_yes zs fun j hj => HA.out j hj (by omega)
        have q2 : ¬ (k : Int) + 1 < (zs.length : Int) := by omega
        go_wp2
        go_ret
        exact ⟨ret_bool HF.out.symm, below_drewN (Below.refl _ W) _⟩

set_option maxRecDepth 100000 in
set_option maxHeartbeats 1000000 in
theorem l1Rising_any (W : World) (v : Value) (zs : List Int) (lo hi : Int) (h : Reads W v zs) (hl : zs.length ≤ 4194304) :
    Calls Try.prog 58 #[v, .int .i64 lo, .int .i64 hi] W fun e W' => e = .returned (.bool (allB zs lo hi && risesB zs)) ∧ W' = W := by
  obtain ⟨a1, cap1, rfl, hc1⟩ := h
  rcases hc1 with rfl | ⟨g1, o1, rfl, -, hc1⟩
  · simp only [List.length_nil]
    go_enter Try.func58, Try.ntmps58
    go_wp2
    refine wp_loop_rounds 1 ?_
    rw [rounds_succ]
    go_wp2
    go_ret
    exact ⟨rfl, rfl⟩
  · have HC1 : Hid (∀ j (hj : j < zs.length), W.cell? ⟨g1, o1 + j, none⟩ = some (.int .i64 zs[j])) := hc1
    clear hc1
    go_enter Try.func58, Try.ntmps58
    go_wp2
    go_loop [11] (fun i => ∃ k : Nat, k ≤ zs.length ∧ i = .int .i64 k ∧ Hid (∀ j (hj : j < zs.length), j < k → lo ≤ zs[j] ∧ zs[j] ≤ hi) ∧ Hid (∀ j (hj : j + 1 < zs.length), j + 1 < k → zs[j] < zs[j + 1])) (fun i => zs.length - (intOf i).toNat)
    case atStart => exact ⟨0, Nat.zero_le _, rfl, fun j hj h => absurd h (Nat.not_lt_zero _), fun j hj h => absurd h (Nat.not_lt_zero _)⟩
    case round =>
      obtain ⟨k, hk, rfl, HA, HB⟩ := hrel
      by_cases hlt : k < zs.length
      · have c1 := HC1.out k hlt
        have hlt' : (k : Int) < (zs.length : Int) := by omega
        by_cases hin : lo ≤ zs[k] ∧ zs[k] ≤ hi
        · have HA1 : Hid (∀ j (hj : j < zs.length), j < k + 1 → lo ≤ zs[j] ∧ zs[j] ≤ hi) := fun j hj h => by
            by_cases e : j = k
            · subst e; exact hin
            · exact HA.out j hj (by omega)
          have d := decide_eq_true hin
          rcases k with _ | m
          · have HB1 : Hid (∀ j (hj : j + 1 < zs.length), j + 1 < 0 + 1 → zs[j] < zs[j + 1]) := fun j hj h => absurd h (by omega)
            rw [Nat.add_zero] at c1
            generalize zs[0] = z at *
            go_wp2_with fail
            refine (l1In_any z lo hi _).mono ?_
            rintro e w' ⟨rfl, rfl⟩
            rw [d]
            go_wp2
            go_round
            case rel => exact ⟨1, by omega, by go_num, HA1, HB1⟩
            case measure => simp [intOf]; omega
          · have c2 := HC1.out m (by omega)
            have q1 : ((m + 1 : Nat) : Int) = (m : Int) + 1 := by omega
            rw [q1] at hlt'
            rw [q1]
            have q2 : (m : Int) < (zs.length : Int) := by omega
            have q3 : decide (0 < (m : Int) + 1) = true := decide_eq_true (by omega)
            by_cases h1 : zs[m + 1] ≤ zs[m]
            · have HF : Hid ((allB zs lo hi && risesB zs) = false) := by show _ = _; rw [risesB_no zs m hlt h1, Bool.and_false]
              generalize zs[m] = x at *
              generalize zs[m + 1] = y at *
              have d1 : decide (y ≤ x) = true := by simp; omega
              go_wp2_with fail
              refine (l1In_any y lo hi _).mono ?_
              rintro e w' ⟨rfl, rfl⟩
              rw [d]
              go_wp2
              go_ret
              exact ⟨ret_bool HF.out.symm, rfl⟩
            · have HB1 : Hid (∀ j (hj : j + 1 < zs.length), j + 1 < m + 1 + 1 → zs[j] < zs[j + 1]) := fun j hj h => by
                by_cases e : j = m
                · subst e; omega
                · exact HB.out j hj (by omega)
              generalize zs[m] = x at *
              generalize zs[m + 1] = y at *
              have d1 : decide (y ≤ x) = false := by simp; omega
              go_wp2_with fail
              refine (l1In_any y lo hi _).mono ?_
              rintro e w' ⟨rfl, rfl⟩
              rw [d]
              go_wp2
              go_round
              case rel => exact ⟨m + 1 + 1, by omega, by go_num, HA1, HB1⟩
              case measure => simp [intOf]; omega
        · have HF : Hid ((allB zs lo hi && risesB zs) = false) := by show _ = _; rw [allB_no zs lo hi k hlt (by omega), Bool.false_and]
          have d := decide_eq_false hin
          generalize zs[k] = z at *
          go_wp2_with fail
          refine (l1In_any z lo hi _).mono ?_
          rintro e w' ⟨rfl, rfl⟩
          rw [d]
          go_wp2
          go_ret
          exact ⟨ret_bool HF.out.symm, rfl⟩
      · have HF : Hid ((allB zs lo hi && risesB zs) = true) := by
          show _ = _
          rw [allB_yes zs lo hi fun j hj => HA.out j hj (by omega), risesB_yes zs fun j hj => HB.out j hj (by omega)]; rfl
        go_wp2
        go_ret
        exact ⟨ret_bool HF.out.symm, rfl⟩
end Go.Proofs.Ythdcfeafkellcab
