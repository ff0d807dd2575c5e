/-
  'slices.Equal' of the program's library, 'l1Same', 'l1Least' of the model.
-/
import Derived.Test.YtkkamigaolejiaxFlLinksB
namespace Go.Proofs.Ytkkamigaolejiax
open Go.RowKit
set_option linter.unusedVariables false

theorem eqL_no (a b : List Int) (k : Nat) (ha : k < a.length) (hb : k < b.length) (h : a[k] ≠ b[k]) : decide (a = b) = false := decide_eq_false fun e => by subst e; exact h rfl
theorem eqL_yes (a b : List Int) (hl : a.length = b.length) (h : ∀ j (ha : j < a.length) (hb : j < b.length), a[j] = b[j]) : decide (a = b) = true := decide_eq_true (List.ext_getElem hl h)

set_option maxRecDepth 100000 in
set_option maxHeartbeats 2000000 in
theorem sliceEq_any (W : World) (v1 v2 : Value) (a b : List Int) (h1 : Reads W v1 a) (h2 : Reads W v2 b) (hl : a.length = b.length) (hm : a.length ≤ 4194304) :
    Calls Try.prog 45 #[v1, v2] W fun e W' => e = .returned (.bool (decide (a = b))) ∧ ∃ n, W' = W.drewN n := by
  obtain ⟨a1, cap1, rfl, hc1⟩ := h1
  obtain ⟨a2, cap2, rfl, hc2⟩ := h2
  rw [← hl]
  have HE : Hid (∀ k (ha : k < a.length) (hb : k < b.length), a[k] ≠ b[k] → decide (a = b) = false) := eqL_no a b
  have HY : Hid ((∀ j (ha : j < a.length) (hb : j < b.length), a[j] = b[j]) → decide (a = b) = true) := eqL_yes a b hl
  generalize decide (a = b) = res at *
  have HL : Hid (a.length = b.length) := hl
  clear hl
  have d0 : ((a.length : Int) != (a.length : Int)) = false := by simp
  have HC1 : Hid (∀ j (hj : j < a.length), ∃ g o, a1 = some ⟨g, o, none⟩ ∧ W.cell? ⟨g, o + j, none⟩ = some (.int .i64 a[j])) := fun j hj => by
    obtain ⟨g, o, e, -, hc⟩ := hc1.resolve_left (fun e => by rw [e] at hj; exact absurd hj (Nat.not_lt_zero _))
    exact ⟨g, o, e, hc j hj⟩
  have HC2 : Hid (∀ j (hj : j < b.length), ∃ g o, a2 = some ⟨g, o, none⟩ ∧ W.cell? ⟨g, o + j, none⟩ = some (.int .i64 b[j])) := fun j hj => by
    obtain ⟨g, o, e, -, hc⟩ := hc2.resolve_left (fun e => by rw [e] at hj; exact absurd hj (Nat.not_lt_zero _))
    exact ⟨g, o, e, hc j hj⟩
  clear hc1 hc2
  go_enter Try.func45, Try.ntmps45
  go_wp2
  go_loopw [13] (fun i wr => ∃ k : Nat, k ≤ a.length ∧ i = .int .i64 k ∧ Hid (∀ j (ha : j < a.length) (hb : j < b.length), j < k → a[j] = b[j]) ∧ ∃ n, wr = W.drewN n) (fun i _ => a.length - (intOf i).toNat)
  case atStart => exact ⟨0, Nat.zero_le _, rfl, fun j _ _ h => absurd h (Nat.not_lt_zero _), 0, rfl⟩
  case round =>
    obtain ⟨k, hk, rfl, HA, n, rfl⟩ := hrel
    by_cases hlt : k < a.length
    · have hlb : k < b.length := by rw [← HL.out]; exact hlt
      obtain ⟨g1, o1, e1, c1⟩ := HC1.out k hlt
      obtain ⟨g2, o2, e2, c2⟩ := HC2.out k hlb
      have hlt' : (k : Int) < (a.length : Int) := by omega
      have HN : Hid (a[k] ≠ b[k] → res = false) := HE.out k hlt hlb
      have HA1 : Hid (a[k] = b[k] → ∀ j (ha : j < a.length) (hb : j < b.length), j < k + 1 → a[j] = b[j]) := fun he j ha hb h => by
        by_cases e : j = k
        · subst e; exact he
        · exact HA.out j ha hb (by omega)
      subst e1 e2
      generalize a[k] = x at *
      generalize b[k] = y at *
      by_cases hxy : x = y
      · have HA2 : Hid (∀ j (ha : j < a.length) (hb : j < b.length), j < k + 1 → a[j] = b[j]) := HA1.out hxy
        have d1 : (x != y) = false := by rw [hxy]; simp
        clear hxy HN HA1
        go_wp2
        go_quiet (fail)
        go_wp2
        go_roundw
        case rel => exact ⟨k + 1, by omega, by go_num, HA2, _, rfl⟩
        case measure => simp [intOf]; omega
      · have HF : Hid (res = false) := HN.out hxy
        have d1 : (x != y) = true := bne_iff_ne.2 hxy
        clear hxy HN HA1
        go_wp2
        go_quiet (fail)
        go_wp2
        go_ret
        exact ⟨ret_bool HF.out.symm, _, World.drewN_drewN _ _ _⟩
    · have hlt' : ¬ (k : Int) < (a.length : Int) := by omega
      have HF : Hid (res = true) := HY.out fun j ha hb => HA.out j ha hb (by omega)
      go_wp2
      go_ret
      exact ⟨ret_bool HF.out.symm, _, rfl⟩

set_option maxRecDepth 100000 in
set_option maxHeartbeats 2000000 in
theorem l1Same_any (W : World) (v1 v2 : Value) (a b : List Int) (h1 : Reads W v1 a) (h2 : Reads W v2 b) (hl : a.length = b.length) (hm : a.length ≤ 4194304) :
    Calls Try.prog 44 #[v1, v2] W fun e W' => e = .returned (.bool (decide (a = b))) ∧ ∃ n, W' = W.drewN n := by
  obtain ⟨a1, cap1, rfl, hc1⟩ := h1
  obtain ⟨a2, cap2, rfl, hc2⟩ := h2
  rw [← hl]
  have HE : Hid (∀ k (ha : k < a.length) (hb : k < b.length), a[k] ≠ b[k] → decide (a = b) = false) := eqL_no a b
  have HY : Hid ((∀ j (ha : j < a.length) (hb : j < b.length), a[j] = b[j]) → decide (a = b) = true) := eqL_yes a b hl
  generalize decide (a = b) = res at *
  have HL : Hid (a.length = b.length) := hl
  clear hl
  have d0 : ((a.length : Int) != (a.length : Int)) = false := by simp
  have HC1 : Hid (∀ j (hj : j < a.length), ∃ g o, a1 = some ⟨g, o, none⟩ ∧ W.cell? ⟨g, o + j, none⟩ = some (.int .i64 a[j])) := fun j hj => by
    obtain ⟨g, o, e, -, hc⟩ := hc1.resolve_left (fun e => by rw [e] at hj; exact absurd hj (Nat.not_lt_zero _))
    exact ⟨g, o, e, hc j hj⟩
  have HC2 : Hid (∀ j (hj : j < b.length), ∃ g o, a2 = some ⟨g, o, none⟩ ∧ W.cell? ⟨g, o + j, none⟩ = some (.int .i64 b[j])) := fun j hj => by
    obtain ⟨g, o, e, -, hc⟩ := hc2.resolve_left (fun e => by rw [e] at hj; exact absurd hj (Nat.not_lt_zero _))
    exact ⟨g, o, e, hc j hj⟩
  clear hc1 hc2
  go_enter Try.func44, Try.ntmps44
  go_wp2
  go_loopw [13] (fun i wr => ∃ k : Nat, k ≤ a.length ∧ i = .int .i64 k ∧ Hid (∀ j (ha : j < a.length) (hb : j < b.length), j < k → a[j] = b[j]) ∧ ∃ n, wr = W.drewN n) (fun i _ => a.length - (intOf i).toNat)
  case atStart => exact ⟨0, Nat.zero_le _, rfl, fun j _ _ h => absurd h (Nat.not_lt_zero _), 0, rfl⟩
  case round =>
    obtain ⟨k, hk, rfl, HA, n, rfl⟩ := hrel
    by_cases hlt : k < a.length
    · have hlb : k < b.length := by rw [← HL.out]; exact hlt
      obtain ⟨g1, o1, e1, c1⟩ := HC1.out k hlt
      obtain ⟨g2, o2, e2, c2⟩ := HC2.out k hlb
      have hlt' : (k : Int) < (a.length : Int) := by omega
      have HN : Hid (a[k] ≠ b[k] → res = false) := HE.out k hlt hlb
      have HA1 : Hid (a[k] = b[k] → ∀ j (ha : j < a.length) (hb : j < b.length), j < k + 1 → a[j] = b[j]) := fun he j ha hb h => by
        by_cases e : j = k
        · subst e; exact he
        · exact HA.out j ha hb (by omega)
      subst e1 e2
      generalize a[k] = x at *
      generalize b[k] = y at *
      by_cases hxy : x = y
      · have HA2 : Hid (∀ j (ha : j < a.length) (hb : j < b.length), j < k + 1 → a[j] = b[j]) := HA1.out hxy
        have d1 : (x != y) = false := by rw [hxy]; simp
        clear hxy HN HA1
        go_wp2
        go_quiet (fail)
        go_wp2
        go_roundw
        case rel => exact ⟨k + 1, by omega, by go_num, HA2, _, rfl⟩
        case measure => simp [intOf]; omega
      · have HF : Hid (res = false) := HN.out hxy
        have d1 : (x != y) = true := bne_iff_ne.2 hxy
        clear hxy HN HA1
        go_wp2
        go_quiet (fail)
        go_wp2
        go_ret
        exact ⟨ret_bool HF.out.symm, _, World.drewN_drewN _ _ _⟩
    · have hlt' : ¬ (k : Int) < (a.length : Int) := by omega
      have HF : Hid (res = true) := HY.out fun j ha hb => HA.out j ha hb (by omega)
      go_wp2
      go_ret
      exact ⟨ret_bool HF.out.symm, _, rfl⟩

theorem l1Least_any (W : World) (a b : Nat) : Calls Try.prog 74 #[.int .i64 (a : Int), .int .i64 (b : Int)] W fun e W' => e = .returned (.int .i64 ((min a b : Nat) : Int)) ∧ W' = W := by
  by_cases h : a < b
  · have e : ((min a b : Nat) : Int) = (a : Int) := by omega
    have h' : (a : Int) < (b : Int) := by omega
    rw [e]
    clear e h
    go_enter Try.func74, Try.ntmps74
    go_wp2
    go_ret
    exact ⟨rfl, rfl⟩
  · have e : ((min a b : Nat) : Int) = (b : Int) := by omega
    have h' : ¬ (a : Int) < (b : Int) := by omega
    rw [e]
    clear e h
    go_enter Try.func74, Try.ntmps74
    go_wp2
    go_ret
    exact ⟨rfl, rfl⟩
end Go.Proofs.Ytkkamigaolejiax
