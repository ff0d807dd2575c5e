/-
  'canStep' of the program.
-/
import Derived.Test.YtchddjidjfpehaaSideOf
namespace Go.Proofs.Ytchddjidjfpehaa
open Go.RowKit

theorem canB_one (ln : List HD) (k : Int) : canB ln 1 k = (sideB k && decide (ln.length < 12)) := by
  unfold canB sideB
  rw [if_pos rfl, Bool.eq_iff_iff]
  simp
theorem canB_two (ln : List HD) (kind k : Int) (h : kind = 2 ∨ kind = 3) : canB ln kind k = (decide (0 ≤ k) && decide (k < (ln.length : Int))) := by
  unfold canB
  rw [if_neg (by omega), if_pos h, Bool.eq_iff_iff]
  simp
theorem canB_rest (ln : List HD) (kind k : Int) (h1 : kind ≠ 1) (h2 : ¬ (kind = 2 ∨ kind = 3)) : canB ln kind k = (kind == 4 && k == 0) := by
  unfold canB
  rw [if_neg h1, if_neg h2, Bool.eq_iff_iff]
  simp

set_option maxRecDepth 100000 in
set_option maxHeartbeats 1000000 in
theorem canStep_any (W : World) (x y z : Value) (p : PR) (kind k : Int) (h : Reads3 W x y z p) (h3 : p.ln.length ≤ 1048576) :
    Calls Try.prog 61 #[.agg #[x, y, z], .agg #[.int .i64 kind, .int .i64 k]] W fun e W' => e = .returned (.bool (canB p.ln kind k)) ∧ Below W.heap.size W W' := by
  obtain ⟨a1, c1, rfl⟩ := h.st.shape
  obtain ⟨a2, c2, rfl⟩ := h.lf.shape
  obtain ⟨a3, c3, rfl⟩ := h.ln.shape
  have HB : Hid (Below W.heap.size W ((W.alloc (.cells #[.slice a1 p.st.length c1, .slice a2 p.lf.length c2, .slice a3 p.ln.length c3] 40)).alloc (.cells #[.int .i64 kind, .int .i64 k] 53))) := ((Below.refl _ W).alloc (Nat.le_refl _) _).alloc (by simp) _
  clear h
  by_cases e1 : kind = 1
  · subst e1
    rw [canB_one]
    have HE : Hid (decide (p.ln.length < 12) = decide ((p.ln.length : Int) < 12)) := by
      show _ = _
      rw [Bool.eq_iff_iff]
      simp
      omega
    rw [HE.out]
    cases hs : sideB k with
    | true =>
      have HS : Hid (sideB k = true) := hs
      clear hs
      go_enter Try.func61, Try.ntmps61
      go_wp2_with fail
      refine (isSide_any _ _).mono ?_
      rintro e w1 ⟨rfl, rfl⟩
      rw [HS.out]
      go_wp2
      all_goals
        go_ret
        exact ⟨by simp, HB.out⟩
    | false =>
      have HS : Hid (sideB k = false) := hs
      clear hs
      go_enter Try.func61, Try.ntmps61
      go_wp2_with fail
      refine (isSide_any _ _).mono ?_
      rintro e w1 ⟨rfl, rfl⟩
      rw [HS.out]
      go_wp2
      all_goals
        go_ret
        exact ⟨by simp, HB.out⟩
  · by_cases e2 : kind = 2 ∨ kind = 3
    · rw [canB_two _ _ _ e2]
      have d1 : (kind == 1) = false := beq_eq_false_iff_ne.2 e1
      by_cases hk : 0 ≤ k
      · have dk : decide (0 ≤ k) = true := decide_eq_true hk
        rw [dk]
        rcases e2 with rfl | rfl
        · go_enter Try.func61, Try.ntmps61
          go_wp2
          all_goals
            go_ret
            exact ⟨by simp, HB.out⟩
        · go_enter Try.func61, Try.ntmps61
          go_wp2
          all_goals
            go_ret
            exact ⟨by simp, HB.out⟩
      · have dk : decide (0 ≤ k) = false := decide_eq_false hk
        rw [dk]
        rcases e2 with rfl | rfl
        · go_enter Try.func61, Try.ntmps61
          go_wp2
          all_goals
            go_ret
            exact ⟨by simp, HB.out⟩
        · go_enter Try.func61, Try.ntmps61
          go_wp2
          all_goals
            go_ret
            exact ⟨by simp, HB.out⟩
    · rw [canB_rest _ _ _ e1 e2]
      have d1 : (kind == 1) = false := beq_eq_false_iff_ne.2 e1
      have d2 : (kind == 2) = false := beq_eq_false_iff_ne.2 (fun e => e2 (.inl e))
      have d3 : (kind == 3) = false := beq_eq_false_iff_ne.2 (fun e => e2 (.inr e))
      clear e1 e2
      by_cases e4 : kind = 4
      · subst e4
        by_cases ek : k = 0
        · subst ek
          go_enter Try.func61, Try.ntmps61
          go_wp2
          all_goals
            go_ret
            exact ⟨rfl, HB.out⟩
        · have HE : Hid (((4 : Int) == 4 && k == 0) = false) := by show _ = _; simpa using ek
          rw [HE.out]
          go_enter Try.func61, Try.ntmps61
          go_wp2
          all_goals
            go_ret
            exact ⟨rfl, HB.out⟩
      · have HE : Hid ((kind == 4 && k == 0) = false) := by show _ = _; simp [e4]
        rw [HE.out]
        go_enter Try.func61, Try.ntmps61
        go_wp2
        all_goals
          go_ret
          exact ⟨rfl, HB.out⟩
end Go.Proofs.Ytchddjidjfpehaa
