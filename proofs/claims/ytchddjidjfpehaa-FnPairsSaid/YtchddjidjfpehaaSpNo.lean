/-
  'l3Step' of the model, a step's kind at a time.
-/
import Derived.Test.YtchddjidjfpehaaSpStep0
import Derived.Test.YtchddjidjfpehaaGoodSpec
import Derived.Test.YtchddjidjfpehaaJa
import Derived.Deep.RegionLaw
namespace Go.Proofs.Ytchddjidjfpehaa
open Go.RowKit
set_option linter.unusedVariables false

/-- Nothing done: the pair goes into the answer's box. -/
theorem stp_none (W : World) (B : Nat) (x y z : Value) (p : PR) (kind k : Int) (h : Own3 W B x y z p) (hB : B ≤ W.heap.size) :
    StpPost W B x y z p false (.returned (.tuple #[.agg #[x, y, z], .bool false])) (((W.alloc (.cells #[x, y, z] 40)).alloc (.cells #[.int .i64 kind, .int .i64 k] 53)).alloc (.cells #[x, y, z] 40)) := by
  have hb : Below W.heap.size W (((W.alloc (.cells #[x, y, z] 40)).alloc (.cells #[.int .i64 kind, .int .i64 k] 53)).alloc (.cells #[x, y, z] 40)) := (((Below.refl _ W).alloc (Nat.le_refl _) _).alloc (by simp) _).alloc (by simp; omega) _
  exact ⟨_, _, _, rfl, h.below hb, hb.mono hB, ⟨hb.size, fun b hl _ => hb.block b hl⟩, fun j hj => .inl ⟨hj, (h.lt j hj).2⟩⟩

set_option maxRecDepth 100000 in
set_option maxHeartbeats 4000000 in
theorem sp_rest (W : World) (B : Nat) (x y z : Value) (s0 s1 l0 l1 : Int) (ln : List HD) (kind k : Int) (h : Own3 W B x y z ⟨[s0, s1], [l0, l1], ln⟩) (hB : B ≤ W.heap.size) (hl : ln.length ≤ 12) (e1 : kind ≠ 1) (e2 : kind ≠ 2) (e3 : kind ≠ 3) (e4 : kind ≠ 4) :
    Calls Try.prog 56 #[.agg #[x, y, z], .agg #[.int .i64 kind, .int .i64 k]] W (StpPost W B x y z ⟨[s0, s1], [l0, l1], ln⟩ false) := by
  obtain ⟨a1, c1, rfl, hc1⟩ := h.st.form
  obtain ⟨a2, c2, rfl, hc2⟩ := h.lf.form
  obtain ⟨r1, rfl, hB1, hr1, -, -⟩ := hc1.resolve_left (by simp)
  obtain ⟨r2, rfl, hB2, hr2, -, -⟩ := hc2.resolve_left (by simp)
  obtain ⟨a3, c3, rfl⟩ := h.ln.shape
  simp only [List.length_cons, List.length_nil, Nat.zero_add, Nat.reduceAdd] at *
  have HP : Hid (StpPost W B (.slice (some ⟨r1, 0, none⟩) 2 c1) (.slice (some ⟨r2, 0, none⟩) 2 c2) (.slice a3 ln.length c3) ⟨[s0, s1], [l0, l1], ln⟩ false (.returned (.tuple #[.agg #[.slice (some ⟨r1, 0, none⟩) 2 c1, .slice (some ⟨r2, 0, none⟩) 2 c2, .slice a3 ln.length c3], .bool false]))
      (((W.alloc (.cells #[.slice (some ⟨r1, 0, none⟩) 2 c1, .slice (some ⟨r2, 0, none⟩) 2 c2, .slice a3 ln.length c3] 40)).alloc (.cells #[.int .i64 kind, .int .i64 k] 53)).alloc (.cells #[.slice (some ⟨r1, 0, none⟩) 2 c1, .slice (some ⟨r2, 0, none⟩) 2 c2, .slice a3 ln.length c3] 40))) := stp_none _ _ _ _ _ _ _ _ h hB
  clear h hc1 hc2 hB1 hB2 hr1 hr2
  have d1 : (kind == 1) = false := beq_eq_false_iff_ne.2 e1
  have d2 : (kind == 2) = false := beq_eq_false_iff_ne.2 e2
  have d3 : (kind == 3) = false := beq_eq_false_iff_ne.2 e3
  have d4 : (kind == 4) = false := beq_eq_false_iff_ne.2 e4
  clear e1 e2 e3 e4
  go_enter Try.func56, Try.ntmps56
  go_wp2
  all_goals
    refine bodyPost_ret (v := .tuple #[.agg #[.slice (some ⟨r1, 0, none⟩) 2 c1, .slice (some ⟨r2, 0, none⟩) 2 c2, .slice a3 ln.length c3], .bool false]) (by simp [results, Try.results56, go_sem]) rfl ?_
    exact HP.out

set_option maxRecDepth 100000 in
set_option maxHeartbeats 4000000 in
theorem sp_far_2 (W : World) (B : Nat) (x y z : Value) (s0 s1 l0 l1 : Int) (ln : List HD) (k : Int) (h : Own3 W B x y z ⟨[s0, s1], [l0, l1], ln⟩) (hB : B ≤ W.heap.size) (hl : ln.length ≤ 12) (hk : ¬ (0 ≤ k ∧ k < (ln.length : Int))) :
    Calls Try.prog 56 #[.agg #[x, y, z], .agg #[.int .i64 2, .int .i64 k]] W (StpPost W B x y z ⟨[s0, s1], [l0, l1], ln⟩ false) := by
  obtain ⟨a1, c1, rfl, hc1⟩ := h.st.form
  obtain ⟨a2, c2, rfl, hc2⟩ := h.lf.form
  obtain ⟨r1, rfl, hB1, hr1, -, -⟩ := hc1.resolve_left (by simp)
  obtain ⟨r2, rfl, hB2, hr2, -, -⟩ := hc2.resolve_left (by simp)
  obtain ⟨a3, c3, rfl⟩ := h.ln.shape
  simp only [List.length_cons, List.length_nil, Nat.zero_add, Nat.reduceAdd] at *
  have HP : Hid (StpPost W B (.slice (some ⟨r1, 0, none⟩) 2 c1) (.slice (some ⟨r2, 0, none⟩) 2 c2) (.slice a3 ln.length c3) ⟨[s0, s1], [l0, l1], ln⟩ false (.returned (.tuple #[.agg #[.slice (some ⟨r1, 0, none⟩) 2 c1, .slice (some ⟨r2, 0, none⟩) 2 c2, .slice a3 ln.length c3], .bool false]))
      (((W.alloc (.cells #[.slice (some ⟨r1, 0, none⟩) 2 c1, .slice (some ⟨r2, 0, none⟩) 2 c2, .slice a3 ln.length c3] 40)).alloc (.cells #[.int .i64 2, .int .i64 k] 53)).alloc (.cells #[.slice (some ⟨r1, 0, none⟩) 2 c1, .slice (some ⟨r2, 0, none⟩) 2 c2, .slice a3 ln.length c3] 40))) := stp_none _ _ _ _ _ _ _ _ h hB
  clear h hc1 hc2 hB1 hB2 hr1 hr2
  by_cases hk0 : k < 0
  · clear hk
    go_enter Try.func56, Try.ntmps56
    go_wp2
    all_goals
      refine bodyPost_ret (v := .tuple #[.agg #[.slice (some ⟨r1, 0, none⟩) 2 c1, .slice (some ⟨r2, 0, none⟩) 2 c2, .slice a3 ln.length c3], .bool false]) (by simp [results, Try.results56, go_sem]) rfl ?_
      exact HP.out
  · have hk1 : (ln.length : Int) ≤ k := by omega
    clear hk
    go_enter Try.func56, Try.ntmps56
    go_wp2
    all_goals
      refine bodyPost_ret (v := .tuple #[.agg #[.slice (some ⟨r1, 0, none⟩) 2 c1, .slice (some ⟨r2, 0, none⟩) 2 c2, .slice a3 ln.length c3], .bool false]) (by simp [results, Try.results56, go_sem]) rfl ?_
      exact HP.out

set_option maxRecDepth 100000 in
set_option maxHeartbeats 4000000 in
theorem sp_far_3 (W : World) (B : Nat) (x y z : Value) (s0 s1 l0 l1 : Int) (ln : List HD) (k : Int) (h : Own3 W B x y z ⟨[s0, s1], [l0, l1], ln⟩) (hB : B ≤ W.heap.size) (hl : ln.length ≤ 12) (hk : ¬ (0 ≤ k ∧ k < (ln.length : Int))) :
    Calls Try.prog 56 #[.agg #[x, y, z], .agg #[.int .i64 3, .int .i64 k]] W (StpPost W B x y z ⟨[s0, s1], [l0, l1], ln⟩ false) := by
  obtain ⟨a1, c1, rfl, hc1⟩ := h.st.form
  obtain ⟨a2, c2, rfl, hc2⟩ := h.lf.form
  obtain ⟨r1, rfl, hB1, hr1, -, -⟩ := hc1.resolve_left (by simp)
  obtain ⟨r2, rfl, hB2, hr2, -, -⟩ := hc2.resolve_left (by simp)
  obtain ⟨a3, c3, rfl⟩ := h.ln.shape
  simp only [List.length_cons, List.length_nil, Nat.zero_add, Nat.reduceAdd] at *
  have HP : Hid (StpPost W B (.slice (some ⟨r1, 0, none⟩) 2 c1) (.slice (some ⟨r2, 0, none⟩) 2 c2) (.slice a3 ln.length c3) ⟨[s0, s1], [l0, l1], ln⟩ false (.returned (.tuple #[.agg #[.slice (some ⟨r1, 0, none⟩) 2 c1, .slice (some ⟨r2, 0, none⟩) 2 c2, .slice a3 ln.length c3], .bool false]))
      (((W.alloc (.cells #[.slice (some ⟨r1, 0, none⟩) 2 c1, .slice (some ⟨r2, 0, none⟩) 2 c2, .slice a3 ln.length c3] 40)).alloc (.cells #[.int .i64 3, .int .i64 k] 53)).alloc (.cells #[.slice (some ⟨r1, 0, none⟩) 2 c1, .slice (some ⟨r2, 0, none⟩) 2 c2, .slice a3 ln.length c3] 40))) := stp_none _ _ _ _ _ _ _ _ h hB
  clear h hc1 hc2 hB1 hB2 hr1 hr2
  by_cases hk0 : k < 0
  · clear hk
    go_enter Try.func56, Try.ntmps56
    go_wp2
    all_goals
      refine bodyPost_ret (v := .tuple #[.agg #[.slice (some ⟨r1, 0, none⟩) 2 c1, .slice (some ⟨r2, 0, none⟩) 2 c2, .slice a3 ln.length c3], .bool false]) (by simp [results, Try.results56, go_sem]) rfl ?_
      exact HP.out
  · have hk1 : (ln.length : Int) ≤ k := by omega
    clear hk
    go_enter Try.func56, Try.ntmps56
    go_wp2
    all_goals
      refine bodyPost_ret (v := .tuple #[.agg #[.slice (some ⟨r1, 0, none⟩) 2 c1, .slice (some ⟨r2, 0, none⟩) 2 c2, .slice a3 ln.length c3], .bool false]) (by simp [results, Try.results56, go_sem]) rfl ?_
      exact HP.out

set_option maxRecDepth 100000 in
set_option maxHeartbeats 4000000 in
theorem sp_say_no (W : World) (B : Nat) (x y z : Value) (s0 s1 l0 l1 : Int) (ln : List HD) (k : Int) (h : Own3 W B x y z ⟨[s0, s1], [l0, l1], ln⟩) (hB : B ≤ W.heap.size) (hl : ln.length ≤ 12) (hk : ¬ ((0 ≤ k ∧ k ≤ 1) ∧ ln.length < 12)) :
    Calls Try.prog 56 #[.agg #[x, y, z], .agg #[.int .i64 1, .int .i64 k]] W (StpPost W B x y z ⟨[s0, s1], [l0, l1], ln⟩ false) := by
  obtain ⟨a1, c1, rfl, hc1⟩ := h.st.form
  obtain ⟨a2, c2, rfl, hc2⟩ := h.lf.form
  obtain ⟨r1, rfl, hB1, hr1, -, -⟩ := hc1.resolve_left (by simp)
  obtain ⟨r2, rfl, hB2, hr2, -, -⟩ := hc2.resolve_left (by simp)
  obtain ⟨a3, c3, rfl⟩ := h.ln.shape
  simp only [List.length_cons, List.length_nil, Nat.zero_add, Nat.reduceAdd] at *
  have HP : Hid (StpPost W B (.slice (some ⟨r1, 0, none⟩) 2 c1) (.slice (some ⟨r2, 0, none⟩) 2 c2) (.slice a3 ln.length c3) ⟨[s0, s1], [l0, l1], ln⟩ false (.returned (.tuple #[.agg #[.slice (some ⟨r1, 0, none⟩) 2 c1, .slice (some ⟨r2, 0, none⟩) 2 c2, .slice a3 ln.length c3], .bool false]))
      (((W.alloc (.cells #[.slice (some ⟨r1, 0, none⟩) 2 c1, .slice (some ⟨r2, 0, none⟩) 2 c2, .slice a3 ln.length c3] 40)).alloc (.cells #[.int .i64 1, .int .i64 k] 53)).alloc (.cells #[.slice (some ⟨r1, 0, none⟩) 2 c1, .slice (some ⟨r2, 0, none⟩) 2 c2, .slice a3 ln.length c3] 40))) := stp_none _ _ _ _ _ _ _ _ h hB
  clear h hc1 hc2 hB1 hB2 hr1 hr2
  cases hs : sideB k with
  | false =>
    have HS : Hid (sideB k = false) := hs
    clear hs hk
    go_enter Try.func56, Try.ntmps56
    go_wp2_with fail
    refine (l3Side_any _ _).mono ?_
    rintro e w1 ⟨rfl, rfl⟩
    rw [HS.out]
    go_wp2
    all_goals
      refine bodyPost_ret (v := .tuple #[.agg #[.slice (some ⟨r1, 0, none⟩) 2 c1, .slice (some ⟨r2, 0, none⟩) 2 c2, .slice a3 ln.length c3], .bool false]) (by simp [results, Try.results56, go_sem]) rfl ?_
      exact HP.out
  | true =>
    have HS : Hid (sideB k = true) := hs
    have h12 : ln.length = 12 := by
      have hk' : 0 ≤ k ∧ k ≤ 1 := of_decide_eq_true hs
      omega
    have H12 : Hid ((((ln.length : Nat) : Int) == 12) = true) := by show _ = _; rw [h12]; rfl
    clear hs hk h12
    generalize ln.length = n at *
    go_enter Try.func56, Try.ntmps56
    go_wp2_with fail
    refine (l3Side_any _ _).mono ?_
    rintro e w1 ⟨rfl, rfl⟩
    rw [HS.out]
    have q12 := H12.out
    go_wp2
    all_goals
      refine bodyPost_ret (v := .tuple #[.agg #[.slice (some ⟨r1, 0, none⟩) 2 c1, .slice (some ⟨r2, 0, none⟩) 2 c2, .slice a3 n c3], .bool false]) (by simp [results, Try.results56, go_sem]) rfl ?_
      exact HP.out

end Go.Proofs.Ytchddjidjfpehaa
