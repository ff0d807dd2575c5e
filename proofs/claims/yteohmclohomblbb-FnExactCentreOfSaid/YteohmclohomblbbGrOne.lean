/-
  'slices.Max' of numbers; 'IsOneGroup' of both.
-/
import Derived.Test.YteohmclohomblbbGrGrpS
namespace Go.Proofs.Yteohmclohomblbb
open Go.RowKit
set_option linter.unusedVariables false

/-- The greatest. -/
def maxL : List Int → Int
  | [] => 0
  | x :: r => r.foldl max x
theorem maxL_take (zs : List Int) (k : Nat) (h0 : 0 < k) (h : k < zs.length) : maxL (zs.take (k + 1)) = max (maxL (zs.take k)) zs[k] := by
  cases zs with
  | nil => simp at h
  | cons x r =>
    obtain ⟨j, rfl⟩ : ∃ j, k = j + 1 := ⟨k - 1, by omega⟩
    have hj : j < r.length := by simpa using h
    simp only [List.take_succ_cons, maxL, List.getElem_cons_succ]
    rw [List.take_succ_eq_append_getElem hj, List.foldl_append]
    rfl
theorem foldl_max_ge (r : List Int) : ∀ x : Int, x ≤ r.foldl max x ∧ ∀ y ∈ r, y ≤ r.foldl max x := by
  induction r with
  | nil => intro x; exact ⟨Int.le_refl _, fun y hy => by cases hy⟩
  | cons z s ih =>
    intro x
    rw [List.foldl_cons]
    obtain ⟨h1, h2⟩ := ih (max x z)
    refine ⟨by omega, fun y hy => ?_⟩
    rcases List.mem_cons.1 hy with rfl | hy
    · omega
    · exact h2 y hy
theorem foldl_max_mem (r : List Int) : ∀ x : Int, r.foldl max x = x ∨ r.foldl max x ∈ r := by
  induction r with
  | nil => intro x; exact .inl rfl
  | cons z s ih =>
    intro x
    rw [List.foldl_cons]
    rcases ih (max x z) with h | h
    · rw [h]
      rcases Int.le_total x z with hle | hle
      · rw [Int.max_eq_right hle]; exact .inr (List.mem_cons_self ..)
      · rw [Int.max_eq_left hle]; exact .inl rfl
    · exact .inr (List.mem_cons_of_mem _ h)
theorem maxL_zero (zs : List Int) (h0 : 0 < zs.length) (hp : ∀ k (hk : k < zs.length), 0 ≤ zs[k]) : (maxL zs == 0) = allB zs 0 0 := by
  cases zs with
  | nil => simp at h0
  | cons x r =>
    have hx : 0 ≤ x := hp 0 (by simp)
    have hr : ∀ y ∈ r, 0 ≤ y := fun y hy => by
      obtain ⟨j, hj, rfl⟩ := List.getElem_of_mem hy
      have := hp (j + 1) (by simpa using hj)
      simpa using this
    obtain ⟨h1, h2⟩ := foldl_max_ge r x
    by_cases hz : r.foldl max x = 0
    · rw [show maxL (x :: r) = r.foldl max x from rfl, hz, allB_yes (x :: r) 0 0 fun j hj => ?_]
      · rfl
      · have hm := List.getElem_mem hj
        rcases List.mem_cons.1 hm with e | hm
        · rw [e]; omega
        · have a1 := h2 _ hm
          have a2 := hr _ hm
          omega
    · rw [show (maxL (x :: r) == 0) = false from beq_eq_false_iff_ne.2 hz]
      symm
      have hmem : r.foldl max x ∈ x :: r := (foldl_max_mem r x).elim (fun e => by rw [e]; exact List.mem_cons_self ..) fun h => List.mem_cons_of_mem _ h
      obtain ⟨j, hj, e⟩ := List.getElem_of_mem hmem
      exact allB_no (x :: r) 0 0 j hj (.inr (by rw [e]; omega))

set_option maxRecDepth 100000 in
set_option maxHeartbeats 2000000 in
theorem max_any (W : World) (v : Value) (zs : List Int) (h : Reads W v zs) (h0 : 0 < zs.length) (hl : zs.length ≤ 12) :
    Calls Try.prog 20 #[v] W fun e W' => e = .returned (.int .i64 (maxL zs)) ∧ W' = W := by
  obtain ⟨a1, cap1, rfl, hc1⟩ := h
  obtain ⟨g1, o1, rfl, hg1, hc1⟩ := hc1.resolve_left (fun e => by rw [e] at h0; exact absurd h0 (by simp))
  have HC1 : Hid (∀ j (hj : j < zs.length), W.cell? ⟨g1, o1 + j, none⟩ = some (.int .i64 zs[j])) := hc1
  have q0 : W.cell? ⟨g1, o1, none⟩ = some (.int .i64 zs[0]) := hc1 0 h0
  have HFIRST : Hid (zs[0] = maxL (zs.take 1)) := by
    show _ = _
    cases zs with
    | nil => simp at h0
    | cons x r => rfl
  have hlt0 : ¬ ((zs.length : Int) < 1) := by omega
  have hpos : 0 < (zs.length : Int) := by omega
  clear hc1 hg1
  generalize zs[0] = z0 at *
  go_enter Try.func20, Try.ntmps20
  go_wp2
  clear q0
  go_loop [3, 4] (fun m i => ∃ k : Nat, (1 ≤ k ∧ k ≤ zs.length) ∧ i = .int .i64 k ∧ ∃ z, m = .int .i64 z ∧ Hid (z = maxL (zs.take k))) (fun _ i => zs.length - (intOf i).toNat)
  case atStart => exact ⟨1, ⟨Nat.le_refl _, h0⟩, rfl, z0, rfl, HFIRST⟩
  case round =>
    obtain ⟨k, ⟨hk1, hk⟩, rfl, z, rfl, HZ⟩ := hrel
    by_cases hlt : k < zs.length
    · have hlt' : (k : Int) < (zs.length : Int) := by omega
      have q0 := HC1.out k hlt
      have HN : Hid (maxL (zs.take (k + 1)) = max z zs[k]) := by
        show _ = _
        rw [maxL_take zs k (by omega) hlt, ← HZ.out]
      clear HZ
      generalize zs[k] = y at *
      rcases Int.lt_trichotomy y z with hc | hc | hc
      · have h1 : y ≤ z := by omega
        have h2 : ¬ z ≤ y := by omega
        have HE : Hid (z = maxL (zs.take (k + 1))) := by show _ = _; rw [HN.out]; omega
        clear hc
        go_wp2
        go_round
        case rel => exact ⟨k + 1, by omega, by go_num, _, rfl, HE⟩
        case measure => simp [intOf]; omega
      · subst hc
        have h1 : y ≤ y := Int.le_refl _
        have HE : Hid (y = maxL (zs.take (k + 1))) := by show _ = _; rw [HN.out]; omega
        go_wp2
        go_round
        case rel => exact ⟨k + 1, by omega, by go_num, _, rfl, HE⟩
        case measure => simp [intOf]; omega
      · have h1 : z ≤ y := by omega
        have h2 : ¬ y ≤ z := by omega
        have HE : Hid (y = maxL (zs.take (k + 1))) := by show _ = _; rw [HN.out]; omega
        go_wp2
        go_round
        case rel => exact ⟨k + 1, by omega, by go_num, _, rfl, HE⟩
        case measure => simp [intOf]; omega
    · have hlt' : ¬ (k : Int) < (zs.length : Int) := by omega
      have HE : Hid (z = maxL zs) := by
        have := HZ.out
        rw [List.take_of_length_le (by omega)] at this
        exact this
      clear HZ
      go_wp2
      go_ret
      exact ⟨ret_int1 HE.out, rfl⟩

theorem one_ret {a b c : Bool} (h : a = b) : (Ending.returned (.tuple #[.bool a, .bool c]) : Ending) = .returned (.tuple #[.bool b, .bool c]) := by rw [h]
def oneOut (n : Int) (l : List EdD) : Bool := goodEd n l && allB (grp n l) 0 0

end Go.Proofs.Yteohmclohomblbb
