/-
  'slices.Min', 'slices.Index' over numbers; the first least of numbers.
-/
import Derived.Test.YteohmclohomblacGrOne
import Derived.Test.YteohmclohomblacGrFars
namespace Go.Proofs.Yteohmclohomblac
open Go.RowKit
set_option linter.unusedVariables false

def minL : List Int → Int
  | [] => 0
  | x :: r => r.foldl min x
theorem foldl_min_le (r : List Int) : ∀ x : Int, r.foldl min x ≤ x ∧ ∀ y ∈ r, r.foldl min x ≤ y := by
  induction r with
  | nil => intro x; exact ⟨Int.le_refl _, fun y hy => by cases hy⟩
  | cons z r ih =>
    intro x
    rw [List.foldl_cons]
    have h := ih (min x z)
    refine ⟨by omega, fun y hy => ?_⟩
    rcases List.mem_cons.1 hy with rfl | hy
    · omega
    · exact h.2 y hy
theorem foldl_min_mem (r : List Int) : ∀ x : Int, r.foldl min x = x ∨ r.foldl min x ∈ r := by
  induction r with
  | nil => intro x; exact .inl rfl
  | cons z r ih =>
    intro x
    rw [List.foldl_cons]
    rcases ih (min x z) with h | h
    · rw [h]
      by_cases e : x ≤ z
      · exact .inl (by omega)
      · exact .inr (by rw [show min x z = z by omega]; exact List.mem_cons_self ..)
    · exact .inr (List.mem_cons_of_mem _ h)
theorem minL_le (zs : List Int) (y : Int) (h : y ∈ zs) : minL zs ≤ y := by
  cases zs with
  | nil => cases h
  | cons x r =>
    rcases List.mem_cons.1 h with rfl | h
    · exact (foldl_min_le r _).1
    · exact (foldl_min_le r x).2 y h
theorem minL_mem (zs : List Int) (h : 0 < zs.length) : minL zs ∈ zs := by
  cases zs with
  | nil => simp at h
  | cons x r =>
    rcases foldl_min_mem r x with e | e
    · rw [show minL (x :: r) = r.foldl min x from rfl, e]; exact List.mem_cons_self ..
    · exact List.mem_cons_of_mem _ e
theorem minL_take (zs : List Int) (k : Nat) (h0 : 1 ≤ k) (h : k < zs.length) : minL (zs.take (k + 1)) = min (minL (zs.take k)) zs[k] := by
  cases zs with
  | nil => simp at h
  | cons x r =>
    obtain ⟨j, rfl⟩ : ∃ j, k = j + 1 := ⟨k - 1, by omega⟩
    simp only [List.length_cons] at h
    simp only [List.take_succ_cons, minL, List.getElem_cons_succ]
    rw [List.take_succ_eq_append_getElem (by omega), List.foldl_append]
    rfl

set_option maxRecDepth 100000 in
set_option maxHeartbeats 2000000 in
theorem min_any (W : World) (v : Value) (zs : List Int) (h : Reads W v zs) (h0 : 0 < zs.length) (hl : zs.length ≤ 12) :
    Calls Try.prog 111 #[v] W fun e W' => e = .returned (.int .i64 (minL zs)) ∧ W' = W := by
  obtain ⟨a1, cap1, rfl, hc1⟩ := h
  obtain ⟨g1, o1, rfl, hg1, hc1⟩ := hc1.resolve_left (fun e => by rw [e] at h0; exact absurd h0 (by simp))
  have HC1 : Hid (∀ j (hj : j < zs.length), W.cell? ⟨g1, o1 + j, none⟩ = some (.int .i64 zs[j])) := hc1
  have q0 : W.cell? ⟨g1, o1, none⟩ = some (.int .i64 zs[0]) := hc1 0 h0
  have HFIRST : Hid (zs[0] = minL (zs.take 1)) := by
    show _ = _
    cases zs with
    | nil => simp at h0
    | cons x r => rfl
  have hlt0 : ¬ ((zs.length : Int) < 1) := by omega
  have hpos : 0 < (zs.length : Int) := by omega
  clear hc1 hg1
  generalize zs[0] = z0 at *
  go_enter Try.func111, Try.ntmps111
  go_wp2
  clear q0
  go_loop [3, 4] (fun m i => ∃ k : Nat, (1 ≤ k ∧ k ≤ zs.length) ∧ i = .int .i64 k ∧ ∃ z, m = .int .i64 z ∧ Hid (z = minL (zs.take k))) (fun _ i => zs.length - (intOf i).toNat)
  case atStart => exact ⟨1, ⟨Nat.le_refl _, h0⟩, rfl, z0, rfl, HFIRST⟩
  case round =>
    obtain ⟨k, ⟨hk1, hk⟩, rfl, z, rfl, HZ⟩ := hrel
    by_cases hlt : k < zs.length
    · have hlt' : (k : Int) < (zs.length : Int) := by omega
      have q0 := HC1.out k hlt
      have HN : Hid (minL (zs.take (k + 1)) = min z zs[k]) := by
        show _ = _
        rw [minL_take zs k (by omega) hlt, ← HZ.out]
      clear HZ
      generalize zs[k] = y at *
      rcases Int.lt_trichotomy y z with hc | hc | hc
      · have h1 : y ≤ z := by omega
        have h2 : ¬ z ≤ y := by omega
        have HE : Hid (y = minL (zs.take (k + 1))) := by show _ = _; rw [HN.out]; omega
        clear hc
        go_wp2
        go_round
        case rel => exact ⟨k + 1, by omega, by go_num, _, rfl, HE⟩
        case measure => simp [intOf]; omega
      · subst hc
        have h1 : y ≤ y := Int.le_refl _
        have HE : Hid (y = minL (zs.take (k + 1))) := by show _ = _; rw [HN.out]; omega
        go_wp2
        go_round
        case rel => exact ⟨k + 1, by omega, by go_num, _, rfl, HE⟩
        case measure => simp [intOf]; omega
      · have h1 : z ≤ y := by omega
        have h2 : ¬ y ≤ z := by omega
        have HE : Hid (z = minL (zs.take (k + 1))) := by show _ = _; rw [HN.out]; omega
        go_wp2
        go_round
        case rel => exact ⟨k + 1, by omega, by go_num, _, rfl, HE⟩
        case measure => simp [intOf]; omega
    · have hlt' : ¬ (k : Int) < (zs.length : Int) := by omega
      have HE : Hid (z = minL zs) := by
        have := HZ.out
        rw [List.take_of_length_le (by omega)] at this
        exact this
      clear HZ
      go_wp2
      go_ret
      exact ⟨ret_int1 HE.out, rfl⟩

set_option maxRecDepth 100000 in
set_option maxHeartbeats 2000000 in
/-- Where the first like it stands. -/
theorem indexG_any (W : World) (v : Value) (zs : List Int) (x : Int) (i : Nat) (h : Reads W v zs) (hi : i < zs.length) (hx : zs[i] = x) (hf : ∀ j (hj : j < zs.length), j < i → zs[j] ≠ x) (hl : zs.length ≤ 12) :
    Calls Try.prog 112 #[v, .int .i64 x] W fun e W' => e = .returned (.int .i64 (i : Int)) ∧ W' = W := by
  obtain ⟨a1, cap1, rfl, hc1⟩ := h
  obtain ⟨g1, o1, rfl, hg1, hc1⟩ := hc1.resolve_left (fun e => by rw [e] at hi; exact absurd hi (by simp))
  have HC1 : Hid (∀ j (hj : j < zs.length), W.cell? ⟨g1, o1 + j, none⟩ = some (.int .i64 zs[j])) := hc1
  have HX : Hid (zs[i] = x) := hx
  have HN : Hid (∀ j (hj : j < zs.length), j < i → zs[j] ≠ x) := hf
  clear hc1 hg1 hx hf
  go_enter Try.func112, Try.ntmps112
  go_wp2
  go_loop [8] (fun t => ∃ k : Nat, k ≤ i ∧ t = .int .i64 k) (fun t => zs.length - (intOf t).toNat)
  case atStart => exact ⟨0, Nat.zero_le _, rfl⟩
  case round =>
    obtain ⟨k, hk, rfl⟩ := hrel
    have hlt : k < zs.length := by omega
    have hlt' : (k : Int) < (zs.length : Int) := by omega
    have q0 := HC1.out k hlt
    by_cases e : k = i
    · subst e
      have hx := HX.out
      rw [hx] at q0
      clear hx HC1 HX HN
      go_wp2
      go_ret
      exact ⟨rfl, rfl⟩
    · have hne : (x == zs[k]) = false := by
        have := HN.out k hlt (by omega)
        simp
        exact fun q => this q.symm
      clear HC1 HX HN
      generalize zs[k] = y at *
      go_wp2
      go_round
      case rel => exact ⟨k + 1, by omega, by go_num⟩
      case measure => simp [intOf]; omega

/- The first least one. -/
def cenP (zs : List Int) : Nat → Int × Int
  | 0 => (-1, 0)
  | k + 1 => if (cenP zs k).1 < 0 ∨ zs.getD k 0 < (cenP zs k).2 then ((k : Int), zs.getD k 0) else cenP zs k
theorem cenP_is (zs : List Int) : ∀ k : Nat, ∃ i : Nat, (cenP zs (k + 1)).1 = (i : Int) ∧ i < k + 1 ∧ zs.getD i 0 = (cenP zs (k + 1)).2 ∧ (∀ j, j < k + 1 → (cenP zs (k + 1)).2 ≤ zs.getD j 0) ∧ ∀ j, j < i → (cenP zs (k + 1)).2 < zs.getD j 0
  | 0 => by
    refine ⟨0, ?_, by omega, ?_, fun j hj => ?_, fun j hj => by omega⟩
    · simp [cenP]
    · simp [cenP]
    · obtain rfl : j = 0 := by omega
      simp [cenP]
  | k + 1 => by
    obtain ⟨i, h1, h2, h3, h4, h5⟩ := cenP_is zs k
    rw [cenP]
    by_cases h : (cenP zs (k + 1)).1 < 0 ∨ zs.getD (k + 1) 0 < (cenP zs (k + 1)).2
    · rw [if_pos h]
      have hlt : zs.getD (k + 1) 0 < (cenP zs (k + 1)).2 := h.resolve_left (by omega)
      refine ⟨k + 1, rfl, by omega, rfl, fun j hj => ?_, fun j hj => ?_⟩
      · by_cases e : j = k + 1
        · rw [e]; exact Int.le_refl _
        · have := h4 j (by omega); dsimp only; omega
      · have := h4 j hj; dsimp only; omega
    · rw [if_neg h]
      refine ⟨i, h1, by omega, h3, fun j hj => ?_, h5⟩
      by_cases e : j = k + 1
      · rw [e]; omega
      · exact h4 j (by omega)
theorem getD_at (zs : List Int) (j : Nat) (h : j < zs.length) : zs.getD j 0 = zs[j] := by simp [List.getD_eq_getElem?_getD, h]
/-- It is the least, and where it stands first. -/
theorem cenP_min (zs : List Int) (h : 0 < zs.length) : ∃ i : Nat, (cenP zs zs.length).1 = (i : Int) ∧ ∃ hi : i < zs.length, zs[i] = minL zs ∧ (cenP zs zs.length).2 = minL zs ∧ ∀ j (hj : j < zs.length), j < i → zs[j] ≠ minL zs := by
  obtain ⟨k, hk⟩ : ∃ k, zs.length = k + 1 := ⟨zs.length - 1, by omega⟩
  obtain ⟨i, h1, h2, h3, h4, h5⟩ := cenP_is zs k
  rw [← hk] at h1 h2 h3 h4 h5
  have hm := minL_mem zs h
  obtain ⟨j, hj, e⟩ := List.getElem_of_mem hm
  have a1 := h4 j hj
  rw [getD_at zs j hj, e] at a1
  have a2 := minL_le zs zs[i] (List.getElem_mem h2)
  rw [getD_at zs i h2] at h3
  have e2 : (cenP zs zs.length).2 = minL zs := by omega
  refine ⟨i, h1, h2, by omega, e2, fun j hj hlt => ?_⟩
  have := h5 j hlt
  rw [getD_at zs j hj, e2] at this
  omega
end Go.Proofs.Yteohmclohomblac
