/-
  'WayTo' of the program and of the model.
-/
import Derived.Test.YthlbmkefjjckaadGrWalk
namespace Go.Proofs.Ythlbmkefjjckaad
open Go.RowKit
set_option linter.unusedVariables false

/-- The way by the least ones, of so many steps at most. -/
def wayD (l : List EdD) (far : List Int) : Nat → Int → List Int
  | 0, x => [x]
  | m + 1, x => match hopsD l far x with
    | [] => [x]
    | y :: _ => x :: wayD l far m y
theorem wayD_is {n : Int} {l : List EdD} (hf : FitEd n l) {far : List Int} (h0 : ∀ i : Int, 0 ≤ i → i < n → 0 ≤ lab far i) : ∀ (m : Nat) (x : Int), 0 ≤ x → x < n → (lab far x).toNat ≤ m → ∃ r, wayD l far m x = x :: r ∧ IsWay l far (x :: r)
  | 0, x, hx, hxn, h => by
    refine ⟨[], rfl, ?_⟩
    rcases e : hopsD l far x with _ | ⟨y, t⟩
    · exact e
    · obtain ⟨c, hj, hc⟩ := way_hop hf (far := far) (x := x) (y := y) (by rw [e]; rfl)
      have hfit := hj.fit hf
      have := h0 y hfit.2.1.1 hfit.2.1.2
      have := h0 x hx hxn
      omega
  | m + 1, x, hx, hxn, h => by
    rcases e : hopsD l far x with _ | ⟨y, t⟩
    · exact ⟨[], by simp only [wayD, e], e⟩
    · obtain ⟨c, hj, hc⟩ := way_hop hf (far := far) (x := x) (y := y) (by rw [e]; rfl)
      have hfit := hj.fit hf
      have := h0 y hfit.2.1.1 hfit.2.1.2
      obtain ⟨r, hr, hw⟩ := wayD_is hf h0 m y hfit.2.1.1 hfit.2.1.2 (by omega)
      exact ⟨y :: r, by simp only [wayD, e, hr], by rw [e]; rfl, hw⟩
def wayOk (n : Int) (l : List EdD) (a b : Int) : Bool := endsOk n l a b && decide (lab (fars n.toNat l b) a < farC)
def wayOut (n : Int) (l : List EdD) (a b : Int) : List Int := if wayOk n l a b then wayD l (fars n.toNat l b) (lab (fars n.toNat l b) a).toNat a else []
def wayCost (n : Int) (l : List EdD) (a b : Int) : Int := if wayOk n l a b then lab (fars n.toNat l b) a else 0
theorem wayOut_is {n : Int} {l : List EdD} {a b : Int} (h : wayOk n l a b = true) : ∃ r, wayOut n l a b = a :: r ∧ IsWay l (fars n.toNat l b) (a :: r) := by
  unfold wayOut
  rw [if_pos h]
  unfold wayOk at h
  rw [Bool.and_eq_true] at h
  obtain ⟨hg, hA, hB⟩ := endsOk_true h.1
  obtain ⟨g1, -, g3, -⟩ := goodEd_true hg
  obtain ⟨N, rfl⟩ : ∃ N : Nat, n = (N : Int) := ⟨n.toNat, by omega⟩
  exact wayD_is g3 (fun i h0 hi => fars_nonneg g3 hB i h0 hi) _ a hA.1 hA.2 (Nat.le_refl _)
theorem wayOut_len (n : Int) (l : List EdD) (a b : Int) : (wayOut n l a b).length ≤ 4194304 := by
  by_cases h : wayOk n l a b = true
  · obtain ⟨r, hr, hw⟩ := wayOut_is h
    rw [hr]
    unfold wayOk at h
    rw [Bool.and_eq_true] at h
    obtain ⟨hg, hA, hB⟩ := endsOk_true h.1
    obtain ⟨g1, -, g3, -⟩ := goodEd_true hg
    obtain ⟨N, rfl⟩ : ∃ N : Nat, n = (N : Int) := ⟨n.toNat, by omega⟩
    have := way_len g3 r a hA.1 hA.2 hw
    omega
  · unfold wayOut
    rw [if_neg h]
    simp
def WayPost (W : World) (out : List Int) (c : Int) (ok : Bool) (e : Ending) (W' : World) : Prop := ∃ u, e = .returned (.tuple #[u, .int .i64 c, .bool ok]) ∧ Own W' W.heap.size u out ∧ Below W.heap.size W W'
theorem WayPost.zero {W W' : World} {out : List Int} {c : Int} {ok : Bool} (h : ok = false ∧ out = [] ∧ c = 0) (hb : Below W.heap.size W W') : WayPost W out c ok (.returned (.tuple #[.slice none 0 0, .int .i64 0, .bool false])) W' := ⟨_, by rw [h.1, h.2.2], by rw [h.2.1]; exact Own.nil _ _, hb⟩
theorem wayNot {n : Int} {l : List EdD} {a b : Int} (h : wayOk n l a b = false) : wayOk n l a b = false ∧ wayOut n l a b = [] ∧ wayCost n l a b = 0 := ⟨h, by unfold wayOut; rw [if_neg (by rw [h]; decide)], by unfold wayCost; rw [if_neg (by rw [h]; decide)]⟩

theorem own_oneW (W : World) (x : Int) : Own (W.alloc (.cells #[.int .i64 x] 3)) W.heap.size (.slice (some ⟨W.heap.size, 0, none⟩) 1 1) [x] :=
  ⟨by simp, .inr ⟨W.heap.size, 1, #[.int .i64 x], rfl, Nat.le_refl _, World.alloc_heap_new _ _, Nat.le_refl _, by decide, rfl, by simp⟩⟩
/-- On the way: it is at its end just where it has come to the end. -/
theorem way_facts {N : Nat} {l : List EdD} {b : Int} (hf : FitEd N l) (hb : 0 ≤ b ∧ b < N) (x : Int) (r : List Int) (hx : 0 ≤ x ∧ x < N) (hfar : lab (fars N l b) x < farC) (hway : IsWay l (fars N l b) (x :: r)) (ws : List Int) (hws : ws = x :: r) (k : Nat) (hk : k < ws.length) :
    (0 ≤ ws.getD k 0 ∧ ws.getD k 0 < (N : Int)) ∧ (ws.getD k 0 = b → k + 1 = ws.length) ∧ (ws.getD k 0 ≠ b → k + 1 < ws.length ∧ ∃ t, hopsD l (fars N l b) (ws.getD k 0) = ws.getD (k + 1) 0 :: t ∧ (lab (fars N l b) (ws.getD (k + 1) 0)).toNat < (lab (fars N l b) (ws.getD k 0)).toNat) := by
  have hin : 0 ≤ ws.getD k 0 ∧ ws.getD k 0 < (N : Int) := by
    rw [getD_atW ws k hk]
    exact way_fit hf r x hx.1 hx.2 hway _ (by rw [← hws]; exact List.getElem_mem hk)
  have hlow : lab (fars N l b) (ws.getD k 0) < farC := by
    rw [getD_atW ws k hk]
    have hm : ws[k] ∈ x :: r := by rw [← hws]; exact List.getElem_mem hk
    rcases List.mem_cons.1 hm with e | hm
    · rw [e]; exact hfar
    · have := way_down hf r x hway _ hm
      omega
  have hnone := hops_none hf hb _ hin.1 hin.2 hlow
  obtain ⟨s1, s2⟩ := way_step ws (by rw [hws]; exact hway) k hk
  refine ⟨hin, fun e => ?_, fun e => ?_⟩
  · refine Classical.byContradiction fun hne => ?_
    have := s1 (by omega)
    rw [hnone.2 e] at this
    cases this
  · have hk1 : k + 1 < ws.length := by
      refine Classical.byContradiction fun hne => ?_
      exact e (hnone.1 (s2 (by omega)))
    have hh := s1 hk1
    refine ⟨hk1, ?_⟩
    obtain ⟨c, hj, hc⟩ := way_hop hf hh
    have hfit := hj.fit hf
    have h0 := fars_nonneg hf hb _ hfit.2.1.1 hfit.2.1.2
    cases hd : hopsD l (fars N l b) (ws.getD k 0) with
    | nil => rw [hd] at hh; cases hh
    | cons y t =>
      rw [hd] at hh
      cases hh
      exact ⟨t, rfl, by omega⟩

end Go.Proofs.Ythlbmkefjjckaad
