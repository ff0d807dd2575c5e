/-
  Lists of bridges as plain data: which are good, who is best of those that are up.
-/
import Derived.Test.YthdcfeafkellcabElect0
namespace Go.Proofs.Ythdcfeafkellcab

/-- Whether the k-th is good and behind the one ahead. -/
def okAt (l : List BrD) (k : Nat) : Bool :=
  match l[k]? with
  | none => true
  | some x => goodB x && (match k with
    | 0 => true
    | j + 1 => match l[j]? with
      | none => true
      | some y => decide (y.id < x.id))
def goodBrs (l : List BrD) : Bool := decide (1 ≤ l.length ∧ l.length ≤ 10) && (List.range l.length).all (okAt l)
theorem goodBrs_no (l : List BrD) (k : Nat) (hk : k < l.length) (h : okAt l k = false) : goodBrs l = false := by
  unfold goodBrs
  rw [Bool.and_eq_false_iff]
  right
  rw [Bool.eq_false_iff]
  intro e
  have := List.all_eq_true.1 e k (List.mem_range.2 hk)
  rw [h] at this
  cases this
theorem goodBrs_len (l : List BrD) (h : ¬ (1 ≤ l.length ∧ l.length ≤ 10)) : goodBrs l = false := by
  unfold goodBrs
  rw [decide_eq_false h]
  rfl
theorem goodBrs_yes (l : List BrD) (hl : 1 ≤ l.length ∧ l.length ≤ 10) (h : ∀ k, k < l.length → okAt l k = true) : goodBrs l = true := by
  unfold goodBrs
  rw [decide_eq_true hl, Bool.true_and, List.all_eq_true]
  exact fun k hk => h k (List.mem_range.1 hk)
theorem goodBrs_all (l : List BrD) (h : ∀ k, k < l.length → okAt l k = true) : goodBrs l = decide (1 ≤ l.length ∧ l.length ≤ 10) := by
  by_cases hl : 1 ≤ l.length ∧ l.length ≤ 10
  · rw [goodBrs_yes l hl h, decide_eq_true hl]
  · rw [goodBrs_len l hl, decide_eq_false hl]
theorem goodBrs_at (l : List BrD) (h : goodBrs l = true) : (1 ≤ l.length ∧ l.length ≤ 10) ∧ ∀ k, k < l.length → okAt l k = true := by
  unfold goodBrs at h
  simp only [Bool.and_eq_true, decide_eq_true_eq] at h
  exact ⟨h.1, fun k hk => List.all_eq_true.1 h.2 k (List.mem_range.2 hk)⟩
theorem okAt_zero (l : List BrD) (h : 0 < l.length) : okAt l 0 = goodB l[0] := by
  unfold okAt
  rw [List.getElem?_eq_getElem h]
  simp
theorem okAt_succ (l : List BrD) (j : Nat) (h : j + 1 < l.length) : okAt l (j + 1) = (goodB l[j + 1] && decide (l[j].id < l[j + 1].id)) := by
  unfold okAt
  rw [List.getElem?_eq_getElem h]
  simp only
  rw [List.getElem?_eq_getElem (show j < l.length by omega)]
theorem good_at (l : List BrD) (h : goodBrs l = true) (k : Nat) (hk : k < l.length) : goodB l[k] = true := by
  have := (goodBrs_at l h).2 k hk
  cases k with
  | zero => rwa [okAt_zero l hk] at this
  | succ j => rw [okAt_succ l j hk] at this; simp only [Bool.and_eq_true] at this; exact this.1
theorem good_next (l : List BrD) (h : goodBrs l = true) (j : Nat) (hj : j + 1 < l.length) : l[j].id < l[j + 1].id := by
  have := (goodBrs_at l h).2 (j + 1) hj
  rw [okAt_succ l j hj] at this
  simp only [Bool.and_eq_true, decide_eq_true_eq] at this
  exact this.2
theorem good_rise (l : List BrD) (h : goodBrs l = true) : ∀ (i j : Nat) (_ : i < j) (hj : j < l.length), (l[i]'(by omega)).id < l[j].id
  | i, j + 1, hij, hj => by
    have hn := good_next l h j hj
    by_cases e : i = j
    · subst e; exact hn
    · have := good_rise l h i j (by omega) (by omega)
      omega
theorem goodB_id (x : BrD) (h : goodB x = true) : 1 ≤ x.id ∧ x.id ≤ 1000 ∧ 0 ≤ x.rank ∧ x.rank ≤ 127 := by
  unfold goodB at h
  simp only [Bool.and_eq_true, decide_eq_true_eq] at h
  omega

/-- The best of those that are up. -/
def bestStep (f : BrD → BrD → Bool) (o : Option BrD) (x : BrD) : Option BrD :=
  if x.up then (match o with
    | none => some x
    | some y => if f x y then some x else some y) else o
def bestOf (f : BrD → BrD → Bool) (l : List BrD) : Option BrD := l.foldl (bestStep f) none
def bestId (o : Option BrD) : Int := match o with
  | none => 0
  | some x => x.id
theorem bestOf_app (f : BrD → BrD → Bool) (l : List BrD) (x : BrD) : bestOf f (l ++ [x]) = bestStep f (bestOf f l) x := by
  unfold bestOf
  rw [List.foldl_append]
  rfl
theorem best_next (f : BrD → BrD → Bool) (l : List BrD) (k : Nat) (h : k < l.length) : bestOf f (l.take (k + 1)) = bestStep f (bestOf f (l.take k)) l[k] := by
  rw [List.take_succ_eq_append_getElem h, bestOf_app]
theorem bestOf_mem (f : BrD → BrD → Bool) (l : List BrD) : ∀ n, n = l.length → ∀ x, bestOf f l = some x → x ∈ l ∧ x.up = true := by
  intro n
  induction n generalizing l with
  | zero =>
    intro hn x hx
    obtain rfl : l = [] := List.eq_nil_of_length_eq_zero hn.symm
    cases hx
  | succ n ih =>
    intro hn x hx
    rcases List.eq_nil_or_concat l with rfl | ⟨l', y, rfl⟩
    · cases hx
    · simp only [List.concat_eq_append] at hx hn ⊢
      rw [bestOf_app] at hx
      have ih' := ih l' (by simp at hn; omega)
      unfold bestStep at hx
      by_cases hu : y.up = true
      · rw [if_pos hu] at hx
        cases hb : bestOf f l' with
        | none =>
          rw [hb] at hx
          simp only [Option.some.injEq] at hx
          subst hx
          exact ⟨by simp, hu⟩
        | some z =>
          rw [hb] at hx
          simp only at hx
          split at hx
          · simp only [Option.some.injEq] at hx
            subst hx
            exact ⟨by simp, hu⟩
          · simp only [Option.some.injEq] at hx
            subst hx
            have := ih' z hb
            exact ⟨by simp [this.1], this.2⟩
      · rw [if_neg hu] at hx
        have := ih' x hx
        exact ⟨by simp [this.1], this.2⟩
end Go.Proofs.Ythdcfeafkellcab
