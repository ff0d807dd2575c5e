/-
  Groups as data: how many there are, how many edges join two; how many neighbours all have together.
-/
import Derived.Test.YteohmclohomblacGrBwM
import Derived.Test.YteohmclohomblacGrNearS
namespace Go.Proofs.Yteohmclohomblac
set_option linter.unusedVariables false

theorem sum_cast {α : Type} (f : α → Nat) : ∀ l : List α, (l.map fun x => ((f x : Nat) : Int)).sum = (((l.map f).sum : Nat) : Int)
  | [] => rfl
  | x :: r => by simp only [List.map_cons, List.sum_cons, sum_cast f r]; omega
/-- Each with its neighbours. -/
def pairsTo (l : List EdD) (n : Nat) : Nat → List (Int × Int)
  | 0 => []
  | k + 1 => pairsTo l n k ++ (nearTo l (k : Int) n).map fun s => ((k : Int), s)
theorem pairsTo_len (l : List EdD) (n : Nat) : ∀ k, (((pairsTo l n k).length : Nat) : Int) = (degTo l n k).sum
  | 0 => rfl
  | k + 1 => by
    rw [degTo_succ, List.sum_append, ← pairsTo_len l n k, pairsTo, List.length_append, List.length_map]
    simp
theorem mem_pairsTo (l : List EdD) (n : Nat) (a s : Int) : ∀ k, (a, s) ∈ pairsTo l n k ↔ (0 ≤ a ∧ a < k) ∧ s ∈ nearTo l a n
  | 0 => by simp [pairsTo]; omega
  | k + 1 => by
    rw [pairsTo, List.mem_append, mem_pairsTo l n a s k, List.mem_map]
    constructor
    · rintro (⟨h1, h2⟩ | ⟨t, h1, h2⟩)
      · exact ⟨by omega, h2⟩
      · simp only [Prod.mk.injEq] at h2
        obtain ⟨rfl, rfl⟩ := h2
        exact ⟨by omega, h1⟩
    · rintro ⟨h1, h2⟩
      by_cases e : a = (k : Int)
      · subst e
        exact .inr ⟨s, h2, rfl⟩
      · exact .inl ⟨by omega, h2⟩
theorem pairsTo_nodup (l : List EdD) (n : Nat) : ∀ k, (pairsTo l n k).Pairwise fun p q => ¬ p = q
  | 0 => List.Pairwise.nil
  | k + 1 => by
    rw [pairsTo, List.pairwise_append]
    refine ⟨pairsTo_nodup l n k, ?_, fun x hx y hy => ?_⟩
    · rw [List.pairwise_map]
      exact (nearTo_rise l (k : Int) n).imp fun h e => by simp only [Prod.mk.injEq] at e; omega
    · obtain ⟨a, s⟩ := x
      obtain ⟨t, -, rfl⟩ := List.mem_map.1 hy
      have := ((mem_pairsTo l n a s k).1 hx).1
      simp only [Prod.mk.injEq]
      omega
/-- All have as many neighbours as there are ends. -/
theorem deg_sum {n : Int} {l : List EdD} (h : goodEd n l = true) : (degTo l n.toNat n.toNat).sum = 2 * (l.length : Int) := by
  obtain ⟨hn, h0, hf, hr⟩ := goodEd_true h
  have hsub : ∀ p : Int × Int, p ∈ pairsTo l n.toNat n.toNat ↔ p ∈ ends2 l := fun ⟨a, s⟩ => by
    rw [mem_pairsTo, mem_nearTo hf, mem_ends2]
    constructor
    · rintro ⟨-, e, he, hh⟩
      refine ⟨e, he, hh.imp (fun h => ?_) fun h => ?_⟩
      · rw [h.1, h.2]
      · rw [h.1, h.2]
    · rintro ⟨e, he, hh⟩
      have hef := hf e he
      simp only [Prod.mk.injEq] at hh
      exact ⟨by omega, e, he, by omega⟩
  have h1 := len_le_of_sub _ _ (pairsTo_nodup l n.toNat n.toNat) fun p hp => (hsub p).1 hp
  have h2 := len_le_of_sub _ _ (ends2_nodup l hr fun e he => (hf e he).2.2.1) fun p hp => (hsub p).2 hp
  rw [← pairsTo_len]
  rw [ends2_len] at h1 h2
  omega

/-- How many of the first are their own label. -/
def rootsTo (g : List Int) : Nat → Nat
  | 0 => 0
  | k + 1 => rootsTo g k + if lab g (k : Int) = (k : Int) then 1 else 0
theorem rootsTo_le (g : List Int) : ∀ k, rootsTo g k ≤ k
  | 0 => Nat.le_refl _
  | k + 1 => by have := rootsTo_le g k; rw [rootsTo]; split <;> omega
theorem rootsTo_iota (n : Nat) : ∀ k, k ≤ n → rootsTo (iota n) k = k
  | 0, _ => rfl
  | k + 1, h => by rw [rootsTo, rootsTo_iota n k (by omega), lab_iota n (k : Int) (by omega) (by omega), if_pos rfl]
theorem rootsTo_drop (g g' : List Int) (t : Nat) (ht : lab g (t : Int) = (t : Int)) : ∀ k, (∀ j : Nat, j < k → (lab g' (j : Int) = (j : Int) ↔ lab g (j : Int) = (j : Int) ∧ j ≠ t)) → rootsTo g k = rootsTo g' k + if t < k then 1 else 0
  | 0, _ => rfl
  | k + 1, h => by
    have ih := rootsTo_drop g g' t ht k fun j hj => h j (by omega)
    have hk := h k (by omega)
    rw [rootsTo, rootsTo, ih]
    by_cases e : k = t
    · subst e
      have h2 : ¬ lab g' (k : Int) = (k : Int) := fun h2 => (hk.1 h2).2 rfl
      rw [if_pos ht, if_neg h2, if_neg (Nat.lt_irrefl k), if_pos (Nat.lt_succ_self k)]
    · by_cases h3 : lab g (k : Int) = (k : Int)
      · rw [if_pos h3, if_pos (hk.2 ⟨h3, e⟩)]
        by_cases h4 : t < k
        · rw [if_pos h4, if_pos (by omega)]
        · rw [if_neg h4, if_neg (by omega)]
      · rw [if_neg h3, if_neg fun h2 => h3 (hk.1 h2).1]
        by_cases h4 : t < k
        · rw [if_pos h4, if_pos (by omega)]
        · rw [if_neg h4, if_neg (by omega)]
/-- How many of the first edges join two groups. -/
def joinsTo (n : Int) (l : List EdD) : Nat → Nat
  | 0 => 0
  | k + 1 => joinsTo n l k + if lab (grp n (l.take k)) (l.getD k ed0).A = lab (grp n (l.take k)) (l.getD k ed0).B then 0 else 1
theorem joinsTo_le (n : Int) (l : List EdD) : ∀ k, joinsTo n l k ≤ k
  | 0 => Nat.le_refl _
  | k + 1 => by have := joinsTo_le n l k; rw [joinsTo]; split <;> omega
theorem roots_join {n : Int} {l : List EdD} {g : List Int} (hg : IsGrp n l g) (a b : Int) (ha : 0 ≤ a ∧ a < n) (hb : 0 ≤ b ∧ b < n) : rootsTo g n.toNat = rootsTo (joinG g a b) n.toNat + if lab g a = lab g b then 0 else 1 := by
  have hlen := hg.1
  have hm : ∀ i, 0 ≤ i → i < n → lab (joinG g a b) i = if lab g i = max (lab g a) (lab g b) then min (lab g a) (lab g b) else lab g i := fun i h0 hi => lab_map g _ i h0 (by omega)
  have h1 := hg.2.2.1 a ha.1 ha.2
  have h2 := hg.2.2.1 b hb.1 hb.2
  have r1 := hg.root a ha.1 ha.2
  have r2 := hg.root b hb.1 hb.2
  by_cases e : lab g a = lab g b
  · rw [if_pos e]
    have : joinG g a b = g := by
      unfold joinG relab
      rw [e, Int.min_self, Int.max_self]
      conv => rhs; rw [← List.map_id g]
      refine List.map_congr_left fun x _ => ?_
      show (if x = lab g b then lab g b else x) = x
      split
      · next h => exact h.symm
      · rfl
    rw [this]
    rfl
  · rw [if_neg e]
    obtain ⟨t, ht⟩ : ∃ t : Nat, max (lab g a) (lab g b) = (t : Int) := ⟨(max (lab g a) (lab g b)).toNat, by omega⟩
    have htr : lab g (t : Int) = (t : Int) := by
      rcases Int.le_total (lab g a) (lab g b) with h | h
      · rw [Int.max_eq_right h] at ht; rw [← ht, r2]
      · rw [Int.max_eq_left h] at ht; rw [← ht, r1]
    have htn : t < n.toNat := by omega
    rw [rootsTo_drop g (joinG g a b) t htr n.toNat fun j hj => ?_, if_pos htn]
    have hj3 := hg.2.2.1 (j : Int) (by omega) (by omega)
    rw [hm (j : Int) (by omega) (by omega), ht]
    split
    · next h => omega
    · next h => omega
theorem roots_joins {n : Int} {l : List EdD} (hn : 0 ≤ n) (hf : FitEd n l) : ∀ k, k ≤ l.length → rootsTo (grp n (l.take k)) n.toNat + joinsTo n l k = n.toNat
  | 0, _ => by
    rw [List.take_zero]
    show rootsTo (iota n.toNat) n.toNat + 0 = _
    rw [rootsTo_iota _ _ (Nat.le_refl _)]
    rfl
  | k + 1, hk => by
    have ih := roots_joins hn hf k (by omega)
    have hft : FitEd n (l.take k) := fun x hx => hf x (List.mem_of_mem_take hx)
    have hx := hf l[k] (List.getElem_mem (by omega))
    have hj := roots_join (isGrp_grp n (l.take k) hft) l[k].A l[k].B hx.1 hx.2.1
    rw [List.take_succ_eq_append_getElem (show k < l.length by omega), grp_snoc, joinsTo, getEd l k (by omega)]
    omega
/-- One group alone has one that is its own label. -/
theorem one_roots {n : Int} {l : List EdD} {g : List Int} (hn : 1 ≤ n) (hg : IsGrp n l g) : allB g 0 0 = decide (rootsTo g n.toNat = 1) := by
  have h00 := hg.2.2.1 0 (by omega) (by omega)
  have hz : lab g 0 = 0 := by omega
  have key : ∀ k, 1 ≤ k → (rootsTo g k = 1 ↔ ∀ j : Nat, 0 < j → j < k → ¬ lab g (j : Int) = (j : Int)) := by
    intro k
    induction k with
    | zero => intro h; omega
    | succ k ih =>
      intro _
      by_cases h0 : k = 0
      · subst h0
        have : rootsTo g 1 = 1 := by
          rw [rootsTo, rootsTo, if_pos (by simpa using hz)]
        exact ⟨fun _ j h1 h2 => by omega, fun _ => this⟩
      · have ih := ih (by omega)
        have hpos : 1 ≤ rootsTo g k := by
          have : ∀ m, 1 ≤ m → 1 ≤ rootsTo g m := by
            intro m
            induction m with
            | zero => intro h; omega
            | succ m ihm =>
              intro _
              rw [rootsTo]
              by_cases hm : m = 0
              · subst hm; rw [if_pos (by simpa using hz)]; omega
              · have := ihm (by omega); omega
          exact this k (by omega)
        rw [rootsTo]
        constructor
        · intro h j h1 h2
          by_cases e : j = k
          · subst e
            intro h3
            rw [if_pos h3] at h
            omega
          · split at h
            · omega
            · exact ih.1 (by omega) j h1 (by omega)
        · intro h
          rw [if_neg (h k (by omega) (by omega)), ih.2 fun j h1 h2 => h j h1 (by omega)]
  have hlen := hg.1
  by_cases h : rootsTo g n.toNat = 1
  · rw [decide_eq_true h]
    refine allB_yes g 0 0 fun j hj => ?_
    have hjn : (j : Int) < n := by omega
    have hb := hg.2.2.1 (j : Int) (by omega) hjn
    have hr := hg.root (j : Int) (by omega) hjn
    rw [lab_get g j hj] at hb hr
    by_cases e : g[j] = 0
    · omega
    · have := (key n.toNat (by omega)).1 h g[j].toNat (by omega) (by omega)
      rw [show ((g[j].toNat : Nat) : Int) = g[j] by omega] at this
      exact absurd hr this
  · rw [decide_eq_false h]
    obtain ⟨j, hj⟩ : ∃ j : Nat, 0 < j ∧ j < n.toNat ∧ lab g (j : Int) = (j : Int) := by
      refine Classical.byContradiction fun hno => h ((key n.toNat (by omega)).2 fun j h1 h2 h3 => hno ⟨j, h1, h2, h3⟩)
    obtain ⟨h1, h2, h3⟩ := hj
    rw [lab_get g j (by omega)] at h3
    exact allB_no g 0 0 j (by omega) (.inr (by omega))
theorem sumI_bound8 (zs : List Int) (h : ∀ x ∈ zs, 0 ≤ x ∧ x ≤ 12) : 0 ≤ zs.sum ∧ zs.sum ≤ 12 * zs.length := by
  induction zs with
  | nil => simp
  | cons x r ih =>
    have h1 := h x (List.mem_cons_self ..)
    have h2 := ih fun y hy => h y (List.mem_cons_of_mem _ hy)
    simp only [List.sum_cons, List.length_cons]
    omega
theorem degTo_fit (l : List EdD) (n k : Nat) (hn : n ≤ 12) : ∀ x ∈ degTo l n k, 0 ≤ x ∧ x ≤ 12 := fun x hx => by
  obtain ⟨s, -, rfl⟩ := List.mem_map.1 hx
  have := nearTo_len l s n
  omega
end Go.Proofs.Yteohmclohomblac
