/-
  Plain facts of the law FnItems.
-/
import Derived.Test.YthdcfeafkellcabItemsC
import Derived.Test.YthdcfeafkellcabItemsA
import Derived.Test.YthdcfeafkellcabNewA
namespace Go.Proofs.Ythdcfeafkellcab
set_option linter.unusedVariables false

theorem newer_asym {a b : Int} (h : newerB a b = true) : newerB b a = false := by
  unfold newerB stepsZ at h ⊢
  have h1 := of_decide_eq_true h
  exact decide_eq_false (by omega)
theorem better_asym {x y : ItD} (h : betterI x y = true) : betterI y x = false := by
  unfold betterI at h ⊢
  by_cases e : x.seq = y.seq
  · rw [if_pos e] at h
    rw [if_pos e.symm]
    cases hx : goneI x <;> cases hy : goneI y <;> rw [hx, hy] at h <;> first | rfl | cases h
  · rw [if_neg e] at h
    rw [if_neg (fun h => e h.symm)]
    exact newer_asym h
theorem sameT_symm (x y : ItD) : sameT x y = sameT y x := by
  unfold sameT
  rw [Bool.eq_iff_iff, beq_iff_eq, beq_iff_eq]
  exact ⟨Eq.symm, Eq.symm⟩
/-- Of two items the same one is better from either side. -/
theorem better_sides (x y : ItD) : (betterN x y = 1 ∧ betterN y x = 2) ∨ (betterN x y = 2 ∧ betterN y x = 1) ∨ (betterN x y = 0 ∧ betterN y x = 0) ∨ (betterN x y = 3 ∧ betterN y x = 3) := by
  cases h1 : betterI x y with
  | true =>
    have h2 := better_asym h1
    refine .inl ⟨by unfold betterN; rw [h1]; rfl, by unfold betterN; rw [h2, h1]; rfl⟩
  | false =>
    cases h2 : betterI y x with
    | true => exact .inr (.inl ⟨by unfold betterN; rw [h1, h2]; rfl, by unfold betterN; rw [h2]; rfl⟩)
    | false =>
      by_cases e : x.seq = y.seq ∧ sameT x y = true
      · have e2 : y.seq = x.seq ∧ sameT y x = true := ⟨e.1.symm, by rw [← sameT_symm]; exact e.2⟩
        exact .inr (.inr (.inl ⟨by unfold betterN; rw [h1, h2, if_pos e]; rfl, by unfold betterN; rw [h1, h2, if_pos e2]; rfl⟩))
      · have e2 : ¬ (y.seq = x.seq ∧ sameT y x = true) := fun h => e ⟨h.1.symm, by rw [sameT_symm]; exact h.2⟩
        exact .inr (.inr (.inr ⟨by unfold betterN; rw [h1, h2, if_neg e]; rfl, by unfold betterN; rw [h1, h2, if_neg e2]; rfl⟩))
theorem may_symm (x y : ItD) : mayBetter x y = mayBetter y x := by
  unfold mayBetter
  rw [Bool.eq_iff_iff]
  simp only [Bool.and_eq_true, decide_eq_true_eq]
  exact ⟨fun h => ⟨⟨h.1.2, h.1.1⟩, h.2.symm⟩, fun h => ⟨⟨h.1.2, h.1.1⟩, h.2.symm⟩⟩
theorem out_sides (x y : ItD) (h : mayBetter x y = true) : (outBetter x y = 1 ∧ outBetter y x = 2) ∨ (outBetter x y = 2 ∧ outBetter y x = 1) ∨ (outBetter x y = 0 ∧ outBetter y x = 0) ∨ (outBetter x y = 3 ∧ outBetter y x = 3) := by
  have h2 : mayBetter y x = true := by rw [← may_symm]; exact h
  have e1 : outBetter x y = betterN x y := by unfold outBetter; rw [h]; rfl
  have e2 : outBetter y x = betterN y x := by unfold outBetter; rw [h2]; rfl
  rw [e1, e2]
  exact better_sides x y
/-- None of the list is better than the newest. -/
theorem newest_best (l : List ItD) (h : mayNew l = true) : (∀ y ∈ l, mayBetter y (outNew l) = true ∧ ¬ outBetter y (outNew l) = 1) ∧ outNew l ∈ l := by
  unfold mayNew at h
  cases hn : newestI l with
  | none => rw [hn] at h; cases h
  | some x =>
    have e : outNew l = x := (newest_some hn).1
    rw [e]
    unfold newestI at hn
    split at hn
    · next hc =>
      have hx := List.mem_of_find?_eq_some hn
      have ho := List.find?_some hn
      have hall := List.all_eq_true.1 hc.2
      refine ⟨fun y hy => ?_, hx⟩
      have gy := hall y hy
      have gx := hall x hx
      unfold oneB at gy gx
      simp only [Bool.and_eq_true, decide_eq_true_eq] at gy gx
      have hm : mayBetter y x = true := by unfold mayBetter; rw [gy.1, gx.1, decide_eq_true (gy.2.trans gx.2.symm)]; rfl
      refine ⟨hm, fun h1 => ?_⟩
      have e1 : outBetter y x = betterN y x := by unfold outBetter; rw [hm]; rfl
      rw [e1] at h1
      have hb : betterI y x = true := by
        cases hb : betterI y x with
        | true => rfl
        | false =>
          unfold betterN at h1
          rw [hb] at h1
          revert h1
          cases betterI x y <;> simp
          split <;> simp
      have : outdoneB l x = true := by unfold outdoneB; rw [List.any_eq_true]; exact ⟨y, hy, hb⟩
      rw [this] at ho
      cases ho
    · cases hn
theorem empty_bare : ByteArray.empty.toList.isEmpty = true := by rw [ByteArray.toList_eq]; rfl
theorem ageI_good {x : ItD} {b : Int} (h : goodI x = true) (hb : 0 ≤ b) : goodI (ageI x b) = true := by
  obtain ⟨h1, h2, h3, h4, h5⟩ := goodI_parts h
  unfold ageI
  split
  · unfold goodI
    rw [decide_eq_true h1, h2, decide_eq_true (by show (0 : Int) ≤ 0 ∧ (0 : Int) ≤ 20; omega), decide_eq_true (by show ByteArray.empty.size ≤ 20; decide)]
    show (true && true && true && true && (decide ((0 : Int) < 0) || ByteArray.empty.toList.isEmpty)) = true
    rw [empty_bare]
    simp
  · next hn =>
    unfold goodI
    rw [decide_eq_true h1, h2, decide_eq_true (by show 0 ≤ x.age - b ∧ x.age - b ≤ 20; omega), decide_eq_true h4]
    show (true && true && true && true && (decide (0 < x.age - b) || x.text.toList.isEmpty)) = true
    rw [decide_eq_true (by omega)]
    rfl
theorem ageI_two (x : ItD) (b c : Int) (hx : 0 ≤ x.age) (hb : 0 ≤ b) (hc : 0 ≤ c) : ageI (ageI x b) c = ageI x (b + c) := by
  unfold ageI
  by_cases h1 : x.age ≤ b
  · rw [if_pos h1, if_pos (show (0 : Int) ≤ c from hc), if_pos (by omega)]
  · rw [if_neg h1]
    by_cases h2 : x.age ≤ b + c
    · rw [if_pos h2, if_pos (show x.age - b ≤ c by omega)]
    · rw [if_neg h2, if_neg (show ¬ x.age - b ≤ c by omega)]
      show (⟨x.frm, x.seq, x.age - b - c, x.text⟩ : ItD) = ⟨x.frm, x.seq, x.age - (b + c), x.text⟩
      rw [Int.sub_sub]
/-- An item that grows old in two steps. -/
theorem age_halves (z : ItD) (b h : Int) (hm : mayAge z b = true) (hh : h = b / 2) : mayAge z h = true ∧ mayAge (outAge z h) (b - h) = true ∧ outAge (outAge z h) (b - h) = outAge z b ∧ goodI (outAge z b) = true ∧ (outAge z h).text.size ≤ 20 ∧ (outAge z b).text.size ≤ 20 := by
  have hm2 := hm
  unfold mayAge at hm2
  simp only [Bool.and_eq_true, decide_eq_true_eq] at hm2
  obtain ⟨hg, hb⟩ := hm2
  have ha := (goodI_parts hg).2.2.1
  have m1 : mayAge z h = true := by unfold mayAge; rw [hg, decide_eq_true (by omega)]; rfl
  have e1 : outAge z h = ageI z h := by unfold outAge; rw [m1]; rfl
  have e2 : outAge z b = ageI z b := by unfold outAge; rw [hm]; rfl
  have g1 : goodI (ageI z h) = true := ageI_good hg (by omega)
  have g2 : goodI (ageI z b) = true := ageI_good hg (by omega)
  have m2 : mayAge (ageI z h) (b - h) = true := by unfold mayAge; rw [g1, decide_eq_true (by omega)]; rfl
  have e3 : outAge (ageI z h) (b - h) = ageI (ageI z h) (b - h) := by unfold outAge; rw [m2]; rfl
  rw [e1, e2]
  refine ⟨m1, m2, ?_, g2, (goodI_parts g1).2.2.2.1, (goodI_parts g2).2.2.2.1⟩
  rw [e3, ageI_two z h (b - h) ha.1 (by omega) (by omega)]
  congr 1
  omega
end Go.Proofs.Ythdcfeafkellcab
