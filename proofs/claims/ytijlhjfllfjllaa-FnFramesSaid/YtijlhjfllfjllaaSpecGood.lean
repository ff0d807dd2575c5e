/-
  What the model's 'GoodPart' answers.
-/
import Derived.Test.YtijlhjfllfjllaaBodies
namespace Go.Proofs.Ytijlhjfllfjllaa
open Go.RowKit

set_option maxRecDepth 100000 in
set_option maxHeartbeats 4000000 in
theorem specGood_any (W : World) (k : Int) (t : ByteArray) (v : Value) (zs : List Int) (h : Reads W v zs) (hl : zs.length ≤ 1048576) (ht : t.size ≤ 1048576) :
    Calls Try.prog 52 #[partV k t v] W fun e W' => e = .returned (.bool (goodB k t zs)) ∧ Below W.heap.size W W' := by
  have h' := h
  obtain ⟨a1, c1, rfl, hc1⟩ := h'
  have HR : Hid (∀ W1, Below W.heap.size W W1 → Reads W1 (.slice a1 zs.length c1) zs) := fun W1 hb => h.below hb
  clear h
  have HBA : Hid (∀ o, Below W.heap.size W (W.alloc o)) := fun o => (Below.refl _ W).alloc (Nat.le_refl _) o
  unfold partV
  by_cases k1 : k = 1
  · have HE : Hid (goodB k t zs = if zs.length = 0 then nameB t else false) := by show _ = _; unfold goodB; rw [if_pos k1]
    subst k1
    clear hc1
    go_enter Try.func52, Try.ntmps52
    go_wp2
    go_loop [3] (fun i => ∃ j : Nat, j ≤ t.size ∧ i = .int .i64 j ∧ Hid (∀ m, m < j → 97 ≤ byteAt t m ∧ byteAt t m ≤ 122)) (fun i => t.size - (intOf i).toNat)
    case atStart => exact ⟨0, Nat.zero_le _, rfl, fun j h => absurd h (Nat.not_lt_zero _)⟩
    case round =>
      obtain ⟨j, hj, rfl, HA⟩ := hrel
      by_cases hlt : j < t.size
      · have b0 := byteAt_bd t j
        have e0 := byteAt_eq t j hlt
        have hlt' : (j : Int) < (t.size : Int) := by omega
        by_cases h1 : byteAt t j < 97
        · have HF : Hid (goodB 1 t zs = false) := by
            show _ = _
            rw [HE.out]; unfold nameB; rw [lettersB_no t j hlt (by omega), Bool.and_false, Bool.and_false]; split <;> rfl
          have d1 : decide (byteAt t j < 97) = true := by simp; omega
          go_wp2
          go_ret
          exact ⟨ret_bool HF.out.symm, HBA.out _⟩
        · have d1 : decide (byteAt t j < 97) = false := by simp; omega
          by_cases h2 : 122 < byteAt t j
          · have HF : Hid (goodB 1 t zs = false) := by
              show _ = _
              rw [HE.out]; unfold nameB; rw [lettersB_no t j hlt (by omega), Bool.and_false, Bool.and_false]; split <;> rfl
            have d2 : decide (122 < byteAt t j) = true := by simp; omega
            go_wp2
            go_ret
            exact ⟨ret_bool HF.out.symm, HBA.out _⟩
          · have d2 : decide (122 < byteAt t j) = false := by simp; omega
            have HA1 : Hid (∀ m, m < j + 1 → 97 ≤ byteAt t m ∧ byteAt t m ≤ 122) := fun m h => by
              by_cases e : m = j
              · subst e; omega
              · exact HA.out m (by omega)
            go_wp2
            go_round
            case rel => exact ⟨j + 1, by omega, by go_num, HA1⟩
            case measure => simp [intOf]; omega
      · have HLt : Hid (lettersB t = true) := lettersB_yes t fun m hm => HA.out m (by omega)
        have hlt' : ¬ (j : Int) < (t.size : Int) := by omega
        by_cases hin : (1 : Int) ≤ (t.size : Int) ∧ (t.size : Int) ≤ 20
        · have d := decide_eq_true hin
          have HN : Hid (nameB t = true) := by
            show _ = _
            unfold nameB
            rw [HLt.out, decide_eq_true (by omega : 1 ≤ t.size), decide_eq_true (by omega : t.size ≤ 20)]; rfl
          by_cases hn0 : zs.length = 0
          · have HF : Hid (goodB 1 t zs = true) := by show _ = _; rw [HE.out, if_pos hn0, HN.out]
            have d2 : ((zs.length : Int) == 0) = true := beq_iff_eq.2 (by omega)
            clear hn0
            go_wp2_with fail
            refine (l1In_any _ 1 20 _).mono ?_
            rintro e w' ⟨rfl, rfl⟩
            rw [d]
            go_wp2
            go_ret
            exact ⟨ret_bool HF.out.symm, HBA.out _⟩
          · have HF : Hid (goodB 1 t zs = false) := by show _ = _; rw [HE.out, if_neg hn0]
            have d2 : ((zs.length : Int) == 0) = false := beq_eq_false_iff_ne.2 (by omega)
            clear hn0
            go_wp2_with fail
            refine (l1In_any _ 1 20 _).mono ?_
            rintro e w' ⟨rfl, rfl⟩
            rw [d]
            go_wp2
            go_ret
            exact ⟨ret_bool HF.out.symm, HBA.out _⟩
        · have d := decide_eq_false hin
          have HF : Hid (goodB 1 t zs = false) := by
            show _ = _
            rw [HE.out]
            have : nameB t = false := by
              unfold nameB
              by_cases h1 : 1 ≤ t.size
              · rw [decide_eq_false (by omega : ¬ t.size ≤ 20), Bool.false_and, Bool.and_false]
              · rw [decide_eq_false h1, Bool.false_and]
            rw [this]; split <;> rfl
          go_wp2_with fail
          refine (l1In_any _ 1 20 _).mono ?_
          rintro e w' ⟨rfl, rfl⟩
          rw [d]
          go_wp2
          go_ret
          exact ⟨ret_bool HF.out.symm, HBA.out _⟩
  · have d1 : (k == 1) = false := by simp [k1]
    by_cases k2 : k = 2 ∨ k = 3
    · clear hc1
      by_cases h0 : t.size = 0
      · by_cases h20 : zs.length ≤ 20
        · have HE : Hid (goodB k t zs = (allB zs 0 65535 && risesB zs)) := by
            show _ = _
            unfold goodB listB numsB; rw [if_neg k1, if_pos k2, if_pos h0, decide_eq_true h20, Bool.true_and]
          have d3 : decide ((zs.length : Int) ≤ 20) = true := by simp; omega
          obtain rfl := empty_of t h0
          rcases k2 with rfl | rfl
          all_goals
            go_enter Try.func52, Try.ntmps52
            go_wp2_with (go_at_call 80; refine (l1Rising_any _ _ zs 0 65535 (HR.out _ (HBA.out _)) (by omega)).mono ?_; rintro e w' ⟨rfl, rfl⟩)
            go_ret
            exact ⟨ret_bool HE.out.symm, HBA.out _⟩
        · have HE : Hid (goodB k t zs = false) := by
            show _ = _
            unfold goodB listB numsB; rw [if_neg k1, if_pos k2, if_pos h0, decide_eq_false h20, Bool.false_and, Bool.false_and]
          have d3 : decide ((zs.length : Int) ≤ 20) = false := by simp; omega
          obtain rfl := empty_of t h0
          rcases k2 with rfl | rfl
          all_goals
            go_enter Try.func52, Try.ntmps52
            go_wp2
            go_ret
            exact ⟨ret_bool HE.out.symm, HBA.out _⟩
      · have HE : Hid (goodB k t zs = false) := by show _ = _; unfold goodB; rw [if_neg k1, if_pos k2, if_neg h0]
        have hs := some_of t h0
        rcases k2 with rfl | rfl
        all_goals
          go_enter Try.func52, Try.ntmps52
          go_wp2
          go_ret
          exact ⟨ret_bool HE.out.symm, HBA.out _⟩
    · have d2 : (k == 2) = false := by simp; omega
      have d3 : (k == 3) = false := by simp; omega
      by_cases k4 : k = 4
      · by_cases h0 : t.size = 0
        · have HE : Hid (goodB k t zs = flagB zs) := by show _ = _; unfold goodB; rw [if_neg k1, if_neg k2, if_pos k4, if_pos h0]
          obtain rfl := empty_of t h0
          subst k4
          by_cases h1 : zs.length = 1
          · rcases hc1 with rfl | ⟨g1, o1, rfl, hg1, hc1⟩
            · cases h1
            · obtain ⟨z, rfl⟩ : ∃ z, zs = [z] := List.length_eq_one_iff.1 h1
              have c0 := hc1 0 (by simp)
              simp only [Nat.add_zero, List.getElem_cons_zero] at c0
              have c0' : ∀ o, (W.alloc o).cell? ⟨g1, o1, none⟩ = some (.int .i64 z) := fun o => ((HBA.out o).cell (p := ⟨g1, o1, none⟩) hg1).trans c0
              have HF : Hid (flagB [z] = (decide (0 ≤ z) && decide (z ≤ 1))) := by
                show _ = _
                rw [← Bool.decide_and]
                unfold flagB
                by_cases e0 : z = 0
                · subst e0; rfl
                · by_cases e1 : z = 1
                  · subst e1; rfl
                  · rw [decide_eq_false (by omega : ¬ (0 ≤ z ∧ z ≤ 1))]; simp [e0, e1]
              clear hc1 c0
              simp only [List.length_cons, List.length_nil, Nat.zero_add]
              go_enter Try.func52, Try.ntmps52
              go_wp2_with (go_at_call 50; refine (l1In_any _ 0 1 _).mono ?_; rintro e w' ⟨rfl, rfl⟩)
              go_ret
              exact ⟨ret_bool (HE.out.trans HF.out).symm, HBA.out _⟩
          · have d5 : ((zs.length : Int) == 1) = false := by simp; omega
            have HF : Hid (flagB zs = false) := by show _ = _; unfold flagB; rw [decide_eq_false h1, Bool.false_and]
            clear hc1 h1
            go_enter Try.func52, Try.ntmps52
            go_wp2
            go_ret
            exact ⟨ret_bool (HE.out.trans HF.out).symm, HBA.out _⟩
        · have HE : Hid (goodB k t zs = false) := by show _ = _; unfold goodB; rw [if_neg k1, if_neg k2, if_pos k4, if_neg h0]
          have hs := some_of t h0
          subst k4
          clear hc1
          go_enter Try.func52, Try.ntmps52
          go_wp2
          go_ret
          exact ⟨ret_bool HE.out.symm, HBA.out _⟩
      · have d4 : (k == 4) = false := by simp [k4]
        have HE : Hid (goodB k t zs = false) := by show _ = _; unfold goodB; rw [if_neg k1, if_neg k2, if_neg k4]
        clear k1 k2 k4 hc1
        go_enter Try.func52, Try.ntmps52
        go_wp2
        go_ret
        exact ⟨ret_bool HE.out.symm, HBA.out _⟩
end Go.Proofs.Ytijlhjfllfjllaa
