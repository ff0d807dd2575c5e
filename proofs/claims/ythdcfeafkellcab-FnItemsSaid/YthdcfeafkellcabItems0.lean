/-
  Items as plain data: which are good, which are gone, which is better; the small functions of the program and of the model.
-/
import Derived.Test.YthdcfeafkellcabRowIt
import Derived.Test.YthdcfeafkellcabRound0
import Derived.Test.YthdcfeafkellcabBox4
namespace Go.Proofs.Ythdcfeafkellcab
open Go.RowKit
set_option linter.unusedVariables false

def goneI (x : ItD) : Bool := x.age == 0
def goodI (x : ItD) : Bool := decide (1 ≤ x.frm ∧ x.frm ≤ 1000) && seqB x.seq && decide (0 ≤ x.age ∧ x.age ≤ 20) && decide (x.text.size ≤ 20) && (decide (0 < x.age) || x.text.toList.isEmpty)
/-- What is known of one that is good. -/
theorem goodI_parts {x : ItD} (h : goodI x = true) : (1 ≤ x.frm ∧ x.frm ≤ 1000) ∧ seqB x.seq = true ∧ (0 ≤ x.age ∧ x.age ≤ 20) ∧ x.text.size ≤ 20 ∧ (0 < x.age ∨ x.text.toList.isEmpty = true) := by
  unfold goodI at h
  simp only [Bool.and_eq_true, Bool.or_eq_true, decide_eq_true_eq] at h
  exact ⟨h.1.1.1.1, h.1.1.1.2, h.1.1.2, h.1.2, h.2⟩

theorem isGone_any (W : World) (x : ItD) : Calls Try.prog 87 #[.agg #[.int .i64 x.frm, .int .i64 x.seq, .int .i64 x.age, .string x.text]] W fun e W' => e = .returned (.bool (goneI x)) ∧ Below W.heap.size W W' := by
  have HB : Hid (Below W.heap.size W (W.alloc (.cells #[.int .i64 x.frm, .int .i64 x.seq, .int .i64 x.age, .string x.text] 60))) := (Below.refl _ W).alloc (Nat.le_refl _) _
  have HE : Hid ((x.age == 0) = goneI x) := rfl
  go_enter Try.func87, Try.ntmps87
  go_wp2
  go_ret
  exact ⟨ret_bool HE.out, HB.out⟩

set_option maxHeartbeats 1000000 in
theorem implGoodItem_any (W : World) (x : ItD) (ht : x.text.size ≤ maxLen) : Calls Try.prog 43 #[.agg #[.int .i64 x.frm, .int .i64 x.seq, .int .i64 x.age, .string x.text]] W fun e W' => e = .returned (.bool (goodI x)) ∧ Below W.heap.size W W' := by
  have HB : Hid (Below W.heap.size W (W.alloc (.cells #[.int .i64 x.frm, .int .i64 x.seq, .int .i64 x.age, .string x.text] 60))) := (Below.refl _ W).alloc (Nat.le_refl _) _
  unfold maxLen at ht
  have no (h : ¬ ((1 ≤ x.frm ∧ x.frm ≤ 1000) ∧ seqB x.seq = true ∧ (0 ≤ x.age ∧ x.age ≤ 20) ∧ x.text.size ≤ 20 ∧ (0 < x.age ∨ x.text.toList.isEmpty = true))) : goodI x = false := by
    rw [← Bool.not_eq_true]
    exact fun e => h (goodI_parts e)
  by_cases h1 : x.frm < 1
  · have HE : Hid (false = goodI x) := (no (by omega)).symm
    clear no
    go_enter Try.func43, Try.ntmps43
    go_wp2
    go_ret
    exact ⟨ret_bool HE.out, HB.out⟩
  by_cases h2 : 1000 < x.frm
  · have HE : Hid (false = goodI x) := (no (by omega)).symm
    clear no
    go_enter Try.func43, Try.ntmps43
    go_wp2
    go_ret
    exact ⟨ret_bool HE.out, HB.out⟩
  cases hq : seqB x.seq with
  | false =>
    have HE : Hid (false = goodI x) := (no (by rw [hq]; simp)).symm
    have HQ : Hid (seqB x.seq = false) := hq
    clear no hq
    go_enter Try.func43, Try.ntmps43
    go_wp2_with fail
    refine (isSeq_any _ _).mono ?_
    rintro e w1 ⟨rfl, rfl⟩
    rw [HQ.out]
    go_wp2
    go_ret
    exact ⟨ret_bool HE.out, HB.out⟩
  | true =>
    have HQ : Hid (seqB x.seq = true) := hq
    by_cases h3 : x.age < 0
    · have HE : Hid (false = goodI x) := (no (by omega)).symm
      clear no hq
      go_enter Try.func43, Try.ntmps43
      go_wp2_with fail
      refine (isSeq_any _ _).mono ?_
      rintro e w1 ⟨rfl, rfl⟩
      rw [HQ.out]
      go_wp2
      go_ret
      exact ⟨ret_bool HE.out, HB.out⟩
    by_cases h4 : 20 < x.age
    · have HE : Hid (false = goodI x) := (no (by omega)).symm
      clear no hq
      go_enter Try.func43, Try.ntmps43
      go_wp2_with fail
      refine (isSeq_any _ _).mono ?_
      rintro e w1 ⟨rfl, rfl⟩
      rw [HQ.out]
      go_wp2
      go_ret
      exact ⟨ret_bool HE.out, HB.out⟩
    by_cases h5 : x.text.size ≤ 20
    · by_cases h6 : x.age = 0
      · have HG : Hid (goneI x = true) := by show _ = _; unfold goneI; rw [h6]; rfl
        have HE : Hid (x.text.toList.isEmpty = goodI x) := by
          show _ = _
          unfold goodI
          rw [hq, decide_eq_true (by omega : 1 ≤ x.frm ∧ x.frm ≤ 1000), decide_eq_true (by omega : 0 ≤ x.age ∧ x.age ≤ 20), decide_eq_true h5, decide_eq_false (by omega : ¬ 0 < x.age)]
          simp
        have h5' : (x.text.size : Int) ≤ 20 := by omega
        have HX : Hid (Bx4 (W.alloc (.cells #[.int .i64 x.frm, .int .i64 x.seq, .int .i64 x.age, .string x.text] 60)) W.heap.size (.int .i64 x.frm) (.int .i64 x.seq) (.int .i64 x.age) (.string x.text)) := Bx4.new _ _ _ _ _ _
        have HS : Hid (Since W.heap.size W (W.alloc (.cells #[.int .i64 x.frm, .int .i64 x.seq, .int .i64 x.age, .string x.text] 60))) := (Since.start W).step HB.out
        clear no hq h6 h5
        go_enter Try.func43, Try.ntmps43
        go_wp2_with fail
        refine (isSeq_any _ _).mono ?_
        rintro e w1 ⟨rfl, rfl⟩
        rw [HQ.out]
        go_wp2_with fail
        refine (isGone_any _ x).mono ?_
        rintro e w2 ⟨rfl, hb2⟩
        rw [HG.out]
        have HS2 : Hid (Since W.heap.size W w2) := HS.out.step hb2
        obtain ⟨x0, x1, x2, x3⟩ := (HX.out.below hb2).cells
        clear hb2
        go_wp2
        go_ret
        exact ⟨ret_bool HE.out, HS2.out.1⟩
      · have HG : Hid (goneI x = false) := by show _ = _; unfold goneI; simp [h6]
        have HE : Hid (true = goodI x) := by
          show _ = _
          unfold goodI
          rw [hq, decide_eq_true (by omega : 1 ≤ x.frm ∧ x.frm ≤ 1000), decide_eq_true (by omega : 0 ≤ x.age ∧ x.age ≤ 20), decide_eq_true h5, decide_eq_true (by omega : 0 < x.age)]
          simp
        have h5' : (x.text.size : Int) ≤ 20 := by omega
        have HX : Hid (Bx4 (W.alloc (.cells #[.int .i64 x.frm, .int .i64 x.seq, .int .i64 x.age, .string x.text] 60)) W.heap.size (.int .i64 x.frm) (.int .i64 x.seq) (.int .i64 x.age) (.string x.text)) := Bx4.new _ _ _ _ _ _
        have HS : Hid (Since W.heap.size W (W.alloc (.cells #[.int .i64 x.frm, .int .i64 x.seq, .int .i64 x.age, .string x.text] 60))) := (Since.start W).step HB.out
        clear no hq h6 h5
        go_enter Try.func43, Try.ntmps43
        go_wp2_with fail
        refine (isSeq_any _ _).mono ?_
        rintro e w1 ⟨rfl, rfl⟩
        rw [HQ.out]
        go_wp2_with fail
        refine (isGone_any _ x).mono ?_
        rintro e w2 ⟨rfl, hb2⟩
        rw [HG.out]
        have HS2 : Hid (Since W.heap.size W w2) := HS.out.step hb2
        obtain ⟨x0, x1, x2, x3⟩ := (HX.out.below hb2).cells
        clear hb2
        go_wp2
        go_ret
        exact ⟨ret_bool HE.out, HS2.out.1⟩
    · have HE : Hid (false = goodI x) := (no (by omega)).symm
      have h5' : ¬ (x.text.size : Int) ≤ 20 := by omega
      clear no hq h5
      go_enter Try.func43, Try.ntmps43
      go_wp2_with fail
      refine (isSeq_any _ _).mono ?_
      rintro e w1 ⟨rfl, rfl⟩
      rw [HQ.out]
      go_wp2
      go_ret
      exact ⟨ret_bool HE.out, HB.out⟩

set_option maxHeartbeats 1000000 in
theorem specGoodItem_any (W : World) (x : ItD) (ht : x.text.size ≤ maxLen) : Calls Try.prog 44 #[.agg #[.int .i64 x.frm, .int .i64 x.seq, .int .i64 x.age, .string x.text]] W fun e W' => e = .returned (.bool (goodI x)) ∧ Below W.heap.size W W' := by
  have HB : Hid (Below W.heap.size W (W.alloc (.cells #[.int .i64 x.frm, .int .i64 x.seq, .int .i64 x.age, .string x.text] 60))) := (Below.refl _ W).alloc (Nat.le_refl _) _
  unfold maxLen at ht
  unfold goodI
  cases d1 : decide (1 ≤ x.frm ∧ x.frm ≤ 1000) with
  | false =>
    have D1 : Hid (decide (1 ≤ x.frm ∧ x.frm ≤ 1000) = false) := d1
    clear d1
    go_enter Try.func44, Try.ntmps44
    go_wp2_with fail
    refine (l1In_any x.frm 1 1000 _).mono ?_
    rintro e w' ⟨rfl, rfl⟩
    rw [D1.out]
    go_wp2
    go_ret
    exact ⟨rfl, HB.out⟩
  | true =>
    have D1 : Hid (decide (1 ≤ x.frm ∧ x.frm ≤ 1000) = true) := d1
    clear d1
    cases d2 : seqB x.seq with
    | false =>
      have D2 : Hid (seqB x.seq = false) := d2
      clear d2
      go_enter Try.func44, Try.ntmps44
      go_wp2_with fail
      refine (l1In_any x.frm 1 1000 _).mono ?_
      rintro e w' ⟨rfl, rfl⟩
      rw [D1.out]
      go_wp2_with fail
      refine (l5Seq_any _ _).mono ?_
      rintro e w' ⟨rfl, rfl⟩
      rw [D2.out]
      go_wp2
      go_ret
      exact ⟨rfl, HB.out⟩
    | true =>
      have D2 : Hid (seqB x.seq = true) := d2
      clear d2
      cases d3 : decide (0 ≤ x.age ∧ x.age ≤ 20) with
      | false =>
        have D3 : Hid (decide (0 ≤ x.age ∧ x.age ≤ 20) = false) := d3
        clear d3
        go_enter Try.func44, Try.ntmps44
        go_wp2_with fail
        refine (l1In_any x.frm 1 1000 _).mono ?_
        rintro e w' ⟨rfl, rfl⟩
        rw [D1.out]
        go_wp2_with fail
        refine (l5Seq_any _ _).mono ?_
        rintro e w' ⟨rfl, rfl⟩
        rw [D2.out]
        go_wp2_with fail
        refine (l1In_any x.age 0 20 _).mono ?_
        rintro e w' ⟨rfl, rfl⟩
        rw [D3.out]
        go_wp2
        go_ret
        exact ⟨rfl, HB.out⟩
      | true =>
        have D3 : Hid (decide (0 ≤ x.age ∧ x.age ≤ 20) = true) := d3
        clear d3
        by_cases h5 : x.text.size ≤ 20
        · rw [decide_eq_true h5]
          have h5' : (x.text.size : Int) ≤ 20 := by omega
          clear h5
          by_cases h6 : 0 < x.age
          · rw [decide_eq_true h6]
            go_enter Try.func44, Try.ntmps44
            go_wp2_with fail
            refine (l1In_any x.frm 1 1000 _).mono ?_
            rintro e w' ⟨rfl, rfl⟩
            rw [D1.out]
            go_wp2_with fail
            refine (l5Seq_any _ _).mono ?_
            rintro e w' ⟨rfl, rfl⟩
            rw [D2.out]
            go_wp2_with fail
            refine (l1In_any x.age 0 20 _).mono ?_
            rintro e w' ⟨rfl, rfl⟩
            rw [D3.out]
            go_wp2
            go_ret
            exact ⟨rfl, HB.out⟩
          · rw [decide_eq_false h6]
            go_enter Try.func44, Try.ntmps44
            go_wp2_with fail
            refine (l1In_any x.frm 1 1000 _).mono ?_
            rintro e w' ⟨rfl, rfl⟩
            rw [D1.out]
            go_wp2_with fail
            refine (l5Seq_any _ _).mono ?_
            rintro e w' ⟨rfl, rfl⟩
            rw [D2.out]
            go_wp2_with fail
            refine (l1In_any x.age 0 20 _).mono ?_
            rintro e w' ⟨rfl, rfl⟩
            rw [D3.out]
            go_wp2
            go_ret
            exact ⟨ret_bool (by simp; intro h; omega), HB.out⟩
        · rw [decide_eq_false h5]
          have h5' : ¬ (x.text.size : Int) ≤ 20 := by omega
          clear h5
          go_enter Try.func44, Try.ntmps44
          go_wp2_with fail
          refine (l1In_any x.frm 1 1000 _).mono ?_
          rintro e w' ⟨rfl, rfl⟩
          rw [D1.out]
          go_wp2_with fail
          refine (l5Seq_any _ _).mono ?_
          rintro e w' ⟨rfl, rfl⟩
          rw [D2.out]
          go_wp2_with fail
          refine (l1In_any x.age 0 20 _).mono ?_
          rintro e w' ⟨rfl, rfl⟩
          rw [D3.out]
          go_wp2
          go_ret
          exact ⟨rfl, HB.out⟩

end Go.Proofs.Ythdcfeafkellcab
