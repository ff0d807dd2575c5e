/-
  'Better' of the program and of the model.
-/
import Derived.Test.YthdcfeafkellcabItemsB
namespace Go.Proofs.Ythdcfeafkellcab
open Go.RowKit
set_option linter.unusedVariables false

def mayBetter (x y : ItD) : Bool := goodI x && goodI y && decide (x.frm = y.frm)
def outBetter (x y : ItD) : Int := if mayBetter x y then betterN x y else 0

set_option maxHeartbeats 2000000 in
theorem specBetter_any (W : World) (x y : ItD) (hx : x.text.size ≤ maxLen) (hy : y.text.size ≤ maxLen) : Calls Try.prog 42 #[.agg #[.int .i64 x.frm, .int .i64 x.seq, .int .i64 x.age, .string x.text], .agg #[.int .i64 y.frm, .int .i64 y.seq, .int .i64 y.age, .string y.text]] W fun e W' => e = .returned (.tuple #[.int .i64 (outBetter x y), .bool (mayBetter x y)]) ∧ Below W.heap.size W W' := by
  have HX : Hid (Bx4 ((W.alloc (.cells #[.int .i64 x.frm, .int .i64 x.seq, .int .i64 x.age, .string x.text] 60)).alloc (.cells #[.int .i64 y.frm, .int .i64 y.seq, .int .i64 y.age, .string y.text] 60)) W.heap.size (.int .i64 x.frm) (.int .i64 x.seq) (.int .i64 x.age) (.string x.text)) := (Bx4.new _ _ _ _ _ _).below ((Below.refl _ _).alloc (Nat.le_refl _) _)
  have HY : Hid (Bx4 ((W.alloc (.cells #[.int .i64 x.frm, .int .i64 x.seq, .int .i64 x.age, .string x.text] 60)).alloc (.cells #[.int .i64 y.frm, .int .i64 y.seq, .int .i64 y.age, .string y.text] 60)) (W.heap.size + 1) (.int .i64 y.frm) (.int .i64 y.seq) (.int .i64 y.age) (.string y.text)) := by
    have := Bx4.new (W.alloc (.cells #[.int .i64 x.frm, .int .i64 x.seq, .int .i64 x.age, .string x.text] 60)) (.int .i64 y.frm) (.int .i64 y.seq) (.int .i64 y.age) (.string y.text) 60
    exact (show Bx4 _ _ _ _ _ _ by simpa using this)
  have HB : Hid (Since W.heap.size W ((W.alloc (.cells #[.int .i64 x.frm, .int .i64 x.seq, .int .i64 x.age, .string x.text] 60)).alloc (.cells #[.int .i64 y.frm, .int .i64 y.seq, .int .i64 y.age, .string y.text] 60))) := (Since.start W).step (alloc2_below _ _ _)
  cases g1 : goodI x with
  | false =>
    have HM : Hid (mayBetter x y = false) := by show _ = _; unfold mayBetter; rw [g1]; rfl
    have HO : Hid (outBetter x y = 0) := by show _ = _; unfold outBetter; rw [HM.out]; rfl
    rw [HM.out, HO.out]
    have G1 : Hid (goodI x = false) := g1
    clear g1
    go_enter Try.func42, Try.ntmps42
    go_wp2_with fail
    refine (specGoodItem_any _ x hx).mono ?_
    rintro e w1 ⟨rfl, hb1⟩
    rw [G1.out]
    have HB1 : Hid (Since W.heap.size W w1) := HB.out.step hb1
    have HX1 : Hid (Bx4 w1 W.heap.size (.int .i64 x.frm) (.int .i64 x.seq) (.int .i64 x.age) (.string x.text)) := HX.out.below hb1
    have HY1 : Hid (Bx4 w1 (W.heap.size + 1) (.int .i64 y.frm) (.int .i64 y.seq) (.int .i64 y.age) (.string y.text)) := HY.out.below hb1
    obtain ⟨a0, a1, a2, a3⟩ := HX1.out.cells
    obtain ⟨b0, b1, b2, b3⟩ := HY1.out.cells
    clear hb1
    go_wp2
    refine bodyPost_ret (results_tmp2 rfl _ _ _) rfl ?_
    exact ⟨rfl, HB1.out.1⟩
  | true =>
    have G1 : Hid (goodI x = true) := g1
    have S1 : Hid (seqB x.seq = true) := (goodI_parts g1).2.1
    clear g1
    cases g2 : goodI y with
    | false =>
      have HM : Hid (mayBetter x y = false) := by show _ = _; unfold mayBetter; rw [G1.out, g2]; rfl
      have HO : Hid (outBetter x y = 0) := by show _ = _; unfold outBetter; rw [HM.out]; rfl
      rw [HM.out, HO.out]
      have G2 : Hid (goodI y = false) := g2
      clear g2
      go_enter Try.func42, Try.ntmps42
      go_wp2_with fail
      refine (specGoodItem_any _ x hx).mono ?_
      rintro e w1 ⟨rfl, hb1⟩
      rw [G1.out]
      have HB1 : Hid (Since W.heap.size W w1) := HB.out.step hb1
      have HX1 : Hid (Bx4 w1 W.heap.size (.int .i64 x.frm) (.int .i64 x.seq) (.int .i64 x.age) (.string x.text)) := HX.out.below hb1
      have HY1 : Hid (Bx4 w1 (W.heap.size + 1) (.int .i64 y.frm) (.int .i64 y.seq) (.int .i64 y.age) (.string y.text)) := HY.out.below hb1
      obtain ⟨a0, a1, a2, a3⟩ := HX1.out.cells
      obtain ⟨b0, b1, b2, b3⟩ := HY1.out.cells
      clear hb1
      go_wp2_with fail
      refine (specGoodItem_any _ y hy).mono ?_
      rintro e w2 ⟨rfl, hb2⟩
      rw [G2.out]
      have HB2 : Hid (Since W.heap.size W w2) := HB1.out.step hb2
      have HX2 : Hid (Bx4 w2 W.heap.size (.int .i64 x.frm) (.int .i64 x.seq) (.int .i64 x.age) (.string x.text)) := HX1.out.below hb2
      have HY2 : Hid (Bx4 w2 (W.heap.size + 1) (.int .i64 y.frm) (.int .i64 y.seq) (.int .i64 y.age) (.string y.text)) := HY1.out.below hb2
      clear a0 a1 a2 a3 b0 b1 b2 b3
      obtain ⟨a0, a1, a2, a3⟩ := HX2.out.cells
      obtain ⟨b0, b1, b2, b3⟩ := HY2.out.cells
      clear hb2
      go_wp2
      refine bodyPost_ret (results_tmp2 rfl _ _ _) rfl ?_
      exact ⟨rfl, HB2.out.1⟩
    | true =>
      have G2 : Hid (goodI y = true) := g2
      have S2 : Hid (seqB y.seq = true) := (goodI_parts g2).2.1
      clear g2
      by_cases h : x.frm = y.frm
      · have HM : Hid (mayBetter x y = true) := by show _ = _; unfold mayBetter; rw [G1.out, G2.out, h]; simp
        have HO : Hid (outBetter x y = betterN x y) := by show _ = _; unfold outBetter; rw [HM.out]; rfl
        rw [HM.out, HO.out]
        have hq : (x.frm == y.frm) = true := by simp [h]
        clear h HM HO
        go_enter Try.func42, Try.ntmps42
        go_wp2_with fail
        refine (specGoodItem_any _ x hx).mono ?_
        rintro e w1 ⟨rfl, hb1⟩
        rw [G1.out]
        have HB1 : Hid (Since W.heap.size W w1) := HB.out.step hb1
        have HX1 : Hid (Bx4 w1 W.heap.size (.int .i64 x.frm) (.int .i64 x.seq) (.int .i64 x.age) (.string x.text)) := HX.out.below hb1
        have HY1 : Hid (Bx4 w1 (W.heap.size + 1) (.int .i64 y.frm) (.int .i64 y.seq) (.int .i64 y.age) (.string y.text)) := HY.out.below hb1
        obtain ⟨a0, a1, a2, a3⟩ := HX1.out.cells
        obtain ⟨b0, b1, b2, b3⟩ := HY1.out.cells
        clear hb1
        go_wp2_with fail
        refine (specGoodItem_any _ y hy).mono ?_
        rintro e w2 ⟨rfl, hb2⟩
        rw [G2.out]
        have HB2 : Hid (Since W.heap.size W w2) := HB1.out.step hb2
        have HX2 : Hid (Bx4 w2 W.heap.size (.int .i64 x.frm) (.int .i64 x.seq) (.int .i64 x.age) (.string x.text)) := HX1.out.below hb2
        have HY2 : Hid (Bx4 w2 (W.heap.size + 1) (.int .i64 y.frm) (.int .i64 y.seq) (.int .i64 y.age) (.string y.text)) := HY1.out.below hb2
        clear a0 a1 a2 a3 b0 b1 b2 b3
        obtain ⟨a0, a1, a2, a3⟩ := HX2.out.cells
        obtain ⟨b0, b1, b2, b3⟩ := HY2.out.cells
        clear hb2
        go_wp2_with fail
        refine (l5Better_any _ x y S1.out S2.out).mono ?_
        rintro e w3 ⟨rfl, hb3⟩
        have HB3 : Hid (Since W.heap.size W w3) := HB2.out.step hb3
        have HX3 : Hid (Bx4 w3 W.heap.size (.int .i64 x.frm) (.int .i64 x.seq) (.int .i64 x.age) (.string x.text)) := HX2.out.below hb3
        have HY3 : Hid (Bx4 w3 (W.heap.size + 1) (.int .i64 y.frm) (.int .i64 y.seq) (.int .i64 y.age) (.string y.text)) := HY2.out.below hb3
        clear a0 a1 a2 a3 b0 b1 b2 b3
        obtain ⟨a0, a1, a2, a3⟩ := HX3.out.cells
        obtain ⟨b0, b1, b2, b3⟩ := HY3.out.cells
        clear hb3
        go_wp2
        refine bodyPost_ret (results_tmp2 rfl _ _ _) rfl ?_
        exact ⟨rfl, HB3.out.1⟩
      · have HM : Hid (mayBetter x y = false) := by show _ = _; unfold mayBetter; rw [G1.out, G2.out]; simp [h]
        have HO : Hid (outBetter x y = 0) := by show _ = _; unfold outBetter; rw [HM.out]; rfl
        rw [HM.out, HO.out]
        have hq : (x.frm == y.frm) = false := by simp [h]
        clear h HM HO
        go_enter Try.func42, Try.ntmps42
        go_wp2_with fail
        refine (specGoodItem_any _ x hx).mono ?_
        rintro e w1 ⟨rfl, hb1⟩
        rw [G1.out]
        have HB1 : Hid (Since W.heap.size W w1) := HB.out.step hb1
        have HX1 : Hid (Bx4 w1 W.heap.size (.int .i64 x.frm) (.int .i64 x.seq) (.int .i64 x.age) (.string x.text)) := HX.out.below hb1
        have HY1 : Hid (Bx4 w1 (W.heap.size + 1) (.int .i64 y.frm) (.int .i64 y.seq) (.int .i64 y.age) (.string y.text)) := HY.out.below hb1
        obtain ⟨a0, a1, a2, a3⟩ := HX1.out.cells
        obtain ⟨b0, b1, b2, b3⟩ := HY1.out.cells
        clear hb1
        go_wp2_with fail
        refine (specGoodItem_any _ y hy).mono ?_
        rintro e w2 ⟨rfl, hb2⟩
        rw [G2.out]
        have HB2 : Hid (Since W.heap.size W w2) := HB1.out.step hb2
        have HX2 : Hid (Bx4 w2 W.heap.size (.int .i64 x.frm) (.int .i64 x.seq) (.int .i64 x.age) (.string x.text)) := HX1.out.below hb2
        have HY2 : Hid (Bx4 w2 (W.heap.size + 1) (.int .i64 y.frm) (.int .i64 y.seq) (.int .i64 y.age) (.string y.text)) := HY1.out.below hb2
        clear a0 a1 a2 a3 b0 b1 b2 b3
        obtain ⟨a0, a1, a2, a3⟩ := HX2.out.cells
        obtain ⟨b0, b1, b2, b3⟩ := HY2.out.cells
        clear hb2
        go_wp2
        refine bodyPost_ret (results_tmp2 rfl _ _ _) rfl ?_
        exact ⟨rfl, HB2.out.1⟩

set_option maxHeartbeats 2000000 in
theorem implBetter_any (W : World) (x y : ItD) (hx : x.text.size ≤ maxLen) (hy : y.text.size ≤ maxLen) : Calls Try.prog 41 #[.agg #[.int .i64 x.frm, .int .i64 x.seq, .int .i64 x.age, .string x.text], .agg #[.int .i64 y.frm, .int .i64 y.seq, .int .i64 y.age, .string y.text]] W fun e W' => e = .returned (.tuple #[.int .i64 (outBetter x y), .bool (mayBetter x y)]) ∧ Below W.heap.size W W' := by
  have HX : Hid (Bx4 ((W.alloc (.cells #[.int .i64 x.frm, .int .i64 x.seq, .int .i64 x.age, .string x.text] 60)).alloc (.cells #[.int .i64 y.frm, .int .i64 y.seq, .int .i64 y.age, .string y.text] 60)) W.heap.size (.int .i64 x.frm) (.int .i64 x.seq) (.int .i64 x.age) (.string x.text)) := (Bx4.new _ _ _ _ _ _).below ((Below.refl _ _).alloc (Nat.le_refl _) _)
  have HY : Hid (Bx4 ((W.alloc (.cells #[.int .i64 x.frm, .int .i64 x.seq, .int .i64 x.age, .string x.text] 60)).alloc (.cells #[.int .i64 y.frm, .int .i64 y.seq, .int .i64 y.age, .string y.text] 60)) (W.heap.size + 1) (.int .i64 y.frm) (.int .i64 y.seq) (.int .i64 y.age) (.string y.text)) := by
    have := Bx4.new (W.alloc (.cells #[.int .i64 x.frm, .int .i64 x.seq, .int .i64 x.age, .string x.text] 60)) (.int .i64 y.frm) (.int .i64 y.seq) (.int .i64 y.age) (.string y.text) 60
    exact (show Bx4 _ _ _ _ _ _ by simpa using this)
  have HB : Hid (Since W.heap.size W ((W.alloc (.cells #[.int .i64 x.frm, .int .i64 x.seq, .int .i64 x.age, .string x.text] 60)).alloc (.cells #[.int .i64 y.frm, .int .i64 y.seq, .int .i64 y.age, .string y.text] 60))) := (Since.start W).step (alloc2_below _ _ _)
  cases g1 : goodI x with
  | false =>
    have HM : Hid (mayBetter x y = false) := by show _ = _; unfold mayBetter; rw [g1]; rfl
    have HO : Hid (outBetter x y = 0) := by show _ = _; unfold outBetter; rw [HM.out]; rfl
    rw [HM.out, HO.out]
    have G1 : Hid (goodI x = false) := g1
    clear g1
    go_enter Try.func41, Try.ntmps41
    go_wp2_with fail
    refine (implGoodItem_any _ x hx).mono ?_
    rintro e w1 ⟨rfl, hb1⟩
    rw [G1.out]
    have HB1 : Hid (Since W.heap.size W w1) := HB.out.step hb1
    have HX1 : Hid (Bx4 w1 W.heap.size (.int .i64 x.frm) (.int .i64 x.seq) (.int .i64 x.age) (.string x.text)) := HX.out.below hb1
    have HY1 : Hid (Bx4 w1 (W.heap.size + 1) (.int .i64 y.frm) (.int .i64 y.seq) (.int .i64 y.age) (.string y.text)) := HY.out.below hb1
    obtain ⟨a0, a1, a2, a3⟩ := HX1.out.cells
    obtain ⟨b0, b1, b2, b3⟩ := HY1.out.cells
    clear hb1
    go_wp2
    refine bodyPost_ret (results_tmp2 rfl _ _ _) rfl ?_
    exact ⟨rfl, HB1.out.1⟩
  | true =>
    have G1 : Hid (goodI x = true) := g1
    have S1 : Hid (seqB x.seq = true) := (goodI_parts g1).2.1
    clear g1
    cases g2 : goodI y with
    | false =>
      have HM : Hid (mayBetter x y = false) := by show _ = _; unfold mayBetter; rw [G1.out, g2]; rfl
      have HO : Hid (outBetter x y = 0) := by show _ = _; unfold outBetter; rw [HM.out]; rfl
      rw [HM.out, HO.out]
      have G2 : Hid (goodI y = false) := g2
      clear g2
      go_enter Try.func41, Try.ntmps41
      go_wp2_with fail
      refine (implGoodItem_any _ x hx).mono ?_
      rintro e w1 ⟨rfl, hb1⟩
      rw [G1.out]
      have HB1 : Hid (Since W.heap.size W w1) := HB.out.step hb1
      have HX1 : Hid (Bx4 w1 W.heap.size (.int .i64 x.frm) (.int .i64 x.seq) (.int .i64 x.age) (.string x.text)) := HX.out.below hb1
      have HY1 : Hid (Bx4 w1 (W.heap.size + 1) (.int .i64 y.frm) (.int .i64 y.seq) (.int .i64 y.age) (.string y.text)) := HY.out.below hb1
      obtain ⟨a0, a1, a2, a3⟩ := HX1.out.cells
      obtain ⟨b0, b1, b2, b3⟩ := HY1.out.cells
      clear hb1
      go_wp2_with fail
      refine (implGoodItem_any _ y hy).mono ?_
      rintro e w2 ⟨rfl, hb2⟩
      rw [G2.out]
      have HB2 : Hid (Since W.heap.size W w2) := HB1.out.step hb2
      have HX2 : Hid (Bx4 w2 W.heap.size (.int .i64 x.frm) (.int .i64 x.seq) (.int .i64 x.age) (.string x.text)) := HX1.out.below hb2
      have HY2 : Hid (Bx4 w2 (W.heap.size + 1) (.int .i64 y.frm) (.int .i64 y.seq) (.int .i64 y.age) (.string y.text)) := HY1.out.below hb2
      clear a0 a1 a2 a3 b0 b1 b2 b3
      obtain ⟨a0, a1, a2, a3⟩ := HX2.out.cells
      obtain ⟨b0, b1, b2, b3⟩ := HY2.out.cells
      clear hb2
      go_wp2
      refine bodyPost_ret (results_tmp2 rfl _ _ _) rfl ?_
      exact ⟨rfl, HB2.out.1⟩
    | true =>
      have G2 : Hid (goodI y = true) := g2
      have S2 : Hid (seqB y.seq = true) := (goodI_parts g2).2.1
      clear g2
      by_cases h : x.frm = y.frm
      · have HM : Hid (mayBetter x y = true) := by show _ = _; unfold mayBetter; rw [G1.out, G2.out, h]; simp
        have HO : Hid (outBetter x y = betterN x y) := by show _ = _; unfold outBetter; rw [HM.out]; rfl
        rw [HM.out, HO.out]
        have hq : (x.frm == y.frm) = true := by simp [h]
        clear h HM HO
        cases e1 : betterI x y with
        | true =>
          have E1 : Hid (betterI x y = true) := e1
          have HE : Hid (betterN x y = 1) := by show _ = _; unfold betterN; rw [e1]; rfl
          rw [HE.out]
          clear e1
          go_enter Try.func41, Try.ntmps41
          go_wp2_with fail
          refine (implGoodItem_any _ x hx).mono ?_
          rintro e w1 ⟨rfl, hb1⟩
          rw [G1.out]
          have HB1 : Hid (Since W.heap.size W w1) := HB.out.step hb1
          have HX1 : Hid (Bx4 w1 W.heap.size (.int .i64 x.frm) (.int .i64 x.seq) (.int .i64 x.age) (.string x.text)) := HX.out.below hb1
          have HY1 : Hid (Bx4 w1 (W.heap.size + 1) (.int .i64 y.frm) (.int .i64 y.seq) (.int .i64 y.age) (.string y.text)) := HY.out.below hb1
          obtain ⟨a0, a1, a2, a3⟩ := HX1.out.cells
          obtain ⟨b0, b1, b2, b3⟩ := HY1.out.cells
          clear hb1
          go_wp2_with fail
          refine (implGoodItem_any _ y hy).mono ?_
          rintro e w2 ⟨rfl, hb2⟩
          rw [G2.out]
          have HB2 : Hid (Since W.heap.size W w2) := HB1.out.step hb2
          have HX2 : Hid (Bx4 w2 W.heap.size (.int .i64 x.frm) (.int .i64 x.seq) (.int .i64 x.age) (.string x.text)) := HX1.out.below hb2
          have HY2 : Hid (Bx4 w2 (W.heap.size + 1) (.int .i64 y.frm) (.int .i64 y.seq) (.int .i64 y.age) (.string y.text)) := HY1.out.below hb2
          clear a0 a1 a2 a3 b0 b1 b2 b3
          obtain ⟨a0, a1, a2, a3⟩ := HX2.out.cells
          obtain ⟨b0, b1, b2, b3⟩ := HY2.out.cells
          clear hb2
          go_wp2_with fail
          refine (isBetter_any _ x y S1.out S2.out).mono ?_
          rintro e w3 ⟨rfl, hb3⟩
          rw [E1.out]
          have HB3 : Hid (Since W.heap.size W w3) := HB2.out.step hb3
          have HX3 : Hid (Bx4 w3 W.heap.size (.int .i64 x.frm) (.int .i64 x.seq) (.int .i64 x.age) (.string x.text)) := HX2.out.below hb3
          have HY3 : Hid (Bx4 w3 (W.heap.size + 1) (.int .i64 y.frm) (.int .i64 y.seq) (.int .i64 y.age) (.string y.text)) := HY2.out.below hb3
          clear a0 a1 a2 a3 b0 b1 b2 b3
          obtain ⟨a0, a1, a2, a3⟩ := HX3.out.cells
          obtain ⟨b0, b1, b2, b3⟩ := HY3.out.cells
          clear hb3
          go_wp2
          refine bodyPost_ret (results_tmp2 rfl _ _ _) rfl ?_
          exact ⟨rfl, HB3.out.1⟩
        | false =>
          have E1 : Hid (betterI x y = false) := e1
          clear e1
          cases e2 : betterI y x with
          | true =>
            have E2 : Hid (betterI y x = true) := e2
            have HE : Hid (betterN x y = 2) := by show _ = _; unfold betterN; rw [E1.out, e2]; rfl
            rw [HE.out]
            clear e2
            go_enter Try.func41, Try.ntmps41
            go_wp2_with fail
            refine (implGoodItem_any _ x hx).mono ?_
            rintro e w1 ⟨rfl, hb1⟩
            rw [G1.out]
            have HB1 : Hid (Since W.heap.size W w1) := HB.out.step hb1
            have HX1 : Hid (Bx4 w1 W.heap.size (.int .i64 x.frm) (.int .i64 x.seq) (.int .i64 x.age) (.string x.text)) := HX.out.below hb1
            have HY1 : Hid (Bx4 w1 (W.heap.size + 1) (.int .i64 y.frm) (.int .i64 y.seq) (.int .i64 y.age) (.string y.text)) := HY.out.below hb1
            obtain ⟨a0, a1, a2, a3⟩ := HX1.out.cells
            obtain ⟨b0, b1, b2, b3⟩ := HY1.out.cells
            clear hb1
            go_wp2_with fail
            refine (implGoodItem_any _ y hy).mono ?_
            rintro e w2 ⟨rfl, hb2⟩
            rw [G2.out]
            have HB2 : Hid (Since W.heap.size W w2) := HB1.out.step hb2
            have HX2 : Hid (Bx4 w2 W.heap.size (.int .i64 x.frm) (.int .i64 x.seq) (.int .i64 x.age) (.string x.text)) := HX1.out.below hb2
            have HY2 : Hid (Bx4 w2 (W.heap.size + 1) (.int .i64 y.frm) (.int .i64 y.seq) (.int .i64 y.age) (.string y.text)) := HY1.out.below hb2
            clear a0 a1 a2 a3 b0 b1 b2 b3
            obtain ⟨a0, a1, a2, a3⟩ := HX2.out.cells
            obtain ⟨b0, b1, b2, b3⟩ := HY2.out.cells
            clear hb2
            go_wp2_with fail
            refine (isBetter_any _ x y S1.out S2.out).mono ?_
            rintro e w3 ⟨rfl, hb3⟩
            rw [E1.out]
            have HB3 : Hid (Since W.heap.size W w3) := HB2.out.step hb3
            have HX3 : Hid (Bx4 w3 W.heap.size (.int .i64 x.frm) (.int .i64 x.seq) (.int .i64 x.age) (.string x.text)) := HX2.out.below hb3
            have HY3 : Hid (Bx4 w3 (W.heap.size + 1) (.int .i64 y.frm) (.int .i64 y.seq) (.int .i64 y.age) (.string y.text)) := HY2.out.below hb3
            clear a0 a1 a2 a3 b0 b1 b2 b3
            obtain ⟨a0, a1, a2, a3⟩ := HX3.out.cells
            obtain ⟨b0, b1, b2, b3⟩ := HY3.out.cells
            clear hb3
            go_wp2_with fail
            refine (isBetter_any _ y x S2.out S1.out).mono ?_
            rintro e w4 ⟨rfl, hb4⟩
            rw [E2.out]
            have HB4 : Hid (Since W.heap.size W w4) := HB3.out.step hb4
            have HX4 : Hid (Bx4 w4 W.heap.size (.int .i64 x.frm) (.int .i64 x.seq) (.int .i64 x.age) (.string x.text)) := HX3.out.below hb4
            have HY4 : Hid (Bx4 w4 (W.heap.size + 1) (.int .i64 y.frm) (.int .i64 y.seq) (.int .i64 y.age) (.string y.text)) := HY3.out.below hb4
            clear a0 a1 a2 a3 b0 b1 b2 b3
            obtain ⟨a0, a1, a2, a3⟩ := HX4.out.cells
            obtain ⟨b0, b1, b2, b3⟩ := HY4.out.cells
            clear hb4
            go_wp2
            refine bodyPost_ret (results_tmp2 rfl _ _ _) rfl ?_
            exact ⟨rfl, HB4.out.1⟩
          | false =>
            have E2 : Hid (betterI y x = false) := e2
            clear e2
            by_cases h3 : x.seq = y.seq
            · have q3 : (x.seq == y.seq) = true := by simp [h3]
              cases e4 : sameT x y with
              | true =>
                have HE : Hid (betterN x y = 0) := by show _ = _; unfold betterN; rw [E1.out, E2.out, if_pos (show x.seq = y.seq ∧ sameT x y = true from ⟨h3, e4⟩)]; rfl
                rw [HE.out]
                have q4 : (x.text.toList == y.text.toList) = true := e4
                clear e4 h3
                go_enter Try.func41, Try.ntmps41
                go_wp2_with fail
                refine (implGoodItem_any _ x hx).mono ?_
                rintro e w1 ⟨rfl, hb1⟩
                rw [G1.out]
                have HB1 : Hid (Since W.heap.size W w1) := HB.out.step hb1
                have HX1 : Hid (Bx4 w1 W.heap.size (.int .i64 x.frm) (.int .i64 x.seq) (.int .i64 x.age) (.string x.text)) := HX.out.below hb1
                have HY1 : Hid (Bx4 w1 (W.heap.size + 1) (.int .i64 y.frm) (.int .i64 y.seq) (.int .i64 y.age) (.string y.text)) := HY.out.below hb1
                obtain ⟨a0, a1, a2, a3⟩ := HX1.out.cells
                obtain ⟨b0, b1, b2, b3⟩ := HY1.out.cells
                clear hb1
                go_wp2_with fail
                refine (implGoodItem_any _ y hy).mono ?_
                rintro e w2 ⟨rfl, hb2⟩
                rw [G2.out]
                have HB2 : Hid (Since W.heap.size W w2) := HB1.out.step hb2
                have HX2 : Hid (Bx4 w2 W.heap.size (.int .i64 x.frm) (.int .i64 x.seq) (.int .i64 x.age) (.string x.text)) := HX1.out.below hb2
                have HY2 : Hid (Bx4 w2 (W.heap.size + 1) (.int .i64 y.frm) (.int .i64 y.seq) (.int .i64 y.age) (.string y.text)) := HY1.out.below hb2
                clear a0 a1 a2 a3 b0 b1 b2 b3
                obtain ⟨a0, a1, a2, a3⟩ := HX2.out.cells
                obtain ⟨b0, b1, b2, b3⟩ := HY2.out.cells
                clear hb2
                go_wp2_with fail
                refine (isBetter_any _ x y S1.out S2.out).mono ?_
                rintro e w3 ⟨rfl, hb3⟩
                rw [E1.out]
                have HB3 : Hid (Since W.heap.size W w3) := HB2.out.step hb3
                have HX3 : Hid (Bx4 w3 W.heap.size (.int .i64 x.frm) (.int .i64 x.seq) (.int .i64 x.age) (.string x.text)) := HX2.out.below hb3
                have HY3 : Hid (Bx4 w3 (W.heap.size + 1) (.int .i64 y.frm) (.int .i64 y.seq) (.int .i64 y.age) (.string y.text)) := HY2.out.below hb3
                clear a0 a1 a2 a3 b0 b1 b2 b3
                obtain ⟨a0, a1, a2, a3⟩ := HX3.out.cells
                obtain ⟨b0, b1, b2, b3⟩ := HY3.out.cells
                clear hb3
                go_wp2_with fail
                refine (isBetter_any _ y x S2.out S1.out).mono ?_
                rintro e w4 ⟨rfl, hb4⟩
                rw [E2.out]
                have HB4 : Hid (Since W.heap.size W w4) := HB3.out.step hb4
                have HX4 : Hid (Bx4 w4 W.heap.size (.int .i64 x.frm) (.int .i64 x.seq) (.int .i64 x.age) (.string x.text)) := HX3.out.below hb4
                have HY4 : Hid (Bx4 w4 (W.heap.size + 1) (.int .i64 y.frm) (.int .i64 y.seq) (.int .i64 y.age) (.string y.text)) := HY3.out.below hb4
                clear a0 a1 a2 a3 b0 b1 b2 b3
                obtain ⟨a0, a1, a2, a3⟩ := HX4.out.cells
                obtain ⟨b0, b1, b2, b3⟩ := HY4.out.cells
                clear hb4
                go_wp2
                refine bodyPost_ret (results_tmp2 rfl _ _ _) rfl ?_
                exact ⟨rfl, HB4.out.1⟩
              | false =>
                have HE : Hid (betterN x y = 3) := by show _ = _; unfold betterN; rw [E1.out, E2.out, if_neg (show ¬ (x.seq = y.seq ∧ sameT x y = true) from fun h => by rw [e4] at h; cases h.2)]; rfl
                rw [HE.out]
                have q4 : (x.text.toList == y.text.toList) = false := e4
                clear e4 h3
                go_enter Try.func41, Try.ntmps41
                go_wp2_with fail
                refine (implGoodItem_any _ x hx).mono ?_
                rintro e w1 ⟨rfl, hb1⟩
                rw [G1.out]
                have HB1 : Hid (Since W.heap.size W w1) := HB.out.step hb1
                have HX1 : Hid (Bx4 w1 W.heap.size (.int .i64 x.frm) (.int .i64 x.seq) (.int .i64 x.age) (.string x.text)) := HX.out.below hb1
                have HY1 : Hid (Bx4 w1 (W.heap.size + 1) (.int .i64 y.frm) (.int .i64 y.seq) (.int .i64 y.age) (.string y.text)) := HY.out.below hb1
                obtain ⟨a0, a1, a2, a3⟩ := HX1.out.cells
                obtain ⟨b0, b1, b2, b3⟩ := HY1.out.cells
                clear hb1
                go_wp2_with fail
                refine (implGoodItem_any _ y hy).mono ?_
                rintro e w2 ⟨rfl, hb2⟩
                rw [G2.out]
                have HB2 : Hid (Since W.heap.size W w2) := HB1.out.step hb2
                have HX2 : Hid (Bx4 w2 W.heap.size (.int .i64 x.frm) (.int .i64 x.seq) (.int .i64 x.age) (.string x.text)) := HX1.out.below hb2
                have HY2 : Hid (Bx4 w2 (W.heap.size + 1) (.int .i64 y.frm) (.int .i64 y.seq) (.int .i64 y.age) (.string y.text)) := HY1.out.below hb2
                clear a0 a1 a2 a3 b0 b1 b2 b3
                obtain ⟨a0, a1, a2, a3⟩ := HX2.out.cells
                obtain ⟨b0, b1, b2, b3⟩ := HY2.out.cells
                clear hb2
                go_wp2_with fail
                refine (isBetter_any _ x y S1.out S2.out).mono ?_
                rintro e w3 ⟨rfl, hb3⟩
                rw [E1.out]
                have HB3 : Hid (Since W.heap.size W w3) := HB2.out.step hb3
                have HX3 : Hid (Bx4 w3 W.heap.size (.int .i64 x.frm) (.int .i64 x.seq) (.int .i64 x.age) (.string x.text)) := HX2.out.below hb3
                have HY3 : Hid (Bx4 w3 (W.heap.size + 1) (.int .i64 y.frm) (.int .i64 y.seq) (.int .i64 y.age) (.string y.text)) := HY2.out.below hb3
                clear a0 a1 a2 a3 b0 b1 b2 b3
                obtain ⟨a0, a1, a2, a3⟩ := HX3.out.cells
                obtain ⟨b0, b1, b2, b3⟩ := HY3.out.cells
                clear hb3
                go_wp2_with fail
                refine (isBetter_any _ y x S2.out S1.out).mono ?_
                rintro e w4 ⟨rfl, hb4⟩
                rw [E2.out]
                have HB4 : Hid (Since W.heap.size W w4) := HB3.out.step hb4
                have HX4 : Hid (Bx4 w4 W.heap.size (.int .i64 x.frm) (.int .i64 x.seq) (.int .i64 x.age) (.string x.text)) := HX3.out.below hb4
                have HY4 : Hid (Bx4 w4 (W.heap.size + 1) (.int .i64 y.frm) (.int .i64 y.seq) (.int .i64 y.age) (.string y.text)) := HY3.out.below hb4
                clear a0 a1 a2 a3 b0 b1 b2 b3
                obtain ⟨a0, a1, a2, a3⟩ := HX4.out.cells
                obtain ⟨b0, b1, b2, b3⟩ := HY4.out.cells
                clear hb4
                go_wp2
                refine bodyPost_ret (results_tmp2 rfl _ _ _) rfl ?_
                exact ⟨rfl, HB4.out.1⟩
            · have q3 : (x.seq == y.seq) = false := by simp [h3]
              have HE : Hid (betterN x y = 3) := by show _ = _; unfold betterN; rw [E1.out, E2.out, if_neg (show ¬ (x.seq = y.seq ∧ sameT x y = true) from fun h => h3 h.1)]; rfl
              rw [HE.out]
              clear h3
              go_enter Try.func41, Try.ntmps41
              go_wp2_with fail
              refine (implGoodItem_any _ x hx).mono ?_
              rintro e w1 ⟨rfl, hb1⟩
              rw [G1.out]
              have HB1 : Hid (Since W.heap.size W w1) := HB.out.step hb1
              have HX1 : Hid (Bx4 w1 W.heap.size (.int .i64 x.frm) (.int .i64 x.seq) (.int .i64 x.age) (.string x.text)) := HX.out.below hb1
              have HY1 : Hid (Bx4 w1 (W.heap.size + 1) (.int .i64 y.frm) (.int .i64 y.seq) (.int .i64 y.age) (.string y.text)) := HY.out.below hb1
              obtain ⟨a0, a1, a2, a3⟩ := HX1.out.cells
              obtain ⟨b0, b1, b2, b3⟩ := HY1.out.cells
              clear hb1
              go_wp2_with fail
              refine (implGoodItem_any _ y hy).mono ?_
              rintro e w2 ⟨rfl, hb2⟩
              rw [G2.out]
              have HB2 : Hid (Since W.heap.size W w2) := HB1.out.step hb2
              have HX2 : Hid (Bx4 w2 W.heap.size (.int .i64 x.frm) (.int .i64 x.seq) (.int .i64 x.age) (.string x.text)) := HX1.out.below hb2
              have HY2 : Hid (Bx4 w2 (W.heap.size + 1) (.int .i64 y.frm) (.int .i64 y.seq) (.int .i64 y.age) (.string y.text)) := HY1.out.below hb2
              clear a0 a1 a2 a3 b0 b1 b2 b3
              obtain ⟨a0, a1, a2, a3⟩ := HX2.out.cells
              obtain ⟨b0, b1, b2, b3⟩ := HY2.out.cells
              clear hb2
              go_wp2_with fail
              refine (isBetter_any _ x y S1.out S2.out).mono ?_
              rintro e w3 ⟨rfl, hb3⟩
              rw [E1.out]
              have HB3 : Hid (Since W.heap.size W w3) := HB2.out.step hb3
              have HX3 : Hid (Bx4 w3 W.heap.size (.int .i64 x.frm) (.int .i64 x.seq) (.int .i64 x.age) (.string x.text)) := HX2.out.below hb3
              have HY3 : Hid (Bx4 w3 (W.heap.size + 1) (.int .i64 y.frm) (.int .i64 y.seq) (.int .i64 y.age) (.string y.text)) := HY2.out.below hb3
              clear a0 a1 a2 a3 b0 b1 b2 b3
              obtain ⟨a0, a1, a2, a3⟩ := HX3.out.cells
              obtain ⟨b0, b1, b2, b3⟩ := HY3.out.cells
              clear hb3
              go_wp2_with fail
              refine (isBetter_any _ y x S2.out S1.out).mono ?_
              rintro e w4 ⟨rfl, hb4⟩
              rw [E2.out]
              have HB4 : Hid (Since W.heap.size W w4) := HB3.out.step hb4
              have HX4 : Hid (Bx4 w4 W.heap.size (.int .i64 x.frm) (.int .i64 x.seq) (.int .i64 x.age) (.string x.text)) := HX3.out.below hb4
              have HY4 : Hid (Bx4 w4 (W.heap.size + 1) (.int .i64 y.frm) (.int .i64 y.seq) (.int .i64 y.age) (.string y.text)) := HY3.out.below hb4
              clear a0 a1 a2 a3 b0 b1 b2 b3
              obtain ⟨a0, a1, a2, a3⟩ := HX4.out.cells
              obtain ⟨b0, b1, b2, b3⟩ := HY4.out.cells
              clear hb4
              go_wp2
              refine bodyPost_ret (results_tmp2 rfl _ _ _) rfl ?_
              exact ⟨rfl, HB4.out.1⟩
      · have HM : Hid (mayBetter x y = false) := by show _ = _; unfold mayBetter; rw [G1.out, G2.out]; simp [h]
        have HO : Hid (outBetter x y = 0) := by show _ = _; unfold outBetter; rw [HM.out]; rfl
        rw [HM.out, HO.out]
        have hq : (x.frm == y.frm) = false := by simp [h]
        clear h HM HO
        go_enter Try.func41, Try.ntmps41
        go_wp2_with fail
        refine (implGoodItem_any _ x hx).mono ?_
        rintro e w1 ⟨rfl, hb1⟩
        rw [G1.out]
        have HB1 : Hid (Since W.heap.size W w1) := HB.out.step hb1
        have HX1 : Hid (Bx4 w1 W.heap.size (.int .i64 x.frm) (.int .i64 x.seq) (.int .i64 x.age) (.string x.text)) := HX.out.below hb1
        have HY1 : Hid (Bx4 w1 (W.heap.size + 1) (.int .i64 y.frm) (.int .i64 y.seq) (.int .i64 y.age) (.string y.text)) := HY.out.below hb1
        obtain ⟨a0, a1, a2, a3⟩ := HX1.out.cells
        obtain ⟨b0, b1, b2, b3⟩ := HY1.out.cells
        clear hb1
        go_wp2_with fail
        refine (implGoodItem_any _ y hy).mono ?_
        rintro e w2 ⟨rfl, hb2⟩
        rw [G2.out]
        have HB2 : Hid (Since W.heap.size W w2) := HB1.out.step hb2
        have HX2 : Hid (Bx4 w2 W.heap.size (.int .i64 x.frm) (.int .i64 x.seq) (.int .i64 x.age) (.string x.text)) := HX1.out.below hb2
        have HY2 : Hid (Bx4 w2 (W.heap.size + 1) (.int .i64 y.frm) (.int .i64 y.seq) (.int .i64 y.age) (.string y.text)) := HY1.out.below hb2
        clear a0 a1 a2 a3 b0 b1 b2 b3
        obtain ⟨a0, a1, a2, a3⟩ := HX2.out.cells
        obtain ⟨b0, b1, b2, b3⟩ := HY2.out.cells
        clear hb2
        go_wp2
        refine bodyPost_ret (results_tmp2 rfl _ _ _) rfl ?_
        exact ⟨rfl, HB2.out.1⟩

end Go.Proofs.Ythdcfeafkellcab
