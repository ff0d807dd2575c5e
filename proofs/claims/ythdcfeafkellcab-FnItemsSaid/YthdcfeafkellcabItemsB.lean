/-
  Which of two items is better: 'isBetter', 'l5Better', and 'Better' of both.
-/
import Derived.Test.YthdcfeafkellcabItems0
namespace Go.Proofs.Ythdcfeafkellcab
open Go.RowKit
set_option linter.unusedVariables false

def betterI (x y : ItD) : Bool := if x.seq = y.seq then goneI x && !goneI y else newerB x.seq y.seq
def sameT (x y : ItD) : Bool := x.text.toList == y.text.toList
def betterN (x y : ItD) : Int := if betterI x y then 1 else if betterI y x then 2 else if x.seq = y.seq ∧ sameT x y = true then 0 else 3
theorem newerB_self (a : Int) : newerB a a = false := by simp [newerB, stepsZ]

set_option maxHeartbeats 1000000 in
theorem isBetter_any (W : World) (x y : ItD) (hx : seqB x.seq = true) (hy : seqB y.seq = true) : Calls Try.prog 85 #[.agg #[.int .i64 x.frm, .int .i64 x.seq, .int .i64 x.age, .string x.text], .agg #[.int .i64 y.frm, .int .i64 y.seq, .int .i64 y.age, .string y.text]] W fun e W' => e = .returned (.bool (betterI x y)) ∧ Below W.heap.size W W' := by
  have HX : Hid (Bx4 ((W.alloc (.cells #[.int .i64 x.frm, .int .i64 x.seq, .int .i64 x.age, .string x.text] 60)).alloc (.cells #[.int .i64 y.frm, .int .i64 y.seq, .int .i64 y.age, .string y.text] 60)) W.heap.size (.int .i64 x.frm) (.int .i64 x.seq) (.int .i64 x.age) (.string x.text)) := (Bx4.new _ _ _ _ _ _).below ((Below.refl _ _).alloc (Nat.le_refl _) _)
  have HY : Hid (Bx4 ((W.alloc (.cells #[.int .i64 x.frm, .int .i64 x.seq, .int .i64 x.age, .string x.text] 60)).alloc (.cells #[.int .i64 y.frm, .int .i64 y.seq, .int .i64 y.age, .string y.text] 60)) (W.heap.size + 1) (.int .i64 y.frm) (.int .i64 y.seq) (.int .i64 y.age) (.string y.text)) := by
    have := Bx4.new (W.alloc (.cells #[.int .i64 x.frm, .int .i64 x.seq, .int .i64 x.age, .string x.text] 60)) (.int .i64 y.frm) (.int .i64 y.seq) (.int .i64 y.age) (.string y.text) 60
    exact (show Bx4 _ _ _ _ _ _ by simpa using this)
  have HB : Hid (Since W.heap.size W ((W.alloc (.cells #[.int .i64 x.frm, .int .i64 x.seq, .int .i64 x.age, .string x.text] 60)).alloc (.cells #[.int .i64 y.frm, .int .i64 y.seq, .int .i64 y.age, .string y.text] 60))) := (Since.start W).step (alloc2_below _ _ _)
  unfold betterI
  by_cases h : x.seq = y.seq
  · rw [if_pos h]
    have hq : (x.seq == y.seq) = true := by simp [h]
    clear h
    cases g1 : goneI x with
    | false =>
      have G1 : Hid (goneI x = false) := g1
      clear g1
      go_enter Try.func85, Try.ntmps85
      go_wp2_with fail
      refine (isGone_any _ x).mono ?_
      rintro e w1 ⟨rfl, hb1⟩
      rw [G1.out]
      have HB1 : Hid (Since W.heap.size W w1) := HB.out.step hb1
      have HX1 : Hid (Bx4 w1 W.heap.size (.int .i64 x.frm) (.int .i64 x.seq) (.int .i64 x.age) (.string x.text)) := HX.out.below hb1
      have HY1 : Hid (Bx4 w1 (W.heap.size + 1) (.int .i64 y.frm) (.int .i64 y.seq) (.int .i64 y.age) (.string y.text)) := HY.out.below hb1
      obtain ⟨a0, a1, a2, a3⟩ := HX1.out.cells
      obtain ⟨b0, b1, b2, b3⟩ := HY1.out.cells
      clear hb1
      go_wp2
      go_ret
      exact ⟨rfl, HB1.out.1⟩
    | true =>
      have G1 : Hid (goneI x = true) := g1
      clear g1
      rw [Bool.true_and]
      go_enter Try.func85, Try.ntmps85
      go_wp2_with fail
      refine (isGone_any _ x).mono ?_
      rintro e w1 ⟨rfl, hb1⟩
      rw [G1.out]
      have HB1 : Hid (Since W.heap.size W w1) := HB.out.step hb1
      have HX1 : Hid (Bx4 w1 W.heap.size (.int .i64 x.frm) (.int .i64 x.seq) (.int .i64 x.age) (.string x.text)) := HX.out.below hb1
      have HY1 : Hid (Bx4 w1 (W.heap.size + 1) (.int .i64 y.frm) (.int .i64 y.seq) (.int .i64 y.age) (.string y.text)) := HY.out.below hb1
      obtain ⟨a0, a1, a2, a3⟩ := HX1.out.cells
      obtain ⟨b0, b1, b2, b3⟩ := HY1.out.cells
      clear hb1
      go_wp2_with fail
      refine (isGone_any _ y).mono ?_
      rintro e w2 ⟨rfl, hb2⟩
      have HB2 : Hid (Since W.heap.size W w2) := HB1.out.step hb2
      have HX2 : Hid (Bx4 w2 W.heap.size (.int .i64 x.frm) (.int .i64 x.seq) (.int .i64 x.age) (.string x.text)) := HX1.out.below hb2
      have HY2 : Hid (Bx4 w2 (W.heap.size + 1) (.int .i64 y.frm) (.int .i64 y.seq) (.int .i64 y.age) (.string y.text)) := HY1.out.below hb2
      clear a0 a1 a2 a3 b0 b1 b2 b3
      obtain ⟨a0, a1, a2, a3⟩ := HX2.out.cells
      obtain ⟨b0, b1, b2, b3⟩ := HY2.out.cells
      clear hb2
      go_wp2
      go_ret
      exact ⟨rfl, HB2.out.1⟩
  · rw [if_neg h]
    have hq : (x.seq == y.seq) = false := by simp [h]
    go_enter Try.func85, Try.ntmps85
    go_wp2_with fail
    refine (isAhead_any _ _ _ hx hy).mono ?_
    rintro e w9 ⟨rfl, rfl⟩
    go_wp2
    go_ret
    exact ⟨rfl, HB.out.1⟩

set_option maxHeartbeats 2000000 in
theorem l5Better_any (W : World) (x y : ItD) (hx : seqB x.seq = true) (hy : seqB y.seq = true) : Calls Try.prog 86 #[.agg #[.int .i64 x.frm, .int .i64 x.seq, .int .i64 x.age, .string x.text], .agg #[.int .i64 y.frm, .int .i64 y.seq, .int .i64 y.age, .string y.text]] W fun e W' => e = .returned (.int .i64 (betterN x y)) ∧ Below W.heap.size W W' := by
  have HX : Hid (Bx4 ((W.alloc (.cells #[.int .i64 x.frm, .int .i64 x.seq, .int .i64 x.age, .string x.text] 60)).alloc (.cells #[.int .i64 y.frm, .int .i64 y.seq, .int .i64 y.age, .string y.text] 60)) W.heap.size (.int .i64 x.frm) (.int .i64 x.seq) (.int .i64 x.age) (.string x.text)) := (Bx4.new _ _ _ _ _ _).below ((Below.refl _ _).alloc (Nat.le_refl _) _)
  have HY : Hid (Bx4 ((W.alloc (.cells #[.int .i64 x.frm, .int .i64 x.seq, .int .i64 x.age, .string x.text] 60)).alloc (.cells #[.int .i64 y.frm, .int .i64 y.seq, .int .i64 y.age, .string y.text] 60)) (W.heap.size + 1) (.int .i64 y.frm) (.int .i64 y.seq) (.int .i64 y.age) (.string y.text)) := by
    have := Bx4.new (W.alloc (.cells #[.int .i64 x.frm, .int .i64 x.seq, .int .i64 x.age, .string x.text] 60)) (.int .i64 y.frm) (.int .i64 y.seq) (.int .i64 y.age) (.string y.text) 60
    exact (show Bx4 _ _ _ _ _ _ by simpa using this)
  have HB : Hid (Since W.heap.size W ((W.alloc (.cells #[.int .i64 x.frm, .int .i64 x.seq, .int .i64 x.age, .string x.text] 60)).alloc (.cells #[.int .i64 y.frm, .int .i64 y.seq, .int .i64 y.age, .string y.text] 60))) := (Since.start W).step (alloc2_below _ _ _)
  cases n1 : newerB x.seq y.seq with
  | true =>
    have N1 : Hid (newerB x.seq y.seq = true) := n1
    have HE : Hid (1 = betterN x y) := by
      show _ = _
      have h : ¬ x.seq = y.seq := fun h => by rw [h, newerB_self] at n1; cases n1
      simp [betterN, betterI, h, n1]
    clear n1
    go_enter Try.func86, Try.ntmps86
    go_wp2_with fail
    refine (l5Newer_any _ _ _ hx hy).mono ?_
    rintro e w9 ⟨rfl, rfl⟩
    rw [N1.out]
    go_wp2
    go_ret
    exact ⟨ret_int HE.out, HB.out.1⟩
  | false =>
    have N1 : Hid (newerB x.seq y.seq = false) := n1
    cases n2 : newerB y.seq x.seq with
    | true =>
      have N2 : Hid (newerB y.seq x.seq = true) := n2
      have HE : Hid (2 = betterN x y) := by
        show _ = _
        have h : ¬ x.seq = y.seq := fun h => by rw [h, newerB_self] at n2; cases n2
        have h2 : ¬ y.seq = x.seq := fun e => h e.symm
        simp [betterN, betterI, h, h2, n1, n2]
      clear n1 n2
      go_enter Try.func86, Try.ntmps86
      go_wp2_with fail
      refine (l5Newer_any _ _ _ hx hy).mono ?_
      rintro e w9 ⟨rfl, rfl⟩
      rw [N1.out]
      go_wp2_with fail
      refine (l5Newer_any _ _ _ hy hx).mono ?_
      rintro e w9 ⟨rfl, rfl⟩
      rw [N2.out]
      go_wp2
      go_ret
      exact ⟨ret_int HE.out, HB.out.1⟩
    | false =>
      have N2 : Hid (newerB y.seq x.seq = false) := n2
      by_cases h : x.seq = y.seq
      · cases g1 : goneI x with
        | true =>
          cases g2 : goneI y with
          | false =>
            have HE : Hid (1 = betterN x y) := by show _ = _; simp [betterN, betterI, h, g1, g2]
            have i1 : (x.age == 0) = true := g1
            have i2 : (y.age == 0) = false := g2
            have hq : (x.seq == y.seq) = true := by simp [h]
            clear n1 n2 g1 g2 h
            go_enter Try.func86, Try.ntmps86
            go_wp2_with fail
            refine (l5Newer_any _ _ _ hx hy).mono ?_
            rintro e w9 ⟨rfl, rfl⟩
            rw [N1.out]
            go_wp2_with fail
            refine (l5Newer_any _ _ _ hy hx).mono ?_
            rintro e w9 ⟨rfl, rfl⟩
            rw [N2.out]
            go_wp2
            go_ret
            exact ⟨ret_int HE.out, HB.out.1⟩
          | true =>
            have HE : Hid (∀ b, b = sameT x y → (if b = true then 0 else 3) = betterN x y) := by
              show ∀ b, _
              rintro b rfl
              simp [betterN, betterI, h, g1, g2]
            have i1 : (x.age == 0) = true := g1
            have i2 : (y.age == 0) = true := g2
            have hq : (x.seq == y.seq) = true := by simp [h]
            clear n1 n2 g1 g2 h
            cases hs : sameT x y with
            | true =>
              have HE : Hid (0 = betterN x y) := by show _ = _; have := HE.out _ hs.symm; simpa using this
              have i3 : (x.text.toList == y.text.toList) = true := hs
              clear hs
              go_enter Try.func86, Try.ntmps86
              go_wp2_with fail
              refine (l5Newer_any _ _ _ hx hy).mono ?_
              rintro e w9 ⟨rfl, rfl⟩
              rw [N1.out]
              go_wp2_with fail
              refine (l5Newer_any _ _ _ hy hx).mono ?_
              rintro e w9 ⟨rfl, rfl⟩
              rw [N2.out]
              go_wp2
              go_ret
              exact ⟨ret_int HE.out, HB.out.1⟩
            | false =>
              have HE : Hid (3 = betterN x y) := by show _ = _; have := HE.out _ hs.symm; simpa using this
              have i3 : (x.text.toList == y.text.toList) = false := hs
              clear hs
              go_enter Try.func86, Try.ntmps86
              go_wp2_with fail
              refine (l5Newer_any _ _ _ hx hy).mono ?_
              rintro e w9 ⟨rfl, rfl⟩
              rw [N1.out]
              go_wp2_with fail
              refine (l5Newer_any _ _ _ hy hx).mono ?_
              rintro e w9 ⟨rfl, rfl⟩
              rw [N2.out]
              go_wp2
              go_ret
              exact ⟨ret_int HE.out, HB.out.1⟩
        | false =>
          cases g2 : goneI y with
          | true =>
            have HE : Hid (2 = betterN x y) := by show _ = _; simp [betterN, betterI, h, g1, g2]
            have i1 : (x.age == 0) = false := g1
            have i2 : (y.age == 0) = true := g2
            have hq : (x.seq == y.seq) = true := by simp [h]
            clear n1 n2 g1 g2 h
            go_enter Try.func86, Try.ntmps86
            go_wp2_with fail
            refine (l5Newer_any _ _ _ hx hy).mono ?_
            rintro e w9 ⟨rfl, rfl⟩
            rw [N1.out]
            go_wp2_with fail
            refine (l5Newer_any _ _ _ hy hx).mono ?_
            rintro e w9 ⟨rfl, rfl⟩
            rw [N2.out]
            go_wp2
            go_ret
            exact ⟨ret_int HE.out, HB.out.1⟩
          | false =>
            have HE : Hid (∀ b, b = sameT x y → (if b = true then 0 else 3) = betterN x y) := by
              show ∀ b, _
              rintro b rfl
              simp [betterN, betterI, h, g1, g2]
            have i1 : (x.age == 0) = false := g1
            have i2 : (y.age == 0) = false := g2
            have hq : (x.seq == y.seq) = true := by simp [h]
            clear n1 n2 g1 g2 h
            cases hs : sameT x y with
            | true =>
              have HE : Hid (0 = betterN x y) := by show _ = _; have := HE.out _ hs.symm; simpa using this
              have i3 : (x.text.toList == y.text.toList) = true := hs
              clear hs
              go_enter Try.func86, Try.ntmps86
              go_wp2_with fail
              refine (l5Newer_any _ _ _ hx hy).mono ?_
              rintro e w9 ⟨rfl, rfl⟩
              rw [N1.out]
              go_wp2_with fail
              refine (l5Newer_any _ _ _ hy hx).mono ?_
              rintro e w9 ⟨rfl, rfl⟩
              rw [N2.out]
              go_wp2
              go_ret
              exact ⟨ret_int HE.out, HB.out.1⟩
            | false =>
              have HE : Hid (3 = betterN x y) := by show _ = _; have := HE.out _ hs.symm; simpa using this
              have i3 : (x.text.toList == y.text.toList) = false := hs
              clear hs
              go_enter Try.func86, Try.ntmps86
              go_wp2_with fail
              refine (l5Newer_any _ _ _ hx hy).mono ?_
              rintro e w9 ⟨rfl, rfl⟩
              rw [N1.out]
              go_wp2_with fail
              refine (l5Newer_any _ _ _ hy hx).mono ?_
              rintro e w9 ⟨rfl, rfl⟩
              rw [N2.out]
              go_wp2
              go_ret
              exact ⟨ret_int HE.out, HB.out.1⟩
      · have HE : Hid (3 = betterN x y) := by
          show _ = _
          have h2 : ¬ y.seq = x.seq := fun e => h e.symm
          simp [betterN, betterI, h, h2, n1, n2]
        have hq : (x.seq == y.seq) = false := by simp [h]
        clear n1 n2 h
        go_enter Try.func86, Try.ntmps86
        go_wp2_with fail
        refine (l5Newer_any _ _ _ hx hy).mono ?_
        rintro e w9 ⟨rfl, rfl⟩
        rw [N1.out]
        go_wp2_with fail
        refine (l5Newer_any _ _ _ hy hx).mono ?_
        rintro e w9 ⟨rfl, rfl⟩
        rw [N2.out]
        go_wp2
        go_ret
        exact ⟨ret_int HE.out, HB.out.1⟩

end Go.Proofs.Ythdcfeafkellcab
