/-
  'Beats' of the program and of the model.
-/
import Derived.Test.YthdcfeafkellcabElect0
import Derived.Test.YthdcfeafkellcabBoxes
namespace Go.Proofs.Ythdcfeafkellcab
open Go.RowKit

def mayBeat (x y : BrD) : Bool := goodB x && goodB y && decide (x.id ≠ y.id)
def outBeat (x y : BrD) : Bool := mayBeat x y && beatsB x y

set_option maxRecDepth 100000 in
set_option maxHeartbeats 2000000 in
theorem implBeats_any (W : World) (x y : BrD) : Calls Try.prog 15 #[.agg #[.int .i64 x.id, .int .i64 x.rank, .bool x.up], .agg #[.int .i64 y.id, .int .i64 y.rank, .bool y.up]] W fun e W' => e = .returned (.tuple #[.bool (outBeat x y), .bool (mayBeat x y)]) ∧ Below W.heap.size W W' := by
  have HX : Hid (Bx3 ((W.alloc (.cells #[.int .i64 x.id, .int .i64 x.rank, .bool x.up] 35)).alloc (.cells #[.int .i64 y.id, .int .i64 y.rank, .bool y.up] 35)) W.heap.size (.int .i64 x.id) (.int .i64 x.rank) (.bool x.up)) := (Bx3.new _ _ _ _ _).below ((Below.refl _ _).alloc (Nat.le_refl _) _)
  have HY : Hid (Bx3 ((W.alloc (.cells #[.int .i64 x.id, .int .i64 x.rank, .bool x.up] 35)).alloc (.cells #[.int .i64 y.id, .int .i64 y.rank, .bool y.up] 35)) (W.heap.size + 1) (.int .i64 y.id) (.int .i64 y.rank) (.bool y.up)) := by
    have := Bx3.new (W.alloc (.cells #[.int .i64 x.id, .int .i64 x.rank, .bool x.up] 35)) (.int .i64 y.id) (.int .i64 y.rank) (.bool y.up) 35
    exact (show Bx3 _ _ _ _ _ by simpa using this)
  have HB : Hid (Since W.heap.size W ((W.alloc (.cells #[.int .i64 x.id, .int .i64 x.rank, .bool x.up] 35)).alloc (.cells #[.int .i64 y.id, .int .i64 y.rank, .bool y.up] 35))) := (Since.start W).step (two_below _ _ _)
  cases g1 : goodB x with
  | false =>
    have HM : Hid (mayBeat x y = false) := by show _ = _; unfold mayBeat; rw [g1]; rfl
    have HO : Hid (outBeat x y = false) := by show _ = _; unfold outBeat; rw [HM.out]; rfl
    rw [HM.out, HO.out]
    have G1 : Hid (goodB x = false) := g1
    clear g1
    go_enter Try.func15, Try.ntmps15
    go_wp2_with fail
    refine (isGoodB_any _ x).mono ?_
    rintro e w1 ⟨rfl, hb1⟩
    rw [G1.out]
    have HS1 : Hid (Since W.heap.size W w1) := HB.out.step hb1
    clear hb1
    go_wp2
    refine bodyPost_ret (results_tmp2 rfl _ _ _) rfl ?_
    exact ⟨rfl, HS1.out.1⟩
  | true =>
    have G1 : Hid (goodB x = true) := g1
    clear g1
    cases g2 : goodB y with
    | false =>
      have HM : Hid (mayBeat x y = false) := by show _ = _; unfold mayBeat; rw [G1.out, g2]; rfl
      have HO : Hid (outBeat x y = false) := by show _ = _; unfold outBeat; rw [HM.out]; rfl
      rw [HM.out, HO.out]
      have G2 : Hid (goodB y = false) := g2
      clear g2
      go_enter Try.func15, Try.ntmps15
      go_wp2_with fail
      refine (isGoodB_any _ x).mono ?_
      rintro e w1 ⟨rfl, hb1⟩
      rw [G1.out]
      have HS1 : Hid (Since W.heap.size W w1) := HB.out.step hb1
      obtain ⟨y0, y1, y2, y3, -⟩ := HY.out.below hb1
      clear hb1
      go_wp2_with fail
      refine (isGoodB_any _ y).mono ?_
      rintro e w2 ⟨rfl, hb2⟩
      rw [G2.out]
      have HS2 : Hid (Since W.heap.size W w2) := HS1.out.step hb2
      clear hb2 y0 y1 y2 y3
      go_wp2
      refine bodyPost_ret (results_tmp2 rfl _ _ _) rfl ?_
      exact ⟨rfl, HS2.out.1⟩
    | true =>
      have G2 : Hid (goodB y = true) := g2
      clear g2
      by_cases h : x.id = y.id
      · have HM : Hid (mayBeat x y = false) := by show _ = _; unfold mayBeat; rw [G1.out, G2.out, h]; simp
        have hq : (x.id == y.id) = true := by simp [h]
        clear h
        have HO : Hid (outBeat x y = false) := by show _ = _; unfold outBeat; rw [HM.out]; rfl
        rw [HM.out, HO.out]
        go_enter Try.func15, Try.ntmps15
        go_wp2_with fail
        refine (isGoodB_any _ x).mono ?_
        rintro e w1 ⟨rfl, hb1⟩
        rw [G1.out]
        have HS1 : Hid (Since W.heap.size W w1) := HB.out.step hb1
        have HX1 : Hid (Bx3 w1 W.heap.size (.int .i64 x.id) (.int .i64 x.rank) (.bool x.up)) := HX.out.below hb1
        have HY1 : Hid (Bx3 w1 (W.heap.size + 1) (.int .i64 y.id) (.int .i64 y.rank) (.bool y.up)) := HY.out.below hb1
        obtain ⟨y0, y1, y2, y3, -⟩ := HY1.out
        clear hb1
        go_wp2_with fail
        refine (isGoodB_any _ y).mono ?_
        rintro e w2 ⟨rfl, hb2⟩
        rw [G2.out]
        have HS2 : Hid (Since W.heap.size W w2) := HS1.out.step hb2
        clear y0 y1 y2 y3
        obtain ⟨x0, x1, x2, x3, -⟩ := HX1.out.below hb2
        obtain ⟨y0, y1, y2, y3, -⟩ := HY1.out.below hb2
        clear hb2
        go_wp2
        refine bodyPost_ret (results_tmp2 rfl _ _ _) rfl ?_
        exact ⟨rfl, HS2.out.1⟩
      · have HM : Hid (mayBeat x y = true) := by show _ = _; unfold mayBeat; rw [G1.out, G2.out]; simp [h]
        have hq : (x.id == y.id) = false := by simp [h]
        clear h
        have HO : Hid (outBeat x y = beatsB x y) := by show _ = _; unfold outBeat; rw [HM.out]; rfl
        rw [HM.out, HO.out]
        go_enter Try.func15, Try.ntmps15
        go_wp2_with fail
        refine (isGoodB_any _ x).mono ?_
        rintro e w1 ⟨rfl, hb1⟩
        rw [G1.out]
        have HS1 : Hid (Since W.heap.size W w1) := HB.out.step hb1
        have HX1 : Hid (Bx3 w1 W.heap.size (.int .i64 x.id) (.int .i64 x.rank) (.bool x.up)) := HX.out.below hb1
        have HY1 : Hid (Bx3 w1 (W.heap.size + 1) (.int .i64 y.id) (.int .i64 y.rank) (.bool y.up)) := HY.out.below hb1
        obtain ⟨y0, y1, y2, y3, -⟩ := HY1.out
        clear hb1
        go_wp2_with fail
        refine (isGoodB_any _ y).mono ?_
        rintro e w2 ⟨rfl, hb2⟩
        rw [G2.out]
        have HS2 : Hid (Since W.heap.size W w2) := HS1.out.step hb2
        clear y0 y1 y2 y3
        obtain ⟨x0, x1, x2, x3, -⟩ := HX1.out.below hb2
        obtain ⟨y0, y1, y2, y3, -⟩ := HY1.out.below hb2
        clear hb2
        go_wp2_with fail
        refine (beatsB_any _ x y).mono ?_
        rintro e w3 ⟨rfl, hb3⟩
        have HS3 : Hid (Since W.heap.size W w3) := HS2.out.step hb3
        clear hb3
        go_wp2
        refine bodyPost_ret (results_tmp2 rfl _ _ _) rfl ?_
        exact ⟨rfl, HS3.out.1⟩

set_option maxRecDepth 100000 in
set_option maxHeartbeats 2000000 in
theorem specBeats_any (W : World) (x y : BrD) : Calls Try.prog 17 #[.agg #[.int .i64 x.id, .int .i64 x.rank, .bool x.up], .agg #[.int .i64 y.id, .int .i64 y.rank, .bool y.up]] W fun e W' => e = .returned (.tuple #[.bool (outBeat x y), .bool (mayBeat x y)]) ∧ Below W.heap.size W W' := by
  have HX : Hid (Bx3 ((W.alloc (.cells #[.int .i64 x.id, .int .i64 x.rank, .bool x.up] 35)).alloc (.cells #[.int .i64 y.id, .int .i64 y.rank, .bool y.up] 35)) W.heap.size (.int .i64 x.id) (.int .i64 x.rank) (.bool x.up)) := (Bx3.new _ _ _ _ _).below ((Below.refl _ _).alloc (Nat.le_refl _) _)
  have HY : Hid (Bx3 ((W.alloc (.cells #[.int .i64 x.id, .int .i64 x.rank, .bool x.up] 35)).alloc (.cells #[.int .i64 y.id, .int .i64 y.rank, .bool y.up] 35)) (W.heap.size + 1) (.int .i64 y.id) (.int .i64 y.rank) (.bool y.up)) := by
    have := Bx3.new (W.alloc (.cells #[.int .i64 x.id, .int .i64 x.rank, .bool x.up] 35)) (.int .i64 y.id) (.int .i64 y.rank) (.bool y.up) 35
    exact (show Bx3 _ _ _ _ _ by simpa using this)
  have HB : Hid (Since W.heap.size W ((W.alloc (.cells #[.int .i64 x.id, .int .i64 x.rank, .bool x.up] 35)).alloc (.cells #[.int .i64 y.id, .int .i64 y.rank, .bool y.up] 35))) := (Since.start W).step (two_below _ _ _)
  cases g1 : goodB x with
  | false =>
    have HM : Hid (mayBeat x y = false) := by show _ = _; unfold mayBeat; rw [g1]; rfl
    have HO : Hid (outBeat x y = false) := by show _ = _; unfold outBeat; rw [HM.out]; rfl
    rw [HM.out, HO.out]
    have G1 : Hid (goodB x = false) := g1
    clear g1
    go_enter Try.func17, Try.ntmps17
    go_wp2_with fail
    refine (l4Bridge_any _ x).mono ?_
    rintro e w1 ⟨rfl, hb1⟩
    rw [G1.out]
    have HS1 : Hid (Since W.heap.size W w1) := HB.out.step hb1
    clear hb1
    go_wp2
    refine bodyPost_ret (results_tmp2 rfl _ _ _) rfl ?_
    exact ⟨rfl, HS1.out.1⟩
  | true =>
    have G1 : Hid (goodB x = true) := g1
    clear g1
    cases g2 : goodB y with
    | false =>
      have HM : Hid (mayBeat x y = false) := by show _ = _; unfold mayBeat; rw [G1.out, g2]; rfl
      have HO : Hid (outBeat x y = false) := by show _ = _; unfold outBeat; rw [HM.out]; rfl
      rw [HM.out, HO.out]
      have G2 : Hid (goodB y = false) := g2
      clear g2
      go_enter Try.func17, Try.ntmps17
      go_wp2_with fail
      refine (l4Bridge_any _ x).mono ?_
      rintro e w1 ⟨rfl, hb1⟩
      rw [G1.out]
      have HS1 : Hid (Since W.heap.size W w1) := HB.out.step hb1
      obtain ⟨y0, y1, y2, y3, -⟩ := HY.out.below hb1
      clear hb1
      go_wp2_with fail
      refine (l4Bridge_any _ y).mono ?_
      rintro e w2 ⟨rfl, hb2⟩
      rw [G2.out]
      have HS2 : Hid (Since W.heap.size W w2) := HS1.out.step hb2
      clear hb2 y0 y1 y2 y3
      go_wp2
      refine bodyPost_ret (results_tmp2 rfl _ _ _) rfl ?_
      exact ⟨rfl, HS2.out.1⟩
    | true =>
      have G2 : Hid (goodB y = true) := g2
      clear g2
      by_cases h : x.id = y.id
      · have HM : Hid (mayBeat x y = false) := by show _ = _; unfold mayBeat; rw [G1.out, G2.out, h]; simp
        have hq : (x.id == y.id) = true := by simp [h]
        clear h
        have HO : Hid (outBeat x y = false) := by show _ = _; unfold outBeat; rw [HM.out]; rfl
        rw [HM.out, HO.out]
        go_enter Try.func17, Try.ntmps17
        go_wp2_with fail
        refine (l4Bridge_any _ x).mono ?_
        rintro e w1 ⟨rfl, hb1⟩
        rw [G1.out]
        have HS1 : Hid (Since W.heap.size W w1) := HB.out.step hb1
        have HX1 : Hid (Bx3 w1 W.heap.size (.int .i64 x.id) (.int .i64 x.rank) (.bool x.up)) := HX.out.below hb1
        have HY1 : Hid (Bx3 w1 (W.heap.size + 1) (.int .i64 y.id) (.int .i64 y.rank) (.bool y.up)) := HY.out.below hb1
        obtain ⟨y0, y1, y2, y3, -⟩ := HY1.out
        clear hb1
        go_wp2_with fail
        refine (l4Bridge_any _ y).mono ?_
        rintro e w2 ⟨rfl, hb2⟩
        rw [G2.out]
        have HS2 : Hid (Since W.heap.size W w2) := HS1.out.step hb2
        clear y0 y1 y2 y3
        obtain ⟨x0, x1, x2, x3, -⟩ := HX1.out.below hb2
        obtain ⟨y0, y1, y2, y3, -⟩ := HY1.out.below hb2
        clear hb2
        go_wp2
        refine bodyPost_ret (results_tmp2 rfl _ _ _) rfl ?_
        exact ⟨rfl, HS2.out.1⟩
      · have HM : Hid (mayBeat x y = true) := by show _ = _; unfold mayBeat; rw [G1.out, G2.out]; simp [h]
        have hq : (x.id == y.id) = false := by simp [h]
        clear h
        have HO : Hid (outBeat x y = beatsB x y) := by show _ = _; unfold outBeat; rw [HM.out]; rfl
        rw [HM.out, HO.out]
        go_enter Try.func17, Try.ntmps17
        go_wp2_with fail
        refine (l4Bridge_any _ x).mono ?_
        rintro e w1 ⟨rfl, hb1⟩
        rw [G1.out]
        have HS1 : Hid (Since W.heap.size W w1) := HB.out.step hb1
        have HX1 : Hid (Bx3 w1 W.heap.size (.int .i64 x.id) (.int .i64 x.rank) (.bool x.up)) := HX.out.below hb1
        have HY1 : Hid (Bx3 w1 (W.heap.size + 1) (.int .i64 y.id) (.int .i64 y.rank) (.bool y.up)) := HY.out.below hb1
        obtain ⟨y0, y1, y2, y3, -⟩ := HY1.out
        clear hb1
        go_wp2_with fail
        refine (l4Bridge_any _ y).mono ?_
        rintro e w2 ⟨rfl, hb2⟩
        rw [G2.out]
        have HS2 : Hid (Since W.heap.size W w2) := HS1.out.step hb2
        clear y0 y1 y2 y3
        obtain ⟨x0, x1, x2, x3, -⟩ := HX1.out.below hb2
        obtain ⟨y0, y1, y2, y3, -⟩ := HY1.out.below hb2
        clear hb2
        go_wp2_with fail
        refine (l4Beats_any _ x y).mono ?_
        rintro e w3 ⟨rfl, hb3⟩
        have HS3 : Hid (Since W.heap.size W w3) := HS2.out.step hb3
        clear hb3
        go_wp2
        refine bodyPost_ret (results_tmp2 rfl _ _ _) rfl ?_
        exact ⟨rfl, HS3.out.1⟩
end Go.Proofs.Ythdcfeafkellcab
