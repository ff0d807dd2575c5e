/-
  'AgeItem' of the program and of the model.
-/
import Derived.Test.YthdcfeafkellcabItems0
namespace Go.Proofs.Ythdcfeafkellcab
open Go.RowKit
set_option linter.unusedVariables false

def ageI (x : ItD) (by' : Int) : ItD := if x.age ≤ by' then ⟨x.frm, x.seq, 0, ByteArray.empty⟩ else ⟨x.frm, x.seq, x.age - by', x.text⟩
def mayAge (x : ItD) (by' : Int) : Bool := goodI x && decide (0 ≤ by' ∧ by' ≤ 100)
def outAge (x : ItD) (by' : Int) : ItD := if mayAge x by' then ageI x by' else ⟨0, 0, 0, ByteArray.empty⟩
theorem Bx4.put2 {W : World} {b : Nat} {x y z u : Value} (h : Bx4 W b x y z u) (v : Value) : Bx4 (W.setCell ⟨b, 2, none⟩ v) b x y v u :=
  ⟨by simpa [World.setCell] using h.lt, by simp [go_sem, h.c0], by simp [go_sem, h.c1], by simp [go_sem, h.c2], by simp [go_sem, h.c3], fun j => by simp [go_sem, h.fz]⟩
theorem Bx4.other {W : World} {b : Nat} {x y z u : Value} (h : Bx4 W b x y z u) {p : Addr} (hp : p.block ≠ b) (v : Value) : Bx4 (W.setCell p v) b x y z u := by
  have e : ∀ j, (W.setCell p v).cell? ⟨b, j, none⟩ = W.cell? ⟨b, j, none⟩ := fun j => World.cell?_of_block (Below.heap_setCell _ _ _ _ (fun e => hp e.symm))
  exact ⟨by simpa [World.setCell] using h.lt, (e 0).trans h.c0, (e 1).trans h.c1, (e 2).trans h.c2, (e 3).trans h.c3, fun j => (World.frozen?_of_block (Below.heap_setCell _ _ _ _ (fun e => hp e.symm))).trans (h.fz j)⟩

set_option maxRecDepth 100000 in
set_option maxHeartbeats 2000000 in
theorem specAgeItem_any (W : World) (x : ItD) (b : Int) (hx : x.text.size ≤ maxLen) : Calls Try.prog 50 #[.agg #[.int .i64 x.frm, .int .i64 x.seq, .int .i64 x.age, .string x.text], .int .i64 b] W fun e W' => e = .returned (.tuple #[.agg #[.int .i64 (outAge x b).frm, .int .i64 (outAge x b).seq, .int .i64 (outAge x b).age, .string (outAge x b).text], .bool (mayAge x b)]) ∧ Below W.heap.size W W' := by
  have HX : Hid (Bx4 ((W.alloc (.cells #[.int .i64 x.frm, .int .i64 x.seq, .int .i64 x.age, .string x.text] 60)).alloc (.cells #[.int .i64 0, .int .i64 0, .int .i64 0, .string ByteArray.empty] 60)) W.heap.size (.int .i64 x.frm) (.int .i64 x.seq) (.int .i64 x.age) (.string x.text)) := (Bx4.new _ _ _ _ _ _).below ((Below.refl _ _).alloc (Nat.le_refl _) _)
  have HR : Hid (Bx4 ((W.alloc (.cells #[.int .i64 x.frm, .int .i64 x.seq, .int .i64 x.age, .string x.text] 60)).alloc (.cells #[.int .i64 0, .int .i64 0, .int .i64 0, .string ByteArray.empty] 60)) (W.heap.size + 1) (.int .i64 0) (.int .i64 0) (.int .i64 0) (.string ByteArray.empty)) := by
    have := Bx4.new (W.alloc (.cells #[.int .i64 x.frm, .int .i64 x.seq, .int .i64 x.age, .string x.text] 60)) (.int .i64 0) (.int .i64 0) (.int .i64 0) (.string ByteArray.empty) 60
    exact (show Bx4 _ _ _ _ _ _ by simpa using this)
  have HB : Hid (Since W.heap.size W ((W.alloc (.cells #[.int .i64 x.frm, .int .i64 x.seq, .int .i64 x.age, .string x.text] 60)).alloc (.cells #[.int .i64 0, .int .i64 0, .int .i64 0, .string ByteArray.empty] 60))) := (Since.start W).step (alloc2_below _ _ _)
  cases g1 : goodI x with
  | false =>
    have HM : Hid (mayAge x b = false) := by show _ = _; unfold mayAge; rw [g1]; rfl
    have HO : Hid (outAge x b = ⟨0, 0, 0, ByteArray.empty⟩) := by show _ = _; unfold outAge; rw [HM.out]; rfl
    rw [HM.out, HO.out]
    have G1 : Hid (goodI x = false) := g1
    clear g1 HM HO
    go_enter Try.func50, Try.ntmps50
    go_wp2_with fail
    refine (specGoodItem_any _ x hx).mono ?_
    rintro e w1 ⟨rfl, hb1⟩
    rw [G1.out]
    have HB1 : Hid (Since W.heap.size W w1) := HB.out.step hb1
    have HX1 : Hid (Bx4 w1 W.heap.size (.int .i64 x.frm) (.int .i64 x.seq) (.int .i64 x.age) (.string x.text)) := HX.out.below hb1
    have HR1 : Hid (Bx4 w1 (W.heap.size + 1) (.int .i64 0) (.int .i64 0) (.int .i64 0) (.string ByteArray.empty)) := HR.out.below hb1
    obtain ⟨a0, a1, a2, a3⟩ := HX1.out.cells
    obtain ⟨b0, b1, b2, b3⟩ := HR1.out.cells
    have fa0 := HX1.out.fz 0
    have fb0 := HR1.out.fz 0
    have fa1 := HX1.out.fz 1
    have fb1 := HR1.out.fz 1
    have fa2 := HX1.out.fz 2
    have fb2 := HR1.out.fz 2
    have fa3 := HX1.out.fz 3
    have fb3 := HR1.out.fz 3
    clear hb1
    go_wp2
    refine bodyPost_ret (v := .tuple #[.agg #[.int .i64 0, .int .i64 0, .int .i64 0, .string ⟨#[]⟩], .bool false]) (by simp [results, Try.results50, go_sem, b0, b1, b2, b3]) rfl ⟨rfl, ?_⟩
    repeat (refine Below.setCell ?_ (by first | exact Nat.le_refl _ | exact Nat.le_succ _ | (simp; omega)) _)
    exact HB1.out.1
  | true =>
    have G1 : Hid (goodI x = true) := g1
    have y1 : 0 ≤ x.age := (goodI_parts g1).2.2.1.1
    have y2 : x.age ≤ 20 := (goodI_parts g1).2.2.1.2
    clear g1
    cases d : decide (0 ≤ b ∧ b ≤ 100) with
    | false =>
      have D : Hid (decide (0 ≤ b ∧ b ≤ 100) = false) := d
      have HM : Hid (mayAge x b = false) := by show _ = _; unfold mayAge; rw [G1.out, d]; rfl
      have HO : Hid (outAge x b = ⟨0, 0, 0, ByteArray.empty⟩) := by show _ = _; unfold outAge; rw [HM.out]; rfl
      rw [HM.out, HO.out]
      clear d HM HO
      go_enter Try.func50, Try.ntmps50
      go_wp2_with fail
      refine (specGoodItem_any _ x hx).mono ?_
      rintro e w1 ⟨rfl, hb1⟩
      rw [G1.out]
      have HB1 : Hid (Since W.heap.size W w1) := HB.out.step hb1
      have HX1 : Hid (Bx4 w1 W.heap.size (.int .i64 x.frm) (.int .i64 x.seq) (.int .i64 x.age) (.string x.text)) := HX.out.below hb1
      have HR1 : Hid (Bx4 w1 (W.heap.size + 1) (.int .i64 0) (.int .i64 0) (.int .i64 0) (.string ByteArray.empty)) := HR.out.below hb1
      obtain ⟨a0, a1, a2, a3⟩ := HX1.out.cells
      obtain ⟨b0, b1, b2, b3⟩ := HR1.out.cells
      have fa0 := HX1.out.fz 0
      have fb0 := HR1.out.fz 0
      have fa1 := HX1.out.fz 1
      have fb1 := HR1.out.fz 1
      have fa2 := HX1.out.fz 2
      have fb2 := HR1.out.fz 2
      have fa3 := HX1.out.fz 3
      have fb3 := HR1.out.fz 3
      clear hb1
      go_wp2_with fail
      refine (l1In_any b 0 100 _).mono ?_
      rintro e w8 ⟨rfl, rfl⟩
      rw [D.out]
      go_wp2
      refine bodyPost_ret (v := .tuple #[.agg #[.int .i64 0, .int .i64 0, .int .i64 0, .string ⟨#[]⟩], .bool false]) (by simp [results, Try.results50, go_sem, b0, b1, b2, b3]) rfl ⟨rfl, ?_⟩
      repeat (refine Below.setCell ?_ (by first | exact Nat.le_refl _ | exact Nat.le_succ _ | (simp; omega)) _)
      exact HB1.out.1
    | true =>
      have D : Hid (decide (0 ≤ b ∧ b ≤ 100) = true) := d
      have z1 : 0 ≤ b := (of_decide_eq_true d).1
      have z2 : b ≤ 100 := (of_decide_eq_true d).2
      by_cases h : x.age ≤ b
      · have HM : Hid (mayAge x b = true) := by show _ = _; unfold mayAge; rw [G1.out, d]; rfl
        have HO : Hid (outAge x b = ageI x b) := by show _ = _; unfold outAge; rw [HM.out]; rfl
        rw [HM.out, HO.out]
        have HA : Hid (ageI x b = ⟨x.frm, x.seq, 0, ByteArray.empty⟩) := if_pos h
        rw [HA.out]
        clear d HM HO HA
        go_enter Try.func50, Try.ntmps50
        go_wp2_with fail
        refine (specGoodItem_any _ x hx).mono ?_
        rintro e w1 ⟨rfl, hb1⟩
        rw [G1.out]
        have HB1 : Hid (Since W.heap.size W w1) := HB.out.step hb1
        have HX1 : Hid (Bx4 w1 W.heap.size (.int .i64 x.frm) (.int .i64 x.seq) (.int .i64 x.age) (.string x.text)) := HX.out.below hb1
        have HR1 : Hid (Bx4 w1 (W.heap.size + 1) (.int .i64 0) (.int .i64 0) (.int .i64 0) (.string ByteArray.empty)) := HR.out.below hb1
        obtain ⟨a0, a1, a2, a3⟩ := HX1.out.cells
        obtain ⟨b0, b1, b2, b3⟩ := HR1.out.cells
        have fa0 := HX1.out.fz 0
        have fb0 := HR1.out.fz 0
        have fa1 := HX1.out.fz 1
        have fb1 := HR1.out.fz 1
        have fa2 := HX1.out.fz 2
        have fb2 := HR1.out.fz 2
        have fa3 := HX1.out.fz 3
        have fb3 := HR1.out.fz 3
        clear hb1
        go_wp2_with fail
        refine (l1In_any b 0 100 _).mono ?_
        rintro e w8 ⟨rfl, rfl⟩
        rw [D.out]
        go_wp2
        refine bodyPost_ret (v := .tuple #[.agg #[.int .i64 x.frm, .int .i64 x.seq, .int .i64 0, .string ⟨#[]⟩], .bool true]) (by simp [results, Try.results50, go_sem, b0, b1, b2, b3]) rfl ⟨rfl, ?_⟩
        repeat (refine Below.setCell ?_ (by first | exact Nat.le_refl _ | exact Nat.le_succ _ | (simp; omega)) _)
        exact HB1.out.1
      · have HM : Hid (mayAge x b = true) := by show _ = _; unfold mayAge; rw [G1.out, d]; rfl
        have HO : Hid (outAge x b = ageI x b) := by show _ = _; unfold outAge; rw [HM.out]; rfl
        rw [HM.out, HO.out]
        have HA : Hid (ageI x b = ⟨x.frm, x.seq, x.age - b, x.text⟩) := if_neg h
        rw [HA.out]
        clear d HM HO HA
        go_enter Try.func50, Try.ntmps50
        go_wp2_with fail
        refine (specGoodItem_any _ x hx).mono ?_
        rintro e w1 ⟨rfl, hb1⟩
        rw [G1.out]
        have HB1 : Hid (Since W.heap.size W w1) := HB.out.step hb1
        have HX1 : Hid (Bx4 w1 W.heap.size (.int .i64 x.frm) (.int .i64 x.seq) (.int .i64 x.age) (.string x.text)) := HX.out.below hb1
        have HR1 : Hid (Bx4 w1 (W.heap.size + 1) (.int .i64 0) (.int .i64 0) (.int .i64 0) (.string ByteArray.empty)) := HR.out.below hb1
        obtain ⟨a0, a1, a2, a3⟩ := HX1.out.cells
        obtain ⟨b0, b1, b2, b3⟩ := HR1.out.cells
        have fa0 := HX1.out.fz 0
        have fb0 := HR1.out.fz 0
        have fa1 := HX1.out.fz 1
        have fb1 := HR1.out.fz 1
        have fa2 := HX1.out.fz 2
        have fb2 := HR1.out.fz 2
        have fa3 := HX1.out.fz 3
        have fb3 := HR1.out.fz 3
        clear hb1
        go_wp2_with fail
        refine (l1In_any b 0 100 _).mono ?_
        rintro e w8 ⟨rfl, rfl⟩
        rw [D.out]
        go_wp2
        refine bodyPost_ret (v := .tuple #[.agg #[.int .i64 x.frm, .int .i64 x.seq, .int .i64 (x.age - b), .string x.text], .bool true]) (by simp [results, Try.results50, go_sem, b0, b1, b2, b3]) rfl ⟨rfl, ?_⟩
        repeat (refine Below.setCell ?_ (by first | exact Nat.le_refl _ | exact Nat.le_succ _ | (simp; omega)) _)
        exact HB1.out.1

set_option maxRecDepth 100000 in
set_option maxHeartbeats 2000000 in
theorem implAgeItem_any (W : World) (x : ItD) (b : Int) (hx : x.text.size ≤ maxLen) : Calls Try.prog 49 #[.agg #[.int .i64 x.frm, .int .i64 x.seq, .int .i64 x.age, .string x.text], .int .i64 b] W fun e W' => e = .returned (.tuple #[.agg #[.int .i64 (outAge x b).frm, .int .i64 (outAge x b).seq, .int .i64 (outAge x b).age, .string (outAge x b).text], .bool (mayAge x b)]) ∧ Below W.heap.size W W' := by
  have HX : Hid (Bx4 ((W.alloc (.cells #[.int .i64 x.frm, .int .i64 x.seq, .int .i64 x.age, .string x.text] 60)).alloc (.cells #[.int .i64 0, .int .i64 0, .int .i64 0, .string ByteArray.empty] 60)) W.heap.size (.int .i64 x.frm) (.int .i64 x.seq) (.int .i64 x.age) (.string x.text)) := (Bx4.new _ _ _ _ _ _).below ((Below.refl _ _).alloc (Nat.le_refl _) _)
  have HR : Hid (Bx4 ((W.alloc (.cells #[.int .i64 x.frm, .int .i64 x.seq, .int .i64 x.age, .string x.text] 60)).alloc (.cells #[.int .i64 0, .int .i64 0, .int .i64 0, .string ByteArray.empty] 60)) (W.heap.size + 1) (.int .i64 0) (.int .i64 0) (.int .i64 0) (.string ByteArray.empty)) := by
    have := Bx4.new (W.alloc (.cells #[.int .i64 x.frm, .int .i64 x.seq, .int .i64 x.age, .string x.text] 60)) (.int .i64 0) (.int .i64 0) (.int .i64 0) (.string ByteArray.empty) 60
    exact (show Bx4 _ _ _ _ _ _ by simpa using this)
  have HB : Hid (Since W.heap.size W ((W.alloc (.cells #[.int .i64 x.frm, .int .i64 x.seq, .int .i64 x.age, .string x.text] 60)).alloc (.cells #[.int .i64 0, .int .i64 0, .int .i64 0, .string ByteArray.empty] 60))) := (Since.start W).step (alloc2_below _ _ _)
  cases g1 : goodI x with
  | false =>
    have HM : Hid (mayAge x b = false) := by show _ = _; unfold mayAge; rw [g1]; rfl
    have HO : Hid (outAge x b = ⟨0, 0, 0, ByteArray.empty⟩) := by show _ = _; unfold outAge; rw [HM.out]; rfl
    rw [HM.out, HO.out]
    have G1 : Hid (goodI x = false) := g1
    clear g1 HM HO
    go_enter Try.func49, Try.ntmps49
    go_wp2_with fail
    refine (implGoodItem_any _ x hx).mono ?_
    rintro e w1 ⟨rfl, hb1⟩
    rw [G1.out]
    have HB1 : Hid (Since W.heap.size W w1) := HB.out.step hb1
    have HX1 : Hid (Bx4 w1 W.heap.size (.int .i64 x.frm) (.int .i64 x.seq) (.int .i64 x.age) (.string x.text)) := HX.out.below hb1
    have HR1 : Hid (Bx4 w1 (W.heap.size + 1) (.int .i64 0) (.int .i64 0) (.int .i64 0) (.string ByteArray.empty)) := HR.out.below hb1
    obtain ⟨a0, a1, a2, a3⟩ := HX1.out.cells
    obtain ⟨b0, b1, b2, b3⟩ := HR1.out.cells
    have fa0 := HX1.out.fz 0
    have fb0 := HR1.out.fz 0
    have fa1 := HX1.out.fz 1
    have fb1 := HR1.out.fz 1
    have fa2 := HX1.out.fz 2
    have fb2 := HR1.out.fz 2
    have fa3 := HX1.out.fz 3
    have fb3 := HR1.out.fz 3
    clear hb1
    go_wp2
    refine bodyPost_ret (v := .tuple #[.agg #[.int .i64 0, .int .i64 0, .int .i64 0, .string ⟨#[]⟩], .bool false]) (by simp [results, Try.results49, go_sem, b0, b1, b2, b3]) rfl ⟨rfl, ?_⟩
    repeat (refine Below.setCell ?_ (by first | exact Nat.le_refl _ | exact Nat.le_succ _ | (simp; omega)) _)
    exact HB1.out.1
  | true =>
    have G1 : Hid (goodI x = true) := g1
    have y1 : 0 ≤ x.age := (goodI_parts g1).2.2.1.1
    have y2 : x.age ≤ 20 := (goodI_parts g1).2.2.1.2
    clear g1
    by_cases h1 : b < 0
    · have HM : Hid (mayAge x b = false) := by show _ = _; unfold mayAge; rw [G1.out, decide_eq_false (by omega)]; rfl
      have HO : Hid (outAge x b = ⟨0, 0, 0, ByteArray.empty⟩) := by show _ = _; unfold outAge; rw [HM.out]; rfl
      rw [HM.out, HO.out]
      clear HM HO
      go_enter Try.func49, Try.ntmps49
      go_wp2_with fail
      refine (implGoodItem_any _ x hx).mono ?_
      rintro e w1 ⟨rfl, hb1⟩
      rw [G1.out]
      have HB1 : Hid (Since W.heap.size W w1) := HB.out.step hb1
      have HX1 : Hid (Bx4 w1 W.heap.size (.int .i64 x.frm) (.int .i64 x.seq) (.int .i64 x.age) (.string x.text)) := HX.out.below hb1
      have HR1 : Hid (Bx4 w1 (W.heap.size + 1) (.int .i64 0) (.int .i64 0) (.int .i64 0) (.string ByteArray.empty)) := HR.out.below hb1
      obtain ⟨a0, a1, a2, a3⟩ := HX1.out.cells
      obtain ⟨b0, b1, b2, b3⟩ := HR1.out.cells
      have fa0 := HX1.out.fz 0
      have fb0 := HR1.out.fz 0
      have fa1 := HX1.out.fz 1
      have fb1 := HR1.out.fz 1
      have fa2 := HX1.out.fz 2
      have fb2 := HR1.out.fz 2
      have fa3 := HX1.out.fz 3
      have fb3 := HR1.out.fz 3
      clear hb1
      go_wp2
      refine bodyPost_ret (v := .tuple #[.agg #[.int .i64 0, .int .i64 0, .int .i64 0, .string ⟨#[]⟩], .bool false]) (by simp [results, Try.results49, go_sem, b0, b1, b2, b3]) rfl ⟨rfl, ?_⟩
      repeat (refine Below.setCell ?_ (by first | exact Nat.le_refl _ | exact Nat.le_succ _ | (simp; omega)) _)
      exact HB1.out.1
    by_cases h2 : 100 < b
    · have HM : Hid (mayAge x b = false) := by show _ = _; unfold mayAge; rw [G1.out, decide_eq_false (by omega)]; rfl
      have HO : Hid (outAge x b = ⟨0, 0, 0, ByteArray.empty⟩) := by show _ = _; unfold outAge; rw [HM.out]; rfl
      rw [HM.out, HO.out]
      clear HM HO
      go_enter Try.func49, Try.ntmps49
      go_wp2_with fail
      refine (implGoodItem_any _ x hx).mono ?_
      rintro e w1 ⟨rfl, hb1⟩
      rw [G1.out]
      have HB1 : Hid (Since W.heap.size W w1) := HB.out.step hb1
      have HX1 : Hid (Bx4 w1 W.heap.size (.int .i64 x.frm) (.int .i64 x.seq) (.int .i64 x.age) (.string x.text)) := HX.out.below hb1
      have HR1 : Hid (Bx4 w1 (W.heap.size + 1) (.int .i64 0) (.int .i64 0) (.int .i64 0) (.string ByteArray.empty)) := HR.out.below hb1
      obtain ⟨a0, a1, a2, a3⟩ := HX1.out.cells
      obtain ⟨b0, b1, b2, b3⟩ := HR1.out.cells
      have fa0 := HX1.out.fz 0
      have fb0 := HR1.out.fz 0
      have fa1 := HX1.out.fz 1
      have fb1 := HR1.out.fz 1
      have fa2 := HX1.out.fz 2
      have fb2 := HR1.out.fz 2
      have fa3 := HX1.out.fz 3
      have fb3 := HR1.out.fz 3
      clear hb1
      go_wp2
      refine bodyPost_ret (v := .tuple #[.agg #[.int .i64 0, .int .i64 0, .int .i64 0, .string ⟨#[]⟩], .bool false]) (by simp [results, Try.results49, go_sem, b0, b1, b2, b3]) rfl ⟨rfl, ?_⟩
      repeat (refine Below.setCell ?_ (by first | exact Nat.le_refl _ | exact Nat.le_succ _ | (simp; omega)) _)
      exact HB1.out.1
    by_cases h : x.age ≤ b
    · by_cases he : x.age = b
      · have HM : Hid (mayAge x b = true) := by show _ = _; unfold mayAge; rw [G1.out, decide_eq_true (by omega)]; rfl
        have HO : Hid (outAge x b = ageI x b) := by show _ = _; unfold outAge; rw [HM.out]; rfl
        rw [HM.out, HO.out]
        have HA : Hid (ageI x b = ⟨x.frm, x.seq, 0, ByteArray.empty⟩) := if_pos h
        rw [HA.out]
        have HG : Hid (goneI (⟨x.frm, x.seq, 0, x.text⟩ : ItD) = true) := rfl
        clear HM HO HA h
        subst he
        go_enter Try.func49, Try.ntmps49
        go_wp2_with fail
        refine (implGoodItem_any _ x hx).mono ?_
        rintro e w1 ⟨rfl, hb1⟩
        rw [G1.out]
        have HB1 : Hid (Since W.heap.size W w1) := HB.out.step hb1
        have HX1 : Hid (Bx4 w1 W.heap.size (.int .i64 x.frm) (.int .i64 x.seq) (.int .i64 x.age) (.string x.text)) := HX.out.below hb1
        have HR1 : Hid (Bx4 w1 (W.heap.size + 1) (.int .i64 0) (.int .i64 0) (.int .i64 0) (.string ByteArray.empty)) := HR.out.below hb1
        obtain ⟨a0, a1, a2, a3⟩ := HX1.out.cells
        obtain ⟨b0, b1, b2, b3⟩ := HR1.out.cells
        have fa0 := HX1.out.fz 0
        have fb0 := HR1.out.fz 0
        have fa1 := HX1.out.fz 1
        have fb1 := HR1.out.fz 1
        have fa2 := HX1.out.fz 2
        have fb2 := HR1.out.fz 2
        have fa3 := HX1.out.fz 3
        have fb3 := HR1.out.fz 3
        clear hb1
        go_wp2_with fail
        refine (isGone_any _ (⟨x.frm, x.seq, 0, x.text⟩ : ItD)).mono ?_
        rintro e w2 ⟨rfl, hb2⟩
        rw [HG.out]
        have HB2 : Hid (Since W.heap.size W w2) := ⟨(HB1.out.1.setCell (Nat.le_refl _) _).trans (hb2.mono (by simpa [World.setCell] using HB1.out.2)), Nat.le_trans HB1.out.2 (Nat.le_trans (by simp [World.setCell]) hb2.size)⟩
        have HX2 : Hid (Bx4 w2 W.heap.size (.int .i64 (⟨x.frm, x.seq, 0, x.text⟩ : ItD).frm) (.int .i64 (⟨x.frm, x.seq, 0, x.text⟩ : ItD).seq) (.int .i64 (⟨x.frm, x.seq, 0, x.text⟩ : ItD).age) (.string (⟨x.frm, x.seq, 0, x.text⟩ : ItD).text)) := (HX1.out.put2 _).below hb2
        have HR2 : Hid (Bx4 w2 (W.heap.size + 1) (.int .i64 0) (.int .i64 0) (.int .i64 0) (.string ByteArray.empty)) := (HR1.out.other (by simp) _).below hb2
        clear a0 a1 a2 a3 b0 b1 b2 b3 fa0 fa1 fa2 fa3 fb0 fb1 fb2 fb3 hb2
        obtain ⟨a0, a1, a2, a3⟩ := HX2.out.cells
        obtain ⟨b0, b1, b2, b3⟩ := HR2.out.cells
        have fa0 := HX2.out.fz 0
        have fb0 := HR2.out.fz 0
        have fa1 := HX2.out.fz 1
        have fb1 := HR2.out.fz 1
        have fa2 := HX2.out.fz 2
        have fb2 := HR2.out.fz 2
        have fa3 := HX2.out.fz 3
        have fb3 := HR2.out.fz 3
        go_wp2
        refine bodyPost_ret (v := .tuple #[.agg #[.int .i64 x.frm, .int .i64 x.seq, .int .i64 0, .string ⟨#[]⟩], .bool true]) (by simp [results, Try.results49, go_sem, b0, b1, b2, b3]) rfl ⟨rfl, ?_⟩
        repeat (refine Below.setCell ?_ (by first | exact Nat.le_refl _ | exact Nat.le_succ _ | (simp; omega)) _)
        exact HB2.out.1
      · have HM : Hid (mayAge x b = true) := by show _ = _; unfold mayAge; rw [G1.out, decide_eq_true (by omega)]; rfl
        have HO : Hid (outAge x b = ageI x b) := by show _ = _; unfold outAge; rw [HM.out]; rfl
        rw [HM.out, HO.out]
        have HA : Hid (ageI x b = ⟨x.frm, x.seq, 0, ByteArray.empty⟩) := if_pos h
        rw [HA.out]
        have HG : Hid (goneI (⟨x.frm, x.seq, 0, x.text⟩ : ItD) = true) := rfl
        clear HM HO HA
        have hm : x.age - b < 0 := by omega
        go_enter Try.func49, Try.ntmps49
        go_wp2_with fail
        refine (implGoodItem_any _ x hx).mono ?_
        rintro e w1 ⟨rfl, hb1⟩
        rw [G1.out]
        have HB1 : Hid (Since W.heap.size W w1) := HB.out.step hb1
        have HX1 : Hid (Bx4 w1 W.heap.size (.int .i64 x.frm) (.int .i64 x.seq) (.int .i64 x.age) (.string x.text)) := HX.out.below hb1
        have HR1 : Hid (Bx4 w1 (W.heap.size + 1) (.int .i64 0) (.int .i64 0) (.int .i64 0) (.string ByteArray.empty)) := HR.out.below hb1
        obtain ⟨a0, a1, a2, a3⟩ := HX1.out.cells
        obtain ⟨b0, b1, b2, b3⟩ := HR1.out.cells
        have fa0 := HX1.out.fz 0
        have fb0 := HR1.out.fz 0
        have fa1 := HX1.out.fz 1
        have fb1 := HR1.out.fz 1
        have fa2 := HX1.out.fz 2
        have fb2 := HR1.out.fz 2
        have fa3 := HX1.out.fz 3
        have fb3 := HR1.out.fz 3
        clear hb1
        go_wp2_with fail
        refine (isGone_any _ (⟨x.frm, x.seq, 0, x.text⟩ : ItD)).mono ?_
        rintro e w2 ⟨rfl, hb2⟩
        rw [HG.out]
        have HB2 : Hid (Since W.heap.size W w2) := ⟨(HB1.out.1.setCell (Nat.le_refl _) _).trans (hb2.mono (by simpa [World.setCell] using HB1.out.2)), Nat.le_trans HB1.out.2 (Nat.le_trans (by simp [World.setCell]) hb2.size)⟩
        have HX2 : Hid (Bx4 w2 W.heap.size (.int .i64 (⟨x.frm, x.seq, 0, x.text⟩ : ItD).frm) (.int .i64 (⟨x.frm, x.seq, 0, x.text⟩ : ItD).seq) (.int .i64 (⟨x.frm, x.seq, 0, x.text⟩ : ItD).age) (.string (⟨x.frm, x.seq, 0, x.text⟩ : ItD).text)) := (HX1.out.put2 _).below hb2
        have HR2 : Hid (Bx4 w2 (W.heap.size + 1) (.int .i64 0) (.int .i64 0) (.int .i64 0) (.string ByteArray.empty)) := (HR1.out.other (by simp) _).below hb2
        clear a0 a1 a2 a3 b0 b1 b2 b3 fa0 fa1 fa2 fa3 fb0 fb1 fb2 fb3 hb2
        obtain ⟨a0, a1, a2, a3⟩ := HX2.out.cells
        obtain ⟨b0, b1, b2, b3⟩ := HR2.out.cells
        have fa0 := HX2.out.fz 0
        have fb0 := HR2.out.fz 0
        have fa1 := HX2.out.fz 1
        have fb1 := HR2.out.fz 1
        have fa2 := HX2.out.fz 2
        have fb2 := HR2.out.fz 2
        have fa3 := HX2.out.fz 3
        have fb3 := HR2.out.fz 3
        go_wp2
        refine bodyPost_ret (v := .tuple #[.agg #[.int .i64 x.frm, .int .i64 x.seq, .int .i64 0, .string ⟨#[]⟩], .bool true]) (by simp [results, Try.results49, go_sem, b0, b1, b2, b3]) rfl ⟨rfl, ?_⟩
        repeat (refine Below.setCell ?_ (by first | exact Nat.le_refl _ | exact Nat.le_succ _ | (simp; omega)) _)
        exact HB2.out.1
    · have HM : Hid (mayAge x b = true) := by show _ = _; unfold mayAge; rw [G1.out, decide_eq_true (by omega)]; rfl
      have HO : Hid (outAge x b = ageI x b) := by show _ = _; unfold outAge; rw [HM.out]; rfl
      rw [HM.out, HO.out]
      have HA : Hid (ageI x b = ⟨x.frm, x.seq, x.age - b, x.text⟩) := if_neg h
      rw [HA.out]
      have HG : Hid (goneI (⟨x.frm, x.seq, x.age - b, x.text⟩ : ItD) = false) := by show _ = _; unfold goneI; simp; omega
      clear HM HO HA
      have hm : max (x.age - b) 0 = x.age - b := by omega
      go_enter Try.func49, Try.ntmps49
      go_wp2_with fail
      refine (implGoodItem_any _ x hx).mono ?_
      rintro e w1 ⟨rfl, hb1⟩
      rw [G1.out]
      have HB1 : Hid (Since W.heap.size W w1) := HB.out.step hb1
      have HX1 : Hid (Bx4 w1 W.heap.size (.int .i64 x.frm) (.int .i64 x.seq) (.int .i64 x.age) (.string x.text)) := HX.out.below hb1
      have HR1 : Hid (Bx4 w1 (W.heap.size + 1) (.int .i64 0) (.int .i64 0) (.int .i64 0) (.string ByteArray.empty)) := HR.out.below hb1
      obtain ⟨a0, a1, a2, a3⟩ := HX1.out.cells
      obtain ⟨b0, b1, b2, b3⟩ := HR1.out.cells
      have fa0 := HX1.out.fz 0
      have fb0 := HR1.out.fz 0
      have fa1 := HX1.out.fz 1
      have fb1 := HR1.out.fz 1
      have fa2 := HX1.out.fz 2
      have fb2 := HR1.out.fz 2
      have fa3 := HX1.out.fz 3
      have fb3 := HR1.out.fz 3
      clear hb1
      go_wp2_with fail
      refine (isGone_any _ (⟨x.frm, x.seq, x.age - b, x.text⟩ : ItD)).mono ?_
      rintro e w2 ⟨rfl, hb2⟩
      rw [HG.out]
      have HB2 : Hid (Since W.heap.size W w2) := ⟨(HB1.out.1.setCell (Nat.le_refl _) _).trans (hb2.mono (by simpa [World.setCell] using HB1.out.2)), Nat.le_trans HB1.out.2 (Nat.le_trans (by simp [World.setCell]) hb2.size)⟩
      have HX2 : Hid (Bx4 w2 W.heap.size (.int .i64 (⟨x.frm, x.seq, x.age - b, x.text⟩ : ItD).frm) (.int .i64 (⟨x.frm, x.seq, x.age - b, x.text⟩ : ItD).seq) (.int .i64 (⟨x.frm, x.seq, x.age - b, x.text⟩ : ItD).age) (.string (⟨x.frm, x.seq, x.age - b, x.text⟩ : ItD).text)) := (HX1.out.put2 _).below hb2
      have HR2 : Hid (Bx4 w2 (W.heap.size + 1) (.int .i64 0) (.int .i64 0) (.int .i64 0) (.string ByteArray.empty)) := (HR1.out.other (by simp) _).below hb2
      clear a0 a1 a2 a3 b0 b1 b2 b3 fa0 fa1 fa2 fa3 fb0 fb1 fb2 fb3 hb2
      obtain ⟨a0, a1, a2, a3⟩ := HX2.out.cells
      obtain ⟨b0, b1, b2, b3⟩ := HR2.out.cells
      have fa0 := HX2.out.fz 0
      have fb0 := HR2.out.fz 0
      have fa1 := HX2.out.fz 1
      have fb1 := HR2.out.fz 1
      have fa2 := HX2.out.fz 2
      have fb2 := HR2.out.fz 2
      have fa3 := HX2.out.fz 3
      have fb3 := HR2.out.fz 3
      go_wp2
      refine bodyPost_ret (v := .tuple #[.agg #[.int .i64 x.frm, .int .i64 x.seq, .int .i64 (x.age - b), .string x.text], .bool true]) (by simp [results, Try.results49, go_sem, b0, b1, b2, b3]) rfl ⟨rfl, ?_⟩
      repeat (refine Below.setCell ?_ (by first | exact Nat.le_refl _ | exact Nat.le_succ _ | (simp; omega)) _)
      exact HB2.out.1

end Go.Proofs.Ythdcfeafkellcab
