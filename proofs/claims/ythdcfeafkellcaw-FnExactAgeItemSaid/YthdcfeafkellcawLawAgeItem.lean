/-
  Proved: for every item and every number, 'AgeItem' of the program at commit 9a5d4bce51f6 answers as the model's 'AgeItem', every field and the bool; and the law's own arguments read as before. No condition.
-/
import Derived.Test.YthdcfeafkellcawPlain
import Derived.Test.YthdcfeafkellcawItemsA
import Derived.Test.YthdcfeafkellcawRowOfIt
import Derived.Deep.CutRange
namespace Go.Proofs.Ythdcfeafkellcaw.fnExactAgeItem
open Go.ChangeShapes Go.WideShapes Go.ChangeAt Go.RowKit
open Go.ChangeMaps (open_string shut_string)
set_option linter.unusedVariables false

set_option maxRecDepth 100000 in
set_option maxHeartbeats 4000000 in
theorem walk (x : ItD) (b : Int) (w : World) (hx : x.text.size ≤ maxLen) (_ : (Lit.int .i64 b).wf = true) :
    Calls Try.prog 4 #[.agg #[.int .i64 x.frm, .int .i64 x.seq, .int .i64 x.age, .string x.text], .int .i64 b] w fun e w' => e = .returned (.bool true) ∧ Below w.heap.size w w' := by
  have HX : Hid (Bx4 (w.alloc (.cells #[.int .i64 x.frm, .int .i64 x.seq, .int .i64 x.age, .string x.text] 23)) w.heap.size (.int .i64 x.frm) (.int .i64 x.seq) (.int .i64 x.age) (.string x.text)) := Bx4.new _ _ _ _ _ _
  have HB : Hid (Since w.heap.size w (w.alloc (.cells #[.int .i64 x.frm, .int .i64 x.seq, .int .i64 x.age, .string x.text] 23))) := (Since.start w).step ((Below.refl _ w).alloc (Nat.le_refl _) _)
  have HT : Hid (x.text.size ≤ maxLen) := hx
  clear hx
  by_cases hle : (x.text.size : Int) ≤ 1048576
  · have HP : Hid ((if (x.text.size : Int) ≤ 1048576 then 1048576 - (x.text.size : Int) else -1) = 1048576 - x.text.size) := if_pos hle
    have n1 : ¬ (1048576 - (x.text.size : Int) < 0) := by omega
    go_enter Try.func4, Try.ntmps4
    obtain ⟨o, ho⟩ : ∃ o, o = outAge x b := ⟨_, rfl⟩
    obtain ⟨m, hm⟩ : ∃ m, m = mayAge x b := ⟨_, rfl⟩
    have CS : Hid (∀ W, Calls Try.prog 11 #[.agg #[.int .i64 x.frm, .int .i64 x.seq, .int .i64 x.age, .string x.text], .int .i64 b] W fun e W' => e = .returned (.tuple #[.agg #[.int .i64 o.frm, .int .i64 o.seq, .int .i64 o.age, .string o.text], .bool m]) ∧ Below W.heap.size W W') := fun W => by rw [ho, hm]; exact specAgeItem_any W x b HT.out
    have CI : Hid (∀ W, Calls Try.prog 12 #[.agg #[.int .i64 x.frm, .int .i64 x.seq, .int .i64 x.age, .string x.text], .int .i64 b] W fun e W' => e = .returned (.tuple #[.agg #[.int .i64 o.frm, .int .i64 o.seq, .int .i64 o.age, .string o.text], .bool m]) ∧ Below W.heap.size W W') := fun W => by rw [ho, hm]; exact implAgeItem_any W x b HT.out
    clear ho hm
    go_wp2_with fail
    refine (szIt_any _ x 1048576 HT.out (by omega) (by omega)).mono ?_
    rintro e w1 ⟨rfl, hb1⟩
    rw [HP.out]
    have HB1 : Hid (Since w.heap.size w w1) := HB.out.step hb1
    have HX1 : Hid (Bx4 w1 w.heap.size (.int .i64 x.frm) (.int .i64 x.seq) (.int .i64 x.age) (.string x.text)) := HX.out.below hb1
    obtain ⟨a0, a1, a2, a3⟩ := HX1.out.cells
    clear hb1
    go_wp2_with fail
    refine (toIt_any _ x).mono ?_
    rintro e w2 ⟨rfl, hb2⟩
    have HB2 : Hid (Since w.heap.size w w2) := HB1.out.step hb2
    have HX2 : Hid (Bx4 w2 w.heap.size (.int .i64 x.frm) (.int .i64 x.seq) (.int .i64 x.age) (.string x.text)) := HX1.out.below hb2
    clear a0 a1 a2 a3
    obtain ⟨a0, a1, a2, a3⟩ := HX2.out.cells
    clear hb2
    go_wp2_with fail
    refine (CS.out _).mono ?_
    rintro e w3 ⟨rfl, hb3⟩
    have HB3 : Hid (Since w.heap.size w w3) := HB2.out.step hb3
    have HX3 : Hid (Bx4 w3 w.heap.size (.int .i64 x.frm) (.int .i64 x.seq) (.int .i64 x.age) (.string x.text)) := HX2.out.below hb3
    clear a0 a1 a2 a3
    obtain ⟨a0, a1, a2, a3⟩ := HX3.out.cells
    clear hb3
    have lt3 := HX3.out.lt
    go_wp2_with fail
    refine (toIt_any _ x).mono ?_
    rintro e w4 ⟨rfl, hb4⟩
    have HB4 : Hid (Since w.heap.size w w4) := (HB3.out.step ((Below.refl _ _).alloc (Nat.le_refl _) _)).step hb4
    have HX4 : Hid (Bx4 w4 w.heap.size (.int .i64 x.frm) (.int .i64 x.seq) (.int .i64 x.age) (.string x.text)) := (HX3.out.below ((Below.refl _ _).alloc (Nat.le_refl _) _)).below hb4
    have HO4 : Hid (Bx4 w4 w3.heap.size (.int .i64 o.frm) (.int .i64 o.seq) (.int .i64 o.age) (.string o.text)) := (Bx4.new _ _ _ _ _ _).below hb4
    clear hb4 a0 a1 a2 a3 lt3
    obtain ⟨a0, a1, a2, a3⟩ := HX4.out.cells
    go_wp2_with fail
    refine (CI.out _).mono ?_
    rintro e w5 ⟨rfl, hb5⟩
    have HB5 : Hid (Since w.heap.size w w5) := HB4.out.step hb5
    have HO5 : Hid (Bx4 w5 w3.heap.size (.int .i64 o.frm) (.int .i64 o.seq) (.int .i64 o.age) (.string o.text)) := HO4.out.below hb5
    clear hb5 a0 a1 a2 a3
    obtain ⟨a0, a1, a2, a3⟩ := HO5.out.cells
    have lt5 := HO5.out.lt
    go_wp2_with fail
    refine (eqIt_same _ o).mono ?_
    rintro e w6 ⟨rfl, hb6⟩
    have HB6 : Hid (Since w.heap.size w w6) := (HB5.out.step ((Below.refl _ _).alloc (Nat.le_refl _) _)).step hb6
    clear hb6 a0 a1 a2 a3 lt5
    go_wp2
    go_ret
    exact ⟨rfl, HB6.out.1⟩
  · have HP : Hid ((if (x.text.size : Int) ≤ 1048576 then 1048576 - (x.text.size : Int) else -1) = -1) := if_neg hle
    go_enter Try.func4, Try.ntmps4
    go_wp2_with fail
    refine (szIt_any _ x 1048576 HT.out (by omega) (by omega)).mono ?_
    rintro e w1 ⟨rfl, hb1⟩
    rw [HP.out]
    have HB1 : Hid (Since w.heap.size w w1) := HB.out.step hb1
    clear hb1
    go_wp2
    go_ret
    exact ⟨rfl, HB1.out.1⟩

set_option maxRecDepth 100000 in
theorem contract (H : Type) (enc : TypeId × Value → H) (W : World) (base : Nat) (args : Array Value) (ds gs : List (DataW H)) (before : List MemPlace)
    (hval : ∀ (j : Nat) t v, Try.f4.params[j]? = some t → args[j]? = some v → Value.okWide Try.prog W .any base t v)
    (hW : DataW.Whole enc Try.prog Try.f4.params.toList Rows.fnExactAgeItemSpec.vars false W args.toList ds gs before) :
    Calls Try.prog 4 args W fun e W' => ∃ v, e = .returned v ∧ Rows.fnExactAgeItemSpec.post enc Try.prog Try.f4 false true false false W args v W' := by
  have hW' := hW
  obtain ⟨p, q, hA0, hV0, rfl, hfz, hnd⟩ := hW
  have hA : DataW.TrodAll enc Try.prog W 0 (fun _ => true) true Try.f4.params.toList args.toList ds p := hA0
  rw [Try.params4] at hA hval
  obtain ⟨v0, vs0, d0, ds0, p0, q0, hargs, rfl, rfl, h0, r0⟩ := trodAll_cons hA
  obtain ⟨v1, vs1, d1, ds1, p1, q1, rfl, rfl, rfl, h1, r1⟩ := trodAll_cons r0
  obtain ⟨rfl, rfl, rfl⟩ := trodAll_nil r1
  obtain rfl : args = #[v0, v1] := by cases args; simp_all
  obtain ⟨rfl, rfl⟩ := trodVars_none hV0
  have k0 := h0
  have lt0 : ∀ x ∈ p0, x.block < W.heap.size := by obtain ⟨m, hm⟩ := k0; exact DataW.trod_lt m _ _ _ hm
  obtain ⟨pr0, rfl, hp0⟩ := It_of (hval 0 23 v0 rfl rfl) k0
  obtain ⟨a1, rfl, rfl, rfl, w1⟩ := open_int Try.underlying3 (hval 1 3 v1 rfl rfl) h1
  clear hA0 hV0
  refine (walk pr0 a1 W hp0 w1).mono fun e W' ⟨he, bel⟩ => ?_
  subst he
  exact ⟨_, rfl, _, _, _, [], _, [], hW', trodAll_mk1 (shut_bool Try.underlying4 _), (trodAll_cons_mk (Below.trod laidOut (by kernel_rfl) (of_decide_eq_true (by kernel_rfl)) k0 bel lt0) (trodAll_cons_mk (shut_int Try.underlying3 w1) trodAll_mk0)), rfl, bel.frame _, fun h => by cases h⟩

set_option maxRecDepth 100000 in
theorem lifted (os : Os) (started : os.Started) (H : Type) (enc : TypeId × Value → H) :
    ReturnsInHanded {} Try.checked os 4 .any (Rows.fnExactAgeItemSpec.pre6 enc Try.prog Try.f4 Rows.fnExactAgeItemRow.domain false) (Rows.fnExactAgeItemSpec.post enc Try.prog Try.f4 false true false false) := by
  refine returnsInHanded_of_change (C := Try.checked) own started (by kernel_rfl) Try.func4
    (ChangeSpec.witness6 (enc := enc) (C := Try.checked) false ⟨#[], #[.agg #[.int .i64 0, .int .i64 0, .int .i64 0, .string ByteArray.empty], .int .i64 0], []⟩ 8 (by kernel_rfl) (by kernel_rfl) (by kernel_rfl) (by kernel_rfl)) ?_
  intro W base args ds gs before hval hW _ _
  exact contract H enc W base args ds gs before hval hW

/-- The statement. -/
theorem said : Rows.FnExactAgeItemSaid :=
  OpenClaim.holds_of_wide 4 Try.f4 rfl rfl rfl rfl rfl rfl rfl ⟨rfl, rfl, rfl, rfl, rfl⟩ rfl rfl rfl rfl rfl (by kernel_rfl) Try.func4 (by kernel_rfl)
    (of_decide_eq_true (by kernel_rfl)) (by unfold Func.isWrapper; first | (rw [if_pos (by decide +kernel)]; kernel_rfl) | (rw [if_neg (by decide +kernel)]; exact ⟨rfl, rfl⟩))
    (fun os started H enc _ => lifted os started H enc)
#print axioms said
end Go.Proofs.Ythdcfeafkellcaw.fnExactAgeItem
