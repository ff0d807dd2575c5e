/-
  Proved: for every part, 'PartText' of the program at commit b03764082bd1 answers as the model's 'PartText', the text and the bool; it writes into no argument (the part that it was handed reads as before), and so does the law's own argument. No condition.
-/
import Derived.Test.YtiknpoclolnhharPlain
import Derived.Test.YtiknpoclolnhharPartTexts
import Derived.Test.YtiknpoclolnhharPartOf
namespace Go.Proofs.Ytiknpoclolnhhar.fnExactPartText
open Go.ChangeShapes Go.WideShapes Go.ChangeAt Go.RowKit
open Go.ChangeMaps (open_string shut_string)
set_option linter.unusedVariables false

set_option maxRecDepth 100000 in
set_option maxHeartbeats 2000000 in
theorem walk (k : Int) (t : ByteArray) (v : Value) (zs : List Int) (w : World) (h : Reads w v zs) (ht : t.size ≤ maxLen) (hm : zs.length ≤ maxLen) :
    Calls Try.prog 6 #[partV k t v] w fun e w' => e = .returned (.bool true) ∧ Below w.heap.size w w' := by
  have HR0 : Hid (∀ W1, Below w.heap.size w W1 → Reads W1 v zs) := fun W1 hb => h.below hb
  obtain ⟨a, cap, rfl⟩ := h.shape
  have HT : Hid (t.size ≤ maxLen) := ht
  have HM : Hid (zs.length ≤ maxLen) := hm
  have HA : Hid (Since w.heap.size w (w.alloc (.cells #[.int .i64 k, .string t, .slice a zs.length cap] 29))) := (Since.start w).step ((Below.refl _ w).alloc (Nat.le_refl _) _)
  have HX : Hid (Box3 (w.alloc (.cells #[.int .i64 k, .string t, .slice a zs.length cap] 29)) w.heap.size (.int .i64 k) (.string t) (.slice a zs.length cap)) := Box3.new _ _ _ _ _
  clear h ht hm
  unfold partV
  go_enter Try.func6, Try.ntmps6
  go_wp2_with fail
  refine (szPart_any _ k t _ zs 1048576 (HR0.out _ HA.out.1) HT.out HM.out (by omega) (by omega)).mono ?_
  rintro e w1 ⟨rfl, hb1⟩
  by_cases hle : (t.size : Int) + (zs.length : Int) ≤ 1048576
  · have es : szP t zs 1048576 = 1048576 - (t.size : Int) - (zs.length : Int) := if_pos hle
    rw [es]
    have hl : zs.length ≤ 1048576 := by omega
    have hl4 : zs.length ≤ 4194304 := by omega
    have htl : t.size ≤ 1048576 := by omega
    have hneg : ¬ (1048576 - (t.size : Int) - (zs.length : Int) < 0) := by omega
    have HS1 : Hid (Since w.heap.size w w1) := HA.out.step hb1
    have HX1 : Hid (Box3 w1 w.heap.size (.int .i64 k) (.string t) (.slice a zs.length cap)) := HX.out.below hb1
    obtain ⟨-, q0, q1, q2⟩ := HX1.out
    clear hb1 es HA HX
    go_wp2_with fail
    refine (toPart_any w1 k t _ zs (HR0.out _ HS1.out.1) hl4).mono ?_
    rintro e w2 ⟨v2, rfl, ho2, hb2⟩
    have HS2 : Hid (Since w.heap.size w w2) := HS1.out.step hb2
    have HX2 : Hid (Box3 w2 w.heap.size (.int .i64 k) (.string t) (.slice a zs.length cap)) := HX1.out.below hb2
    have HO2 : Hid (Own w2 w1.heap.size v2 zs) := ho2
    clear ho2 hb2 q0 q1 q2
    go_wp2_with fail
    refine (specPartText_any w2 k t v2 zs HO2.out.reads hl htl).mono ?_
    rintro e w3 ⟨rfl, hb3⟩
    have HS3 : Hid (Since w.heap.size w w3) := HS2.out.step hb3
    have HX3 : Hid (Box3 w3 w.heap.size (.int .i64 k) (.string t) (.slice a zs.length cap)) := HX2.out.below hb3
    obtain ⟨-, q0, q1, q2⟩ := HX3.out
    clear hb3
    go_wp2_with fail
    refine (toPart_any w3 k t _ zs (HR0.out _ HS3.out.1) hl4).mono ?_
    rintro e w4 ⟨v4, rfl, ho4, hb4⟩
    obtain ⟨a4, c4, rfl⟩ := ho4.shape
    have HS4 : Hid (Since w.heap.size w (w4.alloc (.cells #[.int .i64 k, .string t, .slice a4 zs.length c4] 32))) := (HS3.out.step hb4).step ((Below.refl _ w4).alloc (Nat.le_refl _) _)
    have HX4 : Hid (Box3 (w4.alloc (.cells #[.int .i64 k, .string t, .slice a4 zs.length c4] 32)) w.heap.size (.int .i64 k) (.string t) (.slice a zs.length cap)) := (HX3.out.below hb4).below ((Below.refl _ w4).alloc (Nat.le_refl _) _)
    have HY4 : Hid (Box3 (w4.alloc (.cells #[.int .i64 k, .string t, .slice a4 zs.length c4] 32)) w4.heap.size (.int .i64 k) (.string t) (.slice a4 zs.length c4)) := Box3.new _ _ _ _ _
    have HO4 : Hid (Own (w4.alloc (.cells #[.int .i64 k, .string t, .slice a4 zs.length c4] 32)) w3.heap.size (.slice a4 zs.length c4) zs) := ho4.alloc _
    clear ho4 hb4 q0 q1 q2
    unfold partV
    go_wp2_with fail
    refine (implPartText_any _ k t _ zs HO4.out.reads hl htl).mono ?_
    rintro e w5 ⟨rfl, hb5⟩
    have HS5 : Hid (Since w.heap.size w w5) := HS4.out.step hb5
    have HX5 : Hid (Box3 w5 w.heap.size (.int .i64 k) (.string t) (.slice a zs.length cap)) := HX4.out.below hb5
    have HY5 : Hid (Box3 w5 w4.heap.size (.int .i64 k) (.string t) (.slice a4 zs.length c4)) := HY4.out.below hb5
    have HO5 : Hid (Reads w5 (.slice a4 zs.length c4) zs) := (HO4.out.below hb5).reads
    obtain ⟨b1, q0, q1, q2⟩ := HX5.out
    obtain ⟨b2, y0, y1, y2⟩ := HY5.out
    clear hb5
    go_wp2
    go_region_with (first
      | (go_at_call 13; refine (toPart_any _ k t _ zs (HR0.out _ (by first | exact HS5.out.1.drew | exact HS5.out.1)) hl4).mono ?_; rintro e w6 ⟨v6, rfl, ho6, hb6⟩; obtain ⟨-, z0, z1, z2⟩ := HY5.out.below (by first | exact (Below.refl _ w5).drew.trans hb6 | exact hb6); unfold partV)
      | (go_at_call 15; refine (eqPart_same _ k t _ _ zs ((HO5.out.below (W' := _) (by first | exact (Below.refl _ w5).drew.trans (by assumption) | assumption))) (Own.reads (by assumption)) hl4).mono ?_; rintro e w7 ⟨rfl, hb7⟩))
    all_goals
      go_wp2
      go_ret
      exact ⟨rfl, ((HS5.out.drew.step hb6).step hb7).1⟩
  · have es : szP t zs 1048576 = -1 := if_neg hle
    rw [es]
    have HS1 : Hid (Since w.heap.size w w1) := HA.out.step hb1
    clear hb1 es HA HX
    go_wp2
    go_ret
    exact ⟨rfl, HS1.out.1⟩

set_option maxRecDepth 100000 in
theorem contract (H : Type) (enc : TypeId × Value → H) (W : World) (base : Nat) (args : Array Value) (ds gs : List (DataW H)) (before : List MemPlace)
    (hval : ∀ (j : Nat) t v, Try.f6.params[j]? = some t → args[j]? = some v → Value.okWide Try.prog W .any base t v)
    (hW : DataW.Whole enc Try.prog Try.f6.params.toList Rows.fnExactPartTextSpec.vars false W args.toList ds gs before) :
    Calls Try.prog 6 args W fun e W' => ∃ v, e = .returned v ∧ Rows.fnExactPartTextSpec.post enc Try.prog Try.f6 false true false false W args v W' := by
  have hW' := hW
  obtain ⟨p, q, hA0, hV0, rfl, hfz, hnd⟩ := hW
  have hA : DataW.TrodAll enc Try.prog W 0 (fun _ => true) true Try.f6.params.toList args.toList ds p := hA0
  rw [Try.params6] at hA hval
  obtain ⟨v0, vs0, d0, ds0, p0, q0, hargs, rfl, rfl, h0, r0⟩ := trodAll_cons hA
  obtain ⟨rfl, rfl, rfl⟩ := trodAll_nil r0
  obtain rfl : args = #[v0] := by cases args; simp_all
  obtain ⟨rfl, rfl⟩ := trodVars_none hV0
  have k0 := h0
  have lt0 : ∀ x ∈ p0, x.block < W.heap.size := by obtain ⟨m, hm⟩ := k0; exact DataW.trod_lt m _ _ _ hm
  obtain ⟨kd0, tx0, a0, len0, cap0, zs0, rfl, hr0, ht0, hz0⟩ := part_of (hval 0 29 v0 rfl rfl) k0
  clear hA0 hV0
  refine (walk kd0 tx0 _ zs0 W hr0 ht0 hz0).mono fun e W' ⟨he, bel⟩ => ?_
  subst he
  exact ⟨_, rfl, _, _, _, [], _, [], hW', trodAll_mk1 (shut_bool Try.underlying4 _), (trodAll_cons_mk (Below.trod laidOut (by kernel_rfl) (of_decide_eq_true (by kernel_rfl)) k0 bel lt0) trodAll_mk0), rfl, bel.frame _, fun h => by cases h⟩

set_option maxRecDepth 100000 in
theorem lifted (os : Os) (started : os.Started) (H : Type) (enc : TypeId × Value → H) :
    ReturnsInHanded {} Try.checked os 6 .any (Rows.fnExactPartTextSpec.pre6 enc Try.prog Try.f6 Rows.fnExactPartTextRow.domain false) (Rows.fnExactPartTextSpec.post enc Try.prog Try.f6 false true false false) := by
  refine returnsInHanded_of_change (C := Try.checked) own started (by kernel_rfl) Try.func6
    (ChangeSpec.witness6 (enc := enc) (C := Try.checked) false ⟨#[], #[.agg #[.int .i64 0, .string ByteArray.empty, .slice none 0 0]], []⟩ 8 (by kernel_rfl) (by kernel_rfl) (by kernel_rfl) (by kernel_rfl)) ?_
  intro W base args ds gs before hval hW _ _
  exact contract H enc W base args ds gs before hval hW

/-- The statement. -/
theorem said : Rows.FnExactPartTextSaid :=
  OpenClaim.holds_of_wide 6 Try.f6 rfl rfl rfl rfl rfl rfl rfl ⟨rfl, rfl, rfl, rfl, rfl⟩ rfl rfl rfl rfl rfl (by kernel_rfl) Try.func6 (by kernel_rfl)
    (of_decide_eq_true (by kernel_rfl)) (by unfold Func.isWrapper; first | (rw [if_pos (by decide +kernel)]; kernel_rfl) | (rw [if_neg (by decide +kernel)]; exact ⟨rfl, rfl⟩))
    (fun os started H enc _ => lifted os started H enc)
#print axioms said
end Go.Proofs.Ytiknpoclolnhhar.fnExactPartText
