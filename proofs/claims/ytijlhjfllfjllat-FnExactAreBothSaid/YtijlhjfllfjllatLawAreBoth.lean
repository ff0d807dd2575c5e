/-
  Proved: for every pair, 'AreBoth' of the program at commit de1880d854f5 answers as the model's 'AreBoth', both bools; it writes into no argument (the pair that it was handed reads as before), and so does the law's own argument. No condition.
-/
import Derived.Test.YtijlhjfllfjllatPlain
import Derived.Test.YtijlhjfllfjllatBoth
import Derived.Test.YtijlhjfllfjllatPairLaw2
import Derived.Test.YtijlhjfllfjllatPairOf
namespace Go.Proofs.Ytijlhjfllfjllat.fnExactAreBoth
open Go.ChangeShapes Go.WideShapes Go.ChangeAt Go.RowKit
open Go.ChangeMaps (open_string shut_string)
set_option linter.unusedVariables false

set_option maxRecDepth 100000 in
set_option maxHeartbeats 2000000 in
theorem walk (x y z : Value) (p : PR) (w : World) (h : Reads3 w x y z p) (h1 : p.st.length ≤ maxLen) (h2 : p.lf.length ≤ maxLen) (h3 : p.ln.length ≤ maxLen) :
    Calls Try.prog 7 #[.agg #[x, y, z]] w fun e w' => e = .returned (.bool true) ∧ Below w.heap.size w w' := by
  have HR : Hid (∀ W1, Below w.heap.size w W1 → Reads3 W1 x y z p) := fun W1 hb => h.below hb
  obtain ⟨a1, c1, rfl⟩ := h.st.shape
  obtain ⟨a2, c2, rfl⟩ := h.lf.shape
  obtain ⟨a3, c3, rfl⟩ := h.ln.shape
  have HA : Hid (Since w.heap.size w (w.alloc (.cells #[.slice a1 p.st.length c1, .slice a2 p.lf.length c2, .slice a3 p.ln.length c3] 33))) := (Since.start w).step ((Below.refl _ w).alloc (Nat.le_refl _) _)
  have HX : Hid (Bx3 (w.alloc (.cells #[.slice a1 p.st.length c1, .slice a2 p.lf.length c2, .slice a3 p.ln.length c3] 33)) w.heap.size (.slice a1 p.st.length c1) (.slice a2 p.lf.length c2) (.slice a3 p.ln.length c3)) := Bx3.new _ _ _ _ _
  clear h
  go_enter Try.func7, Try.ntmps7
  go_wp2_with fail
  refine (szPair_any _ _ _ _ p (HR.out _ HA.out.1) h1 h2 h3).mono ?_
  rintro e w1 ⟨rfl, hb1⟩
  have HS1 : Hid (Since w.heap.size w w1) := HA.out.step hb1
  have HX1 : Hid (Bx3 w1 w.heap.size (.slice a1 p.st.length c1) (.slice a2 p.lf.length c2) (.slice a3 p.ln.length c3)) := HX.out.below hb1
  clear hb1 h1 h2 h3 HA HX
  by_cases hle : szPr p 1048576 < 0
  · generalize szPr p 1048576 = sz at *
    go_wp2
    go_ret
    exact ⟨rfl, HS1.out.1⟩
  · obtain ⟨l1, l2, l3⟩ := szPr_fit p hle
    have L1 : Hid (p.st.length ≤ 1048576) := l1
    have L2 : Hid (p.lf.length ≤ 1048576) := l2
    have L3 : Hid (p.ln.length ≤ 1048576) := l3
    clear l1 l2 l3
    generalize szPr p 1048576 = sz at *
    obtain ⟨b1, q0, q1, q2, -⟩ := HX1.out
    go_wp2_with fail
    refine (toPair_any w1 _ _ _ p (HR.out _ HS1.out.1) L1.out L2.out L3.out).mono ?_
    rintro e w2 ⟨x2, y2, z2, rfl, ho2, hb2⟩
    have HS2 : Hid (Since w.heap.size w w2) := HS1.out.step hb2
    have HX2 : Hid (Bx3 w2 w.heap.size (.slice a1 p.st.length c1) (.slice a2 p.lf.length c2) (.slice a3 p.ln.length c3)) := HX1.out.below hb2
    have HO2 : Hid (Own3 w2 w1.heap.size x2 y2 z2 p) := ho2
    clear ho2 hb2 b1 q0 q1 q2
    go_wp2_with fail
    refine (specBoth_any w2 _ _ _ p HO2.out.reads L1.out L2.out L3.out).mono ?_
    rintro e w3 ⟨rfl, hb3⟩
    have HS3 : Hid (Since w.heap.size w w3) := HS2.out.step hb3
    have HX3 : Hid (Bx3 w3 w.heap.size (.slice a1 p.st.length c1) (.slice a2 p.lf.length c2) (.slice a3 p.ln.length c3)) := HX2.out.below hb3
    obtain ⟨b1, q0, q1, q2, -⟩ := HX3.out
    clear hb3
    go_wp2_with fail
    refine (toPair_any w3 _ _ _ p (HR.out _ HS3.out.1) L1.out L2.out L3.out).mono ?_
    rintro e w4 ⟨x4, y4, z4, rfl, ho4, hb4⟩
    obtain ⟨b4, d4, rfl⟩ := ho4.st.shape
    obtain ⟨b5, d5, rfl⟩ := ho4.lf.shape
    obtain ⟨b6, d6, rfl⟩ := ho4.ln.shape
    have HS4 : Hid (Since w.heap.size w (w4.alloc (.cells #[.slice b4 p.st.length d4, .slice b5 p.lf.length d5, .slice b6 p.ln.length d6] 25))) := (HS3.out.step hb4).step ((Below.refl _ w4).alloc (Nat.le_refl _) _)
    have HX4 : Hid (Bx3 (w4.alloc (.cells #[.slice b4 p.st.length d4, .slice b5 p.lf.length d5, .slice b6 p.ln.length d6] 25)) w.heap.size (.slice a1 p.st.length c1) (.slice a2 p.lf.length c2) (.slice a3 p.ln.length c3)) := (HX3.out.below hb4).below ((Below.refl _ w4).alloc (Nat.le_refl _) _)
    have HY4 : Hid (Bx3 (w4.alloc (.cells #[.slice b4 p.st.length d4, .slice b5 p.lf.length d5, .slice b6 p.ln.length d6] 25)) w4.heap.size (.slice b4 p.st.length d4) (.slice b5 p.lf.length d5) (.slice b6 p.ln.length d6)) := Bx3.new _ _ _ _ _
    have HO4 : Hid (Own3 (w4.alloc (.cells #[.slice b4 p.st.length d4, .slice b5 p.lf.length d5, .slice b6 p.ln.length d6] 25)) w3.heap.size (.slice b4 p.st.length d4) (.slice b5 p.lf.length d5) (.slice b6 p.ln.length d6) p) := ho4.below ((Below.refl _ w4).alloc (Nat.le_refl _) _)
    clear ho4 hb4 b1 q0 q1 q2
    go_wp2_with fail
    refine (implBoth_any _ _ _ _ p HO4.out.reads L1.out L2.out L3.out).mono ?_
    rintro e w5 ⟨rfl, hb5⟩
    have HS5 : Hid (Since w.heap.size w w5) := HS4.out.step hb5
    have HX5 : Hid (Bx3 w5 w.heap.size (.slice a1 p.st.length c1) (.slice a2 p.lf.length c2) (.slice a3 p.ln.length c3)) := HX4.out.below hb5
    have HY5 : Hid (Bx3 w5 w4.heap.size (.slice b4 p.st.length d4) (.slice b5 p.lf.length d5) (.slice b6 p.ln.length d6)) := HY4.out.below hb5
    have HO5 : Hid (Reads3 w5 (.slice b4 p.st.length d4) (.slice b5 p.lf.length d5) (.slice b6 p.ln.length d6) p) := (HO4.out.below hb5).reads
    obtain ⟨b1, q0, q1, q2, -⟩ := HX5.out
    obtain ⟨b2, y0, y1, y2, -⟩ := HY5.out
    clear hb5
    generalize goodPr p = gb at *
    generalize bothB p = bb at *
    go_wp2
    go_region_with (first
      | (go_at_call 16; refine (toPair_any _ _ _ _ p (HR.out _ (by first | exact HS5.out.1.drew | exact HS5.out.1)) L1.out L2.out L3.out).mono ?_; rintro e w6 ⟨x6, y6, z6, rfl, ho6, hb6⟩; obtain ⟨-, z0, z1, z2, -⟩ := HY5.out.below (by first | exact (Below.refl _ w5).drew.trans hb6 | exact hb6))
      | (go_at_call 11; refine (eqPair_same _ _ _ _ _ _ _ p ((HO5.out.below (W' := _) (by first | exact (Below.refl _ w5).drew.trans (by assumption) | assumption))) (Own3.reads (by assumption)) L1.out L2.out L3.out).mono ?_; rintro e w7 ⟨rfl, hb7⟩))
    all_goals
      go_wp2
      go_ret
      exact ⟨rfl, ((HS5.out.drew.step hb6).step hb7).1⟩

set_option maxRecDepth 100000 in
theorem contract (H : Type) (enc : TypeId × Value → H) (W : World) (base : Nat) (args : Array Value) (ds gs : List (DataW H)) (before : List MemPlace)
    (hval : ∀ (j : Nat) t v, Try.f7.params[j]? = some t → args[j]? = some v → Value.okWide Try.prog W .any base t v)
    (hW : DataW.Whole enc Try.prog Try.f7.params.toList Rows.fnExactAreBothSpec.vars false W args.toList ds gs before) :
    Calls Try.prog 7 args W fun e W' => ∃ v, e = .returned v ∧ Rows.fnExactAreBothSpec.post enc Try.prog Try.f7 false true false false W args v W' := by
  have hW' := hW
  obtain ⟨p, q, hA0, hV0, rfl, hfz, hnd⟩ := hW
  have hA : DataW.TrodAll enc Try.prog W 0 (fun _ => true) true Try.f7.params.toList args.toList ds p := hA0
  rw [Try.params7] at hA hval
  obtain ⟨v0, vs0, d0, ds0, p0, q0, hargs, rfl, rfl, h0, r0⟩ := trodAll_cons hA
  obtain ⟨rfl, rfl, rfl⟩ := trodAll_nil r0
  obtain rfl : args = #[v0] := by cases args; simp_all
  obtain ⟨rfl, rfl⟩ := trodVars_none hV0
  have k0 := h0
  have lt0 : ∀ x ∈ p0, x.block < W.heap.size := by obtain ⟨m, hm⟩ := k0; exact DataW.trod_lt m _ _ _ hm
  obtain ⟨x0, y0, z0, pr0, rfl, hr0, h10, h20, h30⟩ := pair_of (hval 0 33 v0 rfl rfl) k0
  clear hA0 hV0
  refine (walk _ _ _ pr0 W hr0 h10 h20 h30).mono fun e W' ⟨he, bel⟩ => ?_
  subst he
  exact ⟨_, rfl, _, _, _, [], _, [], hW', trodAll_mk1 (shut_bool Try.underlying4 _), (trodAll_cons_mk (Below.trod laidOut (by kernel_rfl) (of_decide_eq_true (by kernel_rfl)) k0 bel lt0) trodAll_mk0), rfl, bel.frame _, fun h => by cases h⟩

set_option maxRecDepth 100000 in
theorem lifted (os : Os) (started : os.Started) (H : Type) (enc : TypeId × Value → H) :
    ReturnsInHanded {} Try.checked os 7 .any (Rows.fnExactAreBothSpec.pre6 enc Try.prog Try.f7 Rows.fnExactAreBothRow.domain false) (Rows.fnExactAreBothSpec.post enc Try.prog Try.f7 false true false false) := by
  refine returnsInHanded_of_change (C := Try.checked) own started (by kernel_rfl) Try.func7
    (ChangeSpec.witness6 (enc := enc) (C := Try.checked) false ⟨#[], #[.agg #[.slice none 0 0, .slice none 0 0, .slice none 0 0]], []⟩ 8 (by kernel_rfl) (by kernel_rfl) (by kernel_rfl) (by kernel_rfl)) ?_
  intro W base args ds gs before hval hW _ _
  exact contract H enc W base args ds gs before hval hW

/-- The statement. -/
theorem said : Rows.FnExactAreBothSaid :=
  OpenClaim.holds_of_wide 7 Try.f7 rfl rfl rfl rfl rfl rfl rfl ⟨rfl, rfl, rfl, rfl, rfl⟩ rfl rfl rfl rfl rfl (by kernel_rfl) Try.func7 (by kernel_rfl)
    (of_decide_eq_true (by kernel_rfl)) (by unfold Func.isWrapper; first | (rw [if_pos (by decide +kernel)]; kernel_rfl) | (rw [if_neg (by decide +kernel)]; exact ⟨rfl, rfl⟩))
    (fun os started H enc _ => lifted os started H enc)
#print axioms said
end Go.Proofs.Ytijlhjfllfjllat.fnExactAreBoth
