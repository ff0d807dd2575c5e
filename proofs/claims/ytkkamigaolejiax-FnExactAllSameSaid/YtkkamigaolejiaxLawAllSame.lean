/-
  Proved: for every flood, 'AllSame' of the program at commit d1b657bec838 answers as the model's 'AllSame', both bools; it writes into no argument (the flood that it was handed reads as before), and so does the law's own argument. No condition.
-/
import Derived.Test.YtkkamigaolejiaxPlain
import Derived.Test.YtkkamigaolejiaxFlSame
import Derived.Test.YtkkamigaolejiaxFlTo
import Derived.Test.YtkkamigaolejiaxFlOf
namespace Go.Proofs.Ytkkamigaolejiax.fnExactAllSame
open Go.ChangeShapes Go.WideShapes Go.ChangeAt Go.RowKit
open Go.ChangeMaps (open_string shut_string)
set_option linter.unusedVariables false

set_option maxRecDepth 100000 in
set_option maxHeartbeats 4000000 in
theorem walk (x y z l : Value) (f : FD) (w : World) (h : ReadsF w x y z l f) (hm : MaxF f) :
    Calls Try.prog 5 #[.agg #[x, y, z, l]] w fun e w' => e = .returned (.bool true) ∧ Below w.heap.size w w' := by
  have HR : Hid (∀ W1, Below w.heap.size w W1 → ReadsF W1 x y z l f) := fun W1 hb => h.below hb
  have HM : Hid (MaxF f) := hm
  obtain ⟨a0, c0, rfl⟩ := h.lk.shape
  obtain ⟨a1, c1, rfl⟩ := h.kn.shape
  obtain ⟨a2, c2, rfl⟩ := h.ow.shape
  obtain ⟨a3, c3, rfl⟩ := h.ln.shape
  have HA : Hid (Since w.heap.size w (w.alloc (.cells #[.slice a0 f.lk.length c0, .slice a1 f.kn.length c1, .slice a2 f.ow.length c2, .slice a3 f.ln.length c3] 25))) := (Since.start w).step ((Below.refl _ w).alloc (Nat.le_refl _) _)
  have HX : Hid (Bx4 (w.alloc (.cells #[.slice a0 f.lk.length c0, .slice a1 f.kn.length c1, .slice a2 f.ow.length c2, .slice a3 f.ln.length c3] 25)) w.heap.size (.slice a0 f.lk.length c0) (.slice a1 f.kn.length c1) (.slice a2 f.ow.length c2) (.slice a3 f.ln.length c3)) := Bx4.new _ _ _ _ _ _
  clear h hm
  go_enter Try.func5, Try.ntmps5
  go_wp2_with fail
  refine (szFlood_any _ _ _ _ _ f (HR.out _ HA.out.1) HM.out).mono ?_
  rintro e w1 ⟨rfl, hb1⟩
  have HS1 : Hid (Since w.heap.size w w1) := HA.out.step hb1
  have HX1 : Hid (Bx4 w1 w.heap.size (.slice a0 f.lk.length c0) (.slice a1 f.kn.length c1) (.slice a2 f.ow.length c2) (.slice a3 f.ln.length c3)) := HX.out.below hb1
  clear hb1 HA HX
  by_cases hle : szFl f < 0
  · generalize szFl f = sz at *
    go_wp2
    go_ret
    exact ⟨rfl, HS1.out.1⟩
  · have HF : Hid (FitF f) := szFl_fit f hle
    generalize szFl f = sz at *
    obtain ⟨b1, q0, q1, q2, q3, -⟩ := HX1.out
    go_wp2_with fail
    refine (toFlood_any w1 _ _ _ _ f (HR.out _ HS1.out.1) HF.out).mono ?_
    rintro e w2 ⟨x2, y2, z2, l2, rfl, ⟨xs2, ys2, zs2, ho2⟩, hb2⟩
    have HS2 : Hid (Since w.heap.size w w2) := HS1.out.step hb2
    have HX2 : Hid (Bx4 w2 w.heap.size (.slice a0 f.lk.length c0) (.slice a1 f.kn.length c1) (.slice a2 f.ow.length c2) (.slice a3 f.ln.length c3)) := HX1.out.below hb2
    have HO2 : Hid (ReadsF w2 x2 y2 z2 l2 f) := ho2.reads
    clear ho2 hb2 b1 q0 q1 q2 q3
    go_wp2_with fail
    refine (specSame_any w2 _ _ _ _ f HO2.out HF.out).mono ?_
    rintro e w3 ⟨rfl, hb3⟩
    have HS3 : Hid (Since w.heap.size w w3) := HS2.out.step hb3
    have HX3 : Hid (Bx4 w3 w.heap.size (.slice a0 f.lk.length c0) (.slice a1 f.kn.length c1) (.slice a2 f.ow.length c2) (.slice a3 f.ln.length c3)) := HX2.out.below hb3
    obtain ⟨b1, q0, q1, q2, q3, -⟩ := HX3.out
    clear hb3
    go_wp2_with fail
    refine (toFlood_any w3 _ _ _ _ f (HR.out _ HS3.out.1) HF.out).mono ?_
    rintro e w4 ⟨x4, y4, z4, l4, rfl, ⟨xs4, ys4, zs4, ho4⟩, hb4⟩
    obtain ⟨b0, d0, rfl⟩ := ho4.lk.shape
    obtain ⟨b1, d1, rfl⟩ := ho4.kn.shape
    obtain ⟨b2, d2, rfl⟩ := ho4.ow.shape
    obtain ⟨b3, d3, rfl⟩ := ho4.ln.shape
    have HS4 : Hid (Since w.heap.size w (w4.alloc (.cells #[.slice b0 f.lk.length d0, .slice b1 f.kn.length d1, .slice b2 f.ow.length d2, .slice b3 f.ln.length d3] 31))) := (HS3.out.step hb4).step ((Below.refl _ w4).alloc (Nat.le_refl _) _)
    have HX4 : Hid (Bx4 (w4.alloc (.cells #[.slice b0 f.lk.length d0, .slice b1 f.kn.length d1, .slice b2 f.ow.length d2, .slice b3 f.ln.length d3] 31)) w.heap.size (.slice a0 f.lk.length c0) (.slice a1 f.kn.length c1) (.slice a2 f.ow.length c2) (.slice a3 f.ln.length c3)) := (HX3.out.below hb4).below ((Below.refl _ w4).alloc (Nat.le_refl _) _)
    have HY4 : Hid (Bx4 (w4.alloc (.cells #[.slice b0 f.lk.length d0, .slice b1 f.kn.length d1, .slice b2 f.ow.length d2, .slice b3 f.ln.length d3] 31)) w4.heap.size (.slice b0 f.lk.length d0) (.slice b1 f.kn.length d1) (.slice b2 f.ow.length d2) (.slice b3 f.ln.length d3)) := Bx4.new _ _ _ _ _ _
    have HO4 : Hid (ReadsF (w4.alloc (.cells #[.slice b0 f.lk.length d0, .slice b1 f.kn.length d1, .slice b2 f.ow.length d2, .slice b3 f.ln.length d3] 31)) (.slice b0 f.lk.length d0) (.slice b1 f.kn.length d1) (.slice b2 f.ow.length d2) (.slice b3 f.ln.length d3) f) := ho4.reads.below ((Below.refl _ w4).alloc (Nat.le_refl _) _)
    clear ho4 hb4 q0 q1 q2 q3
    go_wp2_with fail
    refine (implSame_any _ _ _ _ _ f HO4.out HF.out).mono ?_
    rintro e w5 ⟨rfl, hb5⟩
    have HS5 : Hid (Since w.heap.size w w5) := HS4.out.step hb5
    have HX5 : Hid (Bx4 w5 w.heap.size (.slice a0 f.lk.length c0) (.slice a1 f.kn.length c1) (.slice a2 f.ow.length c2) (.slice a3 f.ln.length c3)) := HX4.out.below hb5
    have HY5 : Hid (Bx4 w5 w4.heap.size (.slice b0 f.lk.length d0) (.slice b1 f.kn.length d1) (.slice b2 f.ow.length d2) (.slice b3 f.ln.length d3)) := HY4.out.below hb5
    have HO5 : Hid (ReadsF w5 (.slice b0 f.lk.length d0) (.slice b1 f.kn.length d1) (.slice b2 f.ow.length d2) (.slice b3 f.ln.length d3) f) := HO4.out.below hb5
    obtain ⟨m1, q0, q1, q2, q3, -⟩ := HX5.out
    obtain ⟨m2, y0, y1, y2, y3, -⟩ := HY5.out
    clear hb5
    generalize goodF f = gb at *
    generalize sameB f = oi at *
    go_wp2
    go_region_with (first
      | (go_at_call 9; refine (toFlood_any _ _ _ _ _ f (HR.out _ (by first | exact HS5.out.1.drew | exact HS5.out.1)) HF.out).mono ?_; rintro e w6 ⟨x6, y6, z6, l6, rfl, ⟨xs6, ys6, zs6, ho6⟩, hb6⟩; have hr6 := ho6.reads; clear ho6; obtain ⟨-, z0, z1, z2, z3, -⟩ := HY5.out.below (by first | exact (Below.refl _ w5).drew.trans hb6 | exact hb6))
      | (go_at_call 12; refine (eqFlood_same _ _ _ _ _ _ _ _ _ f ((HO5.out.below (W' := _) (by first | exact (Below.refl _ w5).drew.trans (by assumption) | assumption))) (by assumption) HF.out).mono ?_; rintro e w7 ⟨rfl, hb7⟩))
    all_goals
      go_wp2
      go_ret
      exact ⟨rfl, ((HS5.out.drew.step hb6).step hb7).1⟩

set_option maxRecDepth 100000 in
theorem contract (H : Type) (enc : TypeId × Value → H) (W : World) (base : Nat) (args : Array Value) (ds gs : List (DataW H)) (before : List MemPlace)
    (hval : ∀ (j : Nat) t v, Try.f5.params[j]? = some t → args[j]? = some v → Value.okWide Try.prog W .any base t v)
    (hW : DataW.Whole enc Try.prog Try.f5.params.toList Rows.fnExactAllSameSpec.vars false W args.toList ds gs before) :
    Calls Try.prog 5 args W fun e W' => ∃ v, e = .returned v ∧ Rows.fnExactAllSameSpec.post enc Try.prog Try.f5 false true false false W args v W' := by
  have hW' := hW
  obtain ⟨p, q, hA0, hV0, rfl, hfz, hnd⟩ := hW
  have hA : DataW.TrodAll enc Try.prog W 0 (fun _ => true) true Try.f5.params.toList args.toList ds p := hA0
  rw [Try.params5] at hA hval
  obtain ⟨v0, vs0, d0, ds0, p0, q0, hargs, rfl, rfl, h0, r0⟩ := trodAll_cons hA
  obtain ⟨rfl, rfl, rfl⟩ := trodAll_nil r0
  obtain rfl : args = #[v0] := by cases args; simp_all
  obtain ⟨rfl, rfl⟩ := trodVars_none hV0
  have k0 := h0
  have lt0 : ∀ x ∈ p0, x.block < W.heap.size := by obtain ⟨m, hm⟩ := k0; exact DataW.trod_lt m _ _ _ hm
  obtain ⟨x0, y0, z0, l0, f0, rfl, hr0, hm0⟩ := flood_of (hval 0 25 v0 rfl rfl) k0
  clear hA0 hV0
  refine (walk _ _ _ _ f0 W hr0 hm0).mono fun e W' ⟨he, bel⟩ => ?_
  subst he
  exact ⟨_, rfl, _, _, _, [], _, [], hW', trodAll_mk1 (shut_bool Try.underlying4 _), (trodAll_cons_mk (Below.trod laidOut (by kernel_rfl) (of_decide_eq_true (by kernel_rfl)) k0 bel lt0) trodAll_mk0), rfl, bel.frame _, fun h => by cases h⟩

set_option maxRecDepth 100000 in
theorem lifted (os : Os) (started : os.Started) (H : Type) (enc : TypeId × Value → H) :
    ReturnsInHanded {} Try.checked os 5 .any (Rows.fnExactAllSameSpec.pre6 enc Try.prog Try.f5 Rows.fnExactAllSameRow.domain false) (Rows.fnExactAllSameSpec.post enc Try.prog Try.f5 false true false false) := by
  refine returnsInHanded_of_change (C := Try.checked) own started (by kernel_rfl) Try.func5
    (ChangeSpec.witness6 (enc := enc) (C := Try.checked) false ⟨#[], #[.agg #[.slice none 0 0, .slice none 0 0, .slice none 0 0, .slice none 0 0]], []⟩ 8 (by kernel_rfl) (by kernel_rfl) (by kernel_rfl) (by kernel_rfl)) ?_
  intro W base args ds gs before hval hW _ _
  exact contract H enc W base args ds gs before hval hW

/-- The statement. -/
theorem said : Rows.FnExactAllSameSaid :=
  OpenClaim.holds_of_wide 5 Try.f5 rfl rfl rfl rfl rfl rfl rfl ⟨rfl, rfl, rfl, rfl, rfl⟩ rfl rfl rfl rfl rfl (by kernel_rfl) Try.func5 (by kernel_rfl)
    (of_decide_eq_true (by kernel_rfl)) (by unfold Func.isWrapper; first | (rw [if_pos (by decide +kernel)]; kernel_rfl) | (rw [if_neg (by decide +kernel)]; exact ⟨rfl, rfl⟩))
    (fun os started H enc _ => lifted os started H enc)
#print axioms said
end Go.Proofs.Ytkkamigaolejiax.fnExactAllSame
