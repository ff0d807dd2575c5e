/-
  Proved: for every list of parts, 'FrameText' of the program at commit b03764082bd1 answers as the model's 'FrameText', the text and the bool; it writes into no argument (the list that it was handed reads as before, part by part), and so does the law's own argument. No condition.
-/
import Derived.Test.YtiknpoclolnhhasPlain
import Derived.Test.YtiknpoclolnhhasFrame
import Derived.Test.YtiknpoclolnhhasEqParts
import Derived.Test.YtiknpoclolnhhasPartsOfArg
namespace Go.Proofs.Ytiknpoclolnhhas.fnExactFrameText
open Go.ChangeShapes Go.WideShapes Go.ChangeAt Go.RowKit
open Go.ChangeMaps (open_string shut_string)
set_option linter.unusedVariables false

set_option maxRecDepth 100000 in
set_option maxHeartbeats 2000000 in
theorem walk (v : Value) (ps : List PD) (w : World) (h : ReadsP w v ps) (hm : ps.length ≤ maxLen) (hs : ∀ j (hj : j < ps.length), ps[j].t.size ≤ maxLen ∧ ps[j].zs.length ≤ maxLen) :
    Calls Try.prog 3 #[v] w fun e w' => e = .returned (.bool true) ∧ Below w.heap.size w w' := by
  have HR0 : Hid (∀ W1, Since w.heap.size w W1 → ReadsP W1 v ps) := fun W1 hb => h.below hb.1
  have HM : Hid (ps.length ≤ maxLen) := hm
  have HZ : Hid (∀ j (hj : j < ps.length), ps[j].t.size ≤ maxLen ∧ ps[j].zs.length ≤ maxLen) := hs
  obtain ⟨a, cap, rfl⟩ := h.shape
  clear h hm hs
  go_enter Try.func3, Try.ntmps3
  go_wp2_with fail
  refine (szParts_any w _ ps (HR0.out _ (Since.start w)) HM.out HZ.out).mono ?_
  rintro e w1 ⟨r, rfl, hok, hb1⟩
  have HS1 : Hid (Since w.heap.size w w1) := (Since.start w).step hb1
  have HOK : Hid (SzOk ps r) := hok
  clear hb1 hok
  by_cases hneg : r < 0
  · go_wp2
    go_ret
    exact ⟨rfl, HS1.out.1⟩
  · obtain ⟨hl, hf⟩ := HOK.out hneg
    have HF : Hid (∀ j (hj : j < ps.length), Fit ps[j]) := hf
    clear hf
    go_wp2_with fail
    refine (toParts_any w1 _ ps (HR0.out _ HS1.out) hl HF.out).mono ?_
    rintro e w2 ⟨v2, rfl, hr2, hb2⟩
    have HS2 : Hid (Since w.heap.size w w2) := HS1.out.step hb2
    have HR2 : Hid (ReadsP w2 v2 ps) := hr2
    clear hr2 hb2
    go_wp2_with fail
    refine (specFrame_any w2 _ ps HR2.out hl HF.out).mono ?_
    rintro e w3 ⟨rfl, hb3⟩
    have HS3 : Hid (Since w.heap.size w w3) := HS2.out.step hb3
    clear hb3
    go_wp2_with fail
    refine (toParts_any w3 _ ps (HR0.out _ HS3.out) hl HF.out).mono ?_
    rintro e w4 ⟨v4, rfl, hr4, hb4⟩
    have HS4 : Hid (Since w.heap.size w w4) := HS3.out.step hb4
    have HR4 : Hid (ReadsP w4 v4 ps) := hr4
    clear hr4 hb4
    go_wp2_with fail
    refine (implFrame_any w4 _ ps HR4.out hl HF.out).mono ?_
    rintro e w5 ⟨rfl, hb5⟩
    have HS5 : Hid (Since w.heap.size w w5) := HS4.out.step hb5
    have HR5 : Hid (ReadsP w5 v4 ps) := HR4.out.below hb5
    clear hb5
    go_wp2_with fail
    refine (toParts_any w5 _ ps (HR0.out _ HS5.out) hl HF.out).mono ?_
    rintro e w6 ⟨v6, rfl, hr6, hb6⟩
    have HS6 : Hid (Since w.heap.size w w6) := HS5.out.step hb6
    have HR6 : Hid (ReadsP w6 v6 ps) := hr6
    have HR46 : Hid (ReadsP w6 v4 ps) := HR5.out.below hb6
    clear hr6 hb6
    go_wp2_with fail
    refine (eqParts_same w6 _ _ ps HR46.out HR6.out hl HF.out).mono ?_
    rintro e w7 ⟨rfl, hb7⟩
    have HS7 : Hid (Since w.heap.size w w7) := HS6.out.step hb7
    clear hb7
    go_wp2
    go_ret
    exact ⟨rfl, HS7.out.1⟩

set_option maxRecDepth 100000 in
theorem contract (H : Type) (enc : TypeId × Value → H) (W : World) (base : Nat) (args : Array Value) (ds gs : List (DataW H)) (before : List MemPlace)
    (hval : ∀ (j : Nat) t v, Try.f3.params[j]? = some t → args[j]? = some v → Value.okWide Try.prog W .any base t v)
    (hW : DataW.Whole enc Try.prog Try.f3.params.toList Rows.fnExactFrameTextSpec.vars false W args.toList ds gs before) :
    Calls Try.prog 3 args W fun e W' => ∃ v, e = .returned v ∧ Rows.fnExactFrameTextSpec.post enc Try.prog Try.f3 false true false false W args v W' := by
  have hW' := hW
  obtain ⟨p, q, hA0, hV0, rfl, hfz, hnd⟩ := hW
  have hA : DataW.TrodAll enc Try.prog W 0 (fun _ => true) true Try.f3.params.toList args.toList ds p := hA0
  rw [Try.params3] at hA hval
  obtain ⟨v0, vs0, d0, ds0, p0, q0, hargs, rfl, rfl, h0, r0⟩ := trodAll_cons hA
  obtain ⟨rfl, rfl, rfl⟩ := trodAll_nil r0
  obtain rfl : args = #[v0] := by cases args; simp_all
  obtain ⟨rfl, rfl⟩ := trodVars_none hV0
  obtain ⟨a0, len0, cap0, rfl⟩ := okWide_slice Try.underlying22 (hval 0 22 v0 rfl rfl)
  have k0 := h0
  have lt0 : ∀ x ∈ p0, x.block < W.heap.size := by obtain ⟨m, hm⟩ := k0; exact DataW.trod_lt m _ _ _ hm
  obtain ⟨ps0, hr0, hz0, hs0⟩ := parts_of k0
  clear hA0 hV0
  refine (walk _ ps0 W hr0 hz0 hs0).mono fun e W' ⟨he, bel⟩ => ?_
  subst he
  exact ⟨_, rfl, _, _, _, [], _, [], hW', trodAll_mk1 (shut_bool Try.underlying4 _), (trodAll_cons_mk (Below.trod laidOut (by kernel_rfl) (of_decide_eq_true (by kernel_rfl)) k0 bel lt0) trodAll_mk0), rfl, bel.frame _, fun h => by cases h⟩

set_option maxRecDepth 100000 in
theorem lifted (os : Os) (started : os.Started) (H : Type) (enc : TypeId × Value → H) :
    ReturnsInHanded {} Try.checked os 3 .any (Rows.fnExactFrameTextSpec.pre6 enc Try.prog Try.f3 Rows.fnExactFrameTextRow.domain false) (Rows.fnExactFrameTextSpec.post enc Try.prog Try.f3 false true false false) := by
  refine returnsInHanded_of_change (C := Try.checked) own started (by kernel_rfl) Try.func3
    (ChangeSpec.witness6 (enc := enc) (C := Try.checked) false ⟨#[], #[.slice none 0 0], []⟩ 8 (by kernel_rfl) (by kernel_rfl) (by kernel_rfl) (by kernel_rfl)) ?_
  intro W base args ds gs before hval hW _ _
  exact contract H enc W base args ds gs before hval hW

/-- The statement. -/
theorem said : Rows.FnExactFrameTextSaid :=
  OpenClaim.holds_of_wide 3 Try.f3 rfl rfl rfl rfl rfl rfl rfl ⟨rfl, rfl, rfl, rfl, rfl⟩ rfl rfl rfl rfl rfl (by kernel_rfl) Try.func3 (by kernel_rfl)
    (of_decide_eq_true (by kernel_rfl)) (by unfold Func.isWrapper; first | (rw [if_pos (by decide +kernel)]; kernel_rfl) | (rw [if_neg (by decide +kernel)]; exact ⟨rfl, rfl⟩))
    (fun os started H enc _ => lifted os started H enc)
#print axioms said
end Go.Proofs.Ytiknpoclolnhhas.fnExactFrameText
