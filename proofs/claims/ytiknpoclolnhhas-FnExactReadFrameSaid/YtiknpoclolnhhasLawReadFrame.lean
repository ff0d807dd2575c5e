/-
  Proved: for every text, 'ReadFrame' of the program at commit b03764082bd1 answers as the model's 'ReadFrame', every part field by field, how many were left out, the code and the bool; its answer is memory of its own (marks that are written into its parts, their texts and their numbers stay there behind another call, and none is written over by another); and the text reads afterwards as before. No condition.
-/
import Derived.Test.YtiknpoclolnhhasPlain
import Derived.Test.YtiknpoclolnhhasReadImpl
import Derived.Test.YtiknpoclolnhhasReadSpec
import Derived.Test.YtiknpoclolnhhasReadEnds
import Derived.Test.YtiknpoclolnhhasEqParts
import Derived.Test.YtiknpoclolnhhasHeldParts
namespace Go.Proofs.Ytiknpoclolnhhas.fnExactReadFrame
open Go.ChangeShapes Go.WideShapes Go.ChangeAt Go.RowKit
open Go.ChangeMaps (open_string shut_string)
set_option linter.unusedVariables false

set_option maxRecDepth 100000 in
set_option maxHeartbeats 4000000 in
theorem walk (s : ByteArray) (w : World) (hm : s.size ≤ maxLen) :
    Calls Try.prog 4 #[.string s] w fun e w' => e = .returned (.bool true) ∧ Below w.heap.size w w' := by
  by_cases h1 : 1048576 < s.size
  · unfold maxLen at hm
    have h1' : (1048576 : Int) < (s.size : Int) := by omega
    go_enter Try.func4, Try.ntmps4
    go_wp2
    go_ret
    exact ⟨rfl, Below.refl _ _⟩
  · by_cases h200 : s.size ≤ 200
    · have hsm := readR_small s s.size 0 [] 0 (by omega) (by simp) (fun p hp => by cases hp)
      obtain ⟨r, hr⟩ : ∃ r, r = readR s 0 [] 0 := ⟨_, rfl⟩
      have HR : Hid (readR s 0 [] 0 = r) := hr.symm
      rw [← hr] at hsm
      clear hr hm h1
      obtain ⟨code, ps, left⟩ := r
      obtain ⟨hl10, hsmall⟩ := hsm
      have hl10 : ps.length ≤ 10 := hl10
      have HF : Hid (∀ j (hj : j < ps.length), Fit ps[j]) := fun j hj => (hsmall _ (List.getElem_mem hj)).fit
      have HZ : Hid (∀ p ∈ ps, p.zs.length ≤ 128) := fun p hp => (hsmall p hp).2
      have HE1 : Hid (1 ≤ endK ps 1) := (endK_bd ps 1 128 HZ.out).1
      have hl20 : ps.length ≤ 1048576 := by omega
      clear hsmall
      obtain ⟨ok, hok⟩ : ∃ ok, ok = decide (code = 0) := ⟨_, rfl⟩
      have HOK : Hid (decide (code = 0) = ok) := hok.symm
      clear hok
      obtain ⟨q, hq⟩ : ∃ q : Int, q = (endK ps 1 : Int) := ⟨_, rfl⟩
      have HQ : Hid ((endK ps 1 : Int) = q) := hq.symm
      have hq1 : 1 ≤ q := by have := HE1.out; omega
      clear hq
      go_enter Try.func4, Try.ntmps4
      go_wp2_with fail
      refine (specRead_any s _ h200).mono ?_
      rw [HR.out]
      rintro e w1 ⟨⟨v1, rfl, ho1⟩, hb1⟩
      rw [HOK.out]
      have HO1 : Hid (OwnP w1 w.heap.size v1 ps) := ho1
      have HS1 : Hid (Since w.heap.size w w1) := (Since.start w).step hb1
      clear ho1 hb1
      go_wp2_with fail
      refine (implRead_any s _ h200).mono ?_
      rw [HR.out]
      rintro e w2 ⟨⟨v2, rfl, ho2⟩, hb2⟩
      rw [HOK.out]
      have HO2 : Hid (OwnP w2 w1.heap.size v2 ps) := ho2
      have HO12 : Hid (OwnP w2 w.heap.size v1 ps) := HO1.out.below hb2
      have HB12 : Hid (Since w1.heap.size w1 w2) := (Since.start w1).step hb2
      clear ho2 hb2
      go_wp2_with fail
      refine (eqParts_same w2 v2 v1 ps HO2.out.reads HO12.out.reads hl20 HF.out).mono ?_
      rintro e w3 ⟨rfl, hb3⟩
      have HO3 : Hid (OwnP w3 w1.heap.size v2 ps) := HO2.out.below hb3
      have HB13 : Hid (Since w1.heap.size w1 w3) := HB12.out.step hb3
      clear hb3
      go_wp2_with fail
      refine (markParts_any w3 w1.heap.size v2 ps 1 HO3.out HB13.out.2 hl10 HZ.out (by omega) (by omega)).mono ?_
      rintro e w4 ⟨rfl, ho4, hb4, hz4⟩
      rw [HQ.out]
      have HO4 : Hid (OwnP w4 w1.heap.size v2 (markAll ps 1)) := ho4
      have HB14 : Hid (Since w1.heap.size w1 w4) := ⟨HB13.out.1.trans hb4, Nat.le_trans HB13.out.2 hz4⟩
      have HO14 : Hid (OwnP w4 w.heap.size v1 ps) := HO1.out.below HB14.out.1
      have HS4 : Hid (Since w.heap.size w w4) := HS1.out.step HB14.out.1
      clear ho4 hb4 hz4
      go_wp2_with fail
      refine (heldParts_yes w4 v2 ps 1 HO4.out.reads hl10 HZ.out (by omega) (by omega)).mono ?_
      rintro e w5 ⟨rfl, hb5⟩
      rw [HQ.out]
      have HO5 : Hid (OwnP w5 w1.heap.size v2 (markAll ps 1)) := HO4.out.below hb5
      have HO15 : Hid (OwnP w5 w.heap.size v1 ps) := HO14.out.below hb5
      have HS5 : Hid (Since w.heap.size w w5) := HS4.out.step hb5
      clear hb5
      go_wp2_with fail
      refine (implRead_any s _ h200).mono ?_
      rw [HR.out]
      rintro e w6 ⟨⟨v6, rfl, ho6⟩, hb6⟩
      rw [HOK.out]
      have HO6 : Hid (OwnP w6 w5.heap.size v6 ps) := ho6
      have HO26 : Hid (OwnP w6 w1.heap.size v2 (markAll ps 1)) := HO5.out.below hb6
      have HO16 : Hid (OwnP w6 w.heap.size v1 ps) := HO15.out.below hb6
      have HS6 : Hid (Since w.heap.size w w6) := HS5.out.step hb6
      clear ho6 hb6
      go_wp2_with fail
      refine (eqParts_same w6 v6 v1 ps HO6.out.reads HO16.out.reads hl20 HF.out).mono ?_
      rintro e w7 ⟨rfl, hb7⟩
      have HO27 : Hid (OwnP w7 w1.heap.size v2 (markAll ps 1)) := HO26.out.below hb7
      have HS7 : Hid (Since w.heap.size w w7) := HS6.out.step hb7
      clear hb7
      go_wp2_with fail
      refine (heldParts_yes w7 v2 ps 1 HO27.out.reads hl10 HZ.out (by omega) (by omega)).mono ?_
      rintro e w8 ⟨rfl, hb8⟩
      rw [HQ.out]
      have HS8 : Hid (Since w.heap.size w w8) := HS7.out.step hb8
      clear hb8
      go_wp2
      go_ret
      exact ⟨rfl, HS8.out.1⟩
    · have H2 : Hid (200 < s.size) := by show _ < _; omega
      have H3 : Hid (s.size ≤ 1048576) := by show _ ≤ _; omega
      have HN : Hid (∀ W1 : World, OwnP W1 0 (.slice none 0 0) []) := fun W1 => OwnP.nil W1 0
      have HFN : Hid (∀ j (hj : j < ([] : List PD).length), Fit ([] : List PD)[j]) := fun j hj => absurd hj (Nat.not_lt_zero _)
      have HZN : Hid (∀ p ∈ ([] : List PD), p.zs.length ≤ 128) := fun p hp => by cases hp
      clear hm h200
      go_enter Try.func4, Try.ntmps4
      go_wp2_with fail
      refine (specRead_no s _ H2.out H3.out).mono ?_
      rintro e w1 ⟨rfl, rfl⟩
      go_wp2_with fail
      refine (implRead_no s _ H2.out H3.out).mono ?_
      rintro e w2 ⟨rfl, rfl⟩
      go_wp2_with fail
      refine (eqParts_same w2 _ _ [] (HN.out _).reads (HN.out _).reads (by simp) HFN.out).mono ?_
      rintro e w3 ⟨rfl, hb3⟩
      have HS3 : Hid (Since w2.heap.size w2 w3) := (Since.start w2).step hb3
      clear hb3
      go_wp2_with fail
      refine (markParts_any w3 w2.heap.size _ [] 1 (OwnP.nil _ _) HS3.out.2 (by simp) HZN.out (by omega) (by omega)).mono ?_
      rintro e w4 ⟨rfl, ho4, hb4, hz4⟩
      have HS4 : Hid (Since w2.heap.size w2 w4) := ⟨HS3.out.1.trans hb4, Nat.le_trans HS3.out.2 hz4⟩
      clear ho4 hb4 hz4
      go_wp2_with fail
      refine (heldParts_yes w4 _ [] 1 (HN.out _).reads (by simp) HZN.out (by omega) (by omega)).mono ?_
      rintro e w5 ⟨rfl, hb5⟩
      have HS5 : Hid (Since w2.heap.size w2 w5) := HS4.out.step hb5
      clear hb5
      go_wp2_with fail
      refine (implRead_no s _ H2.out H3.out).mono ?_
      rintro e w6 ⟨rfl, rfl⟩
      go_wp2_with fail
      refine (eqParts_same w6 _ _ [] (HN.out _).reads (HN.out _).reads (by simp) HFN.out).mono ?_
      rintro e w7 ⟨rfl, hb7⟩
      have HS7 : Hid (Since w2.heap.size w2 w7) := HS5.out.step hb7
      clear hb7
      go_wp2_with fail
      refine (heldParts_yes w7 _ [] 1 (HN.out _).reads (by simp) HZN.out (by omega) (by omega)).mono ?_
      rintro e w8 ⟨rfl, hb8⟩
      have HS8 : Hid (Since w2.heap.size w2 w8) := HS7.out.step hb8
      clear hb8
      go_wp2
      go_ret
      exact ⟨rfl, HS8.out.1⟩

set_option maxRecDepth 100000 in
theorem contract (H : Type) (enc : TypeId × Value → H) (W : World) (base : Nat) (args : Array Value) (ds gs : List (DataW H)) (before : List MemPlace)
    (hval : ∀ (j : Nat) t v, Try.f4.params[j]? = some t → args[j]? = some v → Value.okWide Try.prog W .any base t v)
    (hW : DataW.Whole enc Try.prog Try.f4.params.toList Rows.fnExactReadFrameSpec.vars false W args.toList ds gs before) :
    Calls Try.prog 4 args W fun e W' => ∃ v, e = .returned v ∧ Rows.fnExactReadFrameSpec.post enc Try.prog Try.f4 false true false false W args v W' := by
  have hW' := hW
  obtain ⟨p, q, hA0, hV0, rfl, hfz, hnd⟩ := hW
  have hA : DataW.TrodAll enc Try.prog W 0 (fun _ => true) true Try.f4.params.toList args.toList ds p := hA0
  rw [Try.params4] at hA hval
  obtain ⟨v0, vs0, d0, ds0, p0, q0, hargs, rfl, rfl, h0, r0⟩ := trodAll_cons hA
  obtain ⟨rfl, rfl, rfl⟩ := trodAll_nil r0
  obtain rfl : args = #[v0] := by cases args; simp_all
  obtain ⟨rfl, rfl⟩ := trodVars_none hV0
  obtain ⟨a0, rfl, rfl, rfl, w0⟩ := open_string Try.underlying9 (hval 0 9 v0 rfl rfl) h0
  clear hA0 hV0
  refine (walk a0 W w0).mono fun e W' ⟨he, bel⟩ => ?_
  subst he
  exact ⟨_, rfl, _, _, _, [], [], [], hW', trodAll_mk1 (shut_bool Try.underlying4 _), (trodAll_cons_mk (shut_string Try.underlying9 w0) trodAll_mk0), rfl, bel.frame _, fun h => by cases h⟩

set_option maxRecDepth 100000 in
theorem lifted (os : Os) (started : os.Started) (H : Type) (enc : TypeId × Value → H) :
    ReturnsInHanded {} Try.checked os 4 .any (Rows.fnExactReadFrameSpec.pre6 enc Try.prog Try.f4 Rows.fnExactReadFrameRow.domain false) (Rows.fnExactReadFrameSpec.post enc Try.prog Try.f4 false true false false) := by
  refine returnsInHanded_of_change (C := Try.checked) own started (by kernel_rfl) Try.func4
    (ChangeSpec.witness6 (enc := enc) (C := Try.checked) false ⟨#[], #[.string ByteArray.empty], []⟩ 8 (by kernel_rfl) (by kernel_rfl) (by kernel_rfl) (by kernel_rfl)) ?_
  intro W base args ds gs before hval hW _ _
  exact contract H enc W base args ds gs before hval hW

/-- The statement. -/
theorem said : Rows.FnExactReadFrameSaid :=
  OpenClaim.holds_of_wide 4 Try.f4 rfl rfl rfl rfl rfl rfl rfl ⟨rfl, rfl, rfl, rfl, rfl⟩ rfl rfl rfl rfl rfl (by kernel_rfl) Try.func4 (by kernel_rfl)
    (of_decide_eq_true (by kernel_rfl)) (by unfold Func.isWrapper; first | (rw [if_pos (by decide +kernel)]; kernel_rfl) | (rw [if_neg (by decide +kernel)]; exact ⟨rfl, rfl⟩))
    (fun os started H enc _ => lifted os started H enc)
#print axioms said
end Go.Proofs.Ytiknpoclolnhhas.fnExactReadFrame
