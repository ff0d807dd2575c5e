/-
  Proved: for every list of numbers, 'FitsRing' of the program at commit 9a5d4bce51f6 (which asks whether some half of the round holds all) answers as the model's 'FitsRing' (which asks each two and each three), both bools; it writes into no argument (the list that it was handed reads as before), and so does the law's own argument. No condition.
-/
import Derived.Test.YthdcfeafkellcawPlain
import Derived.Test.YthdcfeafkellcawFitS
import Derived.Test.YthdcfeafkellcawIntsOf
namespace Go.Proofs.Ythdcfeafkellcaw.fnExactFitsRing
open Go.ChangeShapes Go.WideShapes Go.ChangeAt Go.RowKit
open Go.ChangeMaps (open_string shut_string)
set_option linter.unusedVariables false

set_option maxRecDepth 100000 in
set_option maxHeartbeats 4000000 in
theorem walk (v : Value) (zs : List Int) (w : World) (h : Reads w v zs) (hl : zs.length ≤ maxLen) :
    Calls Try.prog 6 #[v] w fun e w' => e = .returned (.bool true) ∧ Below w.heap.size w w' := by
  have HRD : Hid (∀ W1, Since w.heap.size w W1 → Reads W1 v zs) := fun W1 hb => h.below hb.1
  obtain ⟨a1, c1, rfl, -⟩ := h
  have S1 : Hid (Since w.heap.size w w) := Since.start w
  by_cases hle : zs.length ≤ 1048576
  · obtain ⟨o, ho⟩ : ∃ o, o = outFit zs := ⟨_, rfl⟩
    obtain ⟨m, hm⟩ : ∃ m, m = mayFit zs := ⟨_, rfl⟩
    have CS : Hid (∀ (W : World) (v : Value), Reads W v zs → Calls Try.prog 19 #[v] W fun e W' => e = .returned (.tuple #[.bool o, .bool m]) ∧ Below W.heap.size W W') := fun W v hr => by rw [ho, hm]; exact specFits_any W v zs hr hle
    have CI : Hid (∀ (W : World) (v : Value), Reads W v zs → Calls Try.prog 21 #[v] W fun e W' => e = .returned (.tuple #[.bool o, .bool m]) ∧ Below W.heap.size W W') := fun W v hr => by rw [ho, hm]; exact implFits_any W v zs hr hle
    have LB : Hid (zs.length ≤ 4194304) := by show _ ≤ _; omega
    have hnn : ¬ (1048576 : Int) < (zs.length : Int) := by omega
    clear hl ho hm hle
    go_enter Try.func6, Try.ntmps6
    go_wp2_with fail
    refine (toInts_any _ _ zs (HRD.out _ S1.out) LB.out).mono ?_
    rintro e w2 ⟨v2, rfl, ho2, hb2⟩
    have R2 : Hid (∀ w', Since w2.heap.size w2 w' → Reads w' v2 zs) := fun w' hs => ho2.reads.below hs.1
    have S3 : Hid (Since w.heap.size w w2) := S1.out.step hb2
    clear ho2 hb2
    go_wp2_with fail
    refine (CS.out _ _ (R2.out _ (Since.start _))).mono ?_
    rintro e w3 ⟨rfl, hb3⟩
    have S4 : Hid (Since w.heap.size w w3) := S3.out.step hb3
    clear hb3 R2
    go_wp2_with fail
    refine (toInts_any _ _ zs (HRD.out _ S4.out) LB.out).mono ?_
    rintro e w4 ⟨v4, rfl, ho4, hb4⟩
    have R4 : Hid (∀ w', Since w4.heap.size w4 w' → Reads w' v4 zs) := fun w' hs => ho4.reads.below hs.1
    have S6 : Hid (Since w.heap.size w w4) := S4.out.step hb4
    clear ho4 hb4
    go_wp2_with fail
    refine (CI.out _ _ (R4.out _ (Since.start _))).mono ?_
    rintro e w5 ⟨rfl, hb5⟩
    have S7 : Hid (Since w.heap.size w w5) := S6.out.step hb5
    have U5 : Hid (Since w4.heap.size w4 w5) := (Since.start _).step hb5
    clear hb5
    go_wp2_with fail
    refine (toInts_any _ _ zs (HRD.out _ S7.out) LB.out).mono ?_
    rintro e w7 ⟨v7, rfl, ho7, hb7⟩
    have R7 : Hid (∀ w', Since w7.heap.size w7 w' → Reads w' v7 zs) := fun w' hs => ho7.reads.below hs.1
    have S10 : Hid (Since w.heap.size w w7) := S7.out.step hb7
    have U7 : Hid (Since w4.heap.size w4 w7) := U5.out.step hb7
    clear ho7 hb7
    go_wp2_with fail
    refine (eqInts_same _ _ _ zs (R4.out _ U7.out) (R7.out _ (Since.start _)) LB.out).mono ?_
    rintro e w8 ⟨rfl, n8, rfl⟩
    have S11 : Hid (Since w.heap.size w _) := S10.out.drewN n8
    go_wp2
    go_ret
    exact ⟨rfl, S11.out.1⟩
  · have hnn : (1048576 : Int) < (zs.length : Int) := by omega
    clear hl hle
    go_enter Try.func6, Try.ntmps6
    go_wp2
    go_ret
    exact ⟨rfl, Below.refl _ _⟩

set_option maxRecDepth 100000 in
theorem contract (H : Type) (enc : TypeId × Value → H) (W : World) (base : Nat) (args : Array Value) (ds gs : List (DataW H)) (before : List MemPlace)
    (hval : ∀ (j : Nat) t v, Try.f6.params[j]? = some t → args[j]? = some v → Value.okWide Try.prog W .any base t v)
    (hW : DataW.Whole enc Try.prog Try.f6.params.toList Rows.fnExactFitsRingSpec.vars false W args.toList ds gs before) :
    Calls Try.prog 6 args W fun e W' => ∃ v, e = .returned v ∧ Rows.fnExactFitsRingSpec.post enc Try.prog Try.f6 false true false false W args v W' := by
  have hW' := hW
  obtain ⟨p, q, hA0, hV0, rfl, hfz, hnd⟩ := hW
  have hA : DataW.TrodAll enc Try.prog W 0 (fun _ => true) true Try.f6.params.toList args.toList ds p := hA0
  rw [Try.params6] at hA hval
  obtain ⟨v0, vs0, d0, ds0, p0, q0, hargs, rfl, rfl, h0, r0⟩ := trodAll_cons hA
  obtain ⟨rfl, rfl, rfl⟩ := trodAll_nil r0
  obtain rfl : args = #[v0] := by cases args; simp_all
  obtain ⟨rfl, rfl⟩ := trodVars_none hV0
  obtain ⟨a0, len0, cap0, rfl⟩ := okWide_slice Try.underlying41 (hval 0 41 v0 rfl rfl)
  have k0 := h0
  have lt0 : ∀ x ∈ p0, x.block < W.heap.size := by obtain ⟨m, hm⟩ := k0; exact DataW.trod_lt m _ _ _ hm
  obtain ⟨zs0, hr0, hz0⟩ := ints_of k0
  clear hA0 hV0
  refine (walk _ zs0 W hr0 hz0).mono fun e W' ⟨he, bel⟩ => ?_
  subst he
  exact ⟨_, rfl, _, _, _, [], _, [], hW', trodAll_mk1 (shut_bool Try.underlying4 _), (trodAll_cons_mk (Below.trod laidOut (by kernel_rfl) (of_decide_eq_true (by kernel_rfl)) k0 bel lt0) trodAll_mk0), rfl, bel.frame _, fun h => by cases h⟩

set_option maxRecDepth 100000 in
theorem lifted (os : Os) (started : os.Started) (H : Type) (enc : TypeId × Value → H) :
    ReturnsInHanded {} Try.checked os 6 .any (Rows.fnExactFitsRingSpec.pre6 enc Try.prog Try.f6 Rows.fnExactFitsRingRow.domain false) (Rows.fnExactFitsRingSpec.post enc Try.prog Try.f6 false true false false) := by
  refine returnsInHanded_of_change (C := Try.checked) own started (by kernel_rfl) Try.func6
    (ChangeSpec.witness6 (enc := enc) (C := Try.checked) false ⟨#[], #[.slice none 0 0], []⟩ 8 (by kernel_rfl) (by kernel_rfl) (by kernel_rfl) (by kernel_rfl)) ?_
  intro W base args ds gs before hval hW _ _
  exact contract H enc W base args ds gs before hval hW

/-- The statement. -/
theorem said : Rows.FnExactFitsRingSaid :=
  OpenClaim.holds_of_wide 6 Try.f6 rfl rfl rfl rfl rfl rfl rfl ⟨rfl, rfl, rfl, rfl, rfl⟩ rfl rfl rfl rfl rfl (by kernel_rfl) Try.func6 (by kernel_rfl)
    (of_decide_eq_true (by kernel_rfl)) (by unfold Func.isWrapper; first | (rw [if_pos (by decide +kernel)]; kernel_rfl) | (rw [if_neg (by decide +kernel)]; exact ⟨rfl, rfl⟩))
    (fun os started H enc _ => lifted os started H enc)
#print axioms said
end Go.Proofs.Ythdcfeafkellcaw.fnExactFitsRing
