/-
  Proved: for every list of numbers, 'PutNums' of the program at commit b03764082bd1 answers as the model's 'PutNums', the text and the bool; it writes into no argument (the list that it was handed reads as before), and so does the law's own argument. No condition.
-/
import Derived.Test.YtiknpoclolnhhasPlain
import Derived.Test.YtiknpoclolnhhasPutText
import Derived.Test.YtiknpoclolnhhasIntsOf
namespace Go.Proofs.Ytiknpoclolnhhas.fnExactPutNums
open Go.ChangeShapes Go.WideShapes Go.ChangeAt Go.RowKit
open Go.ChangeMaps (open_string shut_string)
set_option linter.unusedVariables false

theorem specPut_any (W : World) (v : Value) (zs : List Int) (h : Reads W v zs) (hl : zs.length ≤ 1048576) :
    Calls Try.prog 17 #[v] W fun e W' => e = .returned (.tuple #[.string (if numsB zs = true then ⟨(putL zs).toArray⟩ else ⟨#[]⟩), .bool (numsB zs)]) ∧ Below W.heap.size W W' := by
  cases hB : numsB zs with
  | true =>
    have H : Hid (numsB zs = true) := hB
    have HA : Hid (allB zs 0 65535 = true) := by show _ = _; unfold numsB at hB; simp at hB; exact hB.2
    clear hB
    go_enter Try.func17, Try.ntmps17
    go_wp2_with fail
    refine (l2Nums_any W v zs h (by omega)).mono ?_
    rintro e w1 ⟨rfl, rfl⟩
    rw [H.out]
    go_wp2_with fail
    refine (l2Put_any w1 v zs h hl HA.out).mono ?_
    rintro e w2 ⟨rfl, hb⟩
    go_wp2
    go_ret2
    exact ⟨rfl, hb⟩
  | false =>
    have H : Hid (numsB zs = false) := hB
    clear hB
    go_enter Try.func17, Try.ntmps17
    go_wp2_with fail
    refine (l2Nums_any W v zs h (by omega)).mono ?_
    rintro e w1 ⟨rfl, rfl⟩
    rw [H.out]
    go_wp2
    go_ret2
    exact ⟨rfl, Below.refl _ _⟩

theorem implPut_any (W : World) (v : Value) (zs : List Int) (h : Reads W v zs) (hl : zs.length ≤ 1048576) :
    Calls Try.prog 19 #[v] W fun e W' => e = .returned (.tuple #[.string (if numsB zs = true then ⟨(putL zs).toArray⟩ else ⟨#[]⟩), .bool (numsB zs)]) ∧ Below W.heap.size W W' := by
  cases hB : numsB zs with
  | true =>
    have H : Hid (numsB zs = true) := hB
    have HA : Hid (allB zs 0 65535 = true) := by show _ = _; unfold numsB at hB; simp at hB; exact hB.2
    clear hB
    go_enter Try.func19, Try.ntmps19
    go_wp2_with fail
    refine (isNums_any W v zs h (by omega)).mono ?_
    rintro e w1 ⟨rfl, rfl⟩
    rw [H.out]
    go_wp2_with fail
    refine (numsText_any w1 v zs h hl HA.out).mono ?_
    rintro e w2 ⟨rfl, hb⟩
    go_wp2
    go_ret2
    exact ⟨rfl, hb⟩
  | false =>
    have H : Hid (numsB zs = false) := hB
    clear hB
    go_enter Try.func19, Try.ntmps19
    go_wp2_with fail
    refine (isNums_any W v zs h (by omega)).mono ?_
    rintro e w1 ⟨rfl, rfl⟩
    rw [H.out]
    go_wp2
    go_ret2
    exact ⟨rfl, Below.refl _ _⟩

set_option maxRecDepth 100000 in
set_option maxHeartbeats 1000000 in
theorem walk (v : Value) (zs : List Int) (w : World) (h : Reads w v zs) (hm : zs.length ≤ maxLen) :
    Calls Try.prog 5 #[v] w fun e w' => e = .returned (.bool true) ∧ Below w.heap.size w w' := by
  by_cases h1 : 1048576 < zs.length
  · unfold maxLen at hm
    have h1' : (1048576 : Int) < (zs.length : Int) := by omega
    obtain ⟨a1, cap1, rfl, -⟩ := h
    go_enter Try.func5, Try.ntmps5
    go_wp2
    go_ret
    exact ⟨rfl, Below.refl _ _⟩
  · have hl : zs.length ≤ 1048576 := by omega
    have hl4 : zs.length ≤ 4194304 := by omega
    have HR : Hid (Reads w v zs) := h
    have hv : ∃ a cap, v = .slice a zs.length cap := by obtain ⟨a, cap, hv, -⟩ := h; exact ⟨a, cap, hv⟩
    obtain ⟨a, cap, rfl⟩ := hv
    obtain ⟨T, hT⟩ : ∃ T : ByteArray, T = if numsB zs = true then ⟨(putL zs).toArray⟩ else ⟨#[]⟩ := ⟨_, rfl⟩
    have HT : Hid (T = if numsB zs = true then ⟨(putL zs).toArray⟩ else ⟨#[]⟩) := hT
    clear h hm hT
    go_enter Try.func5, Try.ntmps5
    go_wp2_with fail
    refine (toInts_any w _ zs HR.out hl4).mono ?_
    rintro e w1 ⟨v1, rfl, ho1, hb1⟩
    have HO1 : Hid (Own w1 w.heap.size v1 zs) := ho1
    have HS1 : Hid (Since w.heap.size w w1) := (Since.start w).step hb1
    have HR1 : Hid (Reads w1 (.slice a zs.length cap) zs) := HR.out.below hb1
    clear ho1 hb1
    go_wp2_with fail
    refine (specPut_any w1 v1 zs HO1.out.reads hl).mono ?_
    rintro e w2 ⟨rfl, hb2⟩
    rw [← HT.out]
    have HS2 : Hid (Since w.heap.size w w2) := HS1.out.step hb2
    have HR2 : Hid (Reads w2 (.slice a zs.length cap) zs) := HR1.out.below hb2
    clear hb2
    go_wp2_with fail
    refine (toInts_any w2 _ zs HR2.out hl4).mono ?_
    rintro e w3 ⟨v3, rfl, ho3, hb3⟩
    have HO3 : Hid (Own w3 w2.heap.size v3 zs) := ho3
    have HS3 : Hid (Since w.heap.size w w3) := HS2.out.step hb3
    have HR3 : Hid (Reads w3 (.slice a zs.length cap) zs) := HR2.out.below hb3
    clear ho3 hb3
    go_wp2_with fail
    refine (implPut_any w3 v3 zs HO3.out.reads hl).mono ?_
    rintro e w4 ⟨rfl, hb4⟩
    rw [← HT.out]
    have HS4 : Hid (Since w.heap.size w w4) := HS3.out.step hb4
    have HR4 : Hid (Reads w4 (.slice a zs.length cap) zs) := HR3.out.below hb4
    have HO4 : Hid (Own w4 w2.heap.size v3 zs) := HO3.out.below hb4
    clear hb4
    go_wp2_with fail
    refine (toInts_any w4 _ zs HR4.out hl4).mono ?_
    rintro e w5 ⟨v5, rfl, ho5, hb5⟩
    have HO5 : Hid (Own w5 w4.heap.size v5 zs) := ho5
    have HS5 : Hid (Since w.heap.size w w5) := HS4.out.step hb5
    have HO35 : Hid (Own w5 w2.heap.size v3 zs) := HO4.out.below hb5
    clear ho5 hb5
    go_wp2_with fail
    refine (eqInts_same w5 v3 v5 zs HO35.out.reads HO5.out.reads hl4).mono ?_
    rintro e w6 ⟨rfl, n6, rfl⟩
    go_wp2
    go_ret
    exact ⟨rfl, (HS5.out.drewN n6).1⟩

set_option maxRecDepth 100000 in
theorem contract (H : Type) (enc : TypeId × Value → H) (W : World) (base : Nat) (args : Array Value) (ds gs : List (DataW H)) (before : List MemPlace)
    (hval : ∀ (j : Nat) t v, Try.f5.params[j]? = some t → args[j]? = some v → Value.okWide Try.prog W .any base t v)
    (hW : DataW.Whole enc Try.prog Try.f5.params.toList Rows.fnExactPutNumsSpec.vars false W args.toList ds gs before) :
    Calls Try.prog 5 args W fun e W' => ∃ v, e = .returned v ∧ Rows.fnExactPutNumsSpec.post enc Try.prog Try.f5 false true false false W args v W' := by
  have hW' := hW
  obtain ⟨p, q, hA0, hV0, rfl, hfz, hnd⟩ := hW
  have hA : DataW.TrodAll enc Try.prog W 0 (fun _ => true) true Try.f5.params.toList args.toList ds p := hA0
  rw [Try.params5] at hA hval
  obtain ⟨v0, vs0, d0, ds0, p0, q0, hargs, rfl, rfl, h0, r0⟩ := trodAll_cons hA
  obtain ⟨rfl, rfl, rfl⟩ := trodAll_nil r0
  obtain rfl : args = #[v0] := by cases args; simp_all
  obtain ⟨rfl, rfl⟩ := trodVars_none hV0
  obtain ⟨a0, len0, cap0, rfl⟩ := okWide_slice Try.underlying34 (hval 0 34 v0 rfl rfl)
  have k0 := h0
  have lt0 : ∀ x ∈ p0, x.block < W.heap.size := by obtain ⟨m, hm⟩ := k0; exact DataW.trod_lt m _ _ _ hm
  obtain ⟨zs0, hr0, hz0⟩ := ints_of k0
  clear hA0 hV0
  refine (walk _ zs0 W hr0 hz0).mono fun e W' ⟨he, bel⟩ => ?_
  subst he
  exact ⟨_, rfl, _, _, _, [], _, [], hW', trodAll_mk1 (shut_bool Try.underlying4 _), (trodAll_cons_mk (Below.trod laidOut (by kernel_rfl) (of_decide_eq_true (by kernel_rfl)) k0 bel lt0) trodAll_mk0), rfl, bel.frame _, fun h => by cases h⟩

set_option maxRecDepth 100000 in
theorem lifted (os : Os) (started : os.Started) (H : Type) (enc : TypeId × Value → H) :
    ReturnsInHanded {} Try.checked os 5 .any (Rows.fnExactPutNumsSpec.pre6 enc Try.prog Try.f5 Rows.fnExactPutNumsRow.domain false) (Rows.fnExactPutNumsSpec.post enc Try.prog Try.f5 false true false false) := by
  refine returnsInHanded_of_change (C := Try.checked) own started (by kernel_rfl) Try.func5
    (ChangeSpec.witness6 (enc := enc) (C := Try.checked) false ⟨#[], #[.slice none 0 0], []⟩ 8 (by kernel_rfl) (by kernel_rfl) (by kernel_rfl) (by kernel_rfl)) ?_
  intro W base args ds gs before hval hW _ _
  exact contract H enc W base args ds gs before hval hW

/-- The statement. -/
theorem said : Rows.FnExactPutNumsSaid :=
  OpenClaim.holds_of_wide 5 Try.f5 rfl rfl rfl rfl rfl rfl rfl ⟨rfl, rfl, rfl, rfl, rfl⟩ rfl rfl rfl rfl rfl (by kernel_rfl) Try.func5 (by kernel_rfl)
    (of_decide_eq_true (by kernel_rfl)) (by unfold Func.isWrapper; first | (rw [if_pos (by decide +kernel)]; kernel_rfl) | (rw [if_neg (by decide +kernel)]; exact ⟨rfl, rfl⟩))
    (fun os started H enc _ => lifted os started H enc)
#print axioms said
end Go.Proofs.Ytiknpoclolnhhas.fnExactPutNums
