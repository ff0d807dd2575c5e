/-
  Proved: for every list of haves, 'GoodHaves' of the program at commit 83a7ca3833eb answers as the model's 'GoodHaves'; it writes into no argument (the list that it was handed reads as before), and so does the law's own argument. No condition.
-/
import Derived.Test.YtkpdiojomgiocaxPlain
import Derived.Test.YtkpdiojomgiocaxLsGood
import Derived.Test.YtkpdiojomgiocaxLsGoodS
import Derived.Test.YtkpdiojomgiocaxRowOfHv
import Derived.Test.YtkpdiojomgiocaxRowLaw0
namespace Go.Proofs.Ytkpdiojomgiocax.fnExactGoodHaves
open Go.ChangeShapes Go.WideShapes Go.ChangeAt Go.RowKit
open Go.ChangeMaps (open_string shut_string)
set_option linter.unusedVariables false

set_option maxRecDepth 100000 in
set_option maxHeartbeats 4000000 in
theorem walk (v : Value) (l : List HvD) (w : World) (h : ReadsHv w v l) (hl : l.length ≤ maxLen) :
    Calls Try.prog 8 #[v] w fun e w' => e = .returned (.bool true) ∧ Below w.heap.size w w' := by
  have HRD : Hid (∀ W1, Since w.heap.size w W1 → ReadsHv W1 v l) := fun W1 hb => h.below hb.1
  have HL : Hid (l.length ≤ maxLen) := hl
  obtain ⟨a1, c1, rfl⟩ := h.shape
  have S1 : Hid (Since w.heap.size w w) := Since.start w
  obtain ⟨gb, hgb⟩ : ∃ gb, gb = goodHv l := ⟨_, rfl⟩
  clear h hl
  go_enter Try.func8, Try.ntmps8
  go_wp2_with fail
  refine (szHvs_any _ _ l 1048576 (HRD.out _ S1.out) HL.out (by omega) (by omega)).mono ?_
  rintro e w1 ⟨rfl, hw1⟩
  obtain rfl : w = w1 := hw1.symm
  rcases Int.lt_or_le 1048576 (l.length : Int) with hle | hle
  · rw [if_neg (by omega)]
    go_wp2
    go_ret
    exact ⟨rfl, S1.out.1⟩
  rw [if_pos hle]
  have hnn : ¬ (1048576 - (l.length : Int) < 0) := by omega
  have LL : Hid (l.length ≤ 1048576) := by show _ ≤ _; omega
  have LB : Hid (l.length ≤ 4194304) := by show _ ≤ _; omega
  have CS : Hid (∀ (W : World) (B : Nat) (v : Value), OwnHv W B v l → Calls Try.prog 37 #[v] W fun e W' => e = .returned (.bool gb) ∧ Below W.heap.size W W') := fun W B v ho => by
    have := specGoodHv_any W v l ho.reads (Nat.le_trans LL.out (by decide))
    rw [← hgb] at this
    exact this
  have CI : Hid (∀ (W : World) (B : Nat) (v : Value), OwnHv W B v l → Calls Try.prog 39 #[v] W fun e W' => e = .returned (.bool gb) ∧ Below W.heap.size W W') := fun W B v ho => by
    have := implGoodHv_any W v l ho.reads (Nat.le_trans LL.out (by decide))
    rw [← hgb] at this
    exact this
  clear hgb
  go_wp2_with fail
  refine (toHvs_any _ _ l (HRD.out _ S1.out) LB.out).mono ?_
  rintro e w2 ⟨v2, rfl, ho2, hb2⟩
  obtain ⟨x2, y2, rfl⟩ := ho2.shape
  have S2 : Hid (Since w.heap.size w w2) := S1.out.step hb2
  have N2 : Hid (OwnHv w2 w.heap.size (.slice x2 l.length y2) l) := ho2
  have B2 : Hid (Below w.heap.size w w2) := hb2
  have O2 : Hid (OwnHv w2 w.heap.size (.slice x2 l.length y2) l) := ho2.mono S1.out.2
  clear ho2 hb2
  go_wp2_with fail
  refine (CS.out _ _ _ O2.out).mono ?_
  rintro e w3 ⟨rfl, hb3⟩
  have S3 : Hid (Since w.heap.size w w3) := S2.out.step hb3
  clear hb3
  go_wp2_with fail
  refine (toHvs_any _ _ l (HRD.out _ S3.out) LB.out).mono ?_
  rintro e w4 ⟨v4, rfl, ho4, hb4⟩
  obtain ⟨x4, y4, rfl⟩ := ho4.shape
  have S4 : Hid (Since w.heap.size w w4) := S3.out.step hb4
  have N4 : Hid (OwnHv w4 w3.heap.size (.slice x4 l.length y4) l) := ho4
  have B4 : Hid (Below w3.heap.size w3 w4) := hb4
  have O4 : Hid (OwnHv w4 w.heap.size (.slice x4 l.length y4) l) := ho4.mono S3.out.2
  clear ho4 hb4
  go_wp2_with fail
  refine (CI.out _ _ _ O4.out).mono ?_
  rintro e w5 ⟨rfl, hb5⟩
  have S5 : Hid (Since w.heap.size w w5) := S4.out.step hb5
  have O5 : Hid (OwnHv w5 w.heap.size (.slice x4 l.length y4) l) := O4.out.below hb5
  clear hb5
  go_wp2_with fail
  refine (toHvs_any _ _ l (HRD.out _ S5.out) LB.out).mono ?_
  rintro e w6 ⟨v6, rfl, ho6, hb6⟩
  obtain ⟨x6, y6, rfl⟩ := ho6.shape
  have S6 : Hid (Since w.heap.size w w6) := S5.out.step hb6
  have N6 : Hid (OwnHv w6 w5.heap.size (.slice x6 l.length y6) l) := ho6
  have B6 : Hid (Below w5.heap.size w5 w6) := hb6
  have O6 : Hid (OwnHv w6 w.heap.size (.slice x6 l.length y6) l) := ho6.mono S5.out.2
  clear ho6 hb6
  have P6 : Hid (OwnHv w6 w.heap.size (.slice x4 l.length y4) l) := O5.out.below B6.out
  go_wp2_with fail
  refine (eqHvs_same _ _ _ l P6.out.reads O6.out.reads LB.out).mono ?_
  rintro e w7 ⟨rfl, hb7⟩
  have S7 : Hid (Since w.heap.size w w7) := S6.out.step hb7
  clear hb7
  go_wp2
  go_ret
  exact ⟨rfl, S7.out.1⟩

set_option maxRecDepth 100000 in
theorem contract (H : Type) (enc : TypeId × Value → H) (W : World) (base : Nat) (args : Array Value) (ds gs : List (DataW H)) (before : List MemPlace)
    (hval : ∀ (j : Nat) t v, Try.f8.params[j]? = some t → args[j]? = some v → Value.okWide Try.prog W .any base t v)
    (hW : DataW.Whole enc Try.prog Try.f8.params.toList Rows.fnExactGoodHavesSpec.vars false W args.toList ds gs before) :
    Calls Try.prog 8 args W fun e W' => ∃ v, e = .returned v ∧ Rows.fnExactGoodHavesSpec.post enc Try.prog Try.f8 false true false false W args v W' := by
  have hW' := hW
  obtain ⟨p, q, hA0, hV0, rfl, hfz, hnd⟩ := hW
  have hA : DataW.TrodAll enc Try.prog W 0 (fun _ => true) true Try.f8.params.toList args.toList ds p := hA0
  rw [Try.params8] at hA hval
  obtain ⟨v0, vs0, d0, ds0, p0, q0, hargs, rfl, rfl, h0, r0⟩ := trodAll_cons hA
  obtain ⟨rfl, rfl, rfl⟩ := trodAll_nil r0
  obtain rfl : args = #[v0] := by cases args; simp_all
  obtain ⟨rfl, rfl⟩ := trodVars_none hV0
  obtain ⟨a0, len0, cap0, rfl⟩ := okWide_slice Try.underlying62 (hval 0 62 v0 rfl rfl)
  have k0 := h0
  have lt0 : ∀ x ∈ p0, x.block < W.heap.size := by obtain ⟨m, hm⟩ := k0; exact DataW.trod_lt m _ _ _ hm
  obtain ⟨ps0, hr0, hz0⟩ := Hvs_of k0
  clear hA0 hV0
  refine (walk _ ps0 W hr0 hz0).mono fun e W' ⟨he, bel⟩ => ?_
  subst he
  exact ⟨_, rfl, _, _, _, [], _, [], hW', trodAll_mk1 (shut_bool Try.underlying4 _), (trodAll_cons_mk (Below.trod laidOut (by kernel_rfl) (of_decide_eq_true (by kernel_rfl)) k0 bel lt0) trodAll_mk0), rfl, bel.frame _, fun h => by cases h⟩

set_option maxRecDepth 100000 in
theorem lifted (os : Os) (started : os.Started) (H : Type) (enc : TypeId × Value → H) :
    ReturnsInHanded {} Try.checked os 8 .any (Rows.fnExactGoodHavesSpec.pre6 enc Try.prog Try.f8 Rows.fnExactGoodHavesRow.domain false) (Rows.fnExactGoodHavesSpec.post enc Try.prog Try.f8 false true false false) := by
  refine returnsInHanded_of_change (C := Try.checked) own started (by kernel_rfl) Try.func8
    (ChangeSpec.witness6 (enc := enc) (C := Try.checked) false ⟨#[], #[.slice none 0 0], []⟩ 8 (by kernel_rfl) (by kernel_rfl) (by kernel_rfl) (by kernel_rfl)) ?_
  intro W base args ds gs before hval hW _ _
  exact contract H enc W base args ds gs before hval hW

/-- The statement. -/
theorem said : Rows.FnExactGoodHavesSaid :=
  OpenClaim.holds_of_wide 8 Try.f8 rfl rfl rfl rfl rfl rfl rfl ⟨rfl, rfl, rfl, rfl, rfl⟩ rfl rfl rfl rfl rfl (by kernel_rfl) Try.func8 (by kernel_rfl)
    (of_decide_eq_true (by kernel_rfl)) (by unfold Func.isWrapper; first | (rw [if_pos (by decide +kernel)]; kernel_rfl) | (rw [if_neg (by decide +kernel)]; exact ⟨rfl, rfl⟩))
    (fun os started H enc _ => lifted os started H enc)
#print axioms said
end Go.Proofs.Ytkpdiojomgiocax.fnExactGoodHaves
