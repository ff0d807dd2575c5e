/-
  Proved: for every list of numbers and every two numbers 'ComesFrom' of the program at commit 50a8e01d44cabb492beff5f4ebbc26caed7ec092 answers as the model's 'ComesFrom', the number and the bool; it writes into no argument (the list that it was handed reads as before). No condition.
-/
import Derived.Test.YthlbmkefjjckaagPlain
import Derived.Test.YthlbmkefjjckaagTrCf
import Derived.Test.YthlbmkefjjckaagRowLaw0
import Derived.Test.YthlbmkefjjckaagIntsOf
namespace Go.Proofs.Ythlbmkefjjckaag.fnExactComesFrom
open Go.ChangeShapes Go.WideShapes Go.ChangeAt Go.RowKit
open Go.ChangeMaps (open_string shut_string)
set_option linter.unusedVariables false

set_option maxRecDepth 100000 in
set_option maxHeartbeats 8000000 in
theorem walk (v0 : Value) (ps : List Int) (af : Int) (bt : Int) (w : World) (h0 : Reads w v0 ps) (hl0 : ps.length ≤ maxLen) (wf_af : (Lit.int .i64 af).wf = true) (wf_bt : (Lit.int .i64 bt).wf = true) :
    Calls Try.prog 5 #[v0, .int .i64 af, .int .i64 bt] w fun e w' => e = .returned (.bool true) ∧ Below w.heap.size w w' := by
  have HRD0 : Hid (∀ W1, Since w.heap.size w W1 → Reads W1 v0 ps) := fun W1 hb => h0.below hb.1
  have HL0 : Hid (ps.length ≤ maxLen) := hl0
  obtain ⟨a0, c0, rfl⟩ := h0.shape
  have S1 : Hid (Since w.heap.size w w) := Since.start w
  obtain ⟨cf, hcf⟩ : ∃ cf, cf = cfOut ps af bt := ⟨_, rfl⟩
  obtain ⟨ok, hok⟩ : ∃ ok, ok = cfOk ps af bt := ⟨_, rfl⟩
  clear h0 hl0 wf_af wf_bt
  go_enter Try.func5, Try.ntmps5
  rcases Int.lt_or_le (1048576 : Int) (ps.length : Int) with hN0 | hN0
  · go_wp2
    go_ret
    exact ⟨rfl, Below.refl _ _⟩
  have LL0 : Hid (ps.length ≤ 1048576) := by show _ ≤ _; omega
  have LB0 : Hid (ps.length ≤ 4194304) := by show _ ≤ _; omega
  have hN0' : ¬ ((1048576 : Int) < (ps.length : Int)) := by omega
  have CS : Hid (∀ (W : World) (B : Nat) (z0 : Value), Own W B z0 ps → Calls Try.prog 19 #[z0, .int .i64 af, .int .i64 bt] W fun e W' => e = .returned (.tuple #[.int .i64 cf, .bool ok]) ∧ Below W.heap.size W W') := fun W B z0 ho0 => by
    have := specComesFrom_any W B z0 ps af bt ho0 LL0.out
    rw [← hcf, ← hok] at this
    exact this
  have CI : Hid (∀ (W : World) (B : Nat) (z0 : Value), Own W B z0 ps → Calls Try.prog 20 #[z0, .int .i64 af, .int .i64 bt] W fun e W' => e = .returned (.tuple #[.int .i64 cf, .bool ok]) ∧ Below W.heap.size W W') := fun W B z0 ho0 => by
    have := implComesFrom_any W B z0 ps af bt ho0 LL0.out
    rw [← hcf, ← hok] at this
    exact this
  clear hcf hok
  go_wp2_with fail
  refine (toInts_any _ _ ps (HRD0.out _ S1.out) LB0.out).mono ?_
  rintro e w2 ⟨v2, rfl, ho2, hb2⟩
  obtain ⟨x2, y2, rfl⟩ := ho2.shape
  have S2 : Hid (Since w.heap.size w w2) := S1.out.step hb2
  have N2 : Hid (Own w2 w.heap.size (.slice x2 ps.length y2) ps) := ho2
  have B2 : Hid (Below w.heap.size w w2) := hb2
  have FC0_2 : Hid (Own w2 w.heap.size (.slice x2 ps.length y2) ps) := ho2.mono S1.out.2
  clear ho2 hb2
  go_wp2_with fail
  refine (CS.out _ _ _ FC0_2.out).mono ?_
  rintro e w3 ⟨rfl, hb3⟩
  have S3 : Hid (Since w.heap.size w w3) := S2.out.step hb3
  have FC0_3 : Hid (Own w3 w.heap.size (.slice x2 ps.length y2) ps) := rowBelow FC0_2.out hb3
  clear hb3 
  go_wp2_with fail
  refine (toInts_any _ _ ps (HRD0.out _ S3.out) LB0.out).mono ?_
  rintro e w4 ⟨v4, rfl, ho4, hb4⟩
  obtain ⟨x4, y4, rfl⟩ := ho4.shape
  have S4 : Hid (Since w.heap.size w w4) := S3.out.step hb4
  have N4 : Hid (Own w4 w3.heap.size (.slice x4 ps.length y4) ps) := ho4
  have B4 : Hid (Below w3.heap.size w3 w4) := hb4
  have FX0_4 : Hid (Own w4 w.heap.size (.slice x4 ps.length y4) ps) := ho4.mono S3.out.2
  clear ho4 hb4
  go_wp2_with fail
  refine (CI.out _ _ _ FX0_4.out).mono ?_
  rintro e w5 ⟨rfl, hb5⟩
  have S5 : Hid (Since w.heap.size w w5) := S4.out.step hb5
  have FX0_5 : Hid (Own w5 w.heap.size (.slice x4 ps.length y4) ps) := rowBelow FX0_4.out hb5
  clear hb5 
  go_wp2_with fail
  refine (toInts_any _ _ ps (HRD0.out _ S5.out) LB0.out).mono ?_
  rintro e w6 ⟨v6, rfl, ho6, hb6⟩
  obtain ⟨x6, y6, rfl⟩ := ho6.shape
  have S6 : Hid (Since w.heap.size w w6) := S5.out.step hb6
  have N6 : Hid (Own w6 w5.heap.size (.slice x6 ps.length y6) ps) := ho6
  have B6 : Hid (Below w5.heap.size w5 w6) := hb6
  have FX0_6 : Hid (Own w6 w.heap.size (.slice x4 ps.length y4) ps) := rowBelow FX0_5.out B6.out
  have FC_6 : Hid (Own w6 w.heap.size (.slice x6 ps.length y6) ps) := ho6.mono S5.out.2
  clear ho6 hb6
  go_wp2_with fail
  refine (eqIs_same _ _ _ ps FX0_6.out.reads FC_6.out.reads LB0.out).mono ?_
  rintro e w7 ⟨rfl, hb7⟩
  have S7 : Hid (Since w.heap.size w w7) := S6.out.step hb7
  have FX0_7 : Hid (Own w7 w.heap.size (.slice x4 ps.length y4) ps) := rowBelow FX0_6.out hb7
  have FC_7 : Hid (Own w7 w.heap.size (.slice x6 ps.length y6) ps) := rowBelow FC_6.out hb7
  clear hb7
  go_wp2
  go_ret
  exact ⟨rfl, S7.out.1⟩

set_option maxRecDepth 100000 in
theorem contract (H : Type) (enc : TypeId × Value → H) (W : World) (base : Nat) (args : Array Value) (ds gs : List (DataW H)) (before : List MemPlace)
    (hval : ∀ (j : Nat) t v, Try.f5.params[j]? = some t → args[j]? = some v → Value.okWide Try.prog W .any base t v)
    (hW : DataW.Whole enc Try.prog Try.f5.params.toList Rows.fnExactComesFromSpec.vars false W args.toList ds gs before) :
    Calls Try.prog 5 args W fun e W' => ∃ v, e = .returned v ∧ Rows.fnExactComesFromSpec.post enc Try.prog Try.f5 false true false false W args v W' := by
  have hW' := hW
  obtain ⟨p, q, hA0, hV0, rfl, hfz, hnd⟩ := hW
  have hA : DataW.TrodAll enc Try.prog W 0 (fun _ => true) true Try.f5.params.toList args.toList ds p := hA0
  rw [Try.params5] at hA hval
  obtain ⟨v0, vs0, d0, ds0, p0, q0, hargs, rfl, rfl, h0, r0⟩ := trodAll_cons hA
  obtain ⟨v1, vs1, d1, ds1, p1, q1, rfl, rfl, rfl, h1, r1⟩ := trodAll_cons r0
  obtain ⟨v2, vs2, d2, ds2, p2, q2, rfl, rfl, rfl, h2, r2⟩ := trodAll_cons r1
  obtain ⟨rfl, rfl, rfl⟩ := trodAll_nil r2
  obtain rfl : args = #[v0, v1, v2] := by cases args; simp_all
  obtain ⟨rfl, rfl⟩ := trodVars_none hV0
  obtain ⟨a0, len0, cap0, rfl⟩ := okWide_slice Try.underlying22 (hval 0 22 v0 rfl rfl)
  have k0 := h0
  have lt0 : ∀ x ∈ p0, x.block < W.heap.size := by obtain ⟨m, hm⟩ := k0; exact DataW.trod_lt m _ _ _ hm
  obtain ⟨zs0, hr0, hz0⟩ := ints_of k0
  obtain ⟨a1, rfl, rfl, rfl, w1⟩ := open_int Try.underlying3 (hval 1 3 v1 rfl rfl) h1
  obtain ⟨a2, rfl, rfl, rfl, w2⟩ := open_int Try.underlying3 (hval 2 3 v2 rfl rfl) h2
  clear hA0 hV0
  refine (walk _ zs0 a1 a2 W hr0 hz0 w1 w2).mono fun e W' ⟨he, bel⟩ => ?_
  subst he
  exact ⟨_, rfl, _, _, _, [], _, [], hW', trodAll_mk1 (shut_bool Try.underlying4 _), (trodAll_cons_mk (Below.trod laidOut (by kernel_rfl) (of_decide_eq_true (by kernel_rfl)) k0 bel lt0) (trodAll_cons_mk (shut_int Try.underlying3 w1) (trodAll_cons_mk (shut_int Try.underlying3 w2) trodAll_mk0))), rfl, bel.frame _, fun h => by cases h⟩

set_option maxRecDepth 100000 in
theorem lifted (os : Os) (started : os.Started) (H : Type) (enc : TypeId × Value → H) :
    ReturnsInHanded {} Try.checked os 5 .any (Rows.fnExactComesFromSpec.pre6 enc Try.prog Try.f5 Rows.fnExactComesFromRow.domain false) (Rows.fnExactComesFromSpec.post enc Try.prog Try.f5 false true false false) := by
  refine returnsInHanded_of_change (C := Try.checked) own started (by kernel_rfl) Try.func5
    (ChangeSpec.witness6 (enc := enc) (C := Try.checked) false ⟨#[], #[.slice none 0 0, .int .i64 0, .int .i64 0], []⟩ 8 (by kernel_rfl) (by kernel_rfl) (by kernel_rfl) (by kernel_rfl)) ?_
  intro W base args ds gs before hval hW _ _
  exact contract H enc W base args ds gs before hval hW

/-- The statement. -/
theorem said : Rows.FnExactComesFromSaid :=
  OpenClaim.holds_of_wide 5 Try.f5 rfl rfl rfl rfl rfl rfl rfl ⟨rfl, rfl, rfl, rfl, rfl⟩ rfl rfl rfl rfl rfl (by kernel_rfl) Try.func5 (by kernel_rfl)
    (of_decide_eq_true (by kernel_rfl)) (by unfold Func.isWrapper; first | (rw [if_pos (by decide +kernel)]; kernel_rfl) | (rw [if_neg (by decide +kernel)]; exact ⟨rfl, rfl⟩))
    (fun os started H enc _ => lifted os started H enc)
#print axioms said
end Go.Proofs.Ythlbmkefjjckaag.fnExactComesFrom
