/-
  Proved: for every number of spots and every list of edges, 'CentreOf' of the program at commit 6e82bbc90d1d51edc88e27ec1ad7625cac2ac660 answers as the model's 'CentreOf', both numbers and the bool; it writes into no argument (the list that it was handed reads as before). No condition.
-/
import Derived.Test.YteohmclohomblbbPlain
import Derived.Test.YteohmclohomblbbGrCentre
import Derived.Test.YteohmclohomblbbRowOfEd
import Derived.Test.YteohmclohomblbbRowLawEd
import Derived.Test.YteohmclohomblbbRowLaw0
namespace Go.Proofs.Yteohmclohomblbb.fnExactCentreOf
open Go.ChangeShapes Go.WideShapes Go.ChangeAt Go.RowKit
open Go.ChangeMaps (open_string shut_string)
set_option linter.unusedVariables false

set_option maxRecDepth 100000 in
set_option maxHeartbeats 8000000 in
theorem walk (n : Int) (v1 : Value) (l : List EdD) (w : World) (wf_n : (Lit.int .i64 n).wf = true) (h1 : ReadsEd w v1 l) (hl1 : l.length ≤ maxLen) :
    Calls Try.prog 4 #[.int .i64 n, v1] w fun e w' => e = .returned (.bool true) ∧ Below w.heap.size w w' := by
  have HRD1 : Hid (∀ W1, Since w.heap.size w W1 → ReadsEd W1 v1 l) := fun W1 hb => h1.below hb.1
  have HL1 : Hid (l.length ≤ maxLen) := hl1
  obtain ⟨a1, c1, rfl⟩ := h1.shape
  have S1 : Hid (Since w.heap.size w w) := Since.start w
  obtain ⟨cen, hcen⟩ : ∃ cen, cen = cenI n l := ⟨_, rfl⟩
  obtain ⟨most, hmost⟩ : ∃ most, most = cenM n l := ⟨_, rfl⟩
  obtain ⟨ok, hok⟩ : ∃ ok, ok = goodEd n l := ⟨_, rfl⟩
  clear h1 hl1 wf_n
  go_enter Try.func4, Try.ntmps4
  go_wp2_with fail
  refine (szEds_any _ _ l (1048576) (HRD1.out _ S1.out) HL1.out (by omega) (by omega)).mono ?_
  rintro e wz0 ⟨rfl, hwz0⟩
  obtain rfl : w = wz0 := hwz0.symm
  rcases Int.lt_or_le (1048576) (l.length : Int) with hle0 | hle0
  · rw [if_neg (by omega)]
    go_wp2
    go_ret
    exact ⟨rfl, S1.out.1⟩
  rw [if_pos hle0]
  obtain ⟨lf1, hlf1⟩ : ∃ z : Int, z = 1048576 - (l.length : Int) := ⟨_, rfl⟩
  rw [← hlf1]
  have hnn0 : ¬ (lf1 < 0) := by omega
  have hlo0 : 0 ≤ lf1 := by omega
  have hhi0 : lf1 ≤ 1048576 := by omega
  have LL1 : Hid (l.length ≤ 1048576) := by show _ ≤ _; omega
  have LB1 : Hid (l.length ≤ 4194304) := by show _ ≤ _; omega
  clear hlf1 hle0
  clear hlo0 hhi0
  have CS : Hid (∀ (W : World) (B : Nat) (z1 : Value), OwnEd W B z1 l → Calls Try.prog 10 #[.int .i64 n, z1] W fun e W' => e = .returned (.tuple #[.int .i64 cen, .int .i64 most, .bool ok]) ∧ Below W.heap.size W W') := fun W B z1 ho1 => by
    have := specCentreOf_any W z1 n l ho1.reads (Nat.le_trans LL1.out (by decide))
    rw [← hcen, ← hmost, ← hok] at this
    exact this
  have CI : Hid (∀ (W : World) (B : Nat) (z1 : Value), OwnEd W B z1 l → Calls Try.prog 11 #[.int .i64 n, z1] W fun e W' => e = .returned (.tuple #[.int .i64 cen, .int .i64 most, .bool ok]) ∧ Below W.heap.size W W') := fun W B z1 ho1 => by
    have := implCentreOf_any W z1 n l ho1.reads (Nat.le_trans LL1.out (by decide))
    rw [← hcen, ← hmost, ← hok] at this
    exact this
  clear hcen hmost hok
  go_wp2_with fail
  refine (toEds_any _ _ l (HRD1.out _ S1.out) LB1.out).mono ?_
  rintro e w2 ⟨v2, rfl, ho2, hb2⟩
  obtain ⟨x2, y2, rfl⟩ := ho2.shape
  have S2 : Hid (Since w.heap.size w w2) := S1.out.step hb2
  have N2 : Hid (OwnEd w2 w.heap.size (.slice x2 l.length y2) l) := ho2
  have B2 : Hid (Below w.heap.size w w2) := hb2
  have FC1_2 : Hid (OwnEd w2 w.heap.size (.slice x2 l.length y2) l) := ho2.mono S1.out.2
  clear ho2 hb2
  go_wp2_with fail
  refine (CS.out _ _ _ FC1_2.out).mono ?_
  rintro e w3 ⟨rfl, hb3⟩
  have S3 : Hid (Since w.heap.size w w3) := S2.out.step hb3
  have FC1_3 : Hid (OwnEd w3 w.heap.size (.slice x2 l.length y2) l) := rowBelow FC1_2.out hb3
  clear hb3 
  go_wp2_with fail
  refine (toEds_any _ _ l (HRD1.out _ S3.out) LB1.out).mono ?_
  rintro e w4 ⟨v4, rfl, ho4, hb4⟩
  obtain ⟨x4, y4, rfl⟩ := ho4.shape
  have S4 : Hid (Since w.heap.size w w4) := S3.out.step hb4
  have N4 : Hid (OwnEd w4 w3.heap.size (.slice x4 l.length y4) l) := ho4
  have B4 : Hid (Below w3.heap.size w3 w4) := hb4
  have FX1_4 : Hid (OwnEd w4 w.heap.size (.slice x4 l.length y4) l) := ho4.mono S3.out.2
  clear ho4 hb4
  go_wp2_with fail
  refine (CI.out _ _ _ FX1_4.out).mono ?_
  rintro e w5 ⟨rfl, hb5⟩
  have S5 : Hid (Since w.heap.size w w5) := S4.out.step hb5
  have FX1_5 : Hid (OwnEd w5 w.heap.size (.slice x4 l.length y4) l) := rowBelow FX1_4.out hb5
  clear hb5 
  go_wp2_with fail
  refine (toEds_any _ _ l (HRD1.out _ S5.out) LB1.out).mono ?_
  rintro e w6 ⟨v6, rfl, ho6, hb6⟩
  obtain ⟨x6, y6, rfl⟩ := ho6.shape
  have S6 : Hid (Since w.heap.size w w6) := S5.out.step hb6
  have N6 : Hid (OwnEd w6 w5.heap.size (.slice x6 l.length y6) l) := ho6
  have B6 : Hid (Below w5.heap.size w5 w6) := hb6
  have FX1_6 : Hid (OwnEd w6 w.heap.size (.slice x4 l.length y4) l) := rowBelow FX1_5.out B6.out
  have FC_6 : Hid (OwnEd w6 w.heap.size (.slice x6 l.length y6) l) := ho6.mono S5.out.2
  clear ho6 hb6
  go_wp2_with fail
  refine (eqEds_same _ _ _ l FX1_6.out.reads FC_6.out.reads LB1.out).mono ?_
  rintro e w7 ⟨rfl, hb7⟩
  have S7 : Hid (Since w.heap.size w w7) := S6.out.step hb7
  have FX1_7 : Hid (OwnEd w7 w.heap.size (.slice x4 l.length y4) l) := rowBelow FX1_6.out hb7
  have FC_7 : Hid (OwnEd w7 w.heap.size (.slice x6 l.length y6) l) := rowBelow FC_6.out hb7
  clear hb7
  go_wp2
  go_ret
  exact ⟨rfl, S7.out.1⟩

set_option maxRecDepth 100000 in
theorem contract (H : Type) (enc : TypeId × Value → H) (W : World) (base : Nat) (args : Array Value) (ds gs : List (DataW H)) (before : List MemPlace)
    (hval : ∀ (j : Nat) t v, Try.f4.params[j]? = some t → args[j]? = some v → Value.okWide Try.prog W .any base t v)
    (hW : DataW.Whole enc Try.prog Try.f4.params.toList Rows.fnExactCentreOfSpec.vars false W args.toList ds gs before) :
    Calls Try.prog 4 args W fun e W' => ∃ v, e = .returned v ∧ Rows.fnExactCentreOfSpec.post enc Try.prog Try.f4 false true false false W args v W' := by
  have hW' := hW
  obtain ⟨p, q, hA0, hV0, rfl, hfz, hnd⟩ := hW
  have hA : DataW.TrodAll enc Try.prog W 0 (fun _ => true) true Try.f4.params.toList args.toList ds p := hA0
  rw [Try.params4] at hA hval
  obtain ⟨v0, vs0, d0, ds0, p0, q0, hargs, rfl, rfl, h0, r0⟩ := trodAll_cons hA
  obtain ⟨v1, vs1, d1, ds1, p1, q1, rfl, rfl, rfl, h1, r1⟩ := trodAll_cons r0
  obtain ⟨rfl, rfl, rfl⟩ := trodAll_nil r1
  obtain rfl : args = #[v0, v1] := by cases args; simp_all
  obtain ⟨rfl, rfl⟩ := trodVars_none hV0
  obtain ⟨a0, rfl, rfl, rfl, w0⟩ := open_int Try.underlying3 (hval 0 3 v0 rfl rfl) h0
  obtain ⟨a1, len1, cap1, rfl⟩ := okWide_slice Try.underlying22 (hval 1 22 v1 rfl rfl)
  have k1 := h1
  have lt1 : ∀ x ∈ p1, x.block < W.heap.size := by obtain ⟨m, hm⟩ := k1; exact DataW.trod_lt m _ _ _ hm
  obtain ⟨ps1, hr1, hz1⟩ := Eds_of k1
  clear hA0 hV0
  refine (walk a0 _ ps1 W w0 hr1 hz1).mono fun e W' ⟨he, bel⟩ => ?_
  subst he
  exact ⟨_, rfl, _, _, _, [], _, [], hW', trodAll_mk1 (shut_bool Try.underlying4 _), (trodAll_cons_mk (shut_int Try.underlying3 w0) (trodAll_cons_mk (Below.trod laidOut (by kernel_rfl) (of_decide_eq_true (by kernel_rfl)) k1 bel lt1) trodAll_mk0)), rfl, bel.frame _, fun h => by cases h⟩

set_option maxRecDepth 100000 in
theorem lifted (os : Os) (started : os.Started) (H : Type) (enc : TypeId × Value → H) :
    ReturnsInHanded {} Try.checked os 4 .any (Rows.fnExactCentreOfSpec.pre6 enc Try.prog Try.f4 Rows.fnExactCentreOfRow.domain false) (Rows.fnExactCentreOfSpec.post enc Try.prog Try.f4 false true false false) := by
  refine returnsInHanded_of_change (C := Try.checked) own started (by kernel_rfl) Try.func4
    (ChangeSpec.witness6 (enc := enc) (C := Try.checked) false ⟨#[], #[.int .i64 0, .slice none 0 0], []⟩ 8 (by kernel_rfl) (by kernel_rfl) (by kernel_rfl) (by kernel_rfl)) ?_
  intro W base args ds gs before hval hW _ _
  exact contract H enc W base args ds gs before hval hW

/-- The statement. -/
theorem said : Rows.FnExactCentreOfSaid :=
  OpenClaim.holds_of_wide 4 Try.f4 rfl rfl rfl rfl rfl rfl rfl ⟨rfl, rfl, rfl, rfl, rfl⟩ rfl rfl rfl rfl rfl (by kernel_rfl) Try.func4 (by kernel_rfl)
    (of_decide_eq_true (by kernel_rfl)) (by unfold Func.isWrapper; first | (rw [if_pos (by decide +kernel)]; kernel_rfl) | (rw [if_neg (by decide +kernel)]; exact ⟨rfl, rfl⟩))
    (fun os started H enc _ => lifted os started H enc)
#print axioms said
end Go.Proofs.Yteohmclohomblbb.fnExactCentreOf
