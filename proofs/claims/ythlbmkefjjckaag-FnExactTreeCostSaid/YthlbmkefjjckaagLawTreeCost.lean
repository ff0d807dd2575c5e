/-
  Proved: for every number of spots, every list of edges and every list of numbers, 'TreeCost' of the program at commit 50a8e01d44cabb492beff5f4ebbc26caed7ec092 answers as the model's 'TreeCost', the number and the bool; it writes into no argument (the lists that it was handed read as before). No condition.
-/
import Derived.Test.YthlbmkefjjckaagPlain
import Derived.Test.YthlbmkefjjckaagTrTc
import Derived.Test.YthlbmkefjjckaagRowOfEd
import Derived.Test.YthlbmkefjjckaagRowLawEd
import Derived.Test.YthlbmkefjjckaagRowLaw0
namespace Go.Proofs.Ythlbmkefjjckaag.fnExactTreeCost
open Go.ChangeShapes Go.WideShapes Go.ChangeAt Go.RowKit
open Go.ChangeMaps (open_string shut_string)
set_option linter.unusedVariables false

set_option maxRecDepth 100000 in
set_option maxHeartbeats 8000000 in
theorem walk (n : Int) (v1 : Value) (l : List EdD) (v2 : Value) (ps : List Int) (w : World) (wf_n : (Lit.int .i64 n).wf = true) (h1 : ReadsEd w v1 l) (hl1 : l.length ≤ maxLen) (h2 : Reads w v2 ps) (hl2 : ps.length ≤ maxLen) :
    Calls Try.prog 6 #[.int .i64 n, v1, v2] w fun e w' => e = .returned (.bool true) ∧ Below w.heap.size w w' := by
  have HRD1 : Hid (∀ W1, Since w.heap.size w W1 → ReadsEd W1 v1 l) := fun W1 hb => h1.below hb.1
  have HL1 : Hid (l.length ≤ maxLen) := hl1
  obtain ⟨a1, c1, rfl⟩ := h1.shape
  have HRD2 : Hid (∀ W1, Since w.heap.size w W1 → Reads W1 v2 ps) := fun W1 hb => h2.below hb.1
  have HL2 : Hid (ps.length ≤ maxLen) := hl2
  obtain ⟨a2, c2, rfl⟩ := h2.shape
  have S1 : Hid (Since w.heap.size w w) := Since.start w
  obtain ⟨cost, hcost⟩ : ∃ cost, cost = tcOut n l ps := ⟨_, rfl⟩
  obtain ⟨ok, hok⟩ : ∃ ok, ok = tcOk n l ps := ⟨_, rfl⟩
  clear h1 hl1 h2 hl2 wf_n
  go_enter Try.func6, Try.ntmps6
  rcases Int.lt_or_le (1048576 : Int) (ps.length : Int) with hN2 | hN2
  · go_wp2
    go_ret
    exact ⟨rfl, Below.refl _ _⟩
  have LL2 : Hid (ps.length ≤ 1048576) := by show _ ≤ _; omega
  have LB2 : Hid (ps.length ≤ 4194304) := by show _ ≤ _; omega
  have hN2' : ¬ ((1048576 : Int) < (ps.length : Int)) := by omega
  go_wp2_with fail
  refine (szEds_any _ _ l (1048576) (HRD1.out _ S1.out) HL1.out (by omega) (by omega)).mono ?_
  rintro e wz0 ⟨rfl, hwz0⟩
  obtain rfl : w = wz0 := hwz0.symm
  rcases Int.lt_or_le (1048576) (l.length : Int) with hle0 | hle0
  · rw [if_neg (by omega)]
    go_wp2
    go_ret
    exact ⟨rfl, S1.out.1⟩
  rw [if_pos hle0]
  obtain ⟨lf1, hlf1⟩ : ∃ z : Int, z = 1048576 - (l.length : Int) := ⟨_, rfl⟩
  rw [← hlf1]
  have hnn0 : ¬ (lf1 < 0) := by omega
  have hlo0 : 0 ≤ lf1 := by omega
  have hhi0 : lf1 ≤ 1048576 := by omega
  have LL1 : Hid (l.length ≤ 1048576) := by show _ ≤ _; omega
  have LB1 : Hid (l.length ≤ 4194304) := by show _ ≤ _; omega
  clear hlf1 hle0
  clear hlo0 hhi0
  have CS : Hid (∀ (W : World) (B : Nat) (z1 : Value) (z2 : Value), OwnEd W B z1 l → Own W B z2 ps → Calls Try.prog 22 #[.int .i64 n, z1, z2] W fun e W' => e = .returned (.tuple #[.int .i64 cost, .bool ok]) ∧ Below W.heap.size W W') := fun W B z1 z2 ho1 ho2 => by
    have := specTreeCost_any W B z1 z2 n l ps ho1.reads ho2 (Nat.le_trans LL1.out (by decide)) LL2.out
    rw [← hcost, ← hok] at this
    exact this
  have CI : Hid (∀ (W : World) (B : Nat) (z1 : Value) (z2 : Value), OwnEd W B z1 l → Own W B z2 ps → Calls Try.prog 24 #[.int .i64 n, z1, z2] W fun e W' => e = .returned (.tuple #[.int .i64 cost, .bool ok]) ∧ Below W.heap.size W W') := fun W B z1 z2 ho1 ho2 => by
    have := implTreeCost_any W B z1 z2 n l ps ho1.reads ho2 (Nat.le_trans LL1.out (by decide)) LL2.out
    rw [← hcost, ← hok] at this
    exact this
  clear hcost hok
  go_wp2_with fail
  refine (toEds_any _ _ l (HRD1.out _ S1.out) LB1.out).mono ?_
  rintro e w2 ⟨v2, rfl, ho2, hb2⟩
  obtain ⟨x2, y2, rfl⟩ := ho2.shape
  have S2 : Hid (Since w.heap.size w w2) := S1.out.step hb2
  have N2 : Hid (OwnEd w2 w.heap.size (.slice x2 l.length y2) l) := ho2
  have B2 : Hid (Below w.heap.size w w2) := hb2
  have FC1_2 : Hid (OwnEd w2 w.heap.size (.slice x2 l.length y2) l) := ho2.mono S1.out.2
  clear ho2 hb2
  go_wp2_with fail
  refine (toInts_any _ _ ps (HRD2.out _ S2.out) LB2.out).mono ?_
  rintro e w3 ⟨v3, rfl, ho3, hb3⟩
  obtain ⟨x3, y3, rfl⟩ := ho3.shape
  have S3 : Hid (Since w.heap.size w w3) := S2.out.step hb3
  have N3 : Hid (Own w3 w2.heap.size (.slice x3 ps.length y3) ps) := ho3
  have B3 : Hid (Below w2.heap.size w2 w3) := hb3
  have FC1_3 : Hid (OwnEd w3 w.heap.size (.slice x2 l.length y2) l) := rowBelow FC1_2.out B3.out
  have FC2_3 : Hid (Own w3 w.heap.size (.slice x3 ps.length y3) ps) := ho3.mono S2.out.2
  clear ho3 hb3
  go_wp2_with fail
  refine (CS.out _ _ _ _ FC1_3.out FC2_3.out).mono ?_
  rintro e w4 ⟨rfl, hb4⟩
  have S4 : Hid (Since w.heap.size w w4) := S3.out.step hb4
  have FC1_4 : Hid (OwnEd w4 w.heap.size (.slice x2 l.length y2) l) := rowBelow FC1_3.out hb4
  have FC2_4 : Hid (Own w4 w.heap.size (.slice x3 ps.length y3) ps) := rowBelow FC2_3.out hb4
  clear hb4 
  go_wp2_with fail
  refine (toEds_any _ _ l (HRD1.out _ S4.out) LB1.out).mono ?_
  rintro e w5 ⟨v5, rfl, ho5, hb5⟩
  obtain ⟨x5, y5, rfl⟩ := ho5.shape
  have S5 : Hid (Since w.heap.size w w5) := S4.out.step hb5
  have N5 : Hid (OwnEd w5 w4.heap.size (.slice x5 l.length y5) l) := ho5
  have B5 : Hid (Below w4.heap.size w4 w5) := hb5
  have FX1_5 : Hid (OwnEd w5 w.heap.size (.slice x5 l.length y5) l) := ho5.mono S4.out.2
  clear ho5 hb5
  go_wp2_with fail
  refine (toInts_any _ _ ps (HRD2.out _ S5.out) LB2.out).mono ?_
  rintro e w6 ⟨v6, rfl, ho6, hb6⟩
  obtain ⟨x6, y6, rfl⟩ := ho6.shape
  have S6 : Hid (Since w.heap.size w w6) := S5.out.step hb6
  have N6 : Hid (Own w6 w5.heap.size (.slice x6 ps.length y6) ps) := ho6
  have B6 : Hid (Below w5.heap.size w5 w6) := hb6
  have FX1_6 : Hid (OwnEd w6 w.heap.size (.slice x5 l.length y5) l) := rowBelow FX1_5.out B6.out
  have AP_X1_X2 : Hid (∀ k, (Value.slice x5 l.length y5).ownBlock = some k → (Value.slice x6 ps.length y6).ownBlock ≠ some k) := rowsApartLt FX1_5.out N6.out (Nat.le_refl _)
  have FX2_6 : Hid (Own w6 w.heap.size (.slice x6 ps.length y6) ps) := ho6.mono S5.out.2
  clear ho6 hb6
  go_wp2_with fail
  refine (CI.out _ _ _ _ FX1_6.out FX2_6.out).mono ?_
  rintro e w7 ⟨rfl, hb7⟩
  have S7 : Hid (Since w.heap.size w w7) := S6.out.step hb7
  have FX1_7 : Hid (OwnEd w7 w.heap.size (.slice x5 l.length y5) l) := rowBelow FX1_6.out hb7
  have FX2_7 : Hid (Own w7 w.heap.size (.slice x6 ps.length y6) ps) := rowBelow FX2_6.out hb7
  clear hb7 
  go_wp2_with fail
  refine (toEds_any _ _ l (HRD1.out _ S7.out) LB1.out).mono ?_
  rintro e w8 ⟨v8, rfl, ho8, hb8⟩
  obtain ⟨x8, y8, rfl⟩ := ho8.shape
  have S8 : Hid (Since w.heap.size w w8) := S7.out.step hb8
  have N8 : Hid (OwnEd w8 w7.heap.size (.slice x8 l.length y8) l) := ho8
  have B8 : Hid (Below w7.heap.size w7 w8) := hb8
  have FX1_8 : Hid (OwnEd w8 w.heap.size (.slice x5 l.length y5) l) := rowBelow FX1_7.out B8.out
  have FX2_8 : Hid (Own w8 w.heap.size (.slice x6 ps.length y6) ps) := rowBelow FX2_7.out B8.out
  have FC_8 : Hid (OwnEd w8 w.heap.size (.slice x8 l.length y8) l) := ho8.mono S7.out.2
  clear ho8 hb8
  go_wp2_with fail
  refine (eqEds_same _ _ _ l FX1_8.out.reads FC_8.out.reads LB1.out).mono ?_
  rintro e w9 ⟨rfl, hb9⟩
  have S9 : Hid (Since w.heap.size w w9) := S8.out.step hb9
  have FX1_9 : Hid (OwnEd w9 w.heap.size (.slice x5 l.length y5) l) := rowBelow FX1_8.out hb9
  have FX2_9 : Hid (Own w9 w.heap.size (.slice x6 ps.length y6) ps) := rowBelow FX2_8.out hb9
  have FC_9 : Hid (OwnEd w9 w.heap.size (.slice x8 l.length y8) l) := rowBelow FC_8.out hb9
  clear hb9
  go_wp2_with fail
  refine (toInts_any _ _ ps (HRD2.out _ S9.out) LB2.out).mono ?_
  rintro e w10 ⟨v10, rfl, ho10, hb10⟩
  obtain ⟨x10, y10, rfl⟩ := ho10.shape
  have S10 : Hid (Since w.heap.size w w10) := S9.out.step hb10
  have N10 : Hid (Own w10 w9.heap.size (.slice x10 ps.length y10) ps) := ho10
  have B10 : Hid (Below w9.heap.size w9 w10) := hb10
  have FX1_10 : Hid (OwnEd w10 w.heap.size (.slice x5 l.length y5) l) := rowBelow FX1_9.out B10.out
  have FX2_10 : Hid (Own w10 w.heap.size (.slice x6 ps.length y6) ps) := rowBelow FX2_9.out B10.out
  have FC_10 : Hid (Own w10 w.heap.size (.slice x10 ps.length y10) ps) := ho10.mono S9.out.2
  clear ho10 hb10
  go_wp2_with fail
  refine (eqIs_same _ _ _ ps FX2_10.out.reads FC_10.out.reads LB2.out).mono ?_
  rintro e w11 ⟨rfl, hb11⟩
  have S11 : Hid (Since w.heap.size w w11) := S10.out.step hb11
  have FX1_11 : Hid (OwnEd w11 w.heap.size (.slice x5 l.length y5) l) := rowBelow FX1_10.out hb11
  have FX2_11 : Hid (Own w11 w.heap.size (.slice x6 ps.length y6) ps) := rowBelow FX2_10.out hb11
  have FC_11 : Hid (Own w11 w.heap.size (.slice x10 ps.length y10) ps) := rowBelow FC_10.out hb11
  clear hb11
  go_wp2
  go_ret
  exact ⟨rfl, S11.out.1⟩

set_option maxRecDepth 100000 in
theorem contract (H : Type) (enc : TypeId × Value → H) (W : World) (base : Nat) (args : Array Value) (ds gs : List (DataW H)) (before : List MemPlace)
    (hval : ∀ (j : Nat) t v, Try.f6.params[j]? = some t → args[j]? = some v → Value.okWide Try.prog W .any base t v)
    (hW : DataW.Whole enc Try.prog Try.f6.params.toList Rows.fnExactTreeCostSpec.vars false W args.toList ds gs before) :
    Calls Try.prog 6 args W fun e W' => ∃ v, e = .returned v ∧ Rows.fnExactTreeCostSpec.post enc Try.prog Try.f6 false true false false W args v W' := by
  have hW' := hW
  obtain ⟨p, q, hA0, hV0, rfl, hfz, hnd⟩ := hW
  have hA : DataW.TrodAll enc Try.prog W 0 (fun _ => true) true Try.f6.params.toList args.toList ds p := hA0
  rw [Try.params6] at hA hval
  obtain ⟨v0, vs0, d0, ds0, p0, q0, hargs, rfl, rfl, h0, r0⟩ := trodAll_cons hA
  obtain ⟨v1, vs1, d1, ds1, p1, q1, rfl, rfl, rfl, h1, r1⟩ := trodAll_cons r0
  obtain ⟨v2, vs2, d2, ds2, p2, q2, rfl, rfl, rfl, h2, r2⟩ := trodAll_cons r1
  obtain ⟨rfl, rfl, rfl⟩ := trodAll_nil r2
  obtain rfl : args = #[v0, v1, v2] := by cases args; simp_all
  obtain ⟨rfl, rfl⟩ := trodVars_none hV0
  obtain ⟨a0, rfl, rfl, rfl, w0⟩ := open_int Try.underlying3 (hval 0 3 v0 rfl rfl) h0
  obtain ⟨a1, len1, cap1, rfl⟩ := okWide_slice Try.underlying36 (hval 1 36 v1 rfl rfl)
  have k1 := h1
  have lt1 : ∀ x ∈ p1, x.block < W.heap.size := by obtain ⟨m, hm⟩ := k1; exact DataW.trod_lt m _ _ _ hm
  obtain ⟨ps1, hr1, hz1⟩ := Eds_of k1
  obtain ⟨a2, len2, cap2, rfl⟩ := okWide_slice Try.underlying22 (hval 2 22 v2 rfl rfl)
  have k2 := h2
  have lt2 : ∀ x ∈ p2, x.block < W.heap.size := by obtain ⟨m, hm⟩ := k2; exact DataW.trod_lt m _ _ _ hm
  obtain ⟨zs2, hr2, hz2⟩ := ints_of k2
  clear hA0 hV0
  refine (walk a0 _ ps1 _ zs2 W w0 hr1 hz1 hr2 hz2).mono fun e W' ⟨he, bel⟩ => ?_
  subst he
  exact ⟨_, rfl, _, _, _, [], _, [], hW', trodAll_mk1 (shut_bool Try.underlying4 _), (trodAll_cons_mk (shut_int Try.underlying3 w0) (trodAll_cons_mk (Below.trod laidOut (by kernel_rfl) (of_decide_eq_true (by kernel_rfl)) k1 bel lt1) (trodAll_cons_mk (Below.trod laidOut (by kernel_rfl) (of_decide_eq_true (by kernel_rfl)) k2 bel lt2) trodAll_mk0))), rfl, bel.frame _, fun h => by cases h⟩

set_option maxRecDepth 100000 in
theorem lifted (os : Os) (started : os.Started) (H : Type) (enc : TypeId × Value → H) :
    ReturnsInHanded {} Try.checked os 6 .any (Rows.fnExactTreeCostSpec.pre6 enc Try.prog Try.f6 Rows.fnExactTreeCostRow.domain false) (Rows.fnExactTreeCostSpec.post enc Try.prog Try.f6 false true false false) := by
  refine returnsInHanded_of_change (C := Try.checked) own started (by kernel_rfl) Try.func6
    (ChangeSpec.witness6 (enc := enc) (C := Try.checked) false ⟨#[], #[.int .i64 0, .slice none 0 0, .slice none 0 0], []⟩ 8 (by kernel_rfl) (by kernel_rfl) (by kernel_rfl) (by kernel_rfl)) ?_
  intro W base args ds gs before hval hW _ _
  exact contract H enc W base args ds gs before hval hW

/-- The statement. -/
theorem said : Rows.FnExactTreeCostSaid :=
  OpenClaim.holds_of_wide 6 Try.f6 rfl rfl rfl rfl rfl rfl rfl ⟨rfl, rfl, rfl, rfl, rfl⟩ rfl rfl rfl rfl rfl (by kernel_rfl) Try.func6 (by kernel_rfl)
    (of_decide_eq_true (by kernel_rfl)) (by unfold Func.isWrapper; first | (rw [if_pos (by decide +kernel)]; kernel_rfl) | (rw [if_neg (by decide +kernel)]; exact ⟨rfl, rfl⟩))
    (fun os started H enc _ => lifted os started H enc)
#print axioms said
end Go.Proofs.Ythlbmkefjjckaag.fnExactTreeCost
