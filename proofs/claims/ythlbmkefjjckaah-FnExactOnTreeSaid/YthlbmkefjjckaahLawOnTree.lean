/-
  Proved: for every list of numbers and every two numbers 'OnTree' of the program at commit 50a8e01d44cabb492beff5f4ebbc26caed7ec092 answers as the model's 'OnTree', the list, every number of it, and the bool; it writes into no argument (the list that it was handed reads as before), keeps nothing of it (marks that are written into it change no answer), and its answer is memory of its own (marks that are written into it stay there behind another call). No condition.
-/
import Derived.Test.YthlbmkefjjckaahPlain
import Derived.Test.YthlbmkefjjckaahTrCf
import Derived.Test.YthlbmkefjjckaahRowLaw0
import Derived.Test.YthlbmkefjjckaahIntsOf
namespace Go.Proofs.Ythlbmkefjjckaah.fnExactOnTree
open Go.ChangeShapes Go.WideShapes Go.ChangeAt Go.RowKit
open Go.ChangeMaps (open_string shut_string)
set_option linter.unusedVariables false

set_option maxRecDepth 100000 in
set_option maxHeartbeats 8000000 in
theorem walk (v0 : Value) (ps : List Int) (af : Int) (bt : Int) (w : World) (h0 : Reads w v0 ps) (hl0 : ps.length ≤ maxLen) (wf_af : (Lit.int .i64 af).wf = true) (wf_bt : (Lit.int .i64 bt).wf = true) :
    Calls Try.prog 3 #[v0, .int .i64 af, .int .i64 bt] w fun e w' => e = .returned (.bool true) ∧ Below w.heap.size w w' := by
  have HRD0 : Hid (∀ W1, Since w.heap.size w W1 → Reads W1 v0 ps) := fun W1 hb => h0.below hb.1
  have HL0 : Hid (ps.length ≤ maxLen) := hl0
  obtain ⟨a0, c0, rfl⟩ := h0.shape
  have S1 : Hid (Since w.heap.size w w) := Since.start w
  obtain ⟨way, hway⟩ : ∃ way, way = otOut ps af bt := ⟨_, rfl⟩
  obtain ⟨ok, hok⟩ : ∃ ok, ok = otOk ps af bt := ⟨_, rfl⟩
  have OL0 : Hid (way.length ≤ 4194304) := by show _ ≤ _; rw [hway]; exact otOut_len ps af bt
  clear h0 hl0 wf_af wf_bt
  go_enter Try.func3, Try.ntmps3
  rcases Int.lt_or_le (1048576 : Int) (ps.length : Int) with hN0 | hN0
  · go_wp2
    go_ret
    exact ⟨rfl, Below.refl _ _⟩
  have LL0 : Hid (ps.length ≤ 1048576) := by show _ ≤ _; omega
  have LB0 : Hid (ps.length ≤ 4194304) := by show _ ≤ _; omega
  have hN0' : ¬ ((1048576 : Int) < (ps.length : Int)) := by omega
  have CS : Hid (∀ (W : World) (B : Nat) (z0 : Value), Own W B z0 ps → Calls Try.prog 4 #[z0, .int .i64 af, .int .i64 bt] W fun e W' => ∃ u0, e = .returned (.tuple #[u0, .bool ok]) ∧ Own W' W.heap.size u0 way ∧ Below W.heap.size W W') := fun W B z0 ho0 => by
    have := specOnTree_any W B z0 ps af bt ho0 LL0.out
    rw [← hway, ← hok] at this
    exact this
  have CI : Hid (∀ (W : World) (B : Nat) (z0 : Value), Own W B z0 ps → Calls Try.prog 6 #[z0, .int .i64 af, .int .i64 bt] W fun e W' => ∃ u0, e = .returned (.tuple #[u0, .bool ok]) ∧ Own W' W.heap.size u0 way ∧ Below W.heap.size W W') := fun W B z0 ho0 => by
    have := implOnTree_any W B z0 ps af bt ho0 LL0.out
    rw [← hway, ← hok] at this
    exact this
  clear hway hok
  obtain ⟨k0, hk0⟩ : ∃ z : Nat, z = 1 + 1 * ps.length := ⟨_, rfl⟩
  have MX0 : Hid (∀ (W : World) (B : Nat) (z : Value), Own W B z ps → Calls Try.prog 8 #[z, .int .i64 ((1 : Nat) : Int)] W fun e W' => e = .returned (.int .i64 ((k0 : Nat) : Int)) ∧ W.grownBy W' z.ownBlock) := fun W B z ho => by
    rw [hk0]
    exact (markIs_any W B z 1 ps ho LB0.out (by have := LL0.out; omega)).mono fun e w' hh => ⟨hh.1, hh.2.2.2⟩
  have hkn : ¬ ((k0 : Nat) : Int) < 0 := by omega
  obtain ⟨m0, hm0⟩ : ∃ z : Nat, z = 1 + 1 * way.length := ⟨_, rfl⟩
  have MG0 : Hid (∀ (W : World) (B : Nat) (z : Value), Own W B z way → Calls Try.prog 8 #[z, .int .i64 ((1 : Nat) : Int)] W fun e W' => e = .returned (.int .i64 ((m0 : Nat) : Int)) ∧ Own W' B z (marks ((1 : Nat) : Int) way.length) ∧ W'.heap.size = W.heap.size ∧ W.grownBy W' z.ownBlock) := fun W B z ho => by
    rw [hm0]
    exact markIs_any W B z 1 way ho OL0.out (by have := OL0.out; omega)
  have HG0 : Hid (∀ (W : World) (B : Nat) (z : Value), Own W B z (marks ((1 : Nat) : Int) way.length) → Calls Try.prog 9 #[z, .int .i64 ((1 : Nat) : Int)] W fun e W' => e = .returned (.int .i64 ((m0 : Nat) : Int)) ∧ W' = W) := fun W B z ho => by
    rw [hm0]
    exact heldIs_yes W z 1 way.length ho.reads OL0.out (by have := OL0.out; omega)
  have LM0 : Hid ((marks ((1 : Nat) : Int) way.length).length = way.length) := by show _ = _; exact marks_len _ _
  have hmn0 : ¬ ((m0 : Nat) : Int) < 0 := by omega
  clear hk0 hm0
  go_wp2_with fail
  refine (toInts_any _ _ ps (HRD0.out _ S1.out) LB0.out).mono ?_
  rintro e w2 ⟨v2, rfl, ho2, hb2⟩
  obtain ⟨x2, y2, rfl⟩ := ho2.shape
  have S2 : Hid (Since w.heap.size w w2) := S1.out.step hb2
  have N2 : Hid (Own w2 w.heap.size (.slice x2 ps.length y2) ps) := ho2
  have B2 : Hid (Below w.heap.size w w2) := hb2
  have FC0_2 : Hid (Own w2 w.heap.size (.slice x2 ps.length y2) ps) := ho2.mono S1.out.2
  clear ho2 hb2
  go_wp2_with fail
  refine (CS.out _ _ _ FC0_2.out).mono ?_
  rintro e w3 ⟨u3_0, rfl, hu3_0, hb3⟩
  obtain ⟨x3_0, y3_0, rfl⟩ := rowShape hu3_0
  have S3 : Hid (Since w.heap.size w w3) := S2.out.step hb3
  have FC0_3 : Hid (Own w3 w.heap.size (.slice x2 ps.length y2) ps) := rowBelow FC0_2.out hb3
  have FR0_3 : Hid (Own w3 w.heap.size (.slice x3_0 way.length y3_0) way) := rowMono hu3_0 S2.out.2
  clear hb3 hu3_0
  go_wp2_with fail
  refine (toInts_any _ _ ps (HRD0.out _ S3.out) LB0.out).mono ?_
  rintro e w4 ⟨v4, rfl, ho4, hb4⟩
  obtain ⟨x4, y4, rfl⟩ := ho4.shape
  have S4 : Hid (Since w.heap.size w w4) := S3.out.step hb4
  have N4 : Hid (Own w4 w3.heap.size (.slice x4 ps.length y4) ps) := ho4
  have B4 : Hid (Below w3.heap.size w3 w4) := hb4
  have FR0_4 : Hid (Own w4 w.heap.size (.slice x3_0 way.length y3_0) way) := rowBelow FR0_3.out B4.out
  have AP_R0_X0 : Hid (∀ k, (Value.slice x3_0 way.length y3_0).ownBlock = some k → (Value.slice x4 ps.length y4).ownBlock ≠ some k) := rowsApartLt FR0_3.out N4.out (Nat.le_refl _)
  have FX0_4 : Hid (Own w4 w.heap.size (.slice x4 ps.length y4) ps) := ho4.mono S3.out.2
  clear ho4 hb4
  go_wp2_with fail
  refine (CI.out _ _ _ FX0_4.out).mono ?_
  rintro e w5 ⟨u5_0, rfl, hu5_0, hb5⟩
  obtain ⟨x5_0, y5_0, rfl⟩ := rowShape hu5_0
  have S5 : Hid (Since w.heap.size w w5) := S4.out.step hb5
  have FR0_5 : Hid (Own w5 w.heap.size (.slice x3_0 way.length y3_0) way) := rowBelow FR0_4.out hb5
  have AP_R0_G0 : Hid (∀ k, (Value.slice x3_0 way.length y3_0).ownBlock = some k → (Value.slice x5_0 way.length y5_0).ownBlock ≠ some k) := rowsApartLt FR0_4.out hu5_0 (Nat.le_refl _)
  have FX0_5 : Hid (Own w5 w.heap.size (.slice x4 ps.length y4) ps) := rowBelow FX0_4.out hb5
  have AP_X0_G0 : Hid (∀ k, (Value.slice x4 ps.length y4).ownBlock = some k → (Value.slice x5_0 way.length y5_0).ownBlock ≠ some k) := rowsApartLt FX0_4.out hu5_0 (Nat.le_refl _)
  have FG0_5 : Hid (Own w5 w.heap.size (.slice x5_0 way.length y5_0) way) := rowMono hu5_0 S4.out.2
  clear hb5 hu5_0
  go_wp2_with fail
  refine (eqIs_same _ _ _ way FG0_5.out.reads FR0_5.out.reads OL0.out).mono ?_
  rintro e w6 ⟨rfl, hb6⟩
  have S6 : Hid (Since w.heap.size w w6) := S5.out.step hb6
  have FR0_6 : Hid (Own w6 w.heap.size (.slice x3_0 way.length y3_0) way) := rowBelow FR0_5.out hb6
  have FX0_6 : Hid (Own w6 w.heap.size (.slice x4 ps.length y4) ps) := rowBelow FX0_5.out hb6
  have FG0_6 : Hid (Own w6 w.heap.size (.slice x5_0 way.length y5_0) way) := rowBelow FG0_5.out hb6
  clear hb6
  go_wp2_with fail
  refine (toInts_any _ _ ps (HRD0.out _ S6.out) LB0.out).mono ?_
  rintro e w7 ⟨v7, rfl, ho7, hb7⟩
  obtain ⟨x7, y7, rfl⟩ := ho7.shape
  have S7 : Hid (Since w.heap.size w w7) := S6.out.step hb7
  have N7 : Hid (Own w7 w6.heap.size (.slice x7 ps.length y7) ps) := ho7
  have B7 : Hid (Below w6.heap.size w6 w7) := hb7
  have FR0_7 : Hid (Own w7 w.heap.size (.slice x3_0 way.length y3_0) way) := rowBelow FR0_6.out B7.out
  have FX0_7 : Hid (Own w7 w.heap.size (.slice x4 ps.length y4) ps) := rowBelow FX0_6.out B7.out
  have FG0_7 : Hid (Own w7 w.heap.size (.slice x5_0 way.length y5_0) way) := rowBelow FG0_6.out B7.out
  have FC_7 : Hid (Own w7 w.heap.size (.slice x7 ps.length y7) ps) := ho7.mono S6.out.2
  clear ho7 hb7
  go_wp2_with fail
  refine (eqIs_same _ _ _ ps FX0_7.out.reads FC_7.out.reads LB0.out).mono ?_
  rintro e w8 ⟨rfl, hb8⟩
  have S8 : Hid (Since w.heap.size w w8) := S7.out.step hb8
  have FR0_8 : Hid (Own w8 w.heap.size (.slice x3_0 way.length y3_0) way) := rowBelow FR0_7.out hb8
  have FX0_8 : Hid (Own w8 w.heap.size (.slice x4 ps.length y4) ps) := rowBelow FX0_7.out hb8
  have FG0_8 : Hid (Own w8 w.heap.size (.slice x5_0 way.length y5_0) way) := rowBelow FG0_7.out hb8
  have FC_8 : Hid (Own w8 w.heap.size (.slice x7 ps.length y7) ps) := rowBelow FC_7.out hb8
  clear hb8
  go_wp2_with fail
  refine (MX0.out _ _ _ FX0_8.out).mono ?_
  rintro e w9 ⟨rfl, hg9⟩
  have S9 : Hid (Since w.heap.size w w9) := S8.out.grown hg9 (fun k hk => (World.ownsRow.lt FX0_8.out k hk).1)
  have FR0_9 : Hid (Own w9 w.heap.size (.slice x3_0 way.length y3_0) way) := rowGrow FR0_8.out hg9 (apartSym AP_R0_X0.out)
  have FG0_9 : Hid (Own w9 w.heap.size (.slice x5_0 way.length y5_0) way) := rowGrow FG0_8.out hg9 (AP_X0_G0.out)
  clear hg9
  go_wp2_with fail
  refine (eqIs_same _ _ _ way FG0_9.out.reads FR0_9.out.reads OL0.out).mono ?_
  rintro e w10 ⟨rfl, hb10⟩
  have S10 : Hid (Since w.heap.size w w10) := S9.out.step hb10
  have FR0_10 : Hid (Own w10 w.heap.size (.slice x3_0 way.length y3_0) way) := rowBelow FR0_9.out hb10
  have FG0_10 : Hid (Own w10 w.heap.size (.slice x5_0 way.length y5_0) way) := rowBelow FG0_9.out hb10
  clear hb10
  go_wp2_with fail
  refine (MG0.out _ _ _ FG0_10.out).mono ?_
  rintro e w11 ⟨rfl, hm11, -, hg11⟩
  have S11 : Hid (Since w.heap.size w w11) := S10.out.grown hg11 (fun k hk => (World.ownsRow.lt FG0_10.out k hk).1)
  have FR0_11 : Hid (Own w11 w.heap.size (.slice x3_0 way.length y3_0) way) := rowGrow FR0_10.out hg11 (apartSym AP_R0_G0.out)
  have FG0_11 : Hid (Own w11 w.heap.size (.slice x5_0 way.length y5_0) (marks ((1 : Nat) : Int) way.length)) := hm11
  clear hm11 hg11
  go_wp2_with fail
  refine (HG0.out _ _ _ FG0_11.out).mono ?_
  rintro e q1 ⟨rfl, hq1⟩
  obtain rfl : w11 = q1 := hq1.symm
  go_wp2_with fail
  refine (toInts_any _ _ ps (HRD0.out _ S11.out) LB0.out).mono ?_
  rintro e w12 ⟨v12, rfl, ho12, hb12⟩
  obtain ⟨x12, y12, rfl⟩ := ho12.shape
  have S12 : Hid (Since w.heap.size w w12) := S11.out.step hb12
  have N12 : Hid (Own w12 w11.heap.size (.slice x12 ps.length y12) ps) := ho12
  have B12 : Hid (Below w11.heap.size w11 w12) := hb12
  have FR0_12 : Hid (Own w12 w.heap.size (.slice x3_0 way.length y3_0) way) := rowBelow FR0_11.out B12.out
  have FG0_12 : Hid (Own w12 w.heap.size (.slice x5_0 way.length y5_0) (marks ((1 : Nat) : Int) way.length)) := rowBelow FG0_11.out B12.out
  have FD0_12 : Hid (Own w12 w.heap.size (.slice x12 ps.length y12) ps) := ho12.mono S11.out.2
  clear ho12 hb12
  go_wp2_with fail
  refine (CI.out _ _ _ FD0_12.out).mono ?_
  rintro e w13 ⟨u13_0, rfl, hu13_0, hb13⟩
  obtain ⟨x13_0, y13_0, rfl⟩ := rowShape hu13_0
  have S13 : Hid (Since w.heap.size w w13) := S12.out.step hb13
  have FR0_13 : Hid (Own w13 w.heap.size (.slice x3_0 way.length y3_0) way) := rowBelow FR0_12.out hb13
  have FG0_13 : Hid (Own w13 w.heap.size (.slice x5_0 way.length y5_0) (marks ((1 : Nat) : Int) way.length)) := rowBelow FG0_12.out hb13
  have FD0_13 : Hid (Own w13 w.heap.size (.slice x12 ps.length y12) ps) := rowBelow FD0_12.out hb13
  have FH0_13 : Hid (Own w13 w.heap.size (.slice x13_0 way.length y13_0) way) := rowMono hu13_0 S12.out.2
  clear hb13 hu13_0
  go_wp2_with fail
  refine (eqIs_same _ _ _ way FH0_13.out.reads FR0_13.out.reads OL0.out).mono ?_
  rintro e w14 ⟨rfl, hb14⟩
  have S14 : Hid (Since w.heap.size w w14) := S13.out.step hb14
  have FR0_14 : Hid (Own w14 w.heap.size (.slice x3_0 way.length y3_0) way) := rowBelow FR0_13.out hb14
  have FG0_14 : Hid (Own w14 w.heap.size (.slice x5_0 way.length y5_0) (marks ((1 : Nat) : Int) way.length)) := rowBelow FG0_13.out hb14
  have FH0_14 : Hid (Own w14 w.heap.size (.slice x13_0 way.length y13_0) way) := rowBelow FH0_13.out hb14
  clear hb14
  go_wp2_with fail
  refine (HG0.out _ _ _ FG0_14.out).mono ?_
  rintro e q2 ⟨rfl, hq2⟩
  obtain rfl : w14 = q2 := hq2.symm
  go_wp2
  go_ret
  exact ⟨rfl, S14.out.1⟩

set_option maxRecDepth 100000 in
theorem contract (H : Type) (enc : TypeId × Value → H) (W : World) (base : Nat) (args : Array Value) (ds gs : List (DataW H)) (before : List MemPlace)
    (hval : ∀ (j : Nat) t v, Try.f3.params[j]? = some t → args[j]? = some v → Value.okWide Try.prog W .any base t v)
    (hW : DataW.Whole enc Try.prog Try.f3.params.toList Rows.fnExactOnTreeSpec.vars false W args.toList ds gs before) :
    Calls Try.prog 3 args W fun e W' => ∃ v, e = .returned v ∧ Rows.fnExactOnTreeSpec.post enc Try.prog Try.f3 false true false false W args v W' := by
  have hW' := hW
  obtain ⟨p, q, hA0, hV0, rfl, hfz, hnd⟩ := hW
  have hA : DataW.TrodAll enc Try.prog W 0 (fun _ => true) true Try.f3.params.toList args.toList ds p := hA0
  rw [Try.params3] at hA hval
  obtain ⟨v0, vs0, d0, ds0, p0, q0, hargs, rfl, rfl, h0, r0⟩ := trodAll_cons hA
  obtain ⟨v1, vs1, d1, ds1, p1, q1, rfl, rfl, rfl, h1, r1⟩ := trodAll_cons r0
  obtain ⟨v2, vs2, d2, ds2, p2, q2, rfl, rfl, rfl, h2, r2⟩ := trodAll_cons r1
  obtain ⟨rfl, rfl, rfl⟩ := trodAll_nil r2
  obtain rfl : args = #[v0, v1, v2] := by cases args; simp_all
  obtain ⟨rfl, rfl⟩ := trodVars_none hV0
  obtain ⟨a0, len0, cap0, rfl⟩ := okWide_slice Try.underlying22 (hval 0 22 v0 rfl rfl)
  have k0 := h0
  have lt0 : ∀ x ∈ p0, x.block < W.heap.size := by obtain ⟨m, hm⟩ := k0; exact DataW.trod_lt m _ _ _ hm
  obtain ⟨zs0, hr0, hz0⟩ := ints_of k0
  obtain ⟨a1, rfl, rfl, rfl, w1⟩ := open_int Try.underlying3 (hval 1 3 v1 rfl rfl) h1
  obtain ⟨a2, rfl, rfl, rfl, w2⟩ := open_int Try.underlying3 (hval 2 3 v2 rfl rfl) h2
  clear hA0 hV0
  refine (walk _ zs0 a1 a2 W hr0 hz0 w1 w2).mono fun e W' ⟨he, bel⟩ => ?_
  subst he
  exact ⟨_, rfl, _, _, _, [], _, [], hW', trodAll_mk1 (shut_bool Try.underlying4 _), (trodAll_cons_mk (Below.trod laidOut (by kernel_rfl) (of_decide_eq_true (by kernel_rfl)) k0 bel lt0) (trodAll_cons_mk (shut_int Try.underlying3 w1) (trodAll_cons_mk (shut_int Try.underlying3 w2) trodAll_mk0))), rfl, bel.frame _, fun h => by cases h⟩

set_option maxRecDepth 100000 in
theorem lifted (os : Os) (started : os.Started) (H : Type) (enc : TypeId × Value → H) :
    ReturnsInHanded {} Try.checked os 3 .any (Rows.fnExactOnTreeSpec.pre6 enc Try.prog Try.f3 Rows.fnExactOnTreeRow.domain false) (Rows.fnExactOnTreeSpec.post enc Try.prog Try.f3 false true false false) := by
  refine returnsInHanded_of_change (C := Try.checked) own started (by kernel_rfl) Try.func3
    (ChangeSpec.witness6 (enc := enc) (C := Try.checked) false ⟨#[], #[.slice none 0 0, .int .i64 0, .int .i64 0], []⟩ 8 (by kernel_rfl) (by kernel_rfl) (by kernel_rfl) (by kernel_rfl)) ?_
  intro W base args ds gs before hval hW _ _
  exact contract H enc W base args ds gs before hval hW

/-- The statement. -/
theorem said : Rows.FnExactOnTreeSaid :=
  OpenClaim.holds_of_wide 3 Try.f3 rfl rfl rfl rfl rfl rfl rfl ⟨rfl, rfl, rfl, rfl, rfl⟩ rfl rfl rfl rfl rfl (by kernel_rfl) Try.func3 (by kernel_rfl)
    (of_decide_eq_true (by kernel_rfl)) (by unfold Func.isWrapper; first | (rw [if_pos (by decide +kernel)]; kernel_rfl) | (rw [if_neg (by decide +kernel)]; exact ⟨rfl, rfl⟩))
    (fun os started H enc _ => lifted os started H enc)
#print axioms said
end Go.Proofs.Ythlbmkefjjckaah.fnExactOnTree
