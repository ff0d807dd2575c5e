/-
  Proved: for every list of numbers and every number 'SpreadOn' of the program at commit 50a8e01d44cabb492beff5f4ebbc26caed7ec092 answers as the model's 'SpreadOn', the list, every hop of it, and the bool; it writes into no argument (the list that it was handed reads as before), keeps nothing of it (marks that are written into it change no answer), and its answer is memory of its own (marks that are written into it stay there behind another call). No condition.
-/
import Derived.Test.YthlbmkefjjckaagPlain
import Derived.Test.YthlbmkefjjckaagTrSprS
import Derived.Test.YthlbmkefjjckaagRowLawHop
import Derived.Test.YthlbmkefjjckaagRowLaw0
import Derived.Test.YthlbmkefjjckaagIntsOf
namespace Go.Proofs.Ythlbmkefjjckaag.fnExactSpreadOn
open Go.ChangeShapes Go.WideShapes Go.ChangeAt Go.RowKit
open Go.ChangeMaps (open_string shut_string)
set_option linter.unusedVariables false

set_option maxRecDepth 100000 in
set_option maxHeartbeats 8000000 in
theorem walk (v0 : Value) (ps : List Int) (fm : Int) (w : World) (h0 : Reads w v0 ps) (hl0 : ps.length ≤ maxLen) (wf_fm : (Lit.int .i64 fm).wf = true) :
    Calls Try.prog 4 #[v0, .int .i64 fm] w fun e w' => e = .returned (.bool true) ∧ Below w.heap.size w w' := by
  have HRD0 : Hid (∀ W1, Since w.heap.size w W1 → Reads W1 v0 ps) := fun W1 hb => h0.below hb.1
  have HL0 : Hid (ps.length ≤ maxLen) := hl0
  obtain ⟨a0, c0, rfl⟩ := h0.shape
  have S1 : Hid (Since w.heap.size w w) := Since.start w
  obtain ⟨hops, hhops⟩ : ∃ hops, hops = spOut ps fm := ⟨_, rfl⟩
  obtain ⟨ok, hok⟩ : ∃ ok, ok = spOk ps fm := ⟨_, rfl⟩
  have OL0 : Hid (hops.length ≤ 4194304) := by show _ ≤ _; rw [hhops]; exact spOut_len ps fm
  clear h0 hl0 wf_fm
  go_enter Try.func4, Try.ntmps4
  rcases Int.lt_or_le (1048576 : Int) (ps.length : Int) with hN0 | hN0
  · go_wp2
    go_ret
    exact ⟨rfl, Below.refl _ _⟩
  have LL0 : Hid (ps.length ≤ 1048576) := by show _ ≤ _; omega
  have LB0 : Hid (ps.length ≤ 4194304) := by show _ ≤ _; omega
  have hN0' : ¬ ((1048576 : Int) < (ps.length : Int)) := by omega
  have CS : Hid (∀ (W : World) (B : Nat) (z0 : Value), Own W B z0 ps → Calls Try.prog 13 #[z0, .int .i64 fm] W fun e W' => ∃ u0, e = .returned (.tuple #[u0, .bool ok]) ∧ OwnHop W' W.heap.size u0 hops ∧ Below W.heap.size W W') := fun W B z0 ho0 => by
    have := specSpreadOn_any W B z0 ps fm ho0 LL0.out
    rw [← hhops, ← hok] at this
    exact this
  have CI : Hid (∀ (W : World) (B : Nat) (z0 : Value), Own W B z0 ps → Calls Try.prog 14 #[z0, .int .i64 fm] W fun e W' => ∃ u0, e = .returned (.tuple #[u0, .bool ok]) ∧ OwnHop W' W.heap.size u0 hops ∧ Below W.heap.size W W') := fun W B z0 ho0 => by
    have := implSpreadOn_any W B z0 ps fm ho0 LL0.out
    rw [← hhops, ← hok] at this
    exact this
  clear hhops hok
  obtain ⟨k0, hk0⟩ : ∃ z : Nat, z = 1 + 1 * ps.length := ⟨_, rfl⟩
  have MX0 : Hid (∀ (W : World) (B : Nat) (z : Value), Own W B z ps → Calls Try.prog 16 #[z, .int .i64 ((1 : Nat) : Int)] W fun e W' => e = .returned (.int .i64 ((k0 : Nat) : Int)) ∧ W.grownBy W' z.ownBlock) := fun W B z ho => by
    rw [hk0]
    exact (markIs_any W B z 1 ps ho LB0.out (by have := LL0.out; omega)).mono fun e w' hh => ⟨hh.1, hh.2.2.2⟩
  have hkn : ¬ ((k0 : Nat) : Int) < 0 := by omega
  obtain ⟨m0, hm0⟩ : ∃ z : Nat, z = 1 + 2 * hops.length := ⟨_, rfl⟩
  have MG0 : Hid (∀ (W : World) (B : Nat) (z : Value), OwnHop W B z hops → Calls Try.prog 17 #[z, .int .i64 ((1 : Nat) : Int)] W fun e W' => e = .returned (.int .i64 ((m0 : Nat) : Int)) ∧ OwnHop W' B z (marksHop 1 hops.length) ∧ W'.heap.size = W.heap.size ∧ W.grownBy W' z.ownBlock) := fun W B z ho => by
    rw [hm0]
    exact markHops_any W B z 1 hops ho OL0.out (by have := OL0.out; omega)
  have HG0 : Hid (∀ (W : World) (B : Nat) (z : Value), OwnHop W B z (marksHop 1 hops.length) → Calls Try.prog 18 #[z, .int .i64 ((1 : Nat) : Int)] W fun e W' => e = .returned (.int .i64 ((m0 : Nat) : Int)) ∧ W' = W) := fun W B z ho => by
    rw [hm0]
    exact heldHops_yes W z 1 hops.length ho.reads OL0.out (by have := OL0.out; omega)
  have LM0 : Hid ((marksHop 1 hops.length).length = hops.length) := by show _ = _; exact marksHop_len _ _
  have hmn0 : ¬ ((m0 : Nat) : Int) < 0 := by omega
  clear hk0 hm0
  go_wp2_with fail
  refine (toInts_any _ _ ps (HRD0.out _ S1.out) LB0.out).mono ?_
  rintro e w2 ⟨v2, rfl, ho2, hb2⟩
  obtain ⟨x2, y2, rfl⟩ := ho2.shape
  have S2 : Hid (Since w.heap.size w w2) := S1.out.step hb2
  have N2 : Hid (Own w2 w.heap.size (.slice x2 ps.length y2) ps) := ho2
  have B2 : Hid (Below w.heap.size w w2) := hb2
  have FC0_2 : Hid (Own w2 w.heap.size (.slice x2 ps.length y2) ps) := ho2.mono S1.out.2
  clear ho2 hb2
  go_wp2_with fail
  refine (CS.out _ _ _ FC0_2.out).mono ?_
  rintro e w3 ⟨u3_0, rfl, hu3_0, hb3⟩
  obtain ⟨x3_0, y3_0, rfl⟩ := rowShape hu3_0
  have S3 : Hid (Since w.heap.size w w3) := S2.out.step hb3
  have FC0_3 : Hid (Own w3 w.heap.size (.slice x2 ps.length y2) ps) := rowBelow FC0_2.out hb3
  have FR0_3 : Hid (OwnHop w3 w.heap.size (.slice x3_0 hops.length y3_0) hops) := rowMono hu3_0 S2.out.2
  clear hb3 hu3_0
  go_wp2_with fail
  refine (toInts_any _ _ ps (HRD0.out _ S3.out) LB0.out).mono ?_
  rintro e w4 ⟨v4, rfl, ho4, hb4⟩
  obtain ⟨x4, y4, rfl⟩ := ho4.shape
  have S4 : Hid (Since w.heap.size w w4) := S3.out.step hb4
  have N4 : Hid (Own w4 w3.heap.size (.slice x4 ps.length y4) ps) := ho4
  have B4 : Hid (Below w3.heap.size w3 w4) := hb4
  have FR0_4 : Hid (OwnHop w4 w.heap.size (.slice x3_0 hops.length y3_0) hops) := rowBelow FR0_3.out B4.out
  have AP_R0_X0 : Hid (∀ k, (Value.slice x3_0 hops.length y3_0).ownBlock = some k → (Value.slice x4 ps.length y4).ownBlock ≠ some k) := rowsApartLt FR0_3.out N4.out (Nat.le_refl _)
  have FX0_4 : Hid (Own w4 w.heap.size (.slice x4 ps.length y4) ps) := ho4.mono S3.out.2
  clear ho4 hb4
  go_wp2_with fail
  refine (CI.out _ _ _ FX0_4.out).mono ?_
  rintro e w5 ⟨u5_0, rfl, hu5_0, hb5⟩
  obtain ⟨x5_0, y5_0, rfl⟩ := rowShape hu5_0
  have S5 : Hid (Since w.heap.size w w5) := S4.out.step hb5
  have FR0_5 : Hid (OwnHop w5 w.heap.size (.slice x3_0 hops.length y3_0) hops) := rowBelow FR0_4.out hb5
  have AP_R0_G0 : Hid (∀ k, (Value.slice x3_0 hops.length y3_0).ownBlock = some k → (Value.slice x5_0 hops.length y5_0).ownBlock ≠ some k) := rowsApartLt FR0_4.out hu5_0 (Nat.le_refl _)
  have FX0_5 : Hid (Own w5 w.heap.size (.slice x4 ps.length y4) ps) := rowBelow FX0_4.out hb5
  have AP_X0_G0 : Hid (∀ k, (Value.slice x4 ps.length y4).ownBlock = some k → (Value.slice x5_0 hops.length y5_0).ownBlock ≠ some k) := rowsApartLt FX0_4.out hu5_0 (Nat.le_refl _)
  have FG0_5 : Hid (OwnHop w5 w.heap.size (.slice x5_0 hops.length y5_0) hops) := rowMono hu5_0 S4.out.2
  clear hb5 hu5_0
  go_wp2_with fail
  refine (eqHops_same _ _ _ hops FG0_5.out.reads FR0_5.out.reads OL0.out).mono ?_
  rintro e w6 ⟨rfl, hb6⟩
  have S6 : Hid (Since w.heap.size w w6) := S5.out.step hb6
  have FR0_6 : Hid (OwnHop w6 w.heap.size (.slice x3_0 hops.length y3_0) hops) := rowBelow FR0_5.out hb6
  have FX0_6 : Hid (Own w6 w.heap.size (.slice x4 ps.length y4) ps) := rowBelow FX0_5.out hb6
  have FG0_6 : Hid (OwnHop w6 w.heap.size (.slice x5_0 hops.length y5_0) hops) := rowBelow FG0_5.out hb6
  clear hb6
  go_wp2_with fail
  refine (toInts_any _ _ ps (HRD0.out _ S6.out) LB0.out).mono ?_
  rintro e w7 ⟨v7, rfl, ho7, hb7⟩
  obtain ⟨x7, y7, rfl⟩ := ho7.shape
  have S7 : Hid (Since w.heap.size w w7) := S6.out.step hb7
  have N7 : Hid (Own w7 w6.heap.size (.slice x7 ps.length y7) ps) := ho7
  have B7 : Hid (Below w6.heap.size w6 w7) := hb7
  have FR0_7 : Hid (OwnHop w7 w.heap.size (.slice x3_0 hops.length y3_0) hops) := rowBelow FR0_6.out B7.out
  have FX0_7 : Hid (Own w7 w.heap.size (.slice x4 ps.length y4) ps) := rowBelow FX0_6.out B7.out
  have FG0_7 : Hid (OwnHop w7 w.heap.size (.slice x5_0 hops.length y5_0) hops) := rowBelow FG0_6.out B7.out
  have FC_7 : Hid (Own w7 w.heap.size (.slice x7 ps.length y7) ps) := ho7.mono S6.out.2
  clear ho7 hb7
  go_wp2_with fail
  refine (eqIs_same _ _ _ ps FX0_7.out.reads FC_7.out.reads LB0.out).mono ?_
  rintro e w8 ⟨rfl, hb8⟩
  have S8 : Hid (Since w.heap.size w w8) := S7.out.step hb8
  have FR0_8 : Hid (OwnHop w8 w.heap.size (.slice x3_0 hops.length y3_0) hops) := rowBelow FR0_7.out hb8
  have FX0_8 : Hid (Own w8 w.heap.size (.slice x4 ps.length y4) ps) := rowBelow FX0_7.out hb8
  have FG0_8 : Hid (OwnHop w8 w.heap.size (.slice x5_0 hops.length y5_0) hops) := rowBelow FG0_7.out hb8
  have FC_8 : Hid (Own w8 w.heap.size (.slice x7 ps.length y7) ps) := rowBelow FC_7.out hb8
  clear hb8
  go_wp2_with fail
  refine (MX0.out _ _ _ FX0_8.out).mono ?_
  rintro e w9 ⟨rfl, hg9⟩
  have S9 : Hid (Since w.heap.size w w9) := S8.out.grown hg9 (fun k hk => (World.ownsRow.lt FX0_8.out k hk).1)
  have FR0_9 : Hid (OwnHop w9 w.heap.size (.slice x3_0 hops.length y3_0) hops) := rowGrow FR0_8.out hg9 (apartSym AP_R0_X0.out)
  have FG0_9 : Hid (OwnHop w9 w.heap.size (.slice x5_0 hops.length y5_0) hops) := rowGrow FG0_8.out hg9 (AP_X0_G0.out)
  clear hg9
  go_wp2_with fail
  refine (eqHops_same _ _ _ hops FG0_9.out.reads FR0_9.out.reads OL0.out).mono ?_
  rintro e w10 ⟨rfl, hb10⟩
  have S10 : Hid (Since w.heap.size w w10) := S9.out.step hb10
  have FR0_10 : Hid (OwnHop w10 w.heap.size (.slice x3_0 hops.length y3_0) hops) := rowBelow FR0_9.out hb10
  have FG0_10 : Hid (OwnHop w10 w.heap.size (.slice x5_0 hops.length y5_0) hops) := rowBelow FG0_9.out hb10
  clear hb10
  go_wp2_with fail
  refine (MG0.out _ _ _ FG0_10.out).mono ?_
  rintro e w11 ⟨rfl, hm11, -, hg11⟩
  have S11 : Hid (Since w.heap.size w w11) := S10.out.grown hg11 (fun k hk => (World.ownsRow.lt FG0_10.out k hk).1)
  have FR0_11 : Hid (OwnHop w11 w.heap.size (.slice x3_0 hops.length y3_0) hops) := rowGrow FR0_10.out hg11 (apartSym AP_R0_G0.out)
  have FG0_11 : Hid (OwnHop w11 w.heap.size (.slice x5_0 hops.length y5_0) (marksHop 1 hops.length)) := hm11
  clear hm11 hg11
  go_wp2_with fail
  refine (HG0.out _ _ _ FG0_11.out).mono ?_
  rintro e q1 ⟨rfl, hq1⟩
  obtain rfl : w11 = q1 := hq1.symm
  go_wp2_with fail
  refine (toInts_any _ _ ps (HRD0.out _ S11.out) LB0.out).mono ?_
  rintro e w12 ⟨v12, rfl, ho12, hb12⟩
  obtain ⟨x12, y12, rfl⟩ := ho12.shape
  have S12 : Hid (Since w.heap.size w w12) := S11.out.step hb12
  have N12 : Hid (Own w12 w11.heap.size (.slice x12 ps.length y12) ps) := ho12
  have B12 : Hid (Below w11.heap.size w11 w12) := hb12
  have FR0_12 : Hid (OwnHop w12 w.heap.size (.slice x3_0 hops.length y3_0) hops) := rowBelow FR0_11.out B12.out
  have FG0_12 : Hid (OwnHop w12 w.heap.size (.slice x5_0 hops.length y5_0) (marksHop 1 hops.length)) := rowBelow FG0_11.out B12.out
  have FD0_12 : Hid (Own w12 w.heap.size (.slice x12 ps.length y12) ps) := ho12.mono S11.out.2
  clear ho12 hb12
  go_wp2_with fail
  refine (CI.out _ _ _ FD0_12.out).mono ?_
  rintro e w13 ⟨u13_0, rfl, hu13_0, hb13⟩
  obtain ⟨x13_0, y13_0, rfl⟩ := rowShape hu13_0
  have S13 : Hid (Since w.heap.size w w13) := S12.out.step hb13
  have FR0_13 : Hid (OwnHop w13 w.heap.size (.slice x3_0 hops.length y3_0) hops) := rowBelow FR0_12.out hb13
  have FG0_13 : Hid (OwnHop w13 w.heap.size (.slice x5_0 hops.length y5_0) (marksHop 1 hops.length)) := rowBelow FG0_12.out hb13
  have FD0_13 : Hid (Own w13 w.heap.size (.slice x12 ps.length y12) ps) := rowBelow FD0_12.out hb13
  have FH0_13 : Hid (OwnHop w13 w.heap.size (.slice x13_0 hops.length y13_0) hops) := rowMono hu13_0 S12.out.2
  clear hb13 hu13_0
  go_wp2_with fail
  refine (eqHops_same _ _ _ hops FH0_13.out.reads FR0_13.out.reads OL0.out).mono ?_
  rintro e w14 ⟨rfl, hb14⟩
  have S14 : Hid (Since w.heap.size w w14) := S13.out.step hb14
  have FR0_14 : Hid (OwnHop w14 w.heap.size (.slice x3_0 hops.length y3_0) hops) := rowBelow FR0_13.out hb14
  have FG0_14 : Hid (OwnHop w14 w.heap.size (.slice x5_0 hops.length y5_0) (marksHop 1 hops.length)) := rowBelow FG0_13.out hb14
  have FH0_14 : Hid (OwnHop w14 w.heap.size (.slice x13_0 hops.length y13_0) hops) := rowBelow FH0_13.out hb14
  clear hb14
  go_wp2_with fail
  refine (HG0.out _ _ _ FG0_14.out).mono ?_
  rintro e q2 ⟨rfl, hq2⟩
  obtain rfl : w14 = q2 := hq2.symm
  go_wp2
  go_ret
  exact ⟨rfl, S14.out.1⟩

set_option maxRecDepth 100000 in
theorem contract (H : Type) (enc : TypeId × Value → H) (W : World) (base : Nat) (args : Array Value) (ds gs : List (DataW H)) (before : List MemPlace)
    (hval : ∀ (j : Nat) t v, Try.f4.params[j]? = some t → args[j]? = some v → Value.okWide Try.prog W .any base t v)
    (hW : DataW.Whole enc Try.prog Try.f4.params.toList Rows.fnExactSpreadOnSpec.vars false W args.toList ds gs before) :
    Calls Try.prog 4 args W fun e W' => ∃ v, e = .returned v ∧ Rows.fnExactSpreadOnSpec.post enc Try.prog Try.f4 false true false false W args v W' := by
  have hW' := hW
  obtain ⟨p, q, hA0, hV0, rfl, hfz, hnd⟩ := hW
  have hA : DataW.TrodAll enc Try.prog W 0 (fun _ => true) true Try.f4.params.toList args.toList ds p := hA0
  rw [Try.params4] at hA hval
  obtain ⟨v0, vs0, d0, ds0, p0, q0, hargs, rfl, rfl, h0, r0⟩ := trodAll_cons hA
  obtain ⟨v1, vs1, d1, ds1, p1, q1, rfl, rfl, rfl, h1, r1⟩ := trodAll_cons r0
  obtain ⟨rfl, rfl, rfl⟩ := trodAll_nil r1
  obtain rfl : args = #[v0, v1] := by cases args; simp_all
  obtain ⟨rfl, rfl⟩ := trodVars_none hV0
  obtain ⟨a0, len0, cap0, rfl⟩ := okWide_slice Try.underlying22 (hval 0 22 v0 rfl rfl)
  have k0 := h0
  have lt0 : ∀ x ∈ p0, x.block < W.heap.size := by obtain ⟨m, hm⟩ := k0; exact DataW.trod_lt m _ _ _ hm
  obtain ⟨zs0, hr0, hz0⟩ := ints_of k0
  obtain ⟨a1, rfl, rfl, rfl, w1⟩ := open_int Try.underlying3 (hval 1 3 v1 rfl rfl) h1
  clear hA0 hV0
  refine (walk _ zs0 a1 W hr0 hz0 w1).mono fun e W' ⟨he, bel⟩ => ?_
  subst he
  exact ⟨_, rfl, _, _, _, [], _, [], hW', trodAll_mk1 (shut_bool Try.underlying4 _), (trodAll_cons_mk (Below.trod laidOut (by kernel_rfl) (of_decide_eq_true (by kernel_rfl)) k0 bel lt0) (trodAll_cons_mk (shut_int Try.underlying3 w1) trodAll_mk0)), rfl, bel.frame _, fun h => by cases h⟩

set_option maxRecDepth 100000 in
theorem lifted (os : Os) (started : os.Started) (H : Type) (enc : TypeId × Value → H) :
    ReturnsInHanded {} Try.checked os 4 .any (Rows.fnExactSpreadOnSpec.pre6 enc Try.prog Try.f4 Rows.fnExactSpreadOnRow.domain false) (Rows.fnExactSpreadOnSpec.post enc Try.prog Try.f4 false true false false) := by
  refine returnsInHanded_of_change (C := Try.checked) own started (by kernel_rfl) Try.func4
    (ChangeSpec.witness6 (enc := enc) (C := Try.checked) false ⟨#[], #[.slice none 0 0, .int .i64 0], []⟩ 8 (by kernel_rfl) (by kernel_rfl) (by kernel_rfl) (by kernel_rfl)) ?_
  intro W base args ds gs before hval hW _ _
  exact contract H enc W base args ds gs before hval hW

/-- The statement. -/
theorem said : Rows.FnExactSpreadOnSaid :=
  OpenClaim.holds_of_wide 4 Try.f4 rfl rfl rfl rfl rfl rfl rfl ⟨rfl, rfl, rfl, rfl, rfl⟩ rfl rfl rfl rfl rfl (by kernel_rfl) Try.func4 (by kernel_rfl)
    (of_decide_eq_true (by kernel_rfl)) (by unfold Func.isWrapper; first | (rw [if_pos (by decide +kernel)]; kernel_rfl) | (rw [if_neg (by decide +kernel)]; exact ⟨rfl, rfl⟩))
    (fun os started H enc _ => lifted os started H enc)
#print axioms said
end Go.Proofs.Ythlbmkefjjckaag.fnExactSpreadOn
