/-
  Proved: for every list of haves and every number, 'CutHaves' of the program at commit 83a7ca3833eb answers as the model's 'CutHaves', the list of summaries, every list and number of it, and the bool; it writes into no argument (the list that it was handed reads as before), keeps nothing of it (marks that are written into it change no answer), and its answer is memory of its own (marks that are written into it stay there behind another call). No condition.
-/
import Derived.Test.YtkpdiojomgiocayPlain
import Derived.Test.YtkpdiojomgiocayLsCutX
import Derived.Test.YtkpdiojomgiocayRowOfHv
import Derived.Test.YtkpdiojomgiocayRowLaw0
namespace Go.Proofs.Ytkpdiojomgiocay.fnExactCutHaves
open Go.ChangeShapes Go.WideShapes Go.ChangeAt Go.RowKit
open Go.ChangeMaps (open_string shut_string)
set_option linter.unusedVariables false

set_option maxRecDepth 100000 in
set_option maxHeartbeats 8000000 in
theorem walk (v0 : Value) (l : List HvD) (most : Int) (w : World) (h0 : ReadsHv w v0 l) (hl0 : l.length ≤ maxLen) (wf_most : (Lit.int .i64 most).wf = true) :
    Calls Try.prog 4 #[v0, .int .i64 most] w fun e w' => e = .returned (.bool true) ∧ Below w.heap.size w w' := by
  have HRD0 : Hid (∀ W1, Since w.heap.size w W1 → ReadsHv W1 v0 l) := fun W1 hb => h0.below hb.1
  have HL0 : Hid (l.length ≤ maxLen) := hl0
  obtain ⟨a0, c0, rfl⟩ := h0.shape
  have S1 : Hid (Since w.heap.size w w) := Since.start w
  obtain ⟨ss, hss⟩ : ∃ ss, ss = cutOut l most := ⟨_, rfl⟩
  obtain ⟨ok, hok⟩ : ∃ ok, ok = cutOk l most := ⟨_, rfl⟩
  have OL : Hid (ss.length ≤ 4194304) := by show _ ≤ _; rw [hss]; have := (cutOut_small l most).1; omega
  have OS : Hid (∀ s ∈ ss, s.Hs.length ≤ 4194304) := by
    rw [hss]
    exact fun s hs => Nat.le_trans ((cutOut_small l most).2 s hs) (by decide)
  obtain ⟨m, hm⟩ : ∃ m, m = endSm 1 ss := ⟨_, rfl⟩
  have OE : Hid (endSm 1 ss ≤ 4194304) := by show _ ≤ _; rw [hss]; exact cutOut_end l most
  have hmn : ¬ (((m : Nat) : Int) < 0) := by omega
  clear h0 hl0 wf_most
  go_enter Try.func4, Try.ntmps4
  go_wp2_with fail
  refine (szHvs_any _ _ l (1048576) (HRD0.out _ S1.out) HL0.out (by omega) (by omega)).mono ?_
  rintro e wz0 ⟨rfl, hwz0⟩
  obtain rfl : w = wz0 := hwz0.symm
  rcases Int.lt_or_le (1048576) (l.length : Int) with hle0 | hle0
  · rw [if_neg (by omega)]
    go_wp2
    go_ret
    exact ⟨rfl, S1.out.1⟩
  rw [if_pos hle0]
  obtain ⟨lf1, hlf1⟩ : ∃ z : Int, z = 1048576 - (l.length : Int) := ⟨_, rfl⟩
  rw [← hlf1]
  have hnn0 : ¬ (lf1 < 0) := by omega
  have LL0 : Hid (l.length ≤ 1048576) := by show _ ≤ _; omega
  have LB0 : Hid (l.length ≤ 4194304) := by show _ ≤ _; omega
  clear hlf1 hle0
  have CS : Hid (∀ (W : World) (B : Nat) (z0 : Value), OwnHv W B z0 l → Calls Try.prog 15 #[z0, .int .i64 most] W (CutPost W ss ok)) := fun W B z0 ho0 => by
    rw [hss, hok]
    exact specCut_any W z0 l most ho0.lies LL0.out
  have CI : Hid (∀ (W : World) (B : Nat) (z0 : Value), OwnHv W B z0 l → Calls Try.prog 17 #[z0, .int .i64 most] W (CutPost W ss ok)) := fun W B z0 ho0 => by
    rw [hss, hok]
    exact implCut_any W z0 l most ho0.lies LL0.out
  clear hss hok
  obtain ⟨k0, hk0⟩ : ∃ z : Nat, z = 1 + 2 * l.length := ⟨_, rfl⟩
  have MX0 : Hid (∀ (W : World) (B : Nat) (z : Value), OwnHv W B z l → Calls Try.prog 20 #[z, .int .i64 ((1 : Nat) : Int)] W fun e W' => e = .returned (.int .i64 ((k0 : Nat) : Int)) ∧ W.grownBy W' z.ownBlock) := fun W B z ho => by
    rw [hk0]
    exact (markHvs_any W B z 1 l ho LB0.out (by have := LL0.out; omega)).mono fun e w' hh => ⟨hh.1, hh.2.2.2⟩
  have hkn : ¬ ((k0 : Nat) : Int) < 0 := by omega
  have MG : Hid (∀ (W : World) (B : Nat) (z : Value), OwnSms W B z ss → Calls Try.prog 21 #[z, .int .i64 ((1 : Nat) : Int)] W fun e W' => e = .returned (.int .i64 ((m : Nat) : Int)) ∧ OwnSms W' B z (marksSm 1 ss) ∧ W'.heap.size = W.heap.size ∧ Below B W W') := fun W B z ho => by
    rw [hm]
    exact markSms_any W B z 1 ss ho OE.out
  have HG : Hid (∀ (W : World) (B : Nat) (z : Value), OwnSms W B z (marksSm 1 ss) → Calls Try.prog 22 #[z, .int .i64 ((1 : Nat) : Int)] W fun e W' => e = .returned (.int .i64 ((m : Nat) : Int)) ∧ W' = W) := fun W B z ho => by
    rw [hm]
    exact heldSms_yes W z 1 ss ho.reads OE.out
  clear hk0 hm
  -- the model's answer
  go_wp2_with fail
  refine (toHvs_any _ _ l (HRD0.out _ S1.out) LB0.out).mono ?_
  rintro e w2 ⟨v2, rfl, ho2, hb2⟩
  obtain ⟨x2, y2, rfl⟩ := ho2.shape
  have S2 : Hid (Since w.heap.size w w2) := S1.out.step hb2
  have N2 : Hid (OwnHv w2 w.heap.size (.slice x2 l.length y2) l) := ho2
  clear ho2 hb2
  go_wp2_with fail
  refine (CS.out _ _ _ N2.out).mono ?_
  rintro e w3 ⟨v3, rfl, ho3, hb3⟩
  obtain ⟨x3, y3, rfl⟩ := ho3.shape
  have S3 : Hid (Since w.heap.size w w3) := S2.out.step hb3
  have RR : Hid (∀ w', Since w3.heap.size w3 w' → ReadsSms w' (.slice x3 ss.length y3) ss) := fun w' h => (ho3.below h.1).reads
  have T3 : Hid (Since w3.heap.size w3 w3) := Since.start w3
  clear ho3 hb3 N2
  -- the program's answer
  go_wp2_with fail
  refine (toHvs_any _ _ l (HRD0.out _ S3.out) LB0.out).mono ?_
  rintro e w4 ⟨v4, rfl, ho4, hb4⟩
  obtain ⟨x4, y4, rfl⟩ := ho4.shape
  have S4 : Hid (Since w.heap.size w w4) := S3.out.step hb4
  have T4 : Hid (Since w3.heap.size w3 w4) := T3.out.step hb4
  have X4 : Hid (OwnHv w4 w3.heap.size (.slice x4 l.length y4) l) := ho4
  clear ho4 hb4
  go_wp2_with fail
  refine (CI.out _ _ _ X4.out).mono ?_
  rintro e w5 ⟨v5, rfl, ho5, hb5⟩
  obtain ⟨x5, y5, rfl⟩ := ho5.shape
  have S5 : Hid (Since w.heap.size w w5) := S4.out.step hb5
  have T5 : Hid (Since w3.heap.size w3 w5) := T4.out.step hb5
  have U5 : Hid (Since w4.heap.size w4 w5) := (Since.start w4).step hb5
  have G5 : Hid (OwnSms w5 w4.heap.size (.slice x5 ss.length y5) ss) := ho5
  have X5 : Hid (OwnHv w5 w3.heap.size (.slice x4 l.length y4) l) := X4.out.below hb5
  have XB : Hid (∀ k, (Value.slice x4 l.length y4).ownBlock = some k → k < w4.heap.size) := fun k hk => (World.ownsRow.lt X4.out k hk).2
  clear ho5 hb5 X4
  go_wp2_with fail
  refine (eqSms_same _ _ _ ss G5.out.reads (RR.out _ T5.out) OL.out OS.out).mono ?_
  rintro e w6 ⟨rfl, hb6⟩
  have S6 : Hid (Since w.heap.size w w6) := S5.out.step hb6
  have T6 : Hid (Since w3.heap.size w3 w6) := T5.out.step hb6
  have U6 : Hid (Since w4.heap.size w4 w6) := U5.out.step hb6
  have G6 : Hid (OwnSms w6 w4.heap.size (.slice x5 ss.length y5) ss) := G5.out.below hb6
  have X6 : Hid (OwnHv w6 w3.heap.size (.slice x4 l.length y4) l) := X5.out.below hb6
  clear hb6 G5 X5 S5 T5 U5
  -- the argument reads as before
  go_wp2_with fail
  refine (toHvs_any _ _ l (HRD0.out _ S6.out) LB0.out).mono ?_
  rintro e w7 ⟨v7, rfl, ho7, hb7⟩
  obtain ⟨x7, y7, rfl⟩ := ho7.shape
  have S7 : Hid (Since w.heap.size w w7) := S6.out.step hb7
  have T7 : Hid (Since w3.heap.size w3 w7) := T6.out.step hb7
  have U7 : Hid (Since w4.heap.size w4 w7) := U6.out.step hb7
  have G7 : Hid (OwnSms w7 w4.heap.size (.slice x5 ss.length y5) ss) := G6.out.below hb7
  have X7 : Hid (OwnHv w7 w3.heap.size (.slice x4 l.length y4) l) := X6.out.below hb7
  have N7 : Hid (OwnHv w7 w6.heap.size (.slice x7 l.length y7) l) := ho7
  clear ho7 hb7 G6 X6 S6 T6 U6
  go_wp2_with fail
  refine (eqHvs_same _ _ _ l X7.out.reads N7.out.reads LB0.out).mono ?_
  rintro e w8 ⟨rfl, hb8⟩
  have S8 : Hid (Since w.heap.size w w8) := S7.out.step hb8
  have T8 : Hid (Since w3.heap.size w3 w8) := T7.out.step hb8
  have U8 : Hid (Since w4.heap.size w4 w8) := U7.out.step hb8
  have G8 : Hid (OwnSms w8 w4.heap.size (.slice x5 ss.length y5) ss) := G7.out.below hb8
  have X8 : Hid (OwnHv w8 w3.heap.size (.slice x4 l.length y4) l) := X7.out.below hb8
  clear hb8 G7 X7 S7 T7 U7 N7
  -- the argument is written into
  go_wp2_with fail
  refine (MX0.out _ _ _ X8.out).mono ?_
  rintro e w9 ⟨rfl, hg9⟩
  have T9 : Hid (Since w3.heap.size w3 w9) := T8.out.grown hg9 (fun k hk => (World.ownsRow.lt X8.out k hk).1)
  have S9 : Hid (Since w.heap.size w w9) := S3.out.tran T9.out
  have UZ9 : Hid (w4.heap.size ≤ w9.heap.size) := Nat.le_trans U8.out.2 hg9.size
  have G9 : Hid (OwnSms w9 w4.heap.size (.slice x5 ss.length y5) ss) := G8.out.grow hg9 XB.out
  clear hg9 G8 X8 S8 T8 U8 XB
  go_wp2_with fail
  refine (eqSms_same _ _ _ ss G9.out.reads (RR.out _ T9.out) OL.out OS.out).mono ?_
  rintro e w10 ⟨rfl, hb10⟩
  have T10 : Hid (Since w3.heap.size w3 w10) := T9.out.step hb10
  have UZ10 : Hid (w4.heap.size ≤ w10.heap.size) := Nat.le_trans UZ9.out hb10.size
  have G10 : Hid (OwnSms w10 w4.heap.size (.slice x5 ss.length y5) ss) := G9.out.below hb10
  clear hb10 G9 S9 T9 UZ9
  -- the answer is written into
  go_wp2_with fail
  refine (MG.out _ _ _ G10.out).mono ?_
  rintro e w11 ⟨rfl, hm11, hz11, hb11⟩
  have T11 : Hid (Since w3.heap.size w3 w11) := ⟨T10.out.1.trans (hb11.mono T4.out.2), by rw [hz11]; exact T10.out.2⟩
  have S11 : Hid (Since w.heap.size w w11) := S3.out.tran T11.out
  have G11 : Hid (OwnSms w11 w4.heap.size (.slice x5 ss.length y5) (marksSm 1 ss)) := hm11
  clear hm11 hz11 hb11 G10 T10 UZ10
  go_wp2_with fail
  refine (HG.out _ _ _ G11.out).mono ?_
  rintro e q1 ⟨rfl, hq1⟩
  obtain rfl : w11 = q1 := hq1.symm
  go_wp2_with fail
  refine (toHvs_any _ _ l (HRD0.out _ S11.out) LB0.out).mono ?_
  rintro e w12 ⟨v12, rfl, ho12, hb12⟩
  obtain ⟨x12, y12, rfl⟩ := ho12.shape
  have T12 : Hid (Since w3.heap.size w3 w12) := T11.out.step hb12
  have G12 : Hid (OwnSms w12 w4.heap.size (.slice x5 ss.length y5) (marksSm 1 ss)) := G11.out.below hb12
  have N12 : Hid (OwnHv w12 w11.heap.size (.slice x12 l.length y12) l) := ho12
  clear ho12 hb12 G11 T11 S11
  go_wp2_with fail
  refine (CI.out _ _ _ N12.out).mono ?_
  rintro e w13 ⟨v13, rfl, ho13, hb13⟩
  obtain ⟨x13, y13, rfl⟩ := ho13.shape
  have T13 : Hid (Since w3.heap.size w3 w13) := T12.out.step hb13
  have G13 : Hid (OwnSms w13 w4.heap.size (.slice x5 ss.length y5) (marksSm 1 ss)) := G12.out.below hb13
  have H13 : Hid (OwnSms w13 w12.heap.size (.slice x13 ss.length y13) ss) := ho13
  clear ho13 hb13 G12 T12 N12
  go_wp2_with fail
  refine (eqSms_same _ _ _ ss H13.out.reads (RR.out _ T13.out) OL.out OS.out).mono ?_
  rintro e w14 ⟨rfl, hb14⟩
  have T14 : Hid (Since w3.heap.size w3 w14) := T13.out.step hb14
  have S14 : Hid (Since w.heap.size w w14) := S3.out.tran T14.out
  have G14 : Hid (OwnSms w14 w4.heap.size (.slice x5 ss.length y5) (marksSm 1 ss)) := G13.out.below hb14
  clear hb14 G13 T13 H13
  go_wp2_with fail
  refine (HG.out _ _ _ G14.out).mono ?_
  rintro e q2 ⟨rfl, hq2⟩
  obtain rfl : w14 = q2 := hq2.symm
  go_wp2
  go_ret
  exact ⟨rfl, S14.out.1⟩

set_option maxRecDepth 100000 in
theorem contract (H : Type) (enc : TypeId × Value → H) (W : World) (base : Nat) (args : Array Value) (ds gs : List (DataW H)) (before : List MemPlace)
    (hval : ∀ (j : Nat) t v, Try.f4.params[j]? = some t → args[j]? = some v → Value.okWide Try.prog W .any base t v)
    (hW : DataW.Whole enc Try.prog Try.f4.params.toList Rows.fnExactCutHavesSpec.vars false W args.toList ds gs before) :
    Calls Try.prog 4 args W fun e W' => ∃ v, e = .returned v ∧ Rows.fnExactCutHavesSpec.post enc Try.prog Try.f4 false true false false W args v W' := by
  have hW' := hW
  obtain ⟨p, q, hA0, hV0, rfl, hfz, hnd⟩ := hW
  have hA : DataW.TrodAll enc Try.prog W 0 (fun _ => true) true Try.f4.params.toList args.toList ds p := hA0
  rw [Try.params4] at hA hval
  obtain ⟨v0, vs0, d0, ds0, p0, q0, hargs, rfl, rfl, h0, r0⟩ := trodAll_cons hA
  obtain ⟨v1, vs1, d1, ds1, p1, q1, rfl, rfl, rfl, h1, r1⟩ := trodAll_cons r0
  obtain ⟨rfl, rfl, rfl⟩ := trodAll_nil r1
  obtain rfl : args = #[v0, v1] := by cases args; simp_all
  obtain ⟨rfl, rfl⟩ := trodVars_none hV0
  obtain ⟨a0, len0, cap0, rfl⟩ := okWide_slice Try.underlying22 (hval 0 22 v0 rfl rfl)
  have k0 := h0
  have lt0 : ∀ x ∈ p0, x.block < W.heap.size := by obtain ⟨m, hm⟩ := k0; exact DataW.trod_lt m _ _ _ hm
  obtain ⟨ps0, hr0, hz0⟩ := Hvs_of k0
  obtain ⟨a1, rfl, rfl, rfl, w1⟩ := open_int Try.underlying3 (hval 1 3 v1 rfl rfl) h1
  clear hA0 hV0
  refine (walk _ ps0 a1 W hr0 hz0 w1).mono fun e W' ⟨he, bel⟩ => ?_
  subst he
  exact ⟨_, rfl, _, _, _, [], _, [], hW', trodAll_mk1 (shut_bool Try.underlying4 _), (trodAll_cons_mk (Below.trod laidOut (by kernel_rfl) (of_decide_eq_true (by kernel_rfl)) k0 bel lt0) (trodAll_cons_mk (shut_int Try.underlying3 w1) trodAll_mk0)), rfl, bel.frame _, fun h => by cases h⟩

set_option maxRecDepth 100000 in
theorem lifted (os : Os) (started : os.Started) (H : Type) (enc : TypeId × Value → H) :
    ReturnsInHanded {} Try.checked os 4 .any (Rows.fnExactCutHavesSpec.pre6 enc Try.prog Try.f4 Rows.fnExactCutHavesRow.domain false) (Rows.fnExactCutHavesSpec.post enc Try.prog Try.f4 false true false false) := by
  refine returnsInHanded_of_change (C := Try.checked) own started (by kernel_rfl) Try.func4
    (ChangeSpec.witness6 (enc := enc) (C := Try.checked) false ⟨#[], #[.slice none 0 0, .int .i64 0], []⟩ 8 (by kernel_rfl) (by kernel_rfl) (by kernel_rfl) (by kernel_rfl)) ?_
  intro W base args ds gs before hval hW _ _
  exact contract H enc W base args ds gs before hval hW

/-- The statement. -/
theorem said : Rows.FnExactCutHavesSaid :=
  OpenClaim.holds_of_wide 4 Try.f4 rfl rfl rfl rfl rfl rfl rfl ⟨rfl, rfl, rfl, rfl, rfl⟩ rfl rfl rfl rfl rfl (by kernel_rfl) Try.func4 (by kernel_rfl)
    (of_decide_eq_true (by kernel_rfl)) (by unfold Func.isWrapper; first | (rw [if_pos (by decide +kernel)]; kernel_rfl) | (rw [if_neg (by decide +kernel)]; exact ⟨rfl, rfl⟩))
    (fun os started H enc _ => lifted os started H enc)
#print axioms said
end Go.Proofs.Ytkpdiojomgiocay.fnExactCutHaves
