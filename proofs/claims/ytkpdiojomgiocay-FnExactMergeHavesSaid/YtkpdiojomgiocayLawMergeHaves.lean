/-
  Proved: for every two lists of haves, 'MergeHaves' of the program at commit 83a7ca3833eb answers as the model's 'MergeHaves', the list, every number of it, and the bool; it writes into no argument (both lists that it was handed read as before), keeps nothing of them (marks that are written into them change no answer), and its answer is memory of its own (marks that are written into it stay there behind another call). No condition.
-/
import Derived.Test.YtkpdiojomgiocayPlain
import Derived.Test.YtkpdiojomgiocayLsMrg
import Derived.Test.YtkpdiojomgiocayRowOfHv
import Derived.Test.YtkpdiojomgiocayRowLaw0
namespace Go.Proofs.Ytkpdiojomgiocay.fnExactMergeHaves
open Go.ChangeShapes Go.WideShapes Go.ChangeAt Go.RowKit
open Go.ChangeMaps (open_string shut_string)
set_option linter.unusedVariables false

set_option maxRecDepth 100000 in
set_option maxHeartbeats 8000000 in
theorem walk (v0 : Value) (a : List HvD) (v1 : Value) (b : List HvD) (w : World) (h0 : ReadsHv w v0 a) (hl0 : a.length ≤ maxLen) (h1 : ReadsHv w v1 b) (hl1 : b.length ≤ maxLen) :
    Calls Try.prog 6 #[v0, v1] w fun e w' => e = .returned (.bool true) ∧ Below w.heap.size w w' := by
  have HRD0 : Hid (∀ W1, Since w.heap.size w W1 → ReadsHv W1 v0 a) := fun W1 hb => h0.below hb.1
  have HL0 : Hid (a.length ≤ maxLen) := hl0
  obtain ⟨a0, c0, rfl⟩ := h0.shape
  have HRD1 : Hid (∀ W1, Since w.heap.size w W1 → ReadsHv W1 v1 b) := fun W1 hb => h1.below hb.1
  have HL1 : Hid (b.length ≤ maxLen) := hl1
  obtain ⟨a1, c1, rfl⟩ := h1.shape
  have S1 : Hid (Since w.heap.size w w) := Since.start w
  obtain ⟨out, hout⟩ : ∃ out, out = mrgOut a b := ⟨_, rfl⟩
  obtain ⟨ok, hok⟩ : ∃ ok, ok = mrgOk a b := ⟨_, rfl⟩
  have OL0 : Hid (out.length ≤ 4194304) := by show _ ≤ _; rw [hout]; exact mrgOut_len a b
  clear h0 hl0 h1 hl1
  go_enter Try.func6, Try.ntmps6
  go_wp2_with fail
  refine (szHvs_any _ _ a (1048576) (HRD0.out _ S1.out) HL0.out (by omega) (by omega)).mono ?_
  rintro e wz0 ⟨rfl, hwz0⟩
  obtain rfl : w = wz0 := hwz0.symm
  rcases Int.lt_or_le (1048576) (a.length : Int) with hle0 | hle0
  · rw [if_neg (by omega)]
    go_wp2
    go_ret
    exact ⟨rfl, S1.out.1⟩
  rw [if_pos hle0]
  obtain ⟨lf1, hlf1⟩ : ∃ z : Int, z = 1048576 - (a.length : Int) := ⟨_, rfl⟩
  rw [← hlf1]
  have hnn0 : ¬ (lf1 < 0) := by omega
  have hlo0 : 0 ≤ lf1 := by omega
  have hhi0 : lf1 ≤ 1048576 := by omega
  have LL0 : Hid (a.length ≤ 1048576) := by show _ ≤ _; omega
  have LB0 : Hid (a.length ≤ 4194304) := by show _ ≤ _; omega
  clear hlf1 hle0
  go_wp2_with fail
  refine (szHvs_any _ _ b lf1 (HRD1.out _ S1.out) HL1.out (by omega) (by omega)).mono ?_
  rintro e wz1 ⟨rfl, hwz1⟩
  obtain rfl : w = wz1 := hwz1.symm
  rcases Int.lt_or_le (lf1) (b.length : Int) with hle1 | hle1
  · rw [if_neg (by omega)]
    go_wp2
    go_ret
    exact ⟨rfl, S1.out.1⟩
  rw [if_pos hle1]
  obtain ⟨lf2, hlf2⟩ : ∃ z : Int, z = lf1 - (b.length : Int) := ⟨_, rfl⟩
  rw [← hlf2]
  have hnn1 : ¬ (lf2 < 0) := by omega
  have hlo1 : 0 ≤ lf2 := by omega
  have hhi1 : lf2 ≤ 1048576 := by omega
  have LL1 : Hid (b.length ≤ 1048576) := by show _ ≤ _; omega
  have LB1 : Hid (b.length ≤ 4194304) := by show _ ≤ _; omega
  clear hlf2 hle1
  clear hlo0 hhi0 hlo1 hhi1
  have CS : Hid (∀ (W : World) (B : Nat) (z0 : Value) (z1 : Value), OwnHv W B z0 a → OwnHv W B z1 b → Calls Try.prog 30 #[z0, z1] W fun e W' => ∃ u0, e = .returned (.tuple #[u0, .bool ok]) ∧ OwnHv W' W.heap.size u0 out ∧ Below W.heap.size W W') := fun W B z0 z1 ho0 ho1 => by
    have := specMergeHaves_any W B z0 z1 a b ho0 ho1 LL0.out LL1.out
    rw [← hout, ← hok] at this
    exact this
  have CI : Hid (∀ (W : World) (B : Nat) (z0 : Value) (z1 : Value), OwnHv W B z0 a → OwnHv W B z1 b → Calls Try.prog 31 #[z0, z1] W fun e W' => ∃ u0, e = .returned (.tuple #[u0, .bool ok]) ∧ OwnHv W' W.heap.size u0 out ∧ Below W.heap.size W W') := fun W B z0 z1 ho0 ho1 => by
    have := implMergeHaves_any W B z0 z1 a b ho0 ho1 LL0.out LL1.out
    rw [← hout, ← hok] at this
    exact this
  clear hout hok
  obtain ⟨k0, hk0⟩ : ∃ z : Nat, z = 1 + 2 * a.length := ⟨_, rfl⟩
  have MX0 : Hid (∀ (W : World) (B : Nat) (z : Value), OwnHv W B z a → Calls Try.prog 20 #[z, .int .i64 ((1 : Nat) : Int)] W fun e W' => e = .returned (.int .i64 ((k0 : Nat) : Int)) ∧ W.grownBy W' z.ownBlock) := fun W B z ho => by
    rw [hk0]
    exact (markHvs_any W B z 1 a ho LB0.out (by have := LL0.out; have := LL1.out; omega)).mono fun e w' hh => ⟨hh.1, hh.2.2.2⟩
  obtain ⟨k1, hk1⟩ : ∃ z : Nat, z = k0 + 2 * b.length := ⟨_, rfl⟩
  have MX1 : Hid (∀ (W : World) (B : Nat) (z : Value), OwnHv W B z b → Calls Try.prog 20 #[z, .int .i64 ((k0 : Nat) : Int)] W fun e W' => e = .returned (.int .i64 ((k1 : Nat) : Int)) ∧ W.grownBy W' z.ownBlock) := fun W B z ho => by
    rw [hk1]
    exact (markHvs_any W B z k0 b ho LB1.out (by have := LL0.out; have := LL1.out; omega)).mono fun e w' hh => ⟨hh.1, hh.2.2.2⟩
  have hkn : ¬ ((k1 : Nat) : Int) < 0 := by omega
  obtain ⟨m0, hm0⟩ : ∃ z : Nat, z = 1 + 2 * out.length := ⟨_, rfl⟩
  have MG0 : Hid (∀ (W : World) (B : Nat) (z : Value), OwnHv W B z out → Calls Try.prog 20 #[z, .int .i64 ((1 : Nat) : Int)] W fun e W' => e = .returned (.int .i64 ((m0 : Nat) : Int)) ∧ OwnHv W' B z (marksHv 1 out.length) ∧ W'.heap.size = W.heap.size ∧ W.grownBy W' z.ownBlock) := fun W B z ho => by
    rw [hm0]
    exact markHvs_any W B z 1 out ho OL0.out (by have := OL0.out; omega)
  have HG0 : Hid (∀ (W : World) (B : Nat) (z : Value), OwnHv W B z (marksHv 1 out.length) → Calls Try.prog 29 #[z, .int .i64 ((1 : Nat) : Int)] W fun e W' => e = .returned (.int .i64 ((m0 : Nat) : Int)) ∧ W' = W) := fun W B z ho => by
    rw [hm0]
    exact heldHvs_yes W z 1 out.length ho.reads OL0.out (by have := OL0.out; omega)
  have LM0 : Hid ((marksHv 1 out.length).length = out.length) := by show _ = _; exact marksHv_len _ _
  have hmn0 : ¬ ((m0 : Nat) : Int) < 0 := by omega
  clear hk0 hk1 hm0
  go_wp2_with fail
  refine (toHvs_any _ _ a (HRD0.out _ S1.out) LB0.out).mono ?_
  rintro e w2 ⟨v2, rfl, ho2, hb2⟩
  obtain ⟨x2, y2, rfl⟩ := ho2.shape
  have S2 : Hid (Since w.heap.size w w2) := S1.out.step hb2
  have N2 : Hid (OwnHv w2 w.heap.size (.slice x2 a.length y2) a) := ho2
  have B2 : Hid (Below w.heap.size w w2) := hb2
  have FC0_2 : Hid (OwnHv w2 w.heap.size (.slice x2 a.length y2) a) := ho2.mono S1.out.2
  clear ho2 hb2
  go_wp2_with fail
  refine (toHvs_any _ _ b (HRD1.out _ S2.out) LB1.out).mono ?_
  rintro e w3 ⟨v3, rfl, ho3, hb3⟩
  obtain ⟨x3, y3, rfl⟩ := ho3.shape
  have S3 : Hid (Since w.heap.size w w3) := S2.out.step hb3
  have N3 : Hid (OwnHv w3 w2.heap.size (.slice x3 b.length y3) b) := ho3
  have B3 : Hid (Below w2.heap.size w2 w3) := hb3
  have FC0_3 : Hid (OwnHv w3 w.heap.size (.slice x2 a.length y2) a) := rowBelow FC0_2.out B3.out
  have FC1_3 : Hid (OwnHv w3 w.heap.size (.slice x3 b.length y3) b) := ho3.mono S2.out.2
  clear ho3 hb3
  go_wp2_with fail
  refine (CS.out _ _ _ _ FC0_3.out FC1_3.out).mono ?_
  rintro e w4 ⟨u4_0, rfl, hu4_0, hb4⟩
  obtain ⟨x4_0, y4_0, rfl⟩ := rowShape hu4_0
  have S4 : Hid (Since w.heap.size w w4) := S3.out.step hb4
  have FC0_4 : Hid (OwnHv w4 w.heap.size (.slice x2 a.length y2) a) := rowBelow FC0_3.out hb4
  have FC1_4 : Hid (OwnHv w4 w.heap.size (.slice x3 b.length y3) b) := rowBelow FC1_3.out hb4
  have FR0_4 : Hid (OwnHv w4 w.heap.size (.slice x4_0 out.length y4_0) out) := rowMono hu4_0 S3.out.2
  clear hb4 hu4_0
  go_wp2_with fail
  refine (toHvs_any _ _ a (HRD0.out _ S4.out) LB0.out).mono ?_
  rintro e w5 ⟨v5, rfl, ho5, hb5⟩
  obtain ⟨x5, y5, rfl⟩ := ho5.shape
  have S5 : Hid (Since w.heap.size w w5) := S4.out.step hb5
  have N5 : Hid (OwnHv w5 w4.heap.size (.slice x5 a.length y5) a) := ho5
  have B5 : Hid (Below w4.heap.size w4 w5) := hb5
  have FR0_5 : Hid (OwnHv w5 w.heap.size (.slice x4_0 out.length y4_0) out) := rowBelow FR0_4.out B5.out
  have AP_R0_X0 : Hid (∀ k, (Value.slice x4_0 out.length y4_0).ownBlock = some k → (Value.slice x5 a.length y5).ownBlock ≠ some k) := rowsApartLt FR0_4.out N5.out (Nat.le_refl _)
  have FX0_5 : Hid (OwnHv w5 w.heap.size (.slice x5 a.length y5) a) := ho5.mono S4.out.2
  clear ho5 hb5
  go_wp2_with fail
  refine (toHvs_any _ _ b (HRD1.out _ S5.out) LB1.out).mono ?_
  rintro e w6 ⟨v6, rfl, ho6, hb6⟩
  obtain ⟨x6, y6, rfl⟩ := ho6.shape
  have S6 : Hid (Since w.heap.size w w6) := S5.out.step hb6
  have N6 : Hid (OwnHv w6 w5.heap.size (.slice x6 b.length y6) b) := ho6
  have B6 : Hid (Below w5.heap.size w5 w6) := hb6
  have FR0_6 : Hid (OwnHv w6 w.heap.size (.slice x4_0 out.length y4_0) out) := rowBelow FR0_5.out B6.out
  have AP_R0_X1 : Hid (∀ k, (Value.slice x4_0 out.length y4_0).ownBlock = some k → (Value.slice x6 b.length y6).ownBlock ≠ some k) := rowsApartLt FR0_5.out N6.out (Nat.le_refl _)
  have FX0_6 : Hid (OwnHv w6 w.heap.size (.slice x5 a.length y5) a) := rowBelow FX0_5.out B6.out
  have AP_X0_X1 : Hid (∀ k, (Value.slice x5 a.length y5).ownBlock = some k → (Value.slice x6 b.length y6).ownBlock ≠ some k) := rowsApartLt FX0_5.out N6.out (Nat.le_refl _)
  have FX1_6 : Hid (OwnHv w6 w.heap.size (.slice x6 b.length y6) b) := ho6.mono S5.out.2
  clear ho6 hb6
  go_wp2_with fail
  refine (CI.out _ _ _ _ FX0_6.out FX1_6.out).mono ?_
  rintro e w7 ⟨u7_0, rfl, hu7_0, hb7⟩
  obtain ⟨x7_0, y7_0, rfl⟩ := rowShape hu7_0
  have S7 : Hid (Since w.heap.size w w7) := S6.out.step hb7
  have FR0_7 : Hid (OwnHv w7 w.heap.size (.slice x4_0 out.length y4_0) out) := rowBelow FR0_6.out hb7
  have AP_R0_G0 : Hid (∀ k, (Value.slice x4_0 out.length y4_0).ownBlock = some k → (Value.slice x7_0 out.length y7_0).ownBlock ≠ some k) := rowsApartLt FR0_6.out hu7_0 (Nat.le_refl _)
  have FX0_7 : Hid (OwnHv w7 w.heap.size (.slice x5 a.length y5) a) := rowBelow FX0_6.out hb7
  have AP_X0_G0 : Hid (∀ k, (Value.slice x5 a.length y5).ownBlock = some k → (Value.slice x7_0 out.length y7_0).ownBlock ≠ some k) := rowsApartLt FX0_6.out hu7_0 (Nat.le_refl _)
  have FX1_7 : Hid (OwnHv w7 w.heap.size (.slice x6 b.length y6) b) := rowBelow FX1_6.out hb7
  have AP_X1_G0 : Hid (∀ k, (Value.slice x6 b.length y6).ownBlock = some k → (Value.slice x7_0 out.length y7_0).ownBlock ≠ some k) := rowsApartLt FX1_6.out hu7_0 (Nat.le_refl _)
  have FG0_7 : Hid (OwnHv w7 w.heap.size (.slice x7_0 out.length y7_0) out) := rowMono hu7_0 S6.out.2
  clear hb7 hu7_0
  go_wp2_with fail
  refine (eqHvs_same _ _ _ out FG0_7.out.reads FR0_7.out.reads OL0.out).mono ?_
  rintro e w8 ⟨rfl, hb8⟩
  have S8 : Hid (Since w.heap.size w w8) := S7.out.step hb8
  have FR0_8 : Hid (OwnHv w8 w.heap.size (.slice x4_0 out.length y4_0) out) := rowBelow FR0_7.out hb8
  have FX0_8 : Hid (OwnHv w8 w.heap.size (.slice x5 a.length y5) a) := rowBelow FX0_7.out hb8
  have FX1_8 : Hid (OwnHv w8 w.heap.size (.slice x6 b.length y6) b) := rowBelow FX1_7.out hb8
  have FG0_8 : Hid (OwnHv w8 w.heap.size (.slice x7_0 out.length y7_0) out) := rowBelow FG0_7.out hb8
  clear hb8
  go_wp2_with fail
  refine (toHvs_any _ _ a (HRD0.out _ S8.out) LB0.out).mono ?_
  rintro e w9 ⟨v9, rfl, ho9, hb9⟩
  obtain ⟨x9, y9, rfl⟩ := ho9.shape
  have S9 : Hid (Since w.heap.size w w9) := S8.out.step hb9
  have N9 : Hid (OwnHv w9 w8.heap.size (.slice x9 a.length y9) a) := ho9
  have B9 : Hid (Below w8.heap.size w8 w9) := hb9
  have FR0_9 : Hid (OwnHv w9 w.heap.size (.slice x4_0 out.length y4_0) out) := rowBelow FR0_8.out B9.out
  have FX0_9 : Hid (OwnHv w9 w.heap.size (.slice x5 a.length y5) a) := rowBelow FX0_8.out B9.out
  have FX1_9 : Hid (OwnHv w9 w.heap.size (.slice x6 b.length y6) b) := rowBelow FX1_8.out B9.out
  have FG0_9 : Hid (OwnHv w9 w.heap.size (.slice x7_0 out.length y7_0) out) := rowBelow FG0_8.out B9.out
  have FC_9 : Hid (OwnHv w9 w.heap.size (.slice x9 a.length y9) a) := ho9.mono S8.out.2
  clear ho9 hb9
  go_wp2_with fail
  refine (eqHvs_same _ _ _ a FX0_9.out.reads FC_9.out.reads LB0.out).mono ?_
  rintro e w10 ⟨rfl, hb10⟩
  have S10 : Hid (Since w.heap.size w w10) := S9.out.step hb10
  have FR0_10 : Hid (OwnHv w10 w.heap.size (.slice x4_0 out.length y4_0) out) := rowBelow FR0_9.out hb10
  have FX0_10 : Hid (OwnHv w10 w.heap.size (.slice x5 a.length y5) a) := rowBelow FX0_9.out hb10
  have FX1_10 : Hid (OwnHv w10 w.heap.size (.slice x6 b.length y6) b) := rowBelow FX1_9.out hb10
  have FG0_10 : Hid (OwnHv w10 w.heap.size (.slice x7_0 out.length y7_0) out) := rowBelow FG0_9.out hb10
  have FC_10 : Hid (OwnHv w10 w.heap.size (.slice x9 a.length y9) a) := rowBelow FC_9.out hb10
  clear hb10
  go_wp2_with fail
  refine (toHvs_any _ _ b (HRD1.out _ S10.out) LB1.out).mono ?_
  rintro e w11 ⟨v11, rfl, ho11, hb11⟩
  obtain ⟨x11, y11, rfl⟩ := ho11.shape
  have S11 : Hid (Since w.heap.size w w11) := S10.out.step hb11
  have N11 : Hid (OwnHv w11 w10.heap.size (.slice x11 b.length y11) b) := ho11
  have B11 : Hid (Below w10.heap.size w10 w11) := hb11
  have FR0_11 : Hid (OwnHv w11 w.heap.size (.slice x4_0 out.length y4_0) out) := rowBelow FR0_10.out B11.out
  have FX0_11 : Hid (OwnHv w11 w.heap.size (.slice x5 a.length y5) a) := rowBelow FX0_10.out B11.out
  have FX1_11 : Hid (OwnHv w11 w.heap.size (.slice x6 b.length y6) b) := rowBelow FX1_10.out B11.out
  have FG0_11 : Hid (OwnHv w11 w.heap.size (.slice x7_0 out.length y7_0) out) := rowBelow FG0_10.out B11.out
  have FC_11 : Hid (OwnHv w11 w.heap.size (.slice x11 b.length y11) b) := ho11.mono S10.out.2
  clear ho11 hb11
  go_wp2_with fail
  refine (eqHvs_same _ _ _ b FX1_11.out.reads FC_11.out.reads LB1.out).mono ?_
  rintro e w12 ⟨rfl, hb12⟩
  have S12 : Hid (Since w.heap.size w w12) := S11.out.step hb12
  have FR0_12 : Hid (OwnHv w12 w.heap.size (.slice x4_0 out.length y4_0) out) := rowBelow FR0_11.out hb12
  have FX0_12 : Hid (OwnHv w12 w.heap.size (.slice x5 a.length y5) a) := rowBelow FX0_11.out hb12
  have FX1_12 : Hid (OwnHv w12 w.heap.size (.slice x6 b.length y6) b) := rowBelow FX1_11.out hb12
  have FG0_12 : Hid (OwnHv w12 w.heap.size (.slice x7_0 out.length y7_0) out) := rowBelow FG0_11.out hb12
  have FC_12 : Hid (OwnHv w12 w.heap.size (.slice x11 b.length y11) b) := rowBelow FC_11.out hb12
  clear hb12
  go_wp2_with fail
  refine (MX0.out _ _ _ FX0_12.out).mono ?_
  rintro e w13 ⟨rfl, hg13⟩
  have S13 : Hid (Since w.heap.size w w13) := S12.out.grown hg13 (fun k hk => (World.ownsRow.lt FX0_12.out k hk).1)
  have FR0_13 : Hid (OwnHv w13 w.heap.size (.slice x4_0 out.length y4_0) out) := rowGrow FR0_12.out hg13 (apartSym AP_R0_X0.out)
  have FX1_13 : Hid (OwnHv w13 w.heap.size (.slice x6 b.length y6) b) := rowGrow FX1_12.out hg13 (AP_X0_X1.out)
  have FG0_13 : Hid (OwnHv w13 w.heap.size (.slice x7_0 out.length y7_0) out) := rowGrow FG0_12.out hg13 (AP_X0_G0.out)
  clear hg13
  go_wp2_with fail
  refine (MX1.out _ _ _ FX1_13.out).mono ?_
  rintro e w14 ⟨rfl, hg14⟩
  have S14 : Hid (Since w.heap.size w w14) := S13.out.grown hg14 (fun k hk => (World.ownsRow.lt FX1_13.out k hk).1)
  have FR0_14 : Hid (OwnHv w14 w.heap.size (.slice x4_0 out.length y4_0) out) := rowGrow FR0_13.out hg14 (apartSym AP_R0_X1.out)
  have FG0_14 : Hid (OwnHv w14 w.heap.size (.slice x7_0 out.length y7_0) out) := rowGrow FG0_13.out hg14 (AP_X1_G0.out)
  clear hg14
  go_wp2_with fail
  refine (eqHvs_same _ _ _ out FG0_14.out.reads FR0_14.out.reads OL0.out).mono ?_
  rintro e w15 ⟨rfl, hb15⟩
  have S15 : Hid (Since w.heap.size w w15) := S14.out.step hb15
  have FR0_15 : Hid (OwnHv w15 w.heap.size (.slice x4_0 out.length y4_0) out) := rowBelow FR0_14.out hb15
  have FG0_15 : Hid (OwnHv w15 w.heap.size (.slice x7_0 out.length y7_0) out) := rowBelow FG0_14.out hb15
  clear hb15
  go_wp2_with fail
  refine (MG0.out _ _ _ FG0_15.out).mono ?_
  rintro e w16 ⟨rfl, hm16, -, hg16⟩
  have S16 : Hid (Since w.heap.size w w16) := S15.out.grown hg16 (fun k hk => (World.ownsRow.lt FG0_15.out k hk).1)
  have FR0_16 : Hid (OwnHv w16 w.heap.size (.slice x4_0 out.length y4_0) out) := rowGrow FR0_15.out hg16 (apartSym AP_R0_G0.out)
  have FG0_16 : Hid (OwnHv w16 w.heap.size (.slice x7_0 out.length y7_0) (marksHv 1 out.length)) := hm16
  clear hm16 hg16
  go_wp2_with fail
  refine (HG0.out _ _ _ FG0_16.out).mono ?_
  rintro e q1 ⟨rfl, hq1⟩
  obtain rfl : w16 = q1 := hq1.symm
  go_wp2_with fail
  refine (toHvs_any _ _ a (HRD0.out _ S16.out) LB0.out).mono ?_
  rintro e w17 ⟨v17, rfl, ho17, hb17⟩
  obtain ⟨x17, y17, rfl⟩ := ho17.shape
  have S17 : Hid (Since w.heap.size w w17) := S16.out.step hb17
  have N17 : Hid (OwnHv w17 w16.heap.size (.slice x17 a.length y17) a) := ho17
  have B17 : Hid (Below w16.heap.size w16 w17) := hb17
  have FR0_17 : Hid (OwnHv w17 w.heap.size (.slice x4_0 out.length y4_0) out) := rowBelow FR0_16.out B17.out
  have FG0_17 : Hid (OwnHv w17 w.heap.size (.slice x7_0 out.length y7_0) (marksHv 1 out.length)) := rowBelow FG0_16.out B17.out
  have FD0_17 : Hid (OwnHv w17 w.heap.size (.slice x17 a.length y17) a) := ho17.mono S16.out.2
  clear ho17 hb17
  go_wp2_with fail
  refine (toHvs_any _ _ b (HRD1.out _ S17.out) LB1.out).mono ?_
  rintro e w18 ⟨v18, rfl, ho18, hb18⟩
  obtain ⟨x18, y18, rfl⟩ := ho18.shape
  have S18 : Hid (Since w.heap.size w w18) := S17.out.step hb18
  have N18 : Hid (OwnHv w18 w17.heap.size (.slice x18 b.length y18) b) := ho18
  have B18 : Hid (Below w17.heap.size w17 w18) := hb18
  have FR0_18 : Hid (OwnHv w18 w.heap.size (.slice x4_0 out.length y4_0) out) := rowBelow FR0_17.out B18.out
  have FG0_18 : Hid (OwnHv w18 w.heap.size (.slice x7_0 out.length y7_0) (marksHv 1 out.length)) := rowBelow FG0_17.out B18.out
  have FD0_18 : Hid (OwnHv w18 w.heap.size (.slice x17 a.length y17) a) := rowBelow FD0_17.out B18.out
  have FD1_18 : Hid (OwnHv w18 w.heap.size (.slice x18 b.length y18) b) := ho18.mono S17.out.2
  clear ho18 hb18
  go_wp2_with fail
  refine (CI.out _ _ _ _ FD0_18.out FD1_18.out).mono ?_
  rintro e w19 ⟨u19_0, rfl, hu19_0, hb19⟩
  obtain ⟨x19_0, y19_0, rfl⟩ := rowShape hu19_0
  have S19 : Hid (Since w.heap.size w w19) := S18.out.step hb19
  have FR0_19 : Hid (OwnHv w19 w.heap.size (.slice x4_0 out.length y4_0) out) := rowBelow FR0_18.out hb19
  have FG0_19 : Hid (OwnHv w19 w.heap.size (.slice x7_0 out.length y7_0) (marksHv 1 out.length)) := rowBelow FG0_18.out hb19
  have FD0_19 : Hid (OwnHv w19 w.heap.size (.slice x17 a.length y17) a) := rowBelow FD0_18.out hb19
  have FD1_19 : Hid (OwnHv w19 w.heap.size (.slice x18 b.length y18) b) := rowBelow FD1_18.out hb19
  have FH0_19 : Hid (OwnHv w19 w.heap.size (.slice x19_0 out.length y19_0) out) := rowMono hu19_0 S18.out.2
  clear hb19 hu19_0
  go_wp2_with fail
  refine (eqHvs_same _ _ _ out FH0_19.out.reads FR0_19.out.reads OL0.out).mono ?_
  rintro e w20 ⟨rfl, hb20⟩
  have S20 : Hid (Since w.heap.size w w20) := S19.out.step hb20
  have FR0_20 : Hid (OwnHv w20 w.heap.size (.slice x4_0 out.length y4_0) out) := rowBelow FR0_19.out hb20
  have FG0_20 : Hid (OwnHv w20 w.heap.size (.slice x7_0 out.length y7_0) (marksHv 1 out.length)) := rowBelow FG0_19.out hb20
  have FH0_20 : Hid (OwnHv w20 w.heap.size (.slice x19_0 out.length y19_0) out) := rowBelow FH0_19.out hb20
  clear hb20
  go_wp2_with fail
  refine (HG0.out _ _ _ FG0_20.out).mono ?_
  rintro e q2 ⟨rfl, hq2⟩
  obtain rfl : w20 = q2 := hq2.symm
  go_wp2
  go_ret
  exact ⟨rfl, S20.out.1⟩

set_option maxRecDepth 100000 in
theorem contract (H : Type) (enc : TypeId × Value → H) (W : World) (base : Nat) (args : Array Value) (ds gs : List (DataW H)) (before : List MemPlace)
    (hval : ∀ (j : Nat) t v, Try.f6.params[j]? = some t → args[j]? = some v → Value.okWide Try.prog W .any base t v)
    (hW : DataW.Whole enc Try.prog Try.f6.params.toList Rows.fnExactMergeHavesSpec.vars false W args.toList ds gs before) :
    Calls Try.prog 6 args W fun e W' => ∃ v, e = .returned v ∧ Rows.fnExactMergeHavesSpec.post enc Try.prog Try.f6 false true false false W args v W' := by
  have hW' := hW
  obtain ⟨p, q, hA0, hV0, rfl, hfz, hnd⟩ := hW
  have hA : DataW.TrodAll enc Try.prog W 0 (fun _ => true) true Try.f6.params.toList args.toList ds p := hA0
  rw [Try.params6] at hA hval
  obtain ⟨v0, vs0, d0, ds0, p0, q0, hargs, rfl, rfl, h0, r0⟩ := trodAll_cons hA
  obtain ⟨v1, vs1, d1, ds1, p1, q1, rfl, rfl, rfl, h1, r1⟩ := trodAll_cons r0
  obtain ⟨rfl, rfl, rfl⟩ := trodAll_nil r1
  obtain rfl : args = #[v0, v1] := by cases args; simp_all
  obtain ⟨rfl, rfl⟩ := trodVars_none hV0
  obtain ⟨a0, len0, cap0, rfl⟩ := okWide_slice Try.underlying22 (hval 0 22 v0 rfl rfl)
  have k0 := h0
  have lt0 : ∀ x ∈ p0, x.block < W.heap.size := by obtain ⟨m, hm⟩ := k0; exact DataW.trod_lt m _ _ _ hm
  obtain ⟨ps0, hr0, hz0⟩ := Hvs_of k0
  obtain ⟨a1, len1, cap1, rfl⟩ := okWide_slice Try.underlying22 (hval 1 22 v1 rfl rfl)
  have k1 := h1
  have lt1 : ∀ x ∈ p1, x.block < W.heap.size := by obtain ⟨m, hm⟩ := k1; exact DataW.trod_lt m _ _ _ hm
  obtain ⟨ps1, hr1, hz1⟩ := Hvs_of k1
  clear hA0 hV0
  refine (walk _ ps0 _ ps1 W hr0 hz0 hr1 hz1).mono fun e W' ⟨he, bel⟩ => ?_
  subst he
  exact ⟨_, rfl, _, _, _, [], _, [], hW', trodAll_mk1 (shut_bool Try.underlying4 _), (trodAll_cons_mk (Below.trod laidOut (by kernel_rfl) (of_decide_eq_true (by kernel_rfl)) k0 bel lt0) (trodAll_cons_mk (Below.trod laidOut (by kernel_rfl) (of_decide_eq_true (by kernel_rfl)) k1 bel lt1) trodAll_mk0)), rfl, bel.frame _, fun h => by cases h⟩

set_option maxRecDepth 100000 in
theorem lifted (os : Os) (started : os.Started) (H : Type) (enc : TypeId × Value → H) :
    ReturnsInHanded {} Try.checked os 6 .any (Rows.fnExactMergeHavesSpec.pre6 enc Try.prog Try.f6 Rows.fnExactMergeHavesRow.domain false) (Rows.fnExactMergeHavesSpec.post enc Try.prog Try.f6 false true false false) := by
  refine returnsInHanded_of_change (C := Try.checked) own started (by kernel_rfl) Try.func6
    (ChangeSpec.witness6 (enc := enc) (C := Try.checked) false ⟨#[], #[.slice none 0 0, .slice none 0 0], []⟩ 8 (by kernel_rfl) (by kernel_rfl) (by kernel_rfl) (by kernel_rfl)) ?_
  intro W base args ds gs before hval hW _ _
  exact contract H enc W base args ds gs before hval hW

/-- The statement. -/
theorem said : Rows.FnExactMergeHavesSaid :=
  OpenClaim.holds_of_wide 6 Try.f6 rfl rfl rfl rfl rfl rfl rfl ⟨rfl, rfl, rfl, rfl, rfl⟩ rfl rfl rfl rfl rfl (by kernel_rfl) Try.func6 (by kernel_rfl)
    (of_decide_eq_true (by kernel_rfl)) (by unfold Func.isWrapper; first | (rw [if_pos (by decide +kernel)]; kernel_rfl) | (rw [if_neg (by decide +kernel)]; exact ⟨rfl, rfl⟩))
    (fun os started H enc _ => lifted os started H enc)
#print axioms said
end Go.Proofs.Ytkpdiojomgiocay.fnExactMergeHaves
