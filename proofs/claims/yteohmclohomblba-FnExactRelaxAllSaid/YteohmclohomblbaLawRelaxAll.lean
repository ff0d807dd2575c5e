/-
  Proved: for every number of spots, every list of edges and every list of numbers, 'RelaxAll' of the program at commit 6e82bbc90d1d51edc88e27ec1ad7625cac2ac660 answers as the model's 'RelaxAll', the list, every number of it, and the bool; it writes into no argument (the lists that it was handed read as before), keeps nothing of them (marks that are written into them change no answer), and its answer is memory of its own (marks that are written into it stay there behind another call). No condition.
-/
import Derived.Test.YteohmclohomblbaPlain
import Derived.Test.YteohmclohomblbaGrRelB
import Derived.Test.YteohmclohomblbaRowOfEd
import Derived.Test.YteohmclohomblbaRowLawEd
import Derived.Test.YteohmclohomblbaRowLaw0
namespace Go.Proofs.Yteohmclohomblba.fnExactRelaxAll
open Go.ChangeShapes Go.WideShapes Go.ChangeAt Go.RowKit
open Go.ChangeMaps (open_string shut_string)
set_option linter.unusedVariables false

set_option maxRecDepth 100000 in
set_option maxHeartbeats 8000000 in
theorem walk (n : Int) (v1 : Value) (l : List EdD) (v2 : Value) (fr : List Int) (w : World) (wf_n : (Lit.int .i64 n).wf = true) (h1 : ReadsEd w v1 l) (hl1 : l.length ≤ maxLen) (h2 : Reads w v2 fr) (hl2 : fr.length ≤ maxLen) :
    Calls Try.prog 8 #[.int .i64 n, v1, v2] w fun e w' => e = .returned (.bool true) ∧ Below w.heap.size w w' := by
  have HRD1 : Hid (∀ W1, Since w.heap.size w W1 → ReadsEd W1 v1 l) := fun W1 hb => h1.below hb.1
  have HL1 : Hid (l.length ≤ maxLen) := hl1
  obtain ⟨a1, c1, rfl⟩ := h1.shape
  have HRD2 : Hid (∀ W1, Since w.heap.size w W1 → Reads W1 v2 fr) := fun W1 hb => h2.below hb.1
  have HL2 : Hid (fr.length ≤ maxLen) := hl2
  obtain ⟨a2, c2, rfl⟩ := h2.shape
  have S1 : Hid (Since w.heap.size w w) := Since.start w
  obtain ⟨rel, hrel⟩ : ∃ rel, rel = relOut n l fr := ⟨_, rfl⟩
  obtain ⟨ok, hok⟩ : ∃ ok, ok = relOk n l fr := ⟨_, rfl⟩
  have OL0 : Hid (rel.length ≤ 4194304) := by show _ ≤ _; rw [hrel]; exact relOut_len n l fr
  clear h1 hl1 h2 hl2 wf_n
  go_enter Try.func8, Try.ntmps8
  rcases Int.lt_or_le (1048576 : Int) (fr.length : Int) with hN2 | hN2
  · go_wp2
    go_ret
    exact ⟨rfl, Below.refl _ _⟩
  have LL2 : Hid (fr.length ≤ 1048576) := by show _ ≤ _; omega
  have LB2 : Hid (fr.length ≤ 4194304) := by show _ ≤ _; omega
  have hN2' : ¬ ((1048576 : Int) < (fr.length : Int)) := by omega
  go_wp2_with fail
  refine (szEds_any _ _ l (1048576) (HRD1.out _ S1.out) HL1.out (by omega) (by omega)).mono ?_
  rintro e wz0 ⟨rfl, hwz0⟩
  obtain rfl : w = wz0 := hwz0.symm
  rcases Int.lt_or_le (1048576) (l.length : Int) with hle0 | hle0
  · rw [if_neg (by omega)]
    go_wp2
    go_ret
    exact ⟨rfl, S1.out.1⟩
  rw [if_pos hle0]
  obtain ⟨lf1, hlf1⟩ : ∃ z : Int, z = 1048576 - (l.length : Int) := ⟨_, rfl⟩
  rw [← hlf1]
  have hnn0 : ¬ (lf1 < 0) := by omega
  have hlo0 : 0 ≤ lf1 := by omega
  have hhi0 : lf1 ≤ 1048576 := by omega
  have LL1 : Hid (l.length ≤ 1048576) := by show _ ≤ _; omega
  have LB1 : Hid (l.length ≤ 4194304) := by show _ ≤ _; omega
  clear hlf1 hle0
  clear hlo0 hhi0
  have CS : Hid (∀ (W : World) (B : Nat) (z1 : Value) (z2 : Value), OwnEd W B z1 l → Own W B z2 fr → Calls Try.prog 27 #[.int .i64 n, z1, z2] W fun e W' => ∃ u0, e = .returned (.tuple #[u0, .bool ok]) ∧ Own W' W.heap.size u0 rel ∧ Below W.heap.size W W') := fun W B z1 z2 ho1 ho2 => by
    have := specRelaxAll_any W B z1 z2 n l fr ho1.reads ho2 (Nat.le_trans LL1.out (by decide)) LL2.out
    rw [← hrel, ← hok] at this
    exact this
  have CI : Hid (∀ (W : World) (B : Nat) (z1 : Value) (z2 : Value), OwnEd W B z1 l → Own W B z2 fr → Calls Try.prog 28 #[.int .i64 n, z1, z2] W fun e W' => ∃ u0, e = .returned (.tuple #[u0, .bool ok]) ∧ Own W' W.heap.size u0 rel ∧ Below W.heap.size W W') := fun W B z1 z2 ho1 ho2 => by
    have := implRelaxAll_any W B z1 z2 n l fr ho1.reads ho2 (Nat.le_trans LL1.out (by decide)) LL2.out
    rw [← hrel, ← hok] at this
    exact this
  clear hrel hok
  obtain ⟨k1, hk1⟩ : ∃ z : Nat, z = 1 + 3 * l.length := ⟨_, rfl⟩
  have MX1 : Hid (∀ (W : World) (B : Nat) (z : Value), OwnEd W B z l → Calls Try.prog 17 #[z, .int .i64 ((1 : Nat) : Int)] W fun e W' => e = .returned (.int .i64 ((k1 : Nat) : Int)) ∧ W.grownBy W' z.ownBlock) := fun W B z ho => by
    rw [hk1]
    exact (markEds_any W B z 1 l ho LB1.out (by have := LL1.out; have := LL2.out; omega)).mono fun e w' hh => ⟨hh.1, hh.2.2.2⟩
  obtain ⟨k2, hk2⟩ : ∃ z : Nat, z = k1 + 1 * fr.length := ⟨_, rfl⟩
  have MX2 : Hid (∀ (W : World) (B : Nat) (z : Value), Own W B z fr → Calls Try.prog 18 #[z, .int .i64 ((k1 : Nat) : Int)] W fun e W' => e = .returned (.int .i64 ((k2 : Nat) : Int)) ∧ W.grownBy W' z.ownBlock) := fun W B z ho => by
    rw [hk2]
    exact (markIs_any W B z k1 fr ho LB2.out (by have := LL1.out; have := LL2.out; omega)).mono fun e w' hh => ⟨hh.1, hh.2.2.2⟩
  have hkn : ¬ ((k2 : Nat) : Int) < 0 := by omega
  obtain ⟨m0, hm0⟩ : ∃ z : Nat, z = 1 + 1 * rel.length := ⟨_, rfl⟩
  have MG0 : Hid (∀ (W : World) (B : Nat) (z : Value), Own W B z rel → Calls Try.prog 18 #[z, .int .i64 ((1 : Nat) : Int)] W fun e W' => e = .returned (.int .i64 ((m0 : Nat) : Int)) ∧ Own W' B z (marks ((1 : Nat) : Int) rel.length) ∧ W'.heap.size = W.heap.size ∧ W.grownBy W' z.ownBlock) := fun W B z ho => by
    rw [hm0]
    exact markIs_any W B z 1 rel ho OL0.out (by have := OL0.out; omega)
  have HG0 : Hid (∀ (W : World) (B : Nat) (z : Value), Own W B z (marks ((1 : Nat) : Int) rel.length) → Calls Try.prog 19 #[z, .int .i64 ((1 : Nat) : Int)] W fun e W' => e = .returned (.int .i64 ((m0 : Nat) : Int)) ∧ W' = W) := fun W B z ho => by
    rw [hm0]
    exact heldIs_yes W z 1 rel.length ho.reads OL0.out (by have := OL0.out; omega)
  have LM0 : Hid ((marks ((1 : Nat) : Int) rel.length).length = rel.length) := by show _ = _; exact marks_len _ _
  have hmn0 : ¬ ((m0 : Nat) : Int) < 0 := by omega
  clear hk1 hk2 hm0
  go_wp2_with fail
  refine (toEds_any _ _ l (HRD1.out _ S1.out) LB1.out).mono ?_
  rintro e w2 ⟨v2, rfl, ho2, hb2⟩
  obtain ⟨x2, y2, rfl⟩ := ho2.shape
  have S2 : Hid (Since w.heap.size w w2) := S1.out.step hb2
  have N2 : Hid (OwnEd w2 w.heap.size (.slice x2 l.length y2) l) := ho2
  have B2 : Hid (Below w.heap.size w w2) := hb2
  have FC1_2 : Hid (OwnEd w2 w.heap.size (.slice x2 l.length y2) l) := ho2.mono S1.out.2
  clear ho2 hb2
  go_wp2_with fail
  refine (toInts_any _ _ fr (HRD2.out _ S2.out) LB2.out).mono ?_
  rintro e w3 ⟨v3, rfl, ho3, hb3⟩
  obtain ⟨x3, y3, rfl⟩ := ho3.shape
  have S3 : Hid (Since w.heap.size w w3) := S2.out.step hb3
  have N3 : Hid (Own w3 w2.heap.size (.slice x3 fr.length y3) fr) := ho3
  have B3 : Hid (Below w2.heap.size w2 w3) := hb3
  have FC1_3 : Hid (OwnEd w3 w.heap.size (.slice x2 l.length y2) l) := rowBelow FC1_2.out B3.out
  have FC2_3 : Hid (Own w3 w.heap.size (.slice x3 fr.length y3) fr) := ho3.mono S2.out.2
  clear ho3 hb3
  go_wp2_with fail
  refine (CS.out _ _ _ _ FC1_3.out FC2_3.out).mono ?_
  rintro e w4 ⟨u4_0, rfl, hu4_0, hb4⟩
  obtain ⟨x4_0, y4_0, rfl⟩ := rowShape hu4_0
  have S4 : Hid (Since w.heap.size w w4) := S3.out.step hb4
  have FC1_4 : Hid (OwnEd w4 w.heap.size (.slice x2 l.length y2) l) := rowBelow FC1_3.out hb4
  have FC2_4 : Hid (Own w4 w.heap.size (.slice x3 fr.length y3) fr) := rowBelow FC2_3.out hb4
  have FR0_4 : Hid (Own w4 w.heap.size (.slice x4_0 rel.length y4_0) rel) := rowMono hu4_0 S3.out.2
  clear hb4 hu4_0
  go_wp2_with fail
  refine (toEds_any _ _ l (HRD1.out _ S4.out) LB1.out).mono ?_
  rintro e w5 ⟨v5, rfl, ho5, hb5⟩
  obtain ⟨x5, y5, rfl⟩ := ho5.shape
  have S5 : Hid (Since w.heap.size w w5) := S4.out.step hb5
  have N5 : Hid (OwnEd w5 w4.heap.size (.slice x5 l.length y5) l) := ho5
  have B5 : Hid (Below w4.heap.size w4 w5) := hb5
  have FR0_5 : Hid (Own w5 w.heap.size (.slice x4_0 rel.length y4_0) rel) := rowBelow FR0_4.out B5.out
  have AP_R0_X1 : Hid (∀ k, (Value.slice x4_0 rel.length y4_0).ownBlock = some k → (Value.slice x5 l.length y5).ownBlock ≠ some k) := rowsApartLt FR0_4.out N5.out (Nat.le_refl _)
  have FX1_5 : Hid (OwnEd w5 w.heap.size (.slice x5 l.length y5) l) := ho5.mono S4.out.2
  clear ho5 hb5
  go_wp2_with fail
  refine (toInts_any _ _ fr (HRD2.out _ S5.out) LB2.out).mono ?_
  rintro e w6 ⟨v6, rfl, ho6, hb6⟩
  obtain ⟨x6, y6, rfl⟩ := ho6.shape
  have S6 : Hid (Since w.heap.size w w6) := S5.out.step hb6
  have N6 : Hid (Own w6 w5.heap.size (.slice x6 fr.length y6) fr) := ho6
  have B6 : Hid (Below w5.heap.size w5 w6) := hb6
  have FR0_6 : Hid (Own w6 w.heap.size (.slice x4_0 rel.length y4_0) rel) := rowBelow FR0_5.out B6.out
  have AP_R0_X2 : Hid (∀ k, (Value.slice x4_0 rel.length y4_0).ownBlock = some k → (Value.slice x6 fr.length y6).ownBlock ≠ some k) := rowsApartLt FR0_5.out N6.out (Nat.le_refl _)
  have FX1_6 : Hid (OwnEd w6 w.heap.size (.slice x5 l.length y5) l) := rowBelow FX1_5.out B6.out
  have AP_X1_X2 : Hid (∀ k, (Value.slice x5 l.length y5).ownBlock = some k → (Value.slice x6 fr.length y6).ownBlock ≠ some k) := rowsApartLt FX1_5.out N6.out (Nat.le_refl _)
  have FX2_6 : Hid (Own w6 w.heap.size (.slice x6 fr.length y6) fr) := ho6.mono S5.out.2
  clear ho6 hb6
  go_wp2_with fail
  refine (CI.out _ _ _ _ FX1_6.out FX2_6.out).mono ?_
  rintro e w7 ⟨u7_0, rfl, hu7_0, hb7⟩
  obtain ⟨x7_0, y7_0, rfl⟩ := rowShape hu7_0
  have S7 : Hid (Since w.heap.size w w7) := S6.out.step hb7
  have FR0_7 : Hid (Own w7 w.heap.size (.slice x4_0 rel.length y4_0) rel) := rowBelow FR0_6.out hb7
  have AP_R0_G0 : Hid (∀ k, (Value.slice x4_0 rel.length y4_0).ownBlock = some k → (Value.slice x7_0 rel.length y7_0).ownBlock ≠ some k) := rowsApartLt FR0_6.out hu7_0 (Nat.le_refl _)
  have FX1_7 : Hid (OwnEd w7 w.heap.size (.slice x5 l.length y5) l) := rowBelow FX1_6.out hb7
  have AP_X1_G0 : Hid (∀ k, (Value.slice x5 l.length y5).ownBlock = some k → (Value.slice x7_0 rel.length y7_0).ownBlock ≠ some k) := rowsApartLt FX1_6.out hu7_0 (Nat.le_refl _)
  have FX2_7 : Hid (Own w7 w.heap.size (.slice x6 fr.length y6) fr) := rowBelow FX2_6.out hb7
  have AP_X2_G0 : Hid (∀ k, (Value.slice x6 fr.length y6).ownBlock = some k → (Value.slice x7_0 rel.length y7_0).ownBlock ≠ some k) := rowsApartLt FX2_6.out hu7_0 (Nat.le_refl _)
  have FG0_7 : Hid (Own w7 w.heap.size (.slice x7_0 rel.length y7_0) rel) := rowMono hu7_0 S6.out.2
  clear hb7 hu7_0
  go_wp2_with fail
  refine (eqIs_same _ _ _ rel FG0_7.out.reads FR0_7.out.reads OL0.out).mono ?_
  rintro e w8 ⟨rfl, hb8⟩
  have S8 : Hid (Since w.heap.size w w8) := S7.out.step hb8
  have FR0_8 : Hid (Own w8 w.heap.size (.slice x4_0 rel.length y4_0) rel) := rowBelow FR0_7.out hb8
  have FX1_8 : Hid (OwnEd w8 w.heap.size (.slice x5 l.length y5) l) := rowBelow FX1_7.out hb8
  have FX2_8 : Hid (Own w8 w.heap.size (.slice x6 fr.length y6) fr) := rowBelow FX2_7.out hb8
  have FG0_8 : Hid (Own w8 w.heap.size (.slice x7_0 rel.length y7_0) rel) := rowBelow FG0_7.out hb8
  clear hb8
  go_wp2_with fail
  refine (toEds_any _ _ l (HRD1.out _ S8.out) LB1.out).mono ?_
  rintro e w9 ⟨v9, rfl, ho9, hb9⟩
  obtain ⟨x9, y9, rfl⟩ := ho9.shape
  have S9 : Hid (Since w.heap.size w w9) := S8.out.step hb9
  have N9 : Hid (OwnEd w9 w8.heap.size (.slice x9 l.length y9) l) := ho9
  have B9 : Hid (Below w8.heap.size w8 w9) := hb9
  have FR0_9 : Hid (Own w9 w.heap.size (.slice x4_0 rel.length y4_0) rel) := rowBelow FR0_8.out B9.out
  have FX1_9 : Hid (OwnEd w9 w.heap.size (.slice x5 l.length y5) l) := rowBelow FX1_8.out B9.out
  have FX2_9 : Hid (Own w9 w.heap.size (.slice x6 fr.length y6) fr) := rowBelow FX2_8.out B9.out
  have FG0_9 : Hid (Own w9 w.heap.size (.slice x7_0 rel.length y7_0) rel) := rowBelow FG0_8.out B9.out
  have FC_9 : Hid (OwnEd w9 w.heap.size (.slice x9 l.length y9) l) := ho9.mono S8.out.2
  clear ho9 hb9
  go_wp2_with fail
  refine (eqEds_same _ _ _ l FX1_9.out.reads FC_9.out.reads LB1.out).mono ?_
  rintro e w10 ⟨rfl, hb10⟩
  have S10 : Hid (Since w.heap.size w w10) := S9.out.step hb10
  have FR0_10 : Hid (Own w10 w.heap.size (.slice x4_0 rel.length y4_0) rel) := rowBelow FR0_9.out hb10
  have FX1_10 : Hid (OwnEd w10 w.heap.size (.slice x5 l.length y5) l) := rowBelow FX1_9.out hb10
  have FX2_10 : Hid (Own w10 w.heap.size (.slice x6 fr.length y6) fr) := rowBelow FX2_9.out hb10
  have FG0_10 : Hid (Own w10 w.heap.size (.slice x7_0 rel.length y7_0) rel) := rowBelow FG0_9.out hb10
  have FC_10 : Hid (OwnEd w10 w.heap.size (.slice x9 l.length y9) l) := rowBelow FC_9.out hb10
  clear hb10
  go_wp2_with fail
  refine (toInts_any _ _ fr (HRD2.out _ S10.out) LB2.out).mono ?_
  rintro e w11 ⟨v11, rfl, ho11, hb11⟩
  obtain ⟨x11, y11, rfl⟩ := ho11.shape
  have S11 : Hid (Since w.heap.size w w11) := S10.out.step hb11
  have N11 : Hid (Own w11 w10.heap.size (.slice x11 fr.length y11) fr) := ho11
  have B11 : Hid (Below w10.heap.size w10 w11) := hb11
  have FR0_11 : Hid (Own w11 w.heap.size (.slice x4_0 rel.length y4_0) rel) := rowBelow FR0_10.out B11.out
  have FX1_11 : Hid (OwnEd w11 w.heap.size (.slice x5 l.length y5) l) := rowBelow FX1_10.out B11.out
  have FX2_11 : Hid (Own w11 w.heap.size (.slice x6 fr.length y6) fr) := rowBelow FX2_10.out B11.out
  have FG0_11 : Hid (Own w11 w.heap.size (.slice x7_0 rel.length y7_0) rel) := rowBelow FG0_10.out B11.out
  have FC_11 : Hid (Own w11 w.heap.size (.slice x11 fr.length y11) fr) := ho11.mono S10.out.2
  clear ho11 hb11
  go_wp2_with fail
  refine (eqIs_same _ _ _ fr FX2_11.out.reads FC_11.out.reads LB2.out).mono ?_
  rintro e w12 ⟨rfl, hb12⟩
  have S12 : Hid (Since w.heap.size w w12) := S11.out.step hb12
  have FR0_12 : Hid (Own w12 w.heap.size (.slice x4_0 rel.length y4_0) rel) := rowBelow FR0_11.out hb12
  have FX1_12 : Hid (OwnEd w12 w.heap.size (.slice x5 l.length y5) l) := rowBelow FX1_11.out hb12
  have FX2_12 : Hid (Own w12 w.heap.size (.slice x6 fr.length y6) fr) := rowBelow FX2_11.out hb12
  have FG0_12 : Hid (Own w12 w.heap.size (.slice x7_0 rel.length y7_0) rel) := rowBelow FG0_11.out hb12
  have FC_12 : Hid (Own w12 w.heap.size (.slice x11 fr.length y11) fr) := rowBelow FC_11.out hb12
  clear hb12
  go_wp2_with fail
  refine (MX1.out _ _ _ FX1_12.out).mono ?_
  rintro e w13 ⟨rfl, hg13⟩
  have S13 : Hid (Since w.heap.size w w13) := S12.out.grown hg13 (fun k hk => (World.ownsRow.lt FX1_12.out k hk).1)
  have FR0_13 : Hid (Own w13 w.heap.size (.slice x4_0 rel.length y4_0) rel) := rowGrow FR0_12.out hg13 (apartSym AP_R0_X1.out)
  have FX2_13 : Hid (Own w13 w.heap.size (.slice x6 fr.length y6) fr) := rowGrow FX2_12.out hg13 (AP_X1_X2.out)
  have FG0_13 : Hid (Own w13 w.heap.size (.slice x7_0 rel.length y7_0) rel) := rowGrow FG0_12.out hg13 (AP_X1_G0.out)
  clear hg13
  go_wp2_with fail
  refine (MX2.out _ _ _ FX2_13.out).mono ?_
  rintro e w14 ⟨rfl, hg14⟩
  have S14 : Hid (Since w.heap.size w w14) := S13.out.grown hg14 (fun k hk => (World.ownsRow.lt FX2_13.out k hk).1)
  have FR0_14 : Hid (Own w14 w.heap.size (.slice x4_0 rel.length y4_0) rel) := rowGrow FR0_13.out hg14 (apartSym AP_R0_X2.out)
  have FG0_14 : Hid (Own w14 w.heap.size (.slice x7_0 rel.length y7_0) rel) := rowGrow FG0_13.out hg14 (AP_X2_G0.out)
  clear hg14
  go_wp2_with fail
  refine (eqIs_same _ _ _ rel FG0_14.out.reads FR0_14.out.reads OL0.out).mono ?_
  rintro e w15 ⟨rfl, hb15⟩
  have S15 : Hid (Since w.heap.size w w15) := S14.out.step hb15
  have FR0_15 : Hid (Own w15 w.heap.size (.slice x4_0 rel.length y4_0) rel) := rowBelow FR0_14.out hb15
  have FG0_15 : Hid (Own w15 w.heap.size (.slice x7_0 rel.length y7_0) rel) := rowBelow FG0_14.out hb15
  clear hb15
  go_wp2_with fail
  refine (MG0.out _ _ _ FG0_15.out).mono ?_
  rintro e w16 ⟨rfl, hm16, -, hg16⟩
  have S16 : Hid (Since w.heap.size w w16) := S15.out.grown hg16 (fun k hk => (World.ownsRow.lt FG0_15.out k hk).1)
  have FR0_16 : Hid (Own w16 w.heap.size (.slice x4_0 rel.length y4_0) rel) := rowGrow FR0_15.out hg16 (apartSym AP_R0_G0.out)
  have FG0_16 : Hid (Own w16 w.heap.size (.slice x7_0 rel.length y7_0) (marks ((1 : Nat) : Int) rel.length)) := hm16
  clear hm16 hg16
  go_wp2_with fail
  refine (HG0.out _ _ _ FG0_16.out).mono ?_
  rintro e q1 ⟨rfl, hq1⟩
  obtain rfl : w16 = q1 := hq1.symm
  go_wp2_with fail
  refine (toEds_any _ _ l (HRD1.out _ S16.out) LB1.out).mono ?_
  rintro e w17 ⟨v17, rfl, ho17, hb17⟩
  obtain ⟨x17, y17, rfl⟩ := ho17.shape
  have S17 : Hid (Since w.heap.size w w17) := S16.out.step hb17
  have N17 : Hid (OwnEd w17 w16.heap.size (.slice x17 l.length y17) l) := ho17
  have B17 : Hid (Below w16.heap.size w16 w17) := hb17
  have FR0_17 : Hid (Own w17 w.heap.size (.slice x4_0 rel.length y4_0) rel) := rowBelow FR0_16.out B17.out
  have FG0_17 : Hid (Own w17 w.heap.size (.slice x7_0 rel.length y7_0) (marks ((1 : Nat) : Int) rel.length)) := rowBelow FG0_16.out B17.out
  have FD1_17 : Hid (OwnEd w17 w.heap.size (.slice x17 l.length y17) l) := ho17.mono S16.out.2
  clear ho17 hb17
  go_wp2_with fail
  refine (toInts_any _ _ fr (HRD2.out _ S17.out) LB2.out).mono ?_
  rintro e w18 ⟨v18, rfl, ho18, hb18⟩
  obtain ⟨x18, y18, rfl⟩ := ho18.shape
  have S18 : Hid (Since w.heap.size w w18) := S17.out.step hb18
  have N18 : Hid (Own w18 w17.heap.size (.slice x18 fr.length y18) fr) := ho18
  have B18 : Hid (Below w17.heap.size w17 w18) := hb18
  have FR0_18 : Hid (Own w18 w.heap.size (.slice x4_0 rel.length y4_0) rel) := rowBelow FR0_17.out B18.out
  have FG0_18 : Hid (Own w18 w.heap.size (.slice x7_0 rel.length y7_0) (marks ((1 : Nat) : Int) rel.length)) := rowBelow FG0_17.out B18.out
  have FD1_18 : Hid (OwnEd w18 w.heap.size (.slice x17 l.length y17) l) := rowBelow FD1_17.out B18.out
  have FD2_18 : Hid (Own w18 w.heap.size (.slice x18 fr.length y18) fr) := ho18.mono S17.out.2
  clear ho18 hb18
  go_wp2_with fail
  refine (CI.out _ _ _ _ FD1_18.out FD2_18.out).mono ?_
  rintro e w19 ⟨u19_0, rfl, hu19_0, hb19⟩
  obtain ⟨x19_0, y19_0, rfl⟩ := rowShape hu19_0
  have S19 : Hid (Since w.heap.size w w19) := S18.out.step hb19
  have FR0_19 : Hid (Own w19 w.heap.size (.slice x4_0 rel.length y4_0) rel) := rowBelow FR0_18.out hb19
  have FG0_19 : Hid (Own w19 w.heap.size (.slice x7_0 rel.length y7_0) (marks ((1 : Nat) : Int) rel.length)) := rowBelow FG0_18.out hb19
  have FD1_19 : Hid (OwnEd w19 w.heap.size (.slice x17 l.length y17) l) := rowBelow FD1_18.out hb19
  have FD2_19 : Hid (Own w19 w.heap.size (.slice x18 fr.length y18) fr) := rowBelow FD2_18.out hb19
  have FH0_19 : Hid (Own w19 w.heap.size (.slice x19_0 rel.length y19_0) rel) := rowMono hu19_0 S18.out.2
  clear hb19 hu19_0
  go_wp2_with fail
  refine (eqIs_same _ _ _ rel FH0_19.out.reads FR0_19.out.reads OL0.out).mono ?_
  rintro e w20 ⟨rfl, hb20⟩
  have S20 : Hid (Since w.heap.size w w20) := S19.out.step hb20
  have FR0_20 : Hid (Own w20 w.heap.size (.slice x4_0 rel.length y4_0) rel) := rowBelow FR0_19.out hb20
  have FG0_20 : Hid (Own w20 w.heap.size (.slice x7_0 rel.length y7_0) (marks ((1 : Nat) : Int) rel.length)) := rowBelow FG0_19.out hb20
  have FH0_20 : Hid (Own w20 w.heap.size (.slice x19_0 rel.length y19_0) rel) := rowBelow FH0_19.out hb20
  clear hb20
  go_wp2_with fail
  refine (HG0.out _ _ _ FG0_20.out).mono ?_
  rintro e q2 ⟨rfl, hq2⟩
  obtain rfl : w20 = q2 := hq2.symm
  go_wp2
  go_ret
  exact ⟨rfl, S20.out.1⟩

set_option maxRecDepth 100000 in
theorem contract (H : Type) (enc : TypeId × Value → H) (W : World) (base : Nat) (args : Array Value) (ds gs : List (DataW H)) (before : List MemPlace)
    (hval : ∀ (j : Nat) t v, Try.f8.params[j]? = some t → args[j]? = some v → Value.okWide Try.prog W .any base t v)
    (hW : DataW.Whole enc Try.prog Try.f8.params.toList Rows.fnExactRelaxAllSpec.vars false W args.toList ds gs before) :
    Calls Try.prog 8 args W fun e W' => ∃ v, e = .returned v ∧ Rows.fnExactRelaxAllSpec.post enc Try.prog Try.f8 false true false false W args v W' := by
  have hW' := hW
  obtain ⟨p, q, hA0, hV0, rfl, hfz, hnd⟩ := hW
  have hA : DataW.TrodAll enc Try.prog W 0 (fun _ => true) true Try.f8.params.toList args.toList ds p := hA0
  rw [Try.params8] at hA hval
  obtain ⟨v0, vs0, d0, ds0, p0, q0, hargs, rfl, rfl, h0, r0⟩ := trodAll_cons hA
  obtain ⟨v1, vs1, d1, ds1, p1, q1, rfl, rfl, rfl, h1, r1⟩ := trodAll_cons r0
  obtain ⟨v2, vs2, d2, ds2, p2, q2, rfl, rfl, rfl, h2, r2⟩ := trodAll_cons r1
  obtain ⟨rfl, rfl, rfl⟩ := trodAll_nil r2
  obtain rfl : args = #[v0, v1, v2] := by cases args; simp_all
  obtain ⟨rfl, rfl⟩ := trodVars_none hV0
  obtain ⟨a0, rfl, rfl, rfl, w0⟩ := open_int Try.underlying3 (hval 0 3 v0 rfl rfl) h0
  obtain ⟨a1, len1, cap1, rfl⟩ := okWide_slice Try.underlying22 (hval 1 22 v1 rfl rfl)
  have k1 := h1
  have lt1 : ∀ x ∈ p1, x.block < W.heap.size := by obtain ⟨m, hm⟩ := k1; exact DataW.trod_lt m _ _ _ hm
  obtain ⟨ps1, hr1, hz1⟩ := Eds_of k1
  obtain ⟨a2, len2, cap2, rfl⟩ := okWide_slice Try.underlying30 (hval 2 30 v2 rfl rfl)
  have k2 := h2
  have lt2 : ∀ x ∈ p2, x.block < W.heap.size := by obtain ⟨m, hm⟩ := k2; exact DataW.trod_lt m _ _ _ hm
  obtain ⟨zs2, hr2, hz2⟩ := ints_of k2
  clear hA0 hV0
  refine (walk a0 _ ps1 _ zs2 W w0 hr1 hz1 hr2 hz2).mono fun e W' ⟨he, bel⟩ => ?_
  subst he
  exact ⟨_, rfl, _, _, _, [], _, [], hW', trodAll_mk1 (shut_bool Try.underlying4 _), (trodAll_cons_mk (shut_int Try.underlying3 w0) (trodAll_cons_mk (Below.trod laidOut (by kernel_rfl) (of_decide_eq_true (by kernel_rfl)) k1 bel lt1) (trodAll_cons_mk (Below.trod laidOut (by kernel_rfl) (of_decide_eq_true (by kernel_rfl)) k2 bel lt2) trodAll_mk0))), rfl, bel.frame _, fun h => by cases h⟩

set_option maxRecDepth 100000 in
theorem lifted (os : Os) (started : os.Started) (H : Type) (enc : TypeId × Value → H) :
    ReturnsInHanded {} Try.checked os 8 .any (Rows.fnExactRelaxAllSpec.pre6 enc Try.prog Try.f8 Rows.fnExactRelaxAllRow.domain false) (Rows.fnExactRelaxAllSpec.post enc Try.prog Try.f8 false true false false) := by
  refine returnsInHanded_of_change (C := Try.checked) own started (by kernel_rfl) Try.func8
    (ChangeSpec.witness6 (enc := enc) (C := Try.checked) false ⟨#[], #[.int .i64 0, .slice none 0 0, .slice none 0 0], []⟩ 8 (by kernel_rfl) (by kernel_rfl) (by kernel_rfl) (by kernel_rfl)) ?_
  intro W base args ds gs before hval hW _ _
  exact contract H enc W base args ds gs before hval hW

/-- The statement. -/
theorem said : Rows.FnExactRelaxAllSaid :=
  OpenClaim.holds_of_wide 8 Try.f8 rfl rfl rfl rfl rfl rfl rfl ⟨rfl, rfl, rfl, rfl, rfl⟩ rfl rfl rfl rfl rfl (by kernel_rfl) Try.func8 (by kernel_rfl)
    (of_decide_eq_true (by kernel_rfl)) (by unfold Func.isWrapper; first | (rw [if_pos (by decide +kernel)]; kernel_rfl) | (rw [if_neg (by decide +kernel)]; exact ⟨rfl, rfl⟩))
    (fun os started H enc _ => lifted os started H enc)
#print axioms said
end Go.Proofs.Yteohmclohomblba.fnExactRelaxAll
