/-
  Proved: for every two lists of haves and every number, 'SyncBy' of the program at commit 83a7ca3833eb answers as the model's 'SyncBy', both lists, the number and the bool; it writes into no argument (both lists that it was handed read as before), keeps nothing of them (marks that are written into them change no answer), and its answers are memory of their own (marks that are written into them stay there behind another call). No condition.
-/
import Derived.Test.YtkpdiojomgiocayPlain
import Derived.Test.YtkpdiojomgiocayLsSynS
import Derived.Test.YtkpdiojomgiocayRowOfHv
import Derived.Test.YtkpdiojomgiocayRowLaw0
namespace Go.Proofs.Ytkpdiojomgiocay.fnExactSyncBy
open Go.ChangeShapes Go.WideShapes Go.ChangeAt Go.RowKit
open Go.ChangeMaps (open_string shut_string)
set_option linter.unusedVariables false

set_option maxRecDepth 100000 in
set_option maxHeartbeats 8000000 in
theorem walk (v0 : Value) (a : List HvD) (v1 : Value) (b : List HvD) (most : Int) (w : World) (h0 : ReadsHv w v0 a) (hl0 : a.length ≤ maxLen) (h1 : ReadsHv w v1 b) (hl1 : b.length ≤ maxLen) (wf_most : (Lit.int .i64 most).wf = true) :
    Calls Try.prog 7 #[v0, v1, .int .i64 most] w fun e w' => e = .returned (.bool true) ∧ Below w.heap.size w w' := by
  have HRD0 : Hid (∀ W1, Since w.heap.size w W1 → ReadsHv W1 v0 a) := fun W1 hb => h0.below hb.1
  have HL0 : Hid (a.length ≤ maxLen) := hl0
  obtain ⟨a0, c0, rfl⟩ := h0.shape
  have HRD1 : Hid (∀ W1, Since w.heap.size w W1 → ReadsHv W1 v1 b) := fun W1 hb => h1.below hb.1
  have HL1 : Hid (b.length ≤ maxLen) := hl1
  obtain ⟨a1, c1, rfl⟩ := h1.shape
  have S1 : Hid (Since w.heap.size w w) := Since.start w
  obtain ⟨x, hx⟩ : ∃ x, x = syncA a b most := ⟨_, rfl⟩
  obtain ⟨y, hy⟩ : ∃ y, y = syncB a b most := ⟨_, rfl⟩
  obtain ⟨n, hn⟩ : ∃ n, n = syncN a b most := ⟨_, rfl⟩
  obtain ⟨ok, hok⟩ : ∃ ok, ok = syncOk a b most := ⟨_, rfl⟩
  have OL0 : Hid (x.length ≤ 4194304) := by show _ ≤ _; rw [hx]; exact syncA_len a b most
  have OL1 : Hid (y.length ≤ 4194304) := by show _ ≤ _; rw [hy]; exact syncB_len a b most
  clear h0 hl0 h1 hl1 wf_most
  go_enter Try.func7, Try.ntmps7
  go_wp2_with fail
  refine (szHvs_any _ _ a (1048576) (HRD0.out _ S1.out) HL0.out (by omega) (by omega)).mono ?_
  rintro e wz0 ⟨rfl, hwz0⟩
  obtain rfl : w = wz0 := hwz0.symm
  rcases Int.lt_or_le (1048576) (a.length : Int) with hle0 | hle0
  · rw [if_neg (by omega)]
    go_wp2
    go_ret
    exact ⟨rfl, S1.out.1⟩
  rw [if_pos hle0]
  obtain ⟨lf1, hlf1⟩ : ∃ z : Int, z = 1048576 - (a.length : Int) := ⟨_, rfl⟩
  rw [← hlf1]
  have hnn0 : ¬ (lf1 < 0) := by omega
  have hlo0 : 0 ≤ lf1 := by omega
  have hhi0 : lf1 ≤ 1048576 := by omega
  have LL0 : Hid (a.length ≤ 1048576) := by show _ ≤ _; omega
  have LB0 : Hid (a.length ≤ 4194304) := by show _ ≤ _; omega
  clear hlf1 hle0
  go_wp2_with fail
  refine (szHvs_any _ _ b lf1 (HRD1.out _ S1.out) HL1.out (by omega) (by omega)).mono ?_
  rintro e wz1 ⟨rfl, hwz1⟩
  obtain rfl : w = wz1 := hwz1.symm
  rcases Int.lt_or_le (lf1) (b.length : Int) with hle1 | hle1
  · rw [if_neg (by omega)]
    go_wp2
    go_ret
    exact ⟨rfl, S1.out.1⟩
  rw [if_pos hle1]
  obtain ⟨lf2, hlf2⟩ : ∃ z : Int, z = lf1 - (b.length : Int) := ⟨_, rfl⟩
  rw [← hlf2]
  have hnn1 : ¬ (lf2 < 0) := by omega
  have hlo1 : 0 ≤ lf2 := by omega
  have hhi1 : lf2 ≤ 1048576 := by omega
  have LL1 : Hid (b.length ≤ 1048576) := by show _ ≤ _; omega
  have LB1 : Hid (b.length ≤ 4194304) := by show _ ≤ _; omega
  clear hlf2 hle1
  clear hlo0 hhi0 hlo1 hhi1
  have CS : Hid (∀ (W : World) (B : Nat) (z0 : Value) (z1 : Value), OwnHv W B z0 a → OwnHv W B z1 b → Calls Try.prog 32 #[z0, z1, .int .i64 most] W fun e W' => ∃ u0 u1, e = .returned (.tuple #[u0, u1, .int .i64 n, .bool ok]) ∧ OwnHv W' W.heap.size u0 x ∧ OwnHv W' W.heap.size u1 y ∧ (∀ k, u0.ownBlock = some k → u1.ownBlock ≠ some k) ∧ Below W.heap.size W W') := fun W B z0 z1 ho0 ho1 => by
    have := specSyncBy_any W z0 z1 a b most ho0.lies ho1.lies LL0.out LL1.out
    rw [← hx, ← hy, ← hn, ← hok] at this
    exact this
  have CI : Hid (∀ (W : World) (B : Nat) (z0 : Value) (z1 : Value), OwnHv W B z0 a → OwnHv W B z1 b → Calls Try.prog 33 #[z0, z1, .int .i64 most] W fun e W' => ∃ u0 u1, e = .returned (.tuple #[u0, u1, .int .i64 n, .bool ok]) ∧ OwnHv W' W.heap.size u0 x ∧ OwnHv W' W.heap.size u1 y ∧ (∀ k, u0.ownBlock = some k → u1.ownBlock ≠ some k) ∧ Below W.heap.size W W') := fun W B z0 z1 ho0 ho1 => by
    have := implSyncBy_any W z0 z1 a b most ho0.lies ho1.lies LL0.out LL1.out
    rw [← hx, ← hy, ← hn, ← hok] at this
    exact this
  clear hx hy hn hok
  obtain ⟨k0, hk0⟩ : ∃ z : Nat, z = 1 + 2 * a.length := ⟨_, rfl⟩
  have MX0 : Hid (∀ (W : World) (B : Nat) (z : Value), OwnHv W B z a → Calls Try.prog 20 #[z, .int .i64 ((1 : Nat) : Int)] W fun e W' => e = .returned (.int .i64 ((k0 : Nat) : Int)) ∧ W.grownBy W' z.ownBlock) := fun W B z ho => by
    rw [hk0]
    exact (markHvs_any W B z 1 a ho LB0.out (by have := LL0.out; have := LL1.out; omega)).mono fun e w' hh => ⟨hh.1, hh.2.2.2⟩
  obtain ⟨k1, hk1⟩ : ∃ z : Nat, z = k0 + 2 * b.length := ⟨_, rfl⟩
  have MX1 : Hid (∀ (W : World) (B : Nat) (z : Value), OwnHv W B z b → Calls Try.prog 20 #[z, .int .i64 ((k0 : Nat) : Int)] W fun e W' => e = .returned (.int .i64 ((k1 : Nat) : Int)) ∧ W.grownBy W' z.ownBlock) := fun W B z ho => by
    rw [hk1]
    exact (markHvs_any W B z k0 b ho LB1.out (by have := LL0.out; have := LL1.out; omega)).mono fun e w' hh => ⟨hh.1, hh.2.2.2⟩
  have hkn : ¬ ((k1 : Nat) : Int) < 0 := by omega
  obtain ⟨m0, hm0⟩ : ∃ z : Nat, z = 1 + 2 * x.length := ⟨_, rfl⟩
  have MG0 : Hid (∀ (W : World) (B : Nat) (z : Value), OwnHv W B z x → Calls Try.prog 20 #[z, .int .i64 ((1 : Nat) : Int)] W fun e W' => e = .returned (.int .i64 ((m0 : Nat) : Int)) ∧ OwnHv W' B z (marksHv 1 x.length) ∧ W'.heap.size = W.heap.size ∧ W.grownBy W' z.ownBlock) := fun W B z ho => by
    rw [hm0]
    exact markHvs_any W B z 1 x ho OL0.out (by have := OL0.out; have := OL1.out; omega)
  have HG0 : Hid (∀ (W : World) (B : Nat) (z : Value), OwnHv W B z (marksHv 1 x.length) → Calls Try.prog 29 #[z, .int .i64 ((1 : Nat) : Int)] W fun e W' => e = .returned (.int .i64 ((m0 : Nat) : Int)) ∧ W' = W) := fun W B z ho => by
    rw [hm0]
    exact heldHvs_yes W z 1 x.length ho.reads OL0.out (by have := OL0.out; have := OL1.out; omega)
  have LM0 : Hid ((marksHv 1 x.length).length = x.length) := by show _ = _; exact marksHv_len _ _
  have hmn0 : ¬ ((m0 : Nat) : Int) < 0 := by omega
  obtain ⟨m1, hm1⟩ : ∃ z : Nat, z = m0 + 2 * y.length := ⟨_, rfl⟩
  have MG1 : Hid (∀ (W : World) (B : Nat) (z : Value), OwnHv W B z y → Calls Try.prog 20 #[z, .int .i64 ((m0 : Nat) : Int)] W fun e W' => e = .returned (.int .i64 ((m1 : Nat) : Int)) ∧ OwnHv W' B z (marksHv m0 y.length) ∧ W'.heap.size = W.heap.size ∧ W.grownBy W' z.ownBlock) := fun W B z ho => by
    rw [hm1]
    exact markHvs_any W B z m0 y ho OL1.out (by have := OL0.out; have := OL1.out; omega)
  have HG1 : Hid (∀ (W : World) (B : Nat) (z : Value), OwnHv W B z (marksHv m0 y.length) → Calls Try.prog 29 #[z, .int .i64 ((m0 : Nat) : Int)] W fun e W' => e = .returned (.int .i64 ((m1 : Nat) : Int)) ∧ W' = W) := fun W B z ho => by
    rw [hm1]
    exact heldHvs_yes W z m0 y.length ho.reads OL1.out (by have := OL0.out; have := OL1.out; omega)
  have LM1 : Hid ((marksHv m0 y.length).length = y.length) := by show _ = _; exact marksHv_len _ _
  have hmn1 : ¬ ((m1 : Nat) : Int) < 0 := by omega
  clear hk0 hk1 hm0 hm1
  go_wp2_with fail
  refine (toHvs_any _ _ a (HRD0.out _ S1.out) LB0.out).mono ?_
  rintro e w2 ⟨v2, rfl, ho2, hb2⟩
  obtain ⟨x2, y2, rfl⟩ := ho2.shape
  have S2 : Hid (Since w.heap.size w w2) := S1.out.step hb2
  have N2 : Hid (OwnHv w2 w.heap.size (.slice x2 a.length y2) a) := ho2
  have B2 : Hid (Below w.heap.size w w2) := hb2
  have FC0_2 : Hid (OwnHv w2 w.heap.size (.slice x2 a.length y2) a) := ho2.mono S1.out.2
  clear ho2 hb2
  go_wp2_with fail
  refine (toHvs_any _ _ b (HRD1.out _ S2.out) LB1.out).mono ?_
  rintro e w3 ⟨v3, rfl, ho3, hb3⟩
  obtain ⟨x3, y3, rfl⟩ := ho3.shape
  have S3 : Hid (Since w.heap.size w w3) := S2.out.step hb3
  have N3 : Hid (OwnHv w3 w2.heap.size (.slice x3 b.length y3) b) := ho3
  have B3 : Hid (Below w2.heap.size w2 w3) := hb3
  have FC0_3 : Hid (OwnHv w3 w.heap.size (.slice x2 a.length y2) a) := rowBelow FC0_2.out B3.out
  have FC1_3 : Hid (OwnHv w3 w.heap.size (.slice x3 b.length y3) b) := ho3.mono S2.out.2
  clear ho3 hb3
  go_wp2_with fail
  refine (CS.out _ _ _ _ FC0_3.out FC1_3.out).mono ?_
  rintro e w4 ⟨u4_0, u4_1, rfl, hu4_0, hu4_1, ha4_0_1, hb4⟩
  obtain ⟨x4_0, y4_0, rfl⟩ := rowShape hu4_0
  obtain ⟨x4_1, y4_1, rfl⟩ := rowShape hu4_1
  have S4 : Hid (Since w.heap.size w w4) := S3.out.step hb4
  have FC0_4 : Hid (OwnHv w4 w.heap.size (.slice x2 a.length y2) a) := rowBelow FC0_3.out hb4
  have FC1_4 : Hid (OwnHv w4 w.heap.size (.slice x3 b.length y3) b) := rowBelow FC1_3.out hb4
  have AP_R0_R1 : Hid (∀ k, (Value.slice x4_0 x.length y4_0).ownBlock = some k → (Value.slice x4_1 y.length y4_1).ownBlock ≠ some k) := ha4_0_1
  have FR0_4 : Hid (OwnHv w4 w.heap.size (.slice x4_0 x.length y4_0) x) := rowMono hu4_0 S3.out.2
  have FR1_4 : Hid (OwnHv w4 w.heap.size (.slice x4_1 y.length y4_1) y) := rowMono hu4_1 S3.out.2
  clear hb4 hu4_0 hu4_1 ha4_0_1
  go_wp2_with fail
  refine (toHvs_any _ _ a (HRD0.out _ S4.out) LB0.out).mono ?_
  rintro e w5 ⟨v5, rfl, ho5, hb5⟩
  obtain ⟨x5, y5, rfl⟩ := ho5.shape
  have S5 : Hid (Since w.heap.size w w5) := S4.out.step hb5
  have N5 : Hid (OwnHv w5 w4.heap.size (.slice x5 a.length y5) a) := ho5
  have B5 : Hid (Below w4.heap.size w4 w5) := hb5
  have FR0_5 : Hid (OwnHv w5 w.heap.size (.slice x4_0 x.length y4_0) x) := rowBelow FR0_4.out B5.out
  have AP_R0_X0 : Hid (∀ k, (Value.slice x4_0 x.length y4_0).ownBlock = some k → (Value.slice x5 a.length y5).ownBlock ≠ some k) := rowsApartLt FR0_4.out N5.out (Nat.le_refl _)
  have FR1_5 : Hid (OwnHv w5 w.heap.size (.slice x4_1 y.length y4_1) y) := rowBelow FR1_4.out B5.out
  have AP_R1_X0 : Hid (∀ k, (Value.slice x4_1 y.length y4_1).ownBlock = some k → (Value.slice x5 a.length y5).ownBlock ≠ some k) := rowsApartLt FR1_4.out N5.out (Nat.le_refl _)
  have FX0_5 : Hid (OwnHv w5 w.heap.size (.slice x5 a.length y5) a) := ho5.mono S4.out.2
  clear ho5 hb5
  go_wp2_with fail
  refine (toHvs_any _ _ b (HRD1.out _ S5.out) LB1.out).mono ?_
  rintro e w6 ⟨v6, rfl, ho6, hb6⟩
  obtain ⟨x6, y6, rfl⟩ := ho6.shape
  have S6 : Hid (Since w.heap.size w w6) := S5.out.step hb6
  have N6 : Hid (OwnHv w6 w5.heap.size (.slice x6 b.length y6) b) := ho6
  have B6 : Hid (Below w5.heap.size w5 w6) := hb6
  have FR0_6 : Hid (OwnHv w6 w.heap.size (.slice x4_0 x.length y4_0) x) := rowBelow FR0_5.out B6.out
  have AP_R0_X1 : Hid (∀ k, (Value.slice x4_0 x.length y4_0).ownBlock = some k → (Value.slice x6 b.length y6).ownBlock ≠ some k) := rowsApartLt FR0_5.out N6.out (Nat.le_refl _)
  have FR1_6 : Hid (OwnHv w6 w.heap.size (.slice x4_1 y.length y4_1) y) := rowBelow FR1_5.out B6.out
  have AP_R1_X1 : Hid (∀ k, (Value.slice x4_1 y.length y4_1).ownBlock = some k → (Value.slice x6 b.length y6).ownBlock ≠ some k) := rowsApartLt FR1_5.out N6.out (Nat.le_refl _)
  have FX0_6 : Hid (OwnHv w6 w.heap.size (.slice x5 a.length y5) a) := rowBelow FX0_5.out B6.out
  have AP_X0_X1 : Hid (∀ k, (Value.slice x5 a.length y5).ownBlock = some k → (Value.slice x6 b.length y6).ownBlock ≠ some k) := rowsApartLt FX0_5.out N6.out (Nat.le_refl _)
  have FX1_6 : Hid (OwnHv w6 w.heap.size (.slice x6 b.length y6) b) := ho6.mono S5.out.2
  clear ho6 hb6
  go_wp2_with fail
  refine (CI.out _ _ _ _ FX0_6.out FX1_6.out).mono ?_
  rintro e w7 ⟨u7_0, u7_1, rfl, hu7_0, hu7_1, ha7_0_1, hb7⟩
  obtain ⟨x7_0, y7_0, rfl⟩ := rowShape hu7_0
  obtain ⟨x7_1, y7_1, rfl⟩ := rowShape hu7_1
  have S7 : Hid (Since w.heap.size w w7) := S6.out.step hb7
  have FR0_7 : Hid (OwnHv w7 w.heap.size (.slice x4_0 x.length y4_0) x) := rowBelow FR0_6.out hb7
  have AP_R0_G0 : Hid (∀ k, (Value.slice x4_0 x.length y4_0).ownBlock = some k → (Value.slice x7_0 x.length y7_0).ownBlock ≠ some k) := rowsApartLt FR0_6.out hu7_0 (Nat.le_refl _)
  have AP_R0_G1 : Hid (∀ k, (Value.slice x4_0 x.length y4_0).ownBlock = some k → (Value.slice x7_1 y.length y7_1).ownBlock ≠ some k) := rowsApartLt FR0_6.out hu7_1 (Nat.le_refl _)
  have FR1_7 : Hid (OwnHv w7 w.heap.size (.slice x4_1 y.length y4_1) y) := rowBelow FR1_6.out hb7
  have AP_R1_G0 : Hid (∀ k, (Value.slice x4_1 y.length y4_1).ownBlock = some k → (Value.slice x7_0 x.length y7_0).ownBlock ≠ some k) := rowsApartLt FR1_6.out hu7_0 (Nat.le_refl _)
  have AP_R1_G1 : Hid (∀ k, (Value.slice x4_1 y.length y4_1).ownBlock = some k → (Value.slice x7_1 y.length y7_1).ownBlock ≠ some k) := rowsApartLt FR1_6.out hu7_1 (Nat.le_refl _)
  have FX0_7 : Hid (OwnHv w7 w.heap.size (.slice x5 a.length y5) a) := rowBelow FX0_6.out hb7
  have AP_X0_G0 : Hid (∀ k, (Value.slice x5 a.length y5).ownBlock = some k → (Value.slice x7_0 x.length y7_0).ownBlock ≠ some k) := rowsApartLt FX0_6.out hu7_0 (Nat.le_refl _)
  have AP_X0_G1 : Hid (∀ k, (Value.slice x5 a.length y5).ownBlock = some k → (Value.slice x7_1 y.length y7_1).ownBlock ≠ some k) := rowsApartLt FX0_6.out hu7_1 (Nat.le_refl _)
  have FX1_7 : Hid (OwnHv w7 w.heap.size (.slice x6 b.length y6) b) := rowBelow FX1_6.out hb7
  have AP_X1_G0 : Hid (∀ k, (Value.slice x6 b.length y6).ownBlock = some k → (Value.slice x7_0 x.length y7_0).ownBlock ≠ some k) := rowsApartLt FX1_6.out hu7_0 (Nat.le_refl _)
  have AP_X1_G1 : Hid (∀ k, (Value.slice x6 b.length y6).ownBlock = some k → (Value.slice x7_1 y.length y7_1).ownBlock ≠ some k) := rowsApartLt FX1_6.out hu7_1 (Nat.le_refl _)
  have AP_G0_G1 : Hid (∀ k, (Value.slice x7_0 x.length y7_0).ownBlock = some k → (Value.slice x7_1 y.length y7_1).ownBlock ≠ some k) := ha7_0_1
  have FG0_7 : Hid (OwnHv w7 w.heap.size (.slice x7_0 x.length y7_0) x) := rowMono hu7_0 S6.out.2
  have FG1_7 : Hid (OwnHv w7 w.heap.size (.slice x7_1 y.length y7_1) y) := rowMono hu7_1 S6.out.2
  clear hb7 hu7_0 hu7_1 ha7_0_1
  go_wp2_with fail
  refine (eqHvs_same _ _ _ x FG0_7.out.reads FR0_7.out.reads OL0.out).mono ?_
  rintro e w8 ⟨rfl, hb8⟩
  have S8 : Hid (Since w.heap.size w w8) := S7.out.step hb8
  have FR0_8 : Hid (OwnHv w8 w.heap.size (.slice x4_0 x.length y4_0) x) := rowBelow FR0_7.out hb8
  have FR1_8 : Hid (OwnHv w8 w.heap.size (.slice x4_1 y.length y4_1) y) := rowBelow FR1_7.out hb8
  have FX0_8 : Hid (OwnHv w8 w.heap.size (.slice x5 a.length y5) a) := rowBelow FX0_7.out hb8
  have FX1_8 : Hid (OwnHv w8 w.heap.size (.slice x6 b.length y6) b) := rowBelow FX1_7.out hb8
  have FG0_8 : Hid (OwnHv w8 w.heap.size (.slice x7_0 x.length y7_0) x) := rowBelow FG0_7.out hb8
  have FG1_8 : Hid (OwnHv w8 w.heap.size (.slice x7_1 y.length y7_1) y) := rowBelow FG1_7.out hb8
  clear hb8
  go_wp2_with fail
  refine (eqHvs_same _ _ _ y FG1_8.out.reads FR1_8.out.reads OL1.out).mono ?_
  rintro e w9 ⟨rfl, hb9⟩
  have S9 : Hid (Since w.heap.size w w9) := S8.out.step hb9
  have FR0_9 : Hid (OwnHv w9 w.heap.size (.slice x4_0 x.length y4_0) x) := rowBelow FR0_8.out hb9
  have FR1_9 : Hid (OwnHv w9 w.heap.size (.slice x4_1 y.length y4_1) y) := rowBelow FR1_8.out hb9
  have FX0_9 : Hid (OwnHv w9 w.heap.size (.slice x5 a.length y5) a) := rowBelow FX0_8.out hb9
  have FX1_9 : Hid (OwnHv w9 w.heap.size (.slice x6 b.length y6) b) := rowBelow FX1_8.out hb9
  have FG0_9 : Hid (OwnHv w9 w.heap.size (.slice x7_0 x.length y7_0) x) := rowBelow FG0_8.out hb9
  have FG1_9 : Hid (OwnHv w9 w.heap.size (.slice x7_1 y.length y7_1) y) := rowBelow FG1_8.out hb9
  clear hb9
  go_wp2_with fail
  refine (toHvs_any _ _ a (HRD0.out _ S9.out) LB0.out).mono ?_
  rintro e w10 ⟨v10, rfl, ho10, hb10⟩
  obtain ⟨x10, y10, rfl⟩ := ho10.shape
  have S10 : Hid (Since w.heap.size w w10) := S9.out.step hb10
  have N10 : Hid (OwnHv w10 w9.heap.size (.slice x10 a.length y10) a) := ho10
  have B10 : Hid (Below w9.heap.size w9 w10) := hb10
  have FR0_10 : Hid (OwnHv w10 w.heap.size (.slice x4_0 x.length y4_0) x) := rowBelow FR0_9.out B10.out
  have FR1_10 : Hid (OwnHv w10 w.heap.size (.slice x4_1 y.length y4_1) y) := rowBelow FR1_9.out B10.out
  have FX0_10 : Hid (OwnHv w10 w.heap.size (.slice x5 a.length y5) a) := rowBelow FX0_9.out B10.out
  have FX1_10 : Hid (OwnHv w10 w.heap.size (.slice x6 b.length y6) b) := rowBelow FX1_9.out B10.out
  have FG0_10 : Hid (OwnHv w10 w.heap.size (.slice x7_0 x.length y7_0) x) := rowBelow FG0_9.out B10.out
  have FG1_10 : Hid (OwnHv w10 w.heap.size (.slice x7_1 y.length y7_1) y) := rowBelow FG1_9.out B10.out
  have FC_10 : Hid (OwnHv w10 w.heap.size (.slice x10 a.length y10) a) := ho10.mono S9.out.2
  clear ho10 hb10
  go_wp2_with fail
  refine (eqHvs_same _ _ _ a FX0_10.out.reads FC_10.out.reads LB0.out).mono ?_
  rintro e w11 ⟨rfl, hb11⟩
  have S11 : Hid (Since w.heap.size w w11) := S10.out.step hb11
  have FR0_11 : Hid (OwnHv w11 w.heap.size (.slice x4_0 x.length y4_0) x) := rowBelow FR0_10.out hb11
  have FR1_11 : Hid (OwnHv w11 w.heap.size (.slice x4_1 y.length y4_1) y) := rowBelow FR1_10.out hb11
  have FX0_11 : Hid (OwnHv w11 w.heap.size (.slice x5 a.length y5) a) := rowBelow FX0_10.out hb11
  have FX1_11 : Hid (OwnHv w11 w.heap.size (.slice x6 b.length y6) b) := rowBelow FX1_10.out hb11
  have FG0_11 : Hid (OwnHv w11 w.heap.size (.slice x7_0 x.length y7_0) x) := rowBelow FG0_10.out hb11
  have FG1_11 : Hid (OwnHv w11 w.heap.size (.slice x7_1 y.length y7_1) y) := rowBelow FG1_10.out hb11
  have FC_11 : Hid (OwnHv w11 w.heap.size (.slice x10 a.length y10) a) := rowBelow FC_10.out hb11
  clear hb11
  go_wp2_with fail
  refine (toHvs_any _ _ b (HRD1.out _ S11.out) LB1.out).mono ?_
  rintro e w12 ⟨v12, rfl, ho12, hb12⟩
  obtain ⟨x12, y12, rfl⟩ := ho12.shape
  have S12 : Hid (Since w.heap.size w w12) := S11.out.step hb12
  have N12 : Hid (OwnHv w12 w11.heap.size (.slice x12 b.length y12) b) := ho12
  have B12 : Hid (Below w11.heap.size w11 w12) := hb12
  have FR0_12 : Hid (OwnHv w12 w.heap.size (.slice x4_0 x.length y4_0) x) := rowBelow FR0_11.out B12.out
  have FR1_12 : Hid (OwnHv w12 w.heap.size (.slice x4_1 y.length y4_1) y) := rowBelow FR1_11.out B12.out
  have FX0_12 : Hid (OwnHv w12 w.heap.size (.slice x5 a.length y5) a) := rowBelow FX0_11.out B12.out
  have FX1_12 : Hid (OwnHv w12 w.heap.size (.slice x6 b.length y6) b) := rowBelow FX1_11.out B12.out
  have FG0_12 : Hid (OwnHv w12 w.heap.size (.slice x7_0 x.length y7_0) x) := rowBelow FG0_11.out B12.out
  have FG1_12 : Hid (OwnHv w12 w.heap.size (.slice x7_1 y.length y7_1) y) := rowBelow FG1_11.out B12.out
  have FC_12 : Hid (OwnHv w12 w.heap.size (.slice x12 b.length y12) b) := ho12.mono S11.out.2
  clear ho12 hb12
  go_wp2_with fail
  refine (eqHvs_same _ _ _ b FX1_12.out.reads FC_12.out.reads LB1.out).mono ?_
  rintro e w13 ⟨rfl, hb13⟩
  have S13 : Hid (Since w.heap.size w w13) := S12.out.step hb13
  have FR0_13 : Hid (OwnHv w13 w.heap.size (.slice x4_0 x.length y4_0) x) := rowBelow FR0_12.out hb13
  have FR1_13 : Hid (OwnHv w13 w.heap.size (.slice x4_1 y.length y4_1) y) := rowBelow FR1_12.out hb13
  have FX0_13 : Hid (OwnHv w13 w.heap.size (.slice x5 a.length y5) a) := rowBelow FX0_12.out hb13
  have FX1_13 : Hid (OwnHv w13 w.heap.size (.slice x6 b.length y6) b) := rowBelow FX1_12.out hb13
  have FG0_13 : Hid (OwnHv w13 w.heap.size (.slice x7_0 x.length y7_0) x) := rowBelow FG0_12.out hb13
  have FG1_13 : Hid (OwnHv w13 w.heap.size (.slice x7_1 y.length y7_1) y) := rowBelow FG1_12.out hb13
  have FC_13 : Hid (OwnHv w13 w.heap.size (.slice x12 b.length y12) b) := rowBelow FC_12.out hb13
  clear hb13
  go_wp2_with fail
  refine (MX0.out _ _ _ FX0_13.out).mono ?_
  rintro e w14 ⟨rfl, hg14⟩
  have S14 : Hid (Since w.heap.size w w14) := S13.out.grown hg14 (fun k hk => (World.ownsRow.lt FX0_13.out k hk).1)
  have FR0_14 : Hid (OwnHv w14 w.heap.size (.slice x4_0 x.length y4_0) x) := rowGrow FR0_13.out hg14 (apartSym AP_R0_X0.out)
  have FR1_14 : Hid (OwnHv w14 w.heap.size (.slice x4_1 y.length y4_1) y) := rowGrow FR1_13.out hg14 (apartSym AP_R1_X0.out)
  have FX1_14 : Hid (OwnHv w14 w.heap.size (.slice x6 b.length y6) b) := rowGrow FX1_13.out hg14 (AP_X0_X1.out)
  have FG0_14 : Hid (OwnHv w14 w.heap.size (.slice x7_0 x.length y7_0) x) := rowGrow FG0_13.out hg14 (AP_X0_G0.out)
  have FG1_14 : Hid (OwnHv w14 w.heap.size (.slice x7_1 y.length y7_1) y) := rowGrow FG1_13.out hg14 (AP_X0_G1.out)
  clear hg14
  go_wp2_with fail
  refine (MX1.out _ _ _ FX1_14.out).mono ?_
  rintro e w15 ⟨rfl, hg15⟩
  have S15 : Hid (Since w.heap.size w w15) := S14.out.grown hg15 (fun k hk => (World.ownsRow.lt FX1_14.out k hk).1)
  have FR0_15 : Hid (OwnHv w15 w.heap.size (.slice x4_0 x.length y4_0) x) := rowGrow FR0_14.out hg15 (apartSym AP_R0_X1.out)
  have FR1_15 : Hid (OwnHv w15 w.heap.size (.slice x4_1 y.length y4_1) y) := rowGrow FR1_14.out hg15 (apartSym AP_R1_X1.out)
  have FG0_15 : Hid (OwnHv w15 w.heap.size (.slice x7_0 x.length y7_0) x) := rowGrow FG0_14.out hg15 (AP_X1_G0.out)
  have FG1_15 : Hid (OwnHv w15 w.heap.size (.slice x7_1 y.length y7_1) y) := rowGrow FG1_14.out hg15 (AP_X1_G1.out)
  clear hg15
  go_wp2_with fail
  refine (eqHvs_same _ _ _ x FG0_15.out.reads FR0_15.out.reads OL0.out).mono ?_
  rintro e w16 ⟨rfl, hb16⟩
  have S16 : Hid (Since w.heap.size w w16) := S15.out.step hb16
  have FR0_16 : Hid (OwnHv w16 w.heap.size (.slice x4_0 x.length y4_0) x) := rowBelow FR0_15.out hb16
  have FR1_16 : Hid (OwnHv w16 w.heap.size (.slice x4_1 y.length y4_1) y) := rowBelow FR1_15.out hb16
  have FG0_16 : Hid (OwnHv w16 w.heap.size (.slice x7_0 x.length y7_0) x) := rowBelow FG0_15.out hb16
  have FG1_16 : Hid (OwnHv w16 w.heap.size (.slice x7_1 y.length y7_1) y) := rowBelow FG1_15.out hb16
  clear hb16
  go_wp2_with fail
  refine (eqHvs_same _ _ _ y FG1_16.out.reads FR1_16.out.reads OL1.out).mono ?_
  rintro e w17 ⟨rfl, hb17⟩
  have S17 : Hid (Since w.heap.size w w17) := S16.out.step hb17
  have FR0_17 : Hid (OwnHv w17 w.heap.size (.slice x4_0 x.length y4_0) x) := rowBelow FR0_16.out hb17
  have FR1_17 : Hid (OwnHv w17 w.heap.size (.slice x4_1 y.length y4_1) y) := rowBelow FR1_16.out hb17
  have FG0_17 : Hid (OwnHv w17 w.heap.size (.slice x7_0 x.length y7_0) x) := rowBelow FG0_16.out hb17
  have FG1_17 : Hid (OwnHv w17 w.heap.size (.slice x7_1 y.length y7_1) y) := rowBelow FG1_16.out hb17
  clear hb17
  go_wp2_with fail
  refine (MG0.out _ _ _ FG0_17.out).mono ?_
  rintro e w18 ⟨rfl, hm18, -, hg18⟩
  have S18 : Hid (Since w.heap.size w w18) := S17.out.grown hg18 (fun k hk => (World.ownsRow.lt FG0_17.out k hk).1)
  have FR0_18 : Hid (OwnHv w18 w.heap.size (.slice x4_0 x.length y4_0) x) := rowGrow FR0_17.out hg18 (apartSym AP_R0_G0.out)
  have FR1_18 : Hid (OwnHv w18 w.heap.size (.slice x4_1 y.length y4_1) y) := rowGrow FR1_17.out hg18 (apartSym AP_R1_G0.out)
  have FG1_18 : Hid (OwnHv w18 w.heap.size (.slice x7_1 y.length y7_1) y) := rowGrow FG1_17.out hg18 (AP_G0_G1.out)
  have FG0_18 : Hid (OwnHv w18 w.heap.size (.slice x7_0 x.length y7_0) (marksHv 1 x.length)) := hm18
  clear hm18 hg18
  go_wp2_with fail
  refine (MG1.out _ _ _ FG1_18.out).mono ?_
  rintro e w19 ⟨rfl, hm19, -, hg19⟩
  have S19 : Hid (Since w.heap.size w w19) := S18.out.grown hg19 (fun k hk => (World.ownsRow.lt FG1_18.out k hk).1)
  have FR0_19 : Hid (OwnHv w19 w.heap.size (.slice x4_0 x.length y4_0) x) := rowGrow FR0_18.out hg19 (apartSym AP_R0_G1.out)
  have FR1_19 : Hid (OwnHv w19 w.heap.size (.slice x4_1 y.length y4_1) y) := rowGrow FR1_18.out hg19 (apartSym AP_R1_G1.out)
  have FG0_19 : Hid (OwnHv w19 w.heap.size (.slice x7_0 x.length y7_0) (marksHv 1 x.length)) := rowGrow FG0_18.out hg19 (apartSym AP_G0_G1.out)
  have FG1_19 : Hid (OwnHv w19 w.heap.size (.slice x7_1 y.length y7_1) (marksHv m0 y.length)) := hm19
  clear hm19 hg19
  go_wp2_with fail
  refine (HG0.out _ _ _ FG0_19.out).mono ?_
  rintro e q1 ⟨rfl, hq1⟩
  obtain rfl : w19 = q1 := hq1.symm
  go_wp2_with fail
  refine (HG1.out _ _ _ FG1_19.out).mono ?_
  rintro e q2 ⟨rfl, hq2⟩
  obtain rfl : w19 = q2 := hq2.symm
  go_wp2_with fail
  refine (toHvs_any _ _ a (HRD0.out _ S19.out) LB0.out).mono ?_
  rintro e w20 ⟨v20, rfl, ho20, hb20⟩
  obtain ⟨x20, y20, rfl⟩ := ho20.shape
  have S20 : Hid (Since w.heap.size w w20) := S19.out.step hb20
  have N20 : Hid (OwnHv w20 w19.heap.size (.slice x20 a.length y20) a) := ho20
  have B20 : Hid (Below w19.heap.size w19 w20) := hb20
  have FR0_20 : Hid (OwnHv w20 w.heap.size (.slice x4_0 x.length y4_0) x) := rowBelow FR0_19.out B20.out
  have FR1_20 : Hid (OwnHv w20 w.heap.size (.slice x4_1 y.length y4_1) y) := rowBelow FR1_19.out B20.out
  have FG0_20 : Hid (OwnHv w20 w.heap.size (.slice x7_0 x.length y7_0) (marksHv 1 x.length)) := rowBelow FG0_19.out B20.out
  have FG1_20 : Hid (OwnHv w20 w.heap.size (.slice x7_1 y.length y7_1) (marksHv m0 y.length)) := rowBelow FG1_19.out B20.out
  have FD0_20 : Hid (OwnHv w20 w.heap.size (.slice x20 a.length y20) a) := ho20.mono S19.out.2
  clear ho20 hb20
  go_wp2_with fail
  refine (toHvs_any _ _ b (HRD1.out _ S20.out) LB1.out).mono ?_
  rintro e w21 ⟨v21, rfl, ho21, hb21⟩
  obtain ⟨x21, y21, rfl⟩ := ho21.shape
  have S21 : Hid (Since w.heap.size w w21) := S20.out.step hb21
  have N21 : Hid (OwnHv w21 w20.heap.size (.slice x21 b.length y21) b) := ho21
  have B21 : Hid (Below w20.heap.size w20 w21) := hb21
  have FR0_21 : Hid (OwnHv w21 w.heap.size (.slice x4_0 x.length y4_0) x) := rowBelow FR0_20.out B21.out
  have FR1_21 : Hid (OwnHv w21 w.heap.size (.slice x4_1 y.length y4_1) y) := rowBelow FR1_20.out B21.out
  have FG0_21 : Hid (OwnHv w21 w.heap.size (.slice x7_0 x.length y7_0) (marksHv 1 x.length)) := rowBelow FG0_20.out B21.out
  have FG1_21 : Hid (OwnHv w21 w.heap.size (.slice x7_1 y.length y7_1) (marksHv m0 y.length)) := rowBelow FG1_20.out B21.out
  have FD0_21 : Hid (OwnHv w21 w.heap.size (.slice x20 a.length y20) a) := rowBelow FD0_20.out B21.out
  have FD1_21 : Hid (OwnHv w21 w.heap.size (.slice x21 b.length y21) b) := ho21.mono S20.out.2
  clear ho21 hb21
  go_wp2_with fail
  refine (CI.out _ _ _ _ FD0_21.out FD1_21.out).mono ?_
  rintro e w22 ⟨u22_0, u22_1, rfl, hu22_0, hu22_1, ha22_0_1, hb22⟩
  obtain ⟨x22_0, y22_0, rfl⟩ := rowShape hu22_0
  obtain ⟨x22_1, y22_1, rfl⟩ := rowShape hu22_1
  have S22 : Hid (Since w.heap.size w w22) := S21.out.step hb22
  have FR0_22 : Hid (OwnHv w22 w.heap.size (.slice x4_0 x.length y4_0) x) := rowBelow FR0_21.out hb22
  have FR1_22 : Hid (OwnHv w22 w.heap.size (.slice x4_1 y.length y4_1) y) := rowBelow FR1_21.out hb22
  have FG0_22 : Hid (OwnHv w22 w.heap.size (.slice x7_0 x.length y7_0) (marksHv 1 x.length)) := rowBelow FG0_21.out hb22
  have FG1_22 : Hid (OwnHv w22 w.heap.size (.slice x7_1 y.length y7_1) (marksHv m0 y.length)) := rowBelow FG1_21.out hb22
  have FD0_22 : Hid (OwnHv w22 w.heap.size (.slice x20 a.length y20) a) := rowBelow FD0_21.out hb22
  have FD1_22 : Hid (OwnHv w22 w.heap.size (.slice x21 b.length y21) b) := rowBelow FD1_21.out hb22
  have FH0_22 : Hid (OwnHv w22 w.heap.size (.slice x22_0 x.length y22_0) x) := rowMono hu22_0 S21.out.2
  have FH1_22 : Hid (OwnHv w22 w.heap.size (.slice x22_1 y.length y22_1) y) := rowMono hu22_1 S21.out.2
  clear hb22 hu22_0 hu22_1 ha22_0_1
  go_wp2_with fail
  refine (eqHvs_same _ _ _ x FH0_22.out.reads FR0_22.out.reads OL0.out).mono ?_
  rintro e w23 ⟨rfl, hb23⟩
  have S23 : Hid (Since w.heap.size w w23) := S22.out.step hb23
  have FR0_23 : Hid (OwnHv w23 w.heap.size (.slice x4_0 x.length y4_0) x) := rowBelow FR0_22.out hb23
  have FR1_23 : Hid (OwnHv w23 w.heap.size (.slice x4_1 y.length y4_1) y) := rowBelow FR1_22.out hb23
  have FG0_23 : Hid (OwnHv w23 w.heap.size (.slice x7_0 x.length y7_0) (marksHv 1 x.length)) := rowBelow FG0_22.out hb23
  have FG1_23 : Hid (OwnHv w23 w.heap.size (.slice x7_1 y.length y7_1) (marksHv m0 y.length)) := rowBelow FG1_22.out hb23
  have FH0_23 : Hid (OwnHv w23 w.heap.size (.slice x22_0 x.length y22_0) x) := rowBelow FH0_22.out hb23
  have FH1_23 : Hid (OwnHv w23 w.heap.size (.slice x22_1 y.length y22_1) y) := rowBelow FH1_22.out hb23
  clear hb23
  go_wp2_with fail
  refine (eqHvs_same _ _ _ y FH1_23.out.reads FR1_23.out.reads OL1.out).mono ?_
  rintro e w24 ⟨rfl, hb24⟩
  have S24 : Hid (Since w.heap.size w w24) := S23.out.step hb24
  have FR0_24 : Hid (OwnHv w24 w.heap.size (.slice x4_0 x.length y4_0) x) := rowBelow FR0_23.out hb24
  have FR1_24 : Hid (OwnHv w24 w.heap.size (.slice x4_1 y.length y4_1) y) := rowBelow FR1_23.out hb24
  have FG0_24 : Hid (OwnHv w24 w.heap.size (.slice x7_0 x.length y7_0) (marksHv 1 x.length)) := rowBelow FG0_23.out hb24
  have FG1_24 : Hid (OwnHv w24 w.heap.size (.slice x7_1 y.length y7_1) (marksHv m0 y.length)) := rowBelow FG1_23.out hb24
  have FH0_24 : Hid (OwnHv w24 w.heap.size (.slice x22_0 x.length y22_0) x) := rowBelow FH0_23.out hb24
  have FH1_24 : Hid (OwnHv w24 w.heap.size (.slice x22_1 y.length y22_1) y) := rowBelow FH1_23.out hb24
  clear hb24
  go_wp2_with fail
  refine (HG0.out _ _ _ FG0_24.out).mono ?_
  rintro e q3 ⟨rfl, hq3⟩
  obtain rfl : w24 = q3 := hq3.symm
  go_wp2_with fail
  refine (HG1.out _ _ _ FG1_24.out).mono ?_
  rintro e q4 ⟨rfl, hq4⟩
  obtain rfl : w24 = q4 := hq4.symm
  go_wp2
  go_ret
  exact ⟨rfl, S24.out.1⟩

set_option maxRecDepth 100000 in
theorem contract (H : Type) (enc : TypeId × Value → H) (W : World) (base : Nat) (args : Array Value) (ds gs : List (DataW H)) (before : List MemPlace)
    (hval : ∀ (j : Nat) t v, Try.f7.params[j]? = some t → args[j]? = some v → Value.okWide Try.prog W .any base t v)
    (hW : DataW.Whole enc Try.prog Try.f7.params.toList Rows.fnExactSyncBySpec.vars false W args.toList ds gs before) :
    Calls Try.prog 7 args W fun e W' => ∃ v, e = .returned v ∧ Rows.fnExactSyncBySpec.post enc Try.prog Try.f7 false true false false W args v W' := by
  have hW' := hW
  obtain ⟨p, q, hA0, hV0, rfl, hfz, hnd⟩ := hW
  have hA : DataW.TrodAll enc Try.prog W 0 (fun _ => true) true Try.f7.params.toList args.toList ds p := hA0
  rw [Try.params7] at hA hval
  obtain ⟨v0, vs0, d0, ds0, p0, q0, hargs, rfl, rfl, h0, r0⟩ := trodAll_cons hA
  obtain ⟨v1, vs1, d1, ds1, p1, q1, rfl, rfl, rfl, h1, r1⟩ := trodAll_cons r0
  obtain ⟨v2, vs2, d2, ds2, p2, q2, rfl, rfl, rfl, h2, r2⟩ := trodAll_cons r1
  obtain ⟨rfl, rfl, rfl⟩ := trodAll_nil r2
  obtain rfl : args = #[v0, v1, v2] := by cases args; simp_all
  obtain ⟨rfl, rfl⟩ := trodVars_none hV0
  obtain ⟨a0, len0, cap0, rfl⟩ := okWide_slice Try.underlying22 (hval 0 22 v0 rfl rfl)
  have k0 := h0
  have lt0 : ∀ x ∈ p0, x.block < W.heap.size := by obtain ⟨m, hm⟩ := k0; exact DataW.trod_lt m _ _ _ hm
  obtain ⟨ps0, hr0, hz0⟩ := Hvs_of k0
  obtain ⟨a1, len1, cap1, rfl⟩ := okWide_slice Try.underlying22 (hval 1 22 v1 rfl rfl)
  have k1 := h1
  have lt1 : ∀ x ∈ p1, x.block < W.heap.size := by obtain ⟨m, hm⟩ := k1; exact DataW.trod_lt m _ _ _ hm
  obtain ⟨ps1, hr1, hz1⟩ := Hvs_of k1
  obtain ⟨a2, rfl, rfl, rfl, w2⟩ := open_int Try.underlying3 (hval 2 3 v2 rfl rfl) h2
  clear hA0 hV0
  refine (walk _ ps0 _ ps1 a2 W hr0 hz0 hr1 hz1 w2).mono fun e W' ⟨he, bel⟩ => ?_
  subst he
  exact ⟨_, rfl, _, _, _, [], _, [], hW', trodAll_mk1 (shut_bool Try.underlying4 _), (trodAll_cons_mk (Below.trod laidOut (by kernel_rfl) (of_decide_eq_true (by kernel_rfl)) k0 bel lt0) (trodAll_cons_mk (Below.trod laidOut (by kernel_rfl) (of_decide_eq_true (by kernel_rfl)) k1 bel lt1) (trodAll_cons_mk (shut_int Try.underlying3 w2) trodAll_mk0))), rfl, bel.frame _, fun h => by cases h⟩

set_option maxRecDepth 100000 in
theorem lifted (os : Os) (started : os.Started) (H : Type) (enc : TypeId × Value → H) :
    ReturnsInHanded {} Try.checked os 7 .any (Rows.fnExactSyncBySpec.pre6 enc Try.prog Try.f7 Rows.fnExactSyncByRow.domain false) (Rows.fnExactSyncBySpec.post enc Try.prog Try.f7 false true false false) := by
  refine returnsInHanded_of_change (C := Try.checked) own started (by kernel_rfl) Try.func7
    (ChangeSpec.witness6 (enc := enc) (C := Try.checked) false ⟨#[], #[.slice none 0 0, .slice none 0 0, .int .i64 0], []⟩ 8 (by kernel_rfl) (by kernel_rfl) (by kernel_rfl) (by kernel_rfl)) ?_
  intro W base args ds gs before hval hW _ _
  exact contract H enc W base args ds gs before hval hW

/-- The statement. -/
theorem said : Rows.FnExactSyncBySaid :=
  OpenClaim.holds_of_wide 7 Try.f7 rfl rfl rfl rfl rfl rfl rfl ⟨rfl, rfl, rfl, rfl, rfl⟩ rfl rfl rfl rfl rfl (by kernel_rfl) Try.func7 (by kernel_rfl)
    (of_decide_eq_true (by kernel_rfl)) (by unfold Func.isWrapper; first | (rw [if_pos (by decide +kernel)]; kernel_rfl) | (rw [if_neg (by decide +kernel)]; exact ⟨rfl, rfl⟩))
    (fun os started H enc _ => lifted os started H enc)
#print axioms said
end Go.Proofs.Ytkpdiojomgiocay.fnExactSyncBy
