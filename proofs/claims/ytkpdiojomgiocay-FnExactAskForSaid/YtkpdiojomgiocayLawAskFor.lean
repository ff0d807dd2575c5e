/-
  Proved: for every list of haves and every summary, 'AskFor' of the program at commit 83a7ca3833eb answers as the model's 'AskFor', both lists and the bool; it writes into no argument (the list and the summary that it was handed read as before), keeps nothing of them (marks that are written into them change no answer), and its answer is memory of its own (marks that are written into it stay there behind another call). No condition.
-/
import Derived.Test.YtkpdiojomgiocayPlain
import Derived.Test.YtkpdiojomgiocayLsAskS
import Derived.Test.YtkpdiojomgiocayLsSmMark
import Derived.Test.YtkpdiojomgiocayLsSmLaw
import Derived.Test.YtkpdiojomgiocayRowOfHv
import Derived.Test.YtkpdiojomgiocayRowLaw0
namespace Go.Proofs.Ytkpdiojomgiocay.fnExactAskFor
open Go.ChangeShapes Go.WideShapes Go.ChangeAt Go.RowKit
open Go.ChangeMaps (open_string shut_string)
set_option linter.unusedVariables false

set_option maxRecDepth 100000 in
set_option maxHeartbeats 8000000 in
theorem walk (v0 : Value) (l : List HvD) (v1 : Value) (s : SmD) (w : World) (h0 : ReadsHv w v0 l) (hl0 : l.length ≤ maxLen) (h1 : ReadsHv w v1 s.Hs) (hl1 : s.Hs.length ≤ maxLen) :
    Calls Try.prog 5 #[v0, .agg #[.int .i64 s.Lo, .int .i64 s.Hi, v1]] w fun e w' => e = .returned (.bool true) ∧ Below w.heap.size w w' := by
  obtain ⟨a0, c0, hv0⟩ := h0.shape
  subst hv0
  obtain ⟨a1, c1, hv1⟩ := h1.shape
  subst hv1
  obtain ⟨wb, hwb⟩ : ∃ x, x = w.alloc (.cells #[.int .i64 s.Lo, .int .i64 s.Hi, .slice a1 s.Hs.length c1] 24) := ⟨_, rfl⟩
  have HB0 : Hid (Below w.heap.size w wb) := by show Below _ _ _; rw [hwb]; exact (Below.refl _ w).alloc (Nat.le_refl _) _
  have HBX : Hid (∀ w', Since wb.heap.size wb w' → w'.cell? ⟨w.heap.size, 0, none⟩ = some (.int .i64 s.Lo) ∧ w'.cell? ⟨w.heap.size, 1, none⟩ = some (.int .i64 s.Hi) ∧ w'.cell? ⟨w.heap.size, 2, none⟩ = some (.slice a1 s.Hs.length c1)) := by
    rw [hwb]
    exact fun w' hs => smNewL w _ _ _ w' hs.1
  have HRD0 : Hid (∀ W1, Since wb.heap.size wb W1 → ReadsHv W1 (.slice a0 l.length c0) l) := fun W1 hb => (h0.below HB0.out).below hb.1
  have HL0 : Hid (l.length ≤ maxLen) := hl0
  have HRD1 : Hid (∀ W1, Since wb.heap.size wb W1 → ReadsHv W1 (.slice a1 s.Hs.length c1) s.Hs) := fun W1 hb => (h1.below HB0.out).below hb.1
  have HL1 : Hid (s.Hs.length ≤ maxLen) := hl1
  have S1 : Hid (Since wb.heap.size wb wb) := Since.start wb
  obtain ⟨asks, hasks⟩ : ∃ asks, asks = asksOut l s := ⟨_, rfl⟩
  obtain ⟨more, hmore⟩ : ∃ more, more = moreOut l s := ⟨_, rfl⟩
  obtain ⟨ok, hok⟩ : ∃ ok, ok = askOk l s := ⟨_, rfl⟩
  have OL0 : Hid (asks.length ≤ 4194304) := by show _ ≤ _; rw [hasks]; exact asksOut_len l s
  have OL1 : Hid (more.length ≤ 4194304) := by show _ ≤ _; rw [hmore]; exact moreOut_len l s
  clear h0 hl0 h1 hl1
  go_enter Try.func5, Try.ntmps5
  go_wp2_with fail
  rw [← hwb]
  clear hwb
  refine (szHvs_any _ _ l (1048576) (HRD0.out _ S1.out) HL0.out (by omega) (by omega)).mono ?_
  rintro e wz0 ⟨rfl, hwz0⟩
  obtain rfl : wb = wz0 := hwz0.symm
  rcases Int.lt_or_le (1048576) (l.length : Int) with hle0 | hle0
  · rw [if_neg (by omega)]
    go_wp2
    go_ret
    exact ⟨rfl, HB0.out.trans (S1.out.1.mono HB0.out.size)⟩
  rw [if_pos hle0]
  obtain ⟨lf1, hlf1⟩ : ∃ z : Int, z = 1048576 - (l.length : Int) := ⟨_, rfl⟩
  rw [← hlf1]
  have hnn0 : ¬ (lf1 < 0) := by omega
  have hlo0 : 0 ≤ lf1 := by omega
  have hhi0 : lf1 ≤ 1048576 := by omega
  have LL0 : Hid (l.length ≤ 1048576) := by show _ ≤ _; omega
  have LB0 : Hid (l.length ≤ 4194304) := by show _ ≤ _; omega
  clear hlf1 hle0
  obtain ⟨t0, t1, t2⟩ := HBX.out wb S1.out
  go_wp2_with fail
  clear t0 t1 t2
  refine (szSm_any _ _ s lf1 (HRD1.out _ S1.out) HL1.out (by omega) (by omega)).mono ?_
  rintro e w2 ⟨rfl, hb2⟩
  have S2 : Hid (Since wb.heap.size wb w2) := S1.out.step hb2
  clear hb2
  rcases Int.lt_or_le (lf1) (s.Hs.length : Int) with hle1 | hle1
  · rw [if_neg (by omega)]
    go_wp2
    go_ret
    exact ⟨rfl, HB0.out.trans (S2.out.1.mono HB0.out.size)⟩
  rw [if_pos hle1]
  obtain ⟨lf2, hlf2⟩ : ∃ z : Int, z = lf1 - (s.Hs.length : Int) := ⟨_, rfl⟩
  rw [← hlf2]
  have hnn1 : ¬ (lf2 < 0) := by omega
  have hlo1 : 0 ≤ lf2 := by omega
  have hhi1 : lf2 ≤ 1048576 := by omega
  have LL1 : Hid (s.Hs.length ≤ 1048576) := by show _ ≤ _; omega
  have LB1 : Hid (s.Hs.length ≤ 4194304) := by show _ ≤ _; omega
  clear hlf2 hle1
  clear hlo0 hhi0 hlo1 hhi1
  have CS : Hid (∀ (W : World) (B : Nat) (z0 : Value) (z1 : Value), OwnHv W B z0 l → OwnHv W B z1 s.Hs → Calls Try.prog 23 #[z0, .agg #[.int .i64 s.Lo, .int .i64 s.Hi, z1]] W fun e W' => ∃ u0 u1, e = .returned (.tuple #[u0, u1, .bool ok]) ∧ Own W' W.heap.size u0 asks ∧ OwnHv W' W.heap.size u1 more ∧ (∀ k, u0.ownBlock = some k → u1.ownBlock ≠ some k) ∧ Below W.heap.size W W') := fun W B z0 z1 ho0 ho1 => by
    have := specAskFor_any W z0 z1 l s ho0.lies ho1.lies LL0.out LL1.out
    rw [← hasks, ← hmore, ← hok] at this
    exact this
  have CI : Hid (∀ (W : World) (B : Nat) (z0 : Value) (z1 : Value), OwnHv W B z0 l → OwnHv W B z1 s.Hs → Calls Try.prog 24 #[z0, .agg #[.int .i64 s.Lo, .int .i64 s.Hi, z1]] W fun e W' => ∃ u0 u1, e = .returned (.tuple #[u0, u1, .bool ok]) ∧ Own W' W.heap.size u0 asks ∧ OwnHv W' W.heap.size u1 more ∧ (∀ k, u0.ownBlock = some k → u1.ownBlock ≠ some k) ∧ Below W.heap.size W W') := fun W B z0 z1 ho0 ho1 => by
    have := implAskFor_any W z0 z1 l s ho0.lies ho1.lies LL0.out LL1.out
    rw [← hasks, ← hmore, ← hok] at this
    exact this
  clear hasks hmore hok
  obtain ⟨k0, hk0⟩ : ∃ z : Nat, z = 1 + 2 * l.length := ⟨_, rfl⟩
  have MX0 : Hid (∀ (W : World) (B : Nat) (z : Value), OwnHv W B z l → Calls Try.prog 20 #[z, .int .i64 ((1 : Nat) : Int)] W fun e W' => e = .returned (.int .i64 ((k0 : Nat) : Int)) ∧ W.grownBy W' z.ownBlock) := fun W B z ho => by
    rw [hk0]
    exact (markHvs_any W B z 1 l ho LB0.out (by have := LL0.out; have := LL1.out; omega)).mono fun e w' hh => ⟨hh.1, hh.2.2.2⟩
  obtain ⟨k1, hk1⟩ : ∃ z : Nat, z = k0 + 2 * s.Hs.length := ⟨_, rfl⟩
  have MX1 : Hid (∀ (W : World) (B : Nat) (z : Value), OwnHv W B z s.Hs → Calls Try.prog 26 #[.agg #[.int .i64 s.Lo, .int .i64 s.Hi, z], .int .i64 ((k0 : Nat) : Int)] W fun e W' => e = .returned (.int .i64 ((k1 : Nat) : Int)) ∧ W.grownBy W' z.ownBlock) := fun W B z ho => by
    rw [hk1]
    exact (markSm_any W B z k0 s ho LB1.out (by have := LL0.out; have := LL1.out; omega))
  have hkn : ¬ ((k1 : Nat) : Int) < 0 := by omega
  obtain ⟨m0, hm0⟩ : ∃ z : Nat, z = 1 + 1 * asks.length := ⟨_, rfl⟩
  have MG0 : Hid (∀ (W : World) (B : Nat) (z : Value), Own W B z asks → Calls Try.prog 27 #[z, .int .i64 ((1 : Nat) : Int)] W fun e W' => e = .returned (.int .i64 ((m0 : Nat) : Int)) ∧ Own W' B z (marks ((1 : Nat) : Int) asks.length) ∧ W'.heap.size = W.heap.size ∧ W.grownBy W' z.ownBlock) := fun W B z ho => by
    rw [hm0]
    exact markIs_any W B z 1 asks ho OL0.out (by have := OL0.out; have := OL1.out; omega)
  have HG0 : Hid (∀ (W : World) (B : Nat) (z : Value), Own W B z (marks ((1 : Nat) : Int) asks.length) → Calls Try.prog 28 #[z, .int .i64 ((1 : Nat) : Int)] W fun e W' => e = .returned (.int .i64 ((m0 : Nat) : Int)) ∧ W' = W) := fun W B z ho => by
    rw [hm0]
    exact heldIs_yes W z 1 asks.length ho.reads OL0.out (by have := OL0.out; have := OL1.out; omega)
  have LM0 : Hid ((marks ((1 : Nat) : Int) asks.length).length = asks.length) := by show _ = _; exact marks_len _ _
  have hmn0 : ¬ ((m0 : Nat) : Int) < 0 := by omega
  obtain ⟨m1, hm1⟩ : ∃ z : Nat, z = m0 + 2 * more.length := ⟨_, rfl⟩
  have MG1 : Hid (∀ (W : World) (B : Nat) (z : Value), OwnHv W B z more → Calls Try.prog 20 #[z, .int .i64 ((m0 : Nat) : Int)] W fun e W' => e = .returned (.int .i64 ((m1 : Nat) : Int)) ∧ OwnHv W' B z (marksHv m0 more.length) ∧ W'.heap.size = W.heap.size ∧ W.grownBy W' z.ownBlock) := fun W B z ho => by
    rw [hm1]
    exact markHvs_any W B z m0 more ho OL1.out (by have := OL0.out; have := OL1.out; omega)
  have HG1 : Hid (∀ (W : World) (B : Nat) (z : Value), OwnHv W B z (marksHv m0 more.length) → Calls Try.prog 29 #[z, .int .i64 ((m0 : Nat) : Int)] W fun e W' => e = .returned (.int .i64 ((m1 : Nat) : Int)) ∧ W' = W) := fun W B z ho => by
    rw [hm1]
    exact heldHvs_yes W z m0 more.length ho.reads OL1.out (by have := OL0.out; have := OL1.out; omega)
  have LM1 : Hid ((marksHv m0 more.length).length = more.length) := by show _ = _; exact marksHv_len _ _
  have hmn1 : ¬ ((m1 : Nat) : Int) < 0 := by omega
  clear hk0 hk1 hm0 hm1
  obtain ⟨t0, t1, t2⟩ := HBX.out w2 S2.out
  go_wp2
  clear t0 t1 t2
  have SA0 := Since.start w2
  have HKK : Hid (∀ w', Since w2.heap.size w2 w' → w'.cell? ⟨w.heap.size, 0, none⟩ = some (.int .i64 s.Lo) ∧ w'.cell? ⟨w.heap.size, 1, none⟩ = some (.int .i64 s.Hi) ∧ w'.cell? ⟨w.heap.size, 2, none⟩ = some (.slice a1 s.Hs.length c1)) := fun w' hs => HBX.out w' (S2.out.tran hs)
  refine wp_region_held_drew (S := (fun w' => w'.cell? ⟨w.heap.size, 0, none⟩ = some (.int .i64 s.Lo) ∧ w'.cell? ⟨w.heap.size, 1, none⟩ = some (.int .i64 s.Hi) ∧ w'.cell? ⟨w.heap.size, 2, none⟩ = some (.slice a1 s.Hs.length c1))) (by kernel_rfl) ?_ (fun hHeld => ?_)
  · exact HKK.out _ SA0.drew
  refine handRead 0 (some 31) (.slice a0 l.length c0) rfl rfl (by kernel_rfl) (by kernel_rfl) (by kernel_rfl) (fun _ _ _ h => h) (by kernel_rfl) (by assumption) ?_ ?_
  · intro w hSw
    (try dsimp only at hSw)
    go_simp
  simp only [Act.put, List.setIfInBounds_toArray, List.set_cons_zero, List.set_cons_succ]
  refine handRead 2 (some 33) (.agg #[.int .i64 s.Lo, .int .i64 s.Hi, .slice a1 s.Hs.length c1]) rfl rfl (by kernel_rfl) (by kernel_rfl) (by kernel_rfl) (fun _ _ _ h => h) (by kernel_rfl) (by assumption) ?_ ?_
  · intro w hSw
    (try dsimp only at hSw)
    go_simp
  simp only [Act.put, List.setIfInBounds_toArray, List.set_cons_zero, List.set_cons_succ]
  refine handCall 1 (some 32) 16 #[.slice a0 l.length c0] (by kernel_rfl) rfl rfl (by kernel_rfl) (by simp [go_sem]) ((toHvs_any _ _ l (HRD0.out _ (S2.out.tran SA0.drew)) LB0.out).mono ?_)
  rintro e w3 ⟨v3, rfl, ho3, hb3⟩
  obtain ⟨x3, y3, rfl⟩ := ho3.shape
  have SA1 := SA0.drew.step hb3
  have S3 : Hid (Since wb.heap.size wb w3) := S2.out.tran SA1
  have FRc0_3 : Hid (OwnHv w3 wb.heap.size (.slice x3 l.length y3) l) := ho3.mono (Nat.le_trans S2.out.2 (by simp))
  clear hHeld ho3 hb3
  refine ⟨_, rfl, (by exact HKK.out _ SA1), fun hHeld => ?_⟩
  simp only [Act.put, List.setIfInBounds_toArray, List.set_cons_zero, List.set_cons_succ]
  refine handCall 3 (some 34) 11 #[.agg #[.int .i64 s.Lo, .int .i64 s.Hi, .slice a1 s.Hs.length c1]] (by kernel_rfl) rfl rfl (by kernel_rfl) (by simp [go_sem]) ((toSm_any _ _ s (HRD1.out _ (S2.out.tran SA1)) LB1.out).mono ?_)
  rintro e w4 ⟨v4, rfl, ho4, hb4⟩
  obtain ⟨x4, y4, rfl⟩ := ho4.shape
  have SA2 := SA1.step hb4
  have S4 : Hid (Since wb.heap.size wb w4) := S2.out.tran SA2
  have FRc0_4 : Hid (OwnHv w4 wb.heap.size (.slice x3 l.length y3) l) := rowBelow FRc0_3.out hb4
  have FRc1_4 : Hid (OwnHv w4 wb.heap.size (.slice x4 s.Hs.length y4) s.Hs) := ho4.mono (Nat.le_trans S2.out.2 SA1.2)
  clear hHeld ho4 hb4
  refine ⟨_, rfl, (by exact HKK.out _ SA2), fun hHeld => ?_⟩
  simp only [Act.put, List.setIfInBounds_toArray, List.set_cons_zero, List.set_cons_succ]
  refine handCall 4 (some 35) 23 #[.slice x3 l.length y3, .agg #[.int .i64 s.Lo, .int .i64 s.Hi, .slice x4 s.Hs.length y4]] (by kernel_rfl) rfl rfl (by kernel_rfl) (by simp [go_sem]) ((CS.out _ _ _ _ FRc0_4.out FRc1_4.out).mono ?_)
  rintro e w5 ⟨u5_0, u5_1, rfl, hu5_0, hu5_1, ha5_0_1, hb5⟩
  obtain ⟨x5_0, y5_0, rfl⟩ := rowShape hu5_0
  obtain ⟨x5_1, y5_1, rfl⟩ := rowShape hu5_1
  have SA3 := SA2.step hb5
  have S5 : Hid (Since wb.heap.size wb w5) := S2.out.tran SA3
  have AP_R0_R1 : Hid (∀ k, (Value.slice x5_0 asks.length y5_0).ownBlock = some k → (Value.slice x5_1 more.length y5_1).ownBlock ≠ some k) := ha5_0_1
  have FR0_5 : Hid (Own w5 wb.heap.size (.slice x5_0 asks.length y5_0) asks) := rowMono hu5_0 (Nat.le_trans S2.out.2 SA2.2)
  have FR1_5 : Hid (OwnHv w5 wb.heap.size (.slice x5_1 more.length y5_1) more) := rowMono hu5_1 (Nat.le_trans S2.out.2 SA2.2)
  clear hHeld hb5 hu5_0 hu5_1 ha5_0_1
  refine ⟨_, rfl, (by exact HKK.out _ SA3), fun hHeld => ?_⟩
  simp only [Act.put, List.setIfInBounds_toArray, List.set_cons_zero, List.set_cons_succ]
  refine handRead 5 (some 30) (.tuple #[.slice x5_0 asks.length y5_0, .slice x5_1 more.length y5_1, .bool ok]) rfl rfl (by kernel_rfl) (by kernel_rfl) (by kernel_rfl) (fun _ _ _ h => h) (by kernel_rfl) (by assumption) ?_ ?_
  · intro w hSw
    (try dsimp only at hSw)
    go_simp
  simp only [Act.put, List.setIfInBounds_toArray, List.set_cons_zero, List.set_cons_succ]
  refine handRead 6 (some 36) (.slice x5_0 asks.length y5_0) rfl rfl (by kernel_rfl) (by kernel_rfl) (by kernel_rfl) (fun _ _ _ h => h) (by kernel_rfl) (by assumption) ?_ ?_
  · intro w hSw
    (try dsimp only at hSw)
    go_simp
  simp only [Act.put, List.setIfInBounds_toArray, List.set_cons_zero, List.set_cons_succ]
  refine handRead 7 (some 37) (.slice x5_1 more.length y5_1) rfl rfl (by kernel_rfl) (by kernel_rfl) (by kernel_rfl) (fun _ _ _ h => h) (by kernel_rfl) (by assumption) ?_ ?_
  · intro w hSw
    (try dsimp only at hSw)
    go_simp
  simp only [Act.put, List.setIfInBounds_toArray, List.set_cons_zero, List.set_cons_succ]
  refine handRead 8 (some 38) (.bool ok) rfl rfl (by kernel_rfl) (by kernel_rfl) (by kernel_rfl) (fun _ _ _ h => h) (by kernel_rfl) (by assumption) ?_ ?_
  · intro w hSw
    (try dsimp only at hSw)
    go_simp
  simp only [Act.put, List.setIfInBounds_toArray, List.set_cons_zero, List.set_cons_succ]
  refine handRead 9 (some 6) (.slice x5_0 asks.length y5_0) rfl rfl (by kernel_rfl) (by kernel_rfl) (by kernel_rfl) (fun _ _ _ h => h) (by kernel_rfl) (by assumption) ?_ ?_
  · intro w hSw
    (try dsimp only at hSw)
    go_simp
  simp only [Act.put, List.setIfInBounds_toArray, List.set_cons_zero, List.set_cons_succ]
  refine handRead 10 (some 7) (.slice x5_1 more.length y5_1) rfl rfl (by kernel_rfl) (by kernel_rfl) (by kernel_rfl) (fun _ _ _ h => h) (by kernel_rfl) (by assumption) ?_ ?_
  · intro w hSw
    (try dsimp only at hSw)
    go_simp
  simp only [Act.put, List.setIfInBounds_toArray, List.set_cons_zero, List.set_cons_succ]
  refine handRead 11 (some 8) (.bool ok) rfl rfl (by kernel_rfl) (by kernel_rfl) (by kernel_rfl) (fun _ _ _ h => h) (by kernel_rfl) (by assumption) ?_ ?_
  · intro w hSw
    (try dsimp only at hSw)
    go_simp
  simp only [Act.put, List.setIfInBounds_toArray, List.set_cons_zero, List.set_cons_succ]
  refine wpAnyH_done (by kernel_rfl) ?_ _
  obtain ⟨t0, t1, t2⟩ := HBX.out w5 S5.out
  go_wp2_with fail
  clear t0 t1 t2
  refine (toHvs_any _ _ l (HRD0.out _ S5.out) LB0.out).mono ?_
  rintro e w6 ⟨v6, rfl, ho6, hb6⟩
  obtain ⟨x6, y6, rfl⟩ := ho6.shape
  have S6 : Hid (Since wb.heap.size wb w6) := S5.out.step hb6
  have N6 : Hid (OwnHv w6 w5.heap.size (.slice x6 l.length y6) l) := ho6
  have B6 : Hid (Below w5.heap.size w5 w6) := hb6
  have FR0_6 : Hid (Own w6 wb.heap.size (.slice x5_0 asks.length y5_0) asks) := rowBelow FR0_5.out B6.out
  have AP_R0_X0 : Hid (∀ k, (Value.slice x5_0 asks.length y5_0).ownBlock = some k → (Value.slice x6 l.length y6).ownBlock ≠ some k) := rowsApartLt FR0_5.out N6.out (Nat.le_refl _)
  have FR1_6 : Hid (OwnHv w6 wb.heap.size (.slice x5_1 more.length y5_1) more) := rowBelow FR1_5.out B6.out
  have AP_R1_X0 : Hid (∀ k, (Value.slice x5_1 more.length y5_1).ownBlock = some k → (Value.slice x6 l.length y6).ownBlock ≠ some k) := rowsApartLt FR1_5.out N6.out (Nat.le_refl _)
  have FX0_6 : Hid (OwnHv w6 wb.heap.size (.slice x6 l.length y6) l) := ho6.mono S5.out.2
  clear ho6 hb6
  obtain ⟨t0, t1, t2⟩ := HBX.out w6 S6.out
  go_wp2_with fail
  clear t0 t1 t2
  refine (toSm_any _ _ s (HRD1.out _ S6.out) LB1.out).mono ?_
  rintro e w7 ⟨v7, rfl, ho7, hb7⟩
  obtain ⟨x7, y7, rfl⟩ := ho7.shape
  have S7 : Hid (Since wb.heap.size wb w7) := S6.out.step hb7
  have N7 : Hid (OwnHv w7 w6.heap.size (.slice x7 s.Hs.length y7) s.Hs) := ho7
  have B7 : Hid (Below w6.heap.size w6 w7) := hb7
  have FR0_7 : Hid (Own w7 wb.heap.size (.slice x5_0 asks.length y5_0) asks) := rowBelow FR0_6.out B7.out
  have AP_R0_X1 : Hid (∀ k, (Value.slice x5_0 asks.length y5_0).ownBlock = some k → (Value.slice x7 s.Hs.length y7).ownBlock ≠ some k) := rowsApartLt FR0_6.out N7.out (Nat.le_refl _)
  have FR1_7 : Hid (OwnHv w7 wb.heap.size (.slice x5_1 more.length y5_1) more) := rowBelow FR1_6.out B7.out
  have AP_R1_X1 : Hid (∀ k, (Value.slice x5_1 more.length y5_1).ownBlock = some k → (Value.slice x7 s.Hs.length y7).ownBlock ≠ some k) := rowsApartLt FR1_6.out N7.out (Nat.le_refl _)
  have FX0_7 : Hid (OwnHv w7 wb.heap.size (.slice x6 l.length y6) l) := rowBelow FX0_6.out B7.out
  have AP_X0_X1 : Hid (∀ k, (Value.slice x6 l.length y6).ownBlock = some k → (Value.slice x7 s.Hs.length y7).ownBlock ≠ some k) := rowsApartLt FX0_6.out N7.out (Nat.le_refl _)
  have FX1_7 : Hid (OwnHv w7 wb.heap.size (.slice x7 s.Hs.length y7) s.Hs) := ho7.mono S6.out.2
  clear ho7 hb7
  obtain ⟨w8, hw8⟩ : ∃ x, x = w7.alloc (.cells #[.int .i64 s.Lo, .int .i64 s.Hi, .slice x7 s.Hs.length y7] 29) := ⟨_, rfl⟩
  have hb8 : Below w7.heap.size w7 w8 := by rw [hw8]; exact (Below.refl _ _).alloc (Nat.le_refl _) _
  have S8 : Hid (Since wb.heap.size wb w8) := S7.out.step hb8
  have FR0_8 : Hid (Own w8 wb.heap.size (.slice x5_0 asks.length y5_0) asks) := rowBelow FR0_7.out hb8
  have FR1_8 : Hid (OwnHv w8 wb.heap.size (.slice x5_1 more.length y5_1) more) := rowBelow FR1_7.out hb8
  have FX0_8 : Hid (OwnHv w8 wb.heap.size (.slice x6 l.length y6) l) := rowBelow FX0_7.out hb8
  have FX1_8 : Hid (OwnHv w8 wb.heap.size (.slice x7 s.Hs.length y7) s.Hs) := rowBelow FX1_7.out hb8
  have QX1_8 : Hid (SmBox w8 w7.heap.size (.int .i64 s.Lo) (.int .i64 s.Hi) (.slice x7 s.Hs.length y7)) := by show SmBox _ _ _ _ _; rw [hw8]; exact SmBox.new _ _ _ _ _
  have APB_R0_X1 : Hid (∀ k, (Value.slice x5_0 asks.length y5_0).ownBlock = some k → k ≠ w7.heap.size) := fun k hk e => by have := (World.ownsRow.lt FR0_7.out k hk).2; omega
  have APB_R1_X1 : Hid (∀ k, (Value.slice x5_1 more.length y5_1).ownBlock = some k → k ≠ w7.heap.size) := fun k hk e => by have := (World.ownsRow.lt FR1_7.out k hk).2; omega
  have APB_X0_X1 : Hid (∀ k, (Value.slice x6 l.length y6).ownBlock = some k → k ≠ w7.heap.size) := fun k hk e => by have := (World.ownsRow.lt FX0_7.out k hk).2; omega
  have APB_X1_X1 : Hid (∀ k, (Value.slice x7 s.Hs.length y7).ownBlock = some k → k ≠ w7.heap.size) := fun k hk e => by have := (World.ownsRow.lt FX1_7.out k hk).2; omega
  clear hb8
  obtain ⟨t0, t1, t2⟩ := HBX.out w7 S7.out
  go_wp2_with fail
  rw [← hw8]
  clear hw8
  clear t0 t1 t2
  refine (CI.out _ _ _ _ FX0_8.out FX1_8.out).mono ?_
  rintro e w9 ⟨u9_0, u9_1, rfl, hu9_0, hu9_1, ha9_0_1, hb9⟩
  obtain ⟨x9_0, y9_0, rfl⟩ := rowShape hu9_0
  obtain ⟨x9_1, y9_1, rfl⟩ := rowShape hu9_1
  have S9 : Hid (Since wb.heap.size wb w9) := S8.out.step hb9
  have FR0_9 : Hid (Own w9 wb.heap.size (.slice x5_0 asks.length y5_0) asks) := rowBelow FR0_8.out hb9
  have AP_R0_G0 : Hid (∀ k, (Value.slice x5_0 asks.length y5_0).ownBlock = some k → (Value.slice x9_0 asks.length y9_0).ownBlock ≠ some k) := rowsApartLt FR0_8.out hu9_0 (Nat.le_refl _)
  have AP_R0_G1 : Hid (∀ k, (Value.slice x5_0 asks.length y5_0).ownBlock = some k → (Value.slice x9_1 more.length y9_1).ownBlock ≠ some k) := rowsApartLt FR0_8.out hu9_1 (Nat.le_refl _)
  have FR1_9 : Hid (OwnHv w9 wb.heap.size (.slice x5_1 more.length y5_1) more) := rowBelow FR1_8.out hb9
  have AP_R1_G0 : Hid (∀ k, (Value.slice x5_1 more.length y5_1).ownBlock = some k → (Value.slice x9_0 asks.length y9_0).ownBlock ≠ some k) := rowsApartLt FR1_8.out hu9_0 (Nat.le_refl _)
  have AP_R1_G1 : Hid (∀ k, (Value.slice x5_1 more.length y5_1).ownBlock = some k → (Value.slice x9_1 more.length y9_1).ownBlock ≠ some k) := rowsApartLt FR1_8.out hu9_1 (Nat.le_refl _)
  have FX0_9 : Hid (OwnHv w9 wb.heap.size (.slice x6 l.length y6) l) := rowBelow FX0_8.out hb9
  have AP_X0_G0 : Hid (∀ k, (Value.slice x6 l.length y6).ownBlock = some k → (Value.slice x9_0 asks.length y9_0).ownBlock ≠ some k) := rowsApartLt FX0_8.out hu9_0 (Nat.le_refl _)
  have AP_X0_G1 : Hid (∀ k, (Value.slice x6 l.length y6).ownBlock = some k → (Value.slice x9_1 more.length y9_1).ownBlock ≠ some k) := rowsApartLt FX0_8.out hu9_1 (Nat.le_refl _)
  have FX1_9 : Hid (OwnHv w9 wb.heap.size (.slice x7 s.Hs.length y7) s.Hs) := rowBelow FX1_8.out hb9
  have AP_X1_G0 : Hid (∀ k, (Value.slice x7 s.Hs.length y7).ownBlock = some k → (Value.slice x9_0 asks.length y9_0).ownBlock ≠ some k) := rowsApartLt FX1_8.out hu9_0 (Nat.le_refl _)
  have AP_X1_G1 : Hid (∀ k, (Value.slice x7 s.Hs.length y7).ownBlock = some k → (Value.slice x9_1 more.length y9_1).ownBlock ≠ some k) := rowsApartLt FX1_8.out hu9_1 (Nat.le_refl _)
  have QX1_9 : Hid (SmBox w9 w7.heap.size (.int .i64 s.Lo) (.int .i64 s.Hi) (.slice x7 s.Hs.length y7)) := QX1_8.out.below hb9
  have AP_G0_G1 : Hid (∀ k, (Value.slice x9_0 asks.length y9_0).ownBlock = some k → (Value.slice x9_1 more.length y9_1).ownBlock ≠ some k) := ha9_0_1
  have FG0_9 : Hid (Own w9 wb.heap.size (.slice x9_0 asks.length y9_0) asks) := rowMono hu9_0 S8.out.2
  have FG1_9 : Hid (OwnHv w9 wb.heap.size (.slice x9_1 more.length y9_1) more) := rowMono hu9_1 S8.out.2
  clear hb9 hu9_0 hu9_1 ha9_0_1
  obtain ⟨t0, t1, t2⟩ := HBX.out w9 S9.out
  obtain ⟨-, z0, z1, z2⟩ := QX1_9.out
  go_wp2_with fail
  clear t0 t1 t2
  clear z0 z1 z2
  refine (eqIs_same _ _ _ asks FG0_9.out.reads FR0_9.out.reads OL0.out).mono ?_
  rintro e w10 ⟨rfl, hb10⟩
  have S10 : Hid (Since wb.heap.size wb w10) := S9.out.step hb10
  have FR0_10 : Hid (Own w10 wb.heap.size (.slice x5_0 asks.length y5_0) asks) := rowBelow FR0_9.out hb10
  have FR1_10 : Hid (OwnHv w10 wb.heap.size (.slice x5_1 more.length y5_1) more) := rowBelow FR1_9.out hb10
  have FX0_10 : Hid (OwnHv w10 wb.heap.size (.slice x6 l.length y6) l) := rowBelow FX0_9.out hb10
  have FX1_10 : Hid (OwnHv w10 wb.heap.size (.slice x7 s.Hs.length y7) s.Hs) := rowBelow FX1_9.out hb10
  have FG0_10 : Hid (Own w10 wb.heap.size (.slice x9_0 asks.length y9_0) asks) := rowBelow FG0_9.out hb10
  have FG1_10 : Hid (OwnHv w10 wb.heap.size (.slice x9_1 more.length y9_1) more) := rowBelow FG1_9.out hb10
  have QX1_10 : Hid (SmBox w10 w7.heap.size (.int .i64 s.Lo) (.int .i64 s.Hi) (.slice x7 s.Hs.length y7)) := QX1_9.out.below hb10
  clear hb10
  obtain ⟨t0, t1, t2⟩ := HBX.out w10 S10.out
  obtain ⟨-, z0, z1, z2⟩ := QX1_10.out
  go_wp2_with fail
  clear t0 t1 t2
  clear z0 z1 z2
  refine (eqHvs_same _ _ _ more FG1_10.out.reads FR1_10.out.reads OL1.out).mono ?_
  rintro e w11 ⟨rfl, hb11⟩
  have S11 : Hid (Since wb.heap.size wb w11) := S10.out.step hb11
  have FR0_11 : Hid (Own w11 wb.heap.size (.slice x5_0 asks.length y5_0) asks) := rowBelow FR0_10.out hb11
  have FR1_11 : Hid (OwnHv w11 wb.heap.size (.slice x5_1 more.length y5_1) more) := rowBelow FR1_10.out hb11
  have FX0_11 : Hid (OwnHv w11 wb.heap.size (.slice x6 l.length y6) l) := rowBelow FX0_10.out hb11
  have FX1_11 : Hid (OwnHv w11 wb.heap.size (.slice x7 s.Hs.length y7) s.Hs) := rowBelow FX1_10.out hb11
  have FG0_11 : Hid (Own w11 wb.heap.size (.slice x9_0 asks.length y9_0) asks) := rowBelow FG0_10.out hb11
  have FG1_11 : Hid (OwnHv w11 wb.heap.size (.slice x9_1 more.length y9_1) more) := rowBelow FG1_10.out hb11
  have QX1_11 : Hid (SmBox w11 w7.heap.size (.int .i64 s.Lo) (.int .i64 s.Hi) (.slice x7 s.Hs.length y7)) := QX1_10.out.below hb11
  clear hb11
  obtain ⟨t0, t1, t2⟩ := HBX.out w11 S11.out
  obtain ⟨-, z0, z1, z2⟩ := QX1_11.out
  go_wp2_with fail
  clear t0 t1 t2
  clear z0 z1 z2
  refine (toHvs_any _ _ l (HRD0.out _ S11.out) LB0.out).mono ?_
  rintro e w12 ⟨v12, rfl, ho12, hb12⟩
  obtain ⟨x12, y12, rfl⟩ := ho12.shape
  have S12 : Hid (Since wb.heap.size wb w12) := S11.out.step hb12
  have N12 : Hid (OwnHv w12 w11.heap.size (.slice x12 l.length y12) l) := ho12
  have B12 : Hid (Below w11.heap.size w11 w12) := hb12
  have FR0_12 : Hid (Own w12 wb.heap.size (.slice x5_0 asks.length y5_0) asks) := rowBelow FR0_11.out B12.out
  have FR1_12 : Hid (OwnHv w12 wb.heap.size (.slice x5_1 more.length y5_1) more) := rowBelow FR1_11.out B12.out
  have FX0_12 : Hid (OwnHv w12 wb.heap.size (.slice x6 l.length y6) l) := rowBelow FX0_11.out B12.out
  have FX1_12 : Hid (OwnHv w12 wb.heap.size (.slice x7 s.Hs.length y7) s.Hs) := rowBelow FX1_11.out B12.out
  have FG0_12 : Hid (Own w12 wb.heap.size (.slice x9_0 asks.length y9_0) asks) := rowBelow FG0_11.out B12.out
  have FG1_12 : Hid (OwnHv w12 wb.heap.size (.slice x9_1 more.length y9_1) more) := rowBelow FG1_11.out B12.out
  have QX1_12 : Hid (SmBox w12 w7.heap.size (.int .i64 s.Lo) (.int .i64 s.Hi) (.slice x7 s.Hs.length y7)) := QX1_11.out.below B12.out
  have FC_12 : Hid (OwnHv w12 wb.heap.size (.slice x12 l.length y12) l) := ho12.mono S11.out.2
  clear ho12 hb12
  obtain ⟨t0, t1, t2⟩ := HBX.out w12 S12.out
  obtain ⟨-, z0, z1, z2⟩ := QX1_12.out
  go_wp2_with fail
  clear t0 t1 t2
  clear z0 z1 z2
  refine (eqHvs_same _ _ _ l FX0_12.out.reads FC_12.out.reads LB0.out).mono ?_
  rintro e w13 ⟨rfl, hb13⟩
  have S13 : Hid (Since wb.heap.size wb w13) := S12.out.step hb13
  have FR0_13 : Hid (Own w13 wb.heap.size (.slice x5_0 asks.length y5_0) asks) := rowBelow FR0_12.out hb13
  have FR1_13 : Hid (OwnHv w13 wb.heap.size (.slice x5_1 more.length y5_1) more) := rowBelow FR1_12.out hb13
  have FX0_13 : Hid (OwnHv w13 wb.heap.size (.slice x6 l.length y6) l) := rowBelow FX0_12.out hb13
  have FX1_13 : Hid (OwnHv w13 wb.heap.size (.slice x7 s.Hs.length y7) s.Hs) := rowBelow FX1_12.out hb13
  have FG0_13 : Hid (Own w13 wb.heap.size (.slice x9_0 asks.length y9_0) asks) := rowBelow FG0_12.out hb13
  have FG1_13 : Hid (OwnHv w13 wb.heap.size (.slice x9_1 more.length y9_1) more) := rowBelow FG1_12.out hb13
  have FC_13 : Hid (OwnHv w13 wb.heap.size (.slice x12 l.length y12) l) := rowBelow FC_12.out hb13
  have QX1_13 : Hid (SmBox w13 w7.heap.size (.int .i64 s.Lo) (.int .i64 s.Hi) (.slice x7 s.Hs.length y7)) := QX1_12.out.below hb13
  clear hb13
  obtain ⟨t0, t1, t2⟩ := HBX.out w13 S13.out
  obtain ⟨-, z0, z1, z2⟩ := QX1_13.out
  go_wp2
  clear t0 t1 t2
  clear z0 z1 z2
  have SA0 := Since.start w13
  have HKK : Hid (∀ w', Since w13.heap.size w13 w' → (w'.cell? ⟨w.heap.size, 0, none⟩ = some (.int .i64 s.Lo) ∧ w'.cell? ⟨w.heap.size, 1, none⟩ = some (.int .i64 s.Hi) ∧ w'.cell? ⟨w.heap.size, 2, none⟩ = some (.slice a1 s.Hs.length c1)) ∧ (w'.cell? ⟨w7.heap.size, 0, none⟩ = some (.int .i64 s.Lo) ∧ w'.cell? ⟨w7.heap.size, 1, none⟩ = some (.int .i64 s.Hi) ∧ w'.cell? ⟨w7.heap.size, 2, none⟩ = some (.slice x7 s.Hs.length y7))) := fun w' hs => ⟨HBX.out w' (S13.out.tran hs), (QX1_13.out.below hs.1).2⟩
  refine wp_region_held_drew (S := (fun w' => (w'.cell? ⟨w.heap.size, 0, none⟩ = some (.int .i64 s.Lo) ∧ w'.cell? ⟨w.heap.size, 1, none⟩ = some (.int .i64 s.Hi) ∧ w'.cell? ⟨w.heap.size, 2, none⟩ = some (.slice a1 s.Hs.length c1)) ∧ (w'.cell? ⟨w7.heap.size, 0, none⟩ = some (.int .i64 s.Lo) ∧ w'.cell? ⟨w7.heap.size, 1, none⟩ = some (.int .i64 s.Hi) ∧ w'.cell? ⟨w7.heap.size, 2, none⟩ = some (.slice x7 s.Hs.length y7)))) (by kernel_rfl) ?_ (fun hHeld => ?_)
  · exact HKK.out _ SA0.drew
  refine handRead 0 (some 70) (.agg #[.int .i64 s.Lo, .int .i64 s.Hi, .slice x7 s.Hs.length y7]) rfl rfl (by kernel_rfl) (by kernel_rfl) (by kernel_rfl) (fun _ _ _ h => h) (by kernel_rfl) (by assumption) ?_ ?_
  · intro w hSw
    (try dsimp only at hSw)
    go_simp
  simp only [Act.put, List.setIfInBounds_toArray, List.set_cons_zero, List.set_cons_succ]
  refine handRead 1 (some 71) (.agg #[.int .i64 s.Lo, .int .i64 s.Hi, .slice a1 s.Hs.length c1]) rfl rfl (by kernel_rfl) (by kernel_rfl) (by kernel_rfl) (fun _ _ _ h => h) (by kernel_rfl) (by assumption) ?_ ?_
  · intro w hSw
    (try dsimp only at hSw)
    go_simp
  simp only [Act.put, List.setIfInBounds_toArray, List.set_cons_zero, List.set_cons_succ]
  refine handCall 2 (some 72) 11 #[.agg #[.int .i64 s.Lo, .int .i64 s.Hi, .slice a1 s.Hs.length c1]] (by kernel_rfl) rfl rfl (by kernel_rfl) (by simp [go_sem]) ((toSm_any _ _ s (HRD1.out _ (S13.out.tran SA0.drew)) LB1.out).mono ?_)
  rintro e w14 ⟨v14, rfl, ho14, hb14⟩
  obtain ⟨x14, y14, rfl⟩ := ho14.shape
  have SA1 := SA0.drew.step hb14
  have S14 : Hid (Since wb.heap.size wb w14) := S13.out.tran SA1
  have FR0_14 : Hid (Own w14 wb.heap.size (.slice x5_0 asks.length y5_0) asks) := rowBelow FR0_13.out SA1.1
  have FR1_14 : Hid (OwnHv w14 wb.heap.size (.slice x5_1 more.length y5_1) more) := rowBelow FR1_13.out SA1.1
  have FX0_14 : Hid (OwnHv w14 wb.heap.size (.slice x6 l.length y6) l) := rowBelow FX0_13.out SA1.1
  have FX1_14 : Hid (OwnHv w14 wb.heap.size (.slice x7 s.Hs.length y7) s.Hs) := rowBelow FX1_13.out SA1.1
  have FG0_14 : Hid (Own w14 wb.heap.size (.slice x9_0 asks.length y9_0) asks) := rowBelow FG0_13.out SA1.1
  have FG1_14 : Hid (OwnHv w14 wb.heap.size (.slice x9_1 more.length y9_1) more) := rowBelow FG1_13.out SA1.1
  have FC_14 : Hid (OwnHv w14 wb.heap.size (.slice x14 s.Hs.length y14) s.Hs) := ho14.mono (Nat.le_trans S13.out.2 (by simp))
  have QX1_14 : Hid (SmBox w14 w7.heap.size (.int .i64 s.Lo) (.int .i64 s.Hi) (.slice x7 s.Hs.length y7)) := QX1_13.out.below SA1.1
  clear hHeld ho14 hb14
  refine ⟨_, rfl, (by exact HKK.out _ SA1), fun hHeld => ?_⟩
  simp only [Act.put, List.setIfInBounds_toArray, List.set_cons_zero, List.set_cons_succ]
  refine handCall 3 (some 73) 13 #[.agg #[.int .i64 s.Lo, .int .i64 s.Hi, .slice x7 s.Hs.length y7], .agg #[.int .i64 s.Lo, .int .i64 s.Hi, .slice x14 s.Hs.length y14]] (by kernel_rfl) rfl rfl (by kernel_rfl) (by simp [go_sem]) ((eqSm_same _ _ _ s FX1_14.out.reads FC_14.out.reads LB1.out).mono ?_)
  rintro e w15 ⟨rfl, hb15⟩
  have SA2 := SA1.step hb15
  have S15 : Hid (Since wb.heap.size wb w15) := S13.out.tran SA2
  have FR0_15 : Hid (Own w15 wb.heap.size (.slice x5_0 asks.length y5_0) asks) := rowBelow FR0_14.out hb15
  have FR1_15 : Hid (OwnHv w15 wb.heap.size (.slice x5_1 more.length y5_1) more) := rowBelow FR1_14.out hb15
  have FX0_15 : Hid (OwnHv w15 wb.heap.size (.slice x6 l.length y6) l) := rowBelow FX0_14.out hb15
  have FX1_15 : Hid (OwnHv w15 wb.heap.size (.slice x7 s.Hs.length y7) s.Hs) := rowBelow FX1_14.out hb15
  have FG0_15 : Hid (Own w15 wb.heap.size (.slice x9_0 asks.length y9_0) asks) := rowBelow FG0_14.out hb15
  have FG1_15 : Hid (OwnHv w15 wb.heap.size (.slice x9_1 more.length y9_1) more) := rowBelow FG1_14.out hb15
  have QX1_15 : Hid (SmBox w15 w7.heap.size (.int .i64 s.Lo) (.int .i64 s.Hi) (.slice x7 s.Hs.length y7)) := QX1_14.out.below hb15
  clear hHeld hb15
  refine ⟨_, rfl, (by exact HKK.out _ SA2), fun hHeld => ?_⟩
  simp only [Act.put, List.setIfInBounds_toArray, List.set_cons_zero, List.set_cons_succ]
  refine handRead 4 (some 74) (.bool false) rfl rfl (by kernel_rfl) (by kernel_rfl) (by kernel_rfl) (fun _ _ _ h => h) (by kernel_rfl) (by assumption) ?_ ?_
  · intro w hSw
    (try dsimp only at hSw)
    go_simp
  simp only [Act.put, List.setIfInBounds_toArray, List.set_cons_zero, List.set_cons_succ]
  refine wpAnyH_done (by kernel_rfl) ?_ _
  obtain ⟨t0, t1, t2⟩ := HBX.out w15 S15.out
  obtain ⟨-, z0, z1, z2⟩ := QX1_15.out
  go_wp2_with fail
  clear t0 t1 t2
  clear z0 z1 z2
  refine (MX0.out _ _ _ FX0_15.out).mono ?_
  rintro e w16 ⟨rfl, hg16⟩
  have S16 : Hid (Since wb.heap.size wb w16) := S15.out.grown hg16 (fun k hk => (World.ownsRow.lt FX0_15.out k hk).1)
  have FR0_16 : Hid (Own w16 wb.heap.size (.slice x5_0 asks.length y5_0) asks) := rowGrow FR0_15.out hg16 (apartSym AP_R0_X0.out)
  have FR1_16 : Hid (OwnHv w16 wb.heap.size (.slice x5_1 more.length y5_1) more) := rowGrow FR1_15.out hg16 (apartSym AP_R1_X0.out)
  have FX1_16 : Hid (OwnHv w16 wb.heap.size (.slice x7 s.Hs.length y7) s.Hs) := rowGrow FX1_15.out hg16 (AP_X0_X1.out)
  have FG0_16 : Hid (Own w16 wb.heap.size (.slice x9_0 asks.length y9_0) asks) := rowGrow FG0_15.out hg16 (AP_X0_G0.out)
  have FG1_16 : Hid (OwnHv w16 wb.heap.size (.slice x9_1 more.length y9_1) more) := rowGrow FG1_15.out hg16 (AP_X0_G1.out)
  have QX1_16 : Hid (SmBox w16 w7.heap.size (.int .i64 s.Lo) (.int .i64 s.Hi) (.slice x7 s.Hs.length y7)) := QX1_15.out.grown hg16 APB_X0_X1.out
  clear hg16
  obtain ⟨t0, t1, t2⟩ := HBX.out w16 S16.out
  obtain ⟨-, z0, z1, z2⟩ := QX1_16.out
  go_wp2_with fail
  clear t0 t1 t2
  clear z0 z1 z2
  refine (MX1.out _ _ _ FX1_16.out).mono ?_
  rintro e w17 ⟨rfl, hg17⟩
  have S17 : Hid (Since wb.heap.size wb w17) := S16.out.grown hg17 (fun k hk => (World.ownsRow.lt FX1_16.out k hk).1)
  have FR0_17 : Hid (Own w17 wb.heap.size (.slice x5_0 asks.length y5_0) asks) := rowGrow FR0_16.out hg17 (apartSym AP_R0_X1.out)
  have FR1_17 : Hid (OwnHv w17 wb.heap.size (.slice x5_1 more.length y5_1) more) := rowGrow FR1_16.out hg17 (apartSym AP_R1_X1.out)
  have FG0_17 : Hid (Own w17 wb.heap.size (.slice x9_0 asks.length y9_0) asks) := rowGrow FG0_16.out hg17 (AP_X1_G0.out)
  have FG1_17 : Hid (OwnHv w17 wb.heap.size (.slice x9_1 more.length y9_1) more) := rowGrow FG1_16.out hg17 (AP_X1_G1.out)
  clear hg17
  obtain ⟨t0, t1, t2⟩ := HBX.out w17 S17.out
  go_wp2_with fail
  clear t0 t1 t2
  refine (eqIs_same _ _ _ asks FG0_17.out.reads FR0_17.out.reads OL0.out).mono ?_
  rintro e w18 ⟨rfl, hb18⟩
  have S18 : Hid (Since wb.heap.size wb w18) := S17.out.step hb18
  have FR0_18 : Hid (Own w18 wb.heap.size (.slice x5_0 asks.length y5_0) asks) := rowBelow FR0_17.out hb18
  have FR1_18 : Hid (OwnHv w18 wb.heap.size (.slice x5_1 more.length y5_1) more) := rowBelow FR1_17.out hb18
  have FG0_18 : Hid (Own w18 wb.heap.size (.slice x9_0 asks.length y9_0) asks) := rowBelow FG0_17.out hb18
  have FG1_18 : Hid (OwnHv w18 wb.heap.size (.slice x9_1 more.length y9_1) more) := rowBelow FG1_17.out hb18
  clear hb18
  obtain ⟨t0, t1, t2⟩ := HBX.out w18 S18.out
  go_wp2_with fail
  clear t0 t1 t2
  refine (eqHvs_same _ _ _ more FG1_18.out.reads FR1_18.out.reads OL1.out).mono ?_
  rintro e w19 ⟨rfl, hb19⟩
  have S19 : Hid (Since wb.heap.size wb w19) := S18.out.step hb19
  have FR0_19 : Hid (Own w19 wb.heap.size (.slice x5_0 asks.length y5_0) asks) := rowBelow FR0_18.out hb19
  have FR1_19 : Hid (OwnHv w19 wb.heap.size (.slice x5_1 more.length y5_1) more) := rowBelow FR1_18.out hb19
  have FG0_19 : Hid (Own w19 wb.heap.size (.slice x9_0 asks.length y9_0) asks) := rowBelow FG0_18.out hb19
  have FG1_19 : Hid (OwnHv w19 wb.heap.size (.slice x9_1 more.length y9_1) more) := rowBelow FG1_18.out hb19
  clear hb19
  obtain ⟨t0, t1, t2⟩ := HBX.out w19 S19.out
  go_wp2_with fail
  clear t0 t1 t2
  refine (MG0.out _ _ _ FG0_19.out).mono ?_
  rintro e w20 ⟨rfl, hm20, -, hg20⟩
  have S20 : Hid (Since wb.heap.size wb w20) := S19.out.grown hg20 (fun k hk => (World.ownsRow.lt FG0_19.out k hk).1)
  have FR0_20 : Hid (Own w20 wb.heap.size (.slice x5_0 asks.length y5_0) asks) := rowGrow FR0_19.out hg20 (apartSym AP_R0_G0.out)
  have FR1_20 : Hid (OwnHv w20 wb.heap.size (.slice x5_1 more.length y5_1) more) := rowGrow FR1_19.out hg20 (apartSym AP_R1_G0.out)
  have FG1_20 : Hid (OwnHv w20 wb.heap.size (.slice x9_1 more.length y9_1) more) := rowGrow FG1_19.out hg20 (AP_G0_G1.out)
  have FG0_20 : Hid (Own w20 wb.heap.size (.slice x9_0 asks.length y9_0) (marks ((1 : Nat) : Int) asks.length)) := hm20
  clear hm20 hg20
  obtain ⟨t0, t1, t2⟩ := HBX.out w20 S20.out
  go_wp2_with fail
  clear t0 t1 t2
  refine (MG1.out _ _ _ FG1_20.out).mono ?_
  rintro e w21 ⟨rfl, hm21, -, hg21⟩
  have S21 : Hid (Since wb.heap.size wb w21) := S20.out.grown hg21 (fun k hk => (World.ownsRow.lt FG1_20.out k hk).1)
  have FR0_21 : Hid (Own w21 wb.heap.size (.slice x5_0 asks.length y5_0) asks) := rowGrow FR0_20.out hg21 (apartSym AP_R0_G1.out)
  have FR1_21 : Hid (OwnHv w21 wb.heap.size (.slice x5_1 more.length y5_1) more) := rowGrow FR1_20.out hg21 (apartSym AP_R1_G1.out)
  have FG0_21 : Hid (Own w21 wb.heap.size (.slice x9_0 asks.length y9_0) (marks ((1 : Nat) : Int) asks.length)) := rowGrow FG0_20.out hg21 (apartSym AP_G0_G1.out)
  have FG1_21 : Hid (OwnHv w21 wb.heap.size (.slice x9_1 more.length y9_1) (marksHv m0 more.length)) := hm21
  clear hm21 hg21
  obtain ⟨t0, t1, t2⟩ := HBX.out w21 S21.out
  go_wp2_with fail
  clear t0 t1 t2
  refine (HG0.out _ _ _ FG0_21.out).mono ?_
  rintro e q1 ⟨rfl, hq1⟩
  obtain rfl : w21 = q1 := hq1.symm
  obtain ⟨t0, t1, t2⟩ := HBX.out w21 S21.out
  go_wp2_with fail
  clear t0 t1 t2
  refine (HG1.out _ _ _ FG1_21.out).mono ?_
  rintro e q2 ⟨rfl, hq2⟩
  obtain rfl : w21 = q2 := hq2.symm
  obtain ⟨t0, t1, t2⟩ := HBX.out w21 S21.out
  go_wp2
  clear t0 t1 t2
  have SA0 := Since.start w21
  have HKK : Hid (∀ w', Since w21.heap.size w21 w' → w'.cell? ⟨w.heap.size, 0, none⟩ = some (.int .i64 s.Lo) ∧ w'.cell? ⟨w.heap.size, 1, none⟩ = some (.int .i64 s.Hi) ∧ w'.cell? ⟨w.heap.size, 2, none⟩ = some (.slice a1 s.Hs.length c1)) := fun w' hs => HBX.out w' (S21.out.tran hs)
  refine wp_region_held_drew (S := (fun w' => w'.cell? ⟨w.heap.size, 0, none⟩ = some (.int .i64 s.Lo) ∧ w'.cell? ⟨w.heap.size, 1, none⟩ = some (.int .i64 s.Hi) ∧ w'.cell? ⟨w.heap.size, 2, none⟩ = some (.slice a1 s.Hs.length c1))) (by kernel_rfl) ?_ (fun hHeld => ?_)
  · exact HKK.out _ SA0.drew
  refine handRead 0 (some 120) (.slice a0 l.length c0) rfl rfl (by kernel_rfl) (by kernel_rfl) (by kernel_rfl) (fun _ _ _ h => h) (by kernel_rfl) (by assumption) ?_ ?_
  · intro w hSw
    (try dsimp only at hSw)
    go_simp
  simp only [Act.put, List.setIfInBounds_toArray, List.set_cons_zero, List.set_cons_succ]
  refine handRead 2 (some 122) (.agg #[.int .i64 s.Lo, .int .i64 s.Hi, .slice a1 s.Hs.length c1]) rfl rfl (by kernel_rfl) (by kernel_rfl) (by kernel_rfl) (fun _ _ _ h => h) (by kernel_rfl) (by assumption) ?_ ?_
  · intro w hSw
    (try dsimp only at hSw)
    go_simp
  simp only [Act.put, List.setIfInBounds_toArray, List.set_cons_zero, List.set_cons_succ]
  refine handCall 1 (some 121) 16 #[.slice a0 l.length c0] (by kernel_rfl) rfl rfl (by kernel_rfl) (by simp [go_sem]) ((toHvs_any _ _ l (HRD0.out _ (S21.out.tran SA0.drew)) LB0.out).mono ?_)
  rintro e w22 ⟨v22, rfl, ho22, hb22⟩
  obtain ⟨x22, y22, rfl⟩ := ho22.shape
  have SA1 := SA0.drew.step hb22
  have S22 : Hid (Since wb.heap.size wb w22) := S21.out.tran SA1
  have FR0_22 : Hid (Own w22 wb.heap.size (.slice x5_0 asks.length y5_0) asks) := rowBelow FR0_21.out SA1.1
  have FR1_22 : Hid (OwnHv w22 wb.heap.size (.slice x5_1 more.length y5_1) more) := rowBelow FR1_21.out SA1.1
  have FG0_22 : Hid (Own w22 wb.heap.size (.slice x9_0 asks.length y9_0) (marks ((1 : Nat) : Int) asks.length)) := rowBelow FG0_21.out SA1.1
  have FG1_22 : Hid (OwnHv w22 wb.heap.size (.slice x9_1 more.length y9_1) (marksHv m0 more.length)) := rowBelow FG1_21.out SA1.1
  have FHc0_22 : Hid (OwnHv w22 wb.heap.size (.slice x22 l.length y22) l) := ho22.mono (Nat.le_trans S21.out.2 (by simp))
  clear hHeld ho22 hb22
  refine ⟨_, rfl, (by exact HKK.out _ SA1), fun hHeld => ?_⟩
  simp only [Act.put, List.setIfInBounds_toArray, List.set_cons_zero, List.set_cons_succ]
  refine handCall 3 (some 123) 11 #[.agg #[.int .i64 s.Lo, .int .i64 s.Hi, .slice a1 s.Hs.length c1]] (by kernel_rfl) rfl rfl (by kernel_rfl) (by simp [go_sem]) ((toSm_any _ _ s (HRD1.out _ (S21.out.tran SA1)) LB1.out).mono ?_)
  rintro e w23 ⟨v23, rfl, ho23, hb23⟩
  obtain ⟨x23, y23, rfl⟩ := ho23.shape
  have SA2 := SA1.step hb23
  have S23 : Hid (Since wb.heap.size wb w23) := S21.out.tran SA2
  have FR0_23 : Hid (Own w23 wb.heap.size (.slice x5_0 asks.length y5_0) asks) := rowBelow FR0_22.out hb23
  have FR1_23 : Hid (OwnHv w23 wb.heap.size (.slice x5_1 more.length y5_1) more) := rowBelow FR1_22.out hb23
  have FG0_23 : Hid (Own w23 wb.heap.size (.slice x9_0 asks.length y9_0) (marks ((1 : Nat) : Int) asks.length)) := rowBelow FG0_22.out hb23
  have FG1_23 : Hid (OwnHv w23 wb.heap.size (.slice x9_1 more.length y9_1) (marksHv m0 more.length)) := rowBelow FG1_22.out hb23
  have FHc0_23 : Hid (OwnHv w23 wb.heap.size (.slice x22 l.length y22) l) := rowBelow FHc0_22.out hb23
  have FHc1_23 : Hid (OwnHv w23 wb.heap.size (.slice x23 s.Hs.length y23) s.Hs) := ho23.mono (Nat.le_trans S21.out.2 SA1.2)
  clear hHeld ho23 hb23
  refine ⟨_, rfl, (by exact HKK.out _ SA2), fun hHeld => ?_⟩
  simp only [Act.put, List.setIfInBounds_toArray, List.set_cons_zero, List.set_cons_succ]
  refine handCall 4 (some 124) 24 #[.slice x22 l.length y22, .agg #[.int .i64 s.Lo, .int .i64 s.Hi, .slice x23 s.Hs.length y23]] (by kernel_rfl) rfl rfl (by kernel_rfl) (by simp [go_sem]) ((CI.out _ _ _ _ FHc0_23.out FHc1_23.out).mono ?_)
  rintro e w24 ⟨u24_0, u24_1, rfl, hu24_0, hu24_1, ha24_0_1, hb24⟩
  obtain ⟨x24_0, y24_0, rfl⟩ := rowShape hu24_0
  obtain ⟨x24_1, y24_1, rfl⟩ := rowShape hu24_1
  have SA3 := SA2.step hb24
  have S24 : Hid (Since wb.heap.size wb w24) := S21.out.tran SA3
  have FR0_24 : Hid (Own w24 wb.heap.size (.slice x5_0 asks.length y5_0) asks) := rowBelow FR0_23.out hb24
  have FR1_24 : Hid (OwnHv w24 wb.heap.size (.slice x5_1 more.length y5_1) more) := rowBelow FR1_23.out hb24
  have FG0_24 : Hid (Own w24 wb.heap.size (.slice x9_0 asks.length y9_0) (marks ((1 : Nat) : Int) asks.length)) := rowBelow FG0_23.out hb24
  have FG1_24 : Hid (OwnHv w24 wb.heap.size (.slice x9_1 more.length y9_1) (marksHv m0 more.length)) := rowBelow FG1_23.out hb24
  have FH0_24 : Hid (Own w24 wb.heap.size (.slice x24_0 asks.length y24_0) asks) := rowMono hu24_0 (Nat.le_trans S21.out.2 SA2.2)
  have FH1_24 : Hid (OwnHv w24 wb.heap.size (.slice x24_1 more.length y24_1) more) := rowMono hu24_1 (Nat.le_trans S21.out.2 SA2.2)
  clear hHeld hb24 hu24_0 hu24_1 ha24_0_1
  refine ⟨_, rfl, (by exact HKK.out _ SA3), fun hHeld => ?_⟩
  simp only [Act.put, List.setIfInBounds_toArray, List.set_cons_zero, List.set_cons_succ]
  refine handRead 5 (some 119) (.tuple #[.slice x24_0 asks.length y24_0, .slice x24_1 more.length y24_1, .bool ok]) rfl rfl (by kernel_rfl) (by kernel_rfl) (by kernel_rfl) (fun _ _ _ h => h) (by kernel_rfl) (by assumption) ?_ ?_
  · intro w hSw
    (try dsimp only at hSw)
    go_simp
  simp only [Act.put, List.setIfInBounds_toArray, List.set_cons_zero, List.set_cons_succ]
  refine handRead 6 (some 125) (.slice x24_0 asks.length y24_0) rfl rfl (by kernel_rfl) (by kernel_rfl) (by kernel_rfl) (fun _ _ _ h => h) (by kernel_rfl) (by assumption) ?_ ?_
  · intro w hSw
    (try dsimp only at hSw)
    go_simp
  simp only [Act.put, List.setIfInBounds_toArray, List.set_cons_zero, List.set_cons_succ]
  refine handRead 7 (some 126) (.slice x24_1 more.length y24_1) rfl rfl (by kernel_rfl) (by kernel_rfl) (by kernel_rfl) (fun _ _ _ h => h) (by kernel_rfl) (by assumption) ?_ ?_
  · intro w hSw
    (try dsimp only at hSw)
    go_simp
  simp only [Act.put, List.setIfInBounds_toArray, List.set_cons_zero, List.set_cons_succ]
  refine handRead 8 (some 127) (.bool ok) rfl rfl (by kernel_rfl) (by kernel_rfl) (by kernel_rfl) (fun _ _ _ h => h) (by kernel_rfl) (by assumption) ?_ ?_
  · intro w hSw
    (try dsimp only at hSw)
    go_simp
  simp only [Act.put, List.setIfInBounds_toArray, List.set_cons_zero, List.set_cons_succ]
  refine handRead 9 (some 17) (.slice x24_0 asks.length y24_0) rfl rfl (by kernel_rfl) (by kernel_rfl) (by kernel_rfl) (fun _ _ _ h => h) (by kernel_rfl) (by assumption) ?_ ?_
  · intro w hSw
    (try dsimp only at hSw)
    go_simp
  simp only [Act.put, List.setIfInBounds_toArray, List.set_cons_zero, List.set_cons_succ]
  refine handRead 10 (some 18) (.slice x24_1 more.length y24_1) rfl rfl (by kernel_rfl) (by kernel_rfl) (by kernel_rfl) (fun _ _ _ h => h) (by kernel_rfl) (by assumption) ?_ ?_
  · intro w hSw
    (try dsimp only at hSw)
    go_simp
  simp only [Act.put, List.setIfInBounds_toArray, List.set_cons_zero, List.set_cons_succ]
  refine handRead 11 (some 19) (.bool ok) rfl rfl (by kernel_rfl) (by kernel_rfl) (by kernel_rfl) (fun _ _ _ h => h) (by kernel_rfl) (by assumption) ?_ ?_
  · intro w hSw
    (try dsimp only at hSw)
    go_simp
  simp only [Act.put, List.setIfInBounds_toArray, List.set_cons_zero, List.set_cons_succ]
  refine wpAnyH_done (by kernel_rfl) ?_ _
  obtain ⟨t0, t1, t2⟩ := HBX.out w24 S24.out
  go_wp2_with fail
  clear t0 t1 t2
  refine (eqIs_same _ _ _ asks FH0_24.out.reads FR0_24.out.reads OL0.out).mono ?_
  rintro e w25 ⟨rfl, hb25⟩
  have S25 : Hid (Since wb.heap.size wb w25) := S24.out.step hb25
  have FR0_25 : Hid (Own w25 wb.heap.size (.slice x5_0 asks.length y5_0) asks) := rowBelow FR0_24.out hb25
  have FR1_25 : Hid (OwnHv w25 wb.heap.size (.slice x5_1 more.length y5_1) more) := rowBelow FR1_24.out hb25
  have FG0_25 : Hid (Own w25 wb.heap.size (.slice x9_0 asks.length y9_0) (marks ((1 : Nat) : Int) asks.length)) := rowBelow FG0_24.out hb25
  have FG1_25 : Hid (OwnHv w25 wb.heap.size (.slice x9_1 more.length y9_1) (marksHv m0 more.length)) := rowBelow FG1_24.out hb25
  have FH0_25 : Hid (Own w25 wb.heap.size (.slice x24_0 asks.length y24_0) asks) := rowBelow FH0_24.out hb25
  have FH1_25 : Hid (OwnHv w25 wb.heap.size (.slice x24_1 more.length y24_1) more) := rowBelow FH1_24.out hb25
  clear hb25
  obtain ⟨t0, t1, t2⟩ := HBX.out w25 S25.out
  go_wp2_with fail
  clear t0 t1 t2
  refine (eqHvs_same _ _ _ more FH1_25.out.reads FR1_25.out.reads OL1.out).mono ?_
  rintro e w26 ⟨rfl, hb26⟩
  have S26 : Hid (Since wb.heap.size wb w26) := S25.out.step hb26
  have FR0_26 : Hid (Own w26 wb.heap.size (.slice x5_0 asks.length y5_0) asks) := rowBelow FR0_25.out hb26
  have FR1_26 : Hid (OwnHv w26 wb.heap.size (.slice x5_1 more.length y5_1) more) := rowBelow FR1_25.out hb26
  have FG0_26 : Hid (Own w26 wb.heap.size (.slice x9_0 asks.length y9_0) (marks ((1 : Nat) : Int) asks.length)) := rowBelow FG0_25.out hb26
  have FG1_26 : Hid (OwnHv w26 wb.heap.size (.slice x9_1 more.length y9_1) (marksHv m0 more.length)) := rowBelow FG1_25.out hb26
  have FH0_26 : Hid (Own w26 wb.heap.size (.slice x24_0 asks.length y24_0) asks) := rowBelow FH0_25.out hb26
  have FH1_26 : Hid (OwnHv w26 wb.heap.size (.slice x24_1 more.length y24_1) more) := rowBelow FH1_25.out hb26
  clear hb26
  obtain ⟨t0, t1, t2⟩ := HBX.out w26 S26.out
  go_wp2_with fail
  clear t0 t1 t2
  refine (HG0.out _ _ _ FG0_26.out).mono ?_
  rintro e q3 ⟨rfl, hq3⟩
  obtain rfl : w26 = q3 := hq3.symm
  obtain ⟨t0, t1, t2⟩ := HBX.out w26 S26.out
  go_wp2_with fail
  clear t0 t1 t2
  refine (HG1.out _ _ _ FG1_26.out).mono ?_
  rintro e q4 ⟨rfl, hq4⟩
  obtain rfl : w26 = q4 := hq4.symm
  go_wp2
  go_ret
  exact ⟨rfl, HB0.out.trans (S26.out.1.mono HB0.out.size)⟩

set_option maxRecDepth 100000 in
theorem contract (H : Type) (enc : TypeId × Value → H) (W : World) (base : Nat) (args : Array Value) (ds gs : List (DataW H)) (before : List MemPlace)
    (hval : ∀ (j : Nat) t v, Try.f5.params[j]? = some t → args[j]? = some v → Value.okWide Try.prog W .any base t v)
    (hW : DataW.Whole enc Try.prog Try.f5.params.toList Rows.fnExactAskForSpec.vars false W args.toList ds gs before) :
    Calls Try.prog 5 args W fun e W' => ∃ v, e = .returned v ∧ Rows.fnExactAskForSpec.post enc Try.prog Try.f5 false true false false W args v W' := by
  have hW' := hW
  obtain ⟨p, q, hA0, hV0, rfl, hfz, hnd⟩ := hW
  have hA : DataW.TrodAll enc Try.prog W 0 (fun _ => true) true Try.f5.params.toList args.toList ds p := hA0
  rw [Try.params5] at hA hval
  obtain ⟨v0, vs0, d0, ds0, p0, q0, hargs, rfl, rfl, h0, r0⟩ := trodAll_cons hA
  obtain ⟨v1, vs1, d1, ds1, p1, q1, rfl, rfl, rfl, h1, r1⟩ := trodAll_cons r0
  obtain ⟨rfl, rfl, rfl⟩ := trodAll_nil r1
  obtain rfl : args = #[v0, v1] := by cases args; simp_all
  obtain ⟨rfl, rfl⟩ := trodVars_none hV0
  obtain ⟨a0, len0, cap0, rfl⟩ := okWide_slice Try.underlying22 (hval 0 22 v0 rfl rfl)
  have k0 := h0
  have lt0 : ∀ x ∈ p0, x.block < W.heap.size := by obtain ⟨m, hm⟩ := k0; exact DataW.trod_lt m _ _ _ hm
  obtain ⟨ps0, hr0, hz0⟩ := Hvs_of k0
  have k1 := h1
  have lt1 : ∀ x ∈ p1, x.block < W.heap.size := by obtain ⟨m, hm⟩ := k1; exact DataW.trod_lt m _ _ _ hm
  obtain ⟨x1, sm1, rfl, hr1, hz1⟩ := Sm_of (hval 1 24 v1 rfl rfl) k1
  clear hA0 hV0
  refine (walk _ ps0 _ sm1 W hr0 hz0 hr1 hz1).mono fun e W' ⟨he, bel⟩ => ?_
  subst he
  exact ⟨_, rfl, _, _, _, [], _, [], hW', trodAll_mk1 (shut_bool Try.underlying4 _), (trodAll_cons_mk (Below.trod laidOut (by kernel_rfl) (of_decide_eq_true (by kernel_rfl)) k0 bel lt0) (trodAll_cons_mk (Below.trod laidOut (by kernel_rfl) (of_decide_eq_true (by kernel_rfl)) k1 bel lt1) trodAll_mk0)), rfl, bel.frame _, fun h => by cases h⟩

set_option maxRecDepth 100000 in
theorem lifted (os : Os) (started : os.Started) (H : Type) (enc : TypeId × Value → H) :
    ReturnsInHanded {} Try.checked os 5 .any (Rows.fnExactAskForSpec.pre6 enc Try.prog Try.f5 Rows.fnExactAskForRow.domain false) (Rows.fnExactAskForSpec.post enc Try.prog Try.f5 false true false false) := by
  refine returnsInHanded_of_change (C := Try.checked) own started (by kernel_rfl) Try.func5
    (ChangeSpec.witness6 (enc := enc) (C := Try.checked) false ⟨#[], #[.slice none 0 0, .agg #[.int .i64 0, .int .i64 0, .slice none 0 0]], []⟩ 8 (by kernel_rfl) (by kernel_rfl) (by kernel_rfl) (by kernel_rfl)) ?_
  intro W base args ds gs before hval hW _ _
  exact contract H enc W base args ds gs before hval hW

/-- The statement. -/
theorem said : Rows.FnExactAskForSaid :=
  OpenClaim.holds_of_wide 5 Try.f5 rfl rfl rfl rfl rfl rfl rfl ⟨rfl, rfl, rfl, rfl, rfl⟩ rfl rfl rfl rfl rfl (by kernel_rfl) Try.func5 (by kernel_rfl)
    (of_decide_eq_true (by kernel_rfl)) (by unfold Func.isWrapper; first | (rw [if_pos (by decide +kernel)]; kernel_rfl) | (rw [if_neg (by decide +kernel)]; exact ⟨rfl, rfl⟩))
    (fun os started H enc _ => lifted os started H enc)
#print axioms said
end Go.Proofs.Ytkpdiojomgiocay.fnExactAskFor
