/-
  Proved: for every summary, 'GoodSummary' of the program at commit 83a7ca3833eb answers as the model's 'GoodSummary'; it writes into no argument (the summary that it was handed reads as before, its list too), and so does the law's own argument. No condition.
-/
import Derived.Test.YtkpdiojomgiocayPlain
import Derived.Test.YtkpdiojomgiocayLsGoodSm2
import Derived.Test.YtkpdiojomgiocayLsSmLaw
import Derived.Test.YtkpdiojomgiocayRowOfHv
import Derived.Test.YtkpdiojomgiocayRowLaw0
namespace Go.Proofs.Ytkpdiojomgiocay.fnExactGoodSummary
open Go.ChangeShapes Go.WideShapes Go.ChangeAt Go.RowKit
open Go.ChangeMaps (open_string shut_string)
set_option linter.unusedVariables false

set_option maxRecDepth 100000 in
set_option maxHeartbeats 8000000 in
theorem walk (v0 : Value) (s : SmD) (w : World) (h0 : ReadsHv w v0 s.Hs) (hl0 : s.Hs.length ≤ maxLen) :
    Calls Try.prog 3 #[.agg #[.int .i64 s.Lo, .int .i64 s.Hi, v0]] w fun e w' => e = .returned (.bool true) ∧ Below w.heap.size w w' := by
  obtain ⟨a0, c0, hv0⟩ := h0.shape
  subst hv0
  obtain ⟨wb, hwb⟩ : ∃ x, x = w.alloc (.cells #[.int .i64 s.Lo, .int .i64 s.Hi, .slice a0 s.Hs.length c0] 24) := ⟨_, rfl⟩
  have HB0 : Hid (Below w.heap.size w wb) := by show Below _ _ _; rw [hwb]; exact (Below.refl _ w).alloc (Nat.le_refl _) _
  have HBX : Hid (∀ w', Since wb.heap.size wb w' → w'.cell? ⟨w.heap.size, 0, none⟩ = some (.int .i64 s.Lo) ∧ w'.cell? ⟨w.heap.size, 1, none⟩ = some (.int .i64 s.Hi) ∧ w'.cell? ⟨w.heap.size, 2, none⟩ = some (.slice a0 s.Hs.length c0)) := by
    rw [hwb]
    exact fun w' hs => smNewL w _ _ _ w' hs.1
  have HRD0 : Hid (∀ W1, Since wb.heap.size wb W1 → ReadsHv W1 (.slice a0 s.Hs.length c0) s.Hs) := fun W1 hb => (h0.below HB0.out).below hb.1
  have HL0 : Hid (s.Hs.length ≤ maxLen) := hl0
  have S1 : Hid (Since wb.heap.size wb wb) := Since.start wb
  obtain ⟨gs, hgs⟩ : ∃ gs, gs = goodSm s := ⟨_, rfl⟩
  clear h0 hl0
  go_enter Try.func3, Try.ntmps3
  go_wp2_with fail
  rw [← hwb]
  clear hwb
  refine (szSm_any _ _ s (1048576) (HRD0.out _ S1.out) HL0.out (by omega) (by omega)).mono ?_
  rintro e w2 ⟨rfl, hb2⟩
  have S2 : Hid (Since wb.heap.size wb w2) := S1.out.step hb2
  clear hb2
  rcases Int.lt_or_le (1048576) (s.Hs.length : Int) with hle0 | hle0
  · rw [if_neg (by omega)]
    go_wp2
    go_ret
    exact ⟨rfl, HB0.out.trans (S2.out.1.mono HB0.out.size)⟩
  rw [if_pos hle0]
  obtain ⟨lf1, hlf1⟩ : ∃ z : Int, z = 1048576 - (s.Hs.length : Int) := ⟨_, rfl⟩
  rw [← hlf1]
  have hnn0 : ¬ (lf1 < 0) := by omega
  have hlo0 : 0 ≤ lf1 := by omega
  have hhi0 : lf1 ≤ 1048576 := by omega
  have LL0 : Hid (s.Hs.length ≤ 1048576) := by show _ ≤ _; omega
  have LB0 : Hid (s.Hs.length ≤ 4194304) := by show _ ≤ _; omega
  clear hlf1 hle0
  clear hlo0 hhi0
  have CS : Hid (∀ (W : World) (B : Nat) (z0 : Value), OwnHv W B z0 s.Hs → Calls Try.prog 10 #[.agg #[.int .i64 s.Lo, .int .i64 s.Hi, z0]] W fun e W' => e = .returned (.bool gs) ∧ Below W.heap.size W W') := fun W B z0 ho0 => by
    have := specGoodSm_any W z0 s ho0.lies (Nat.le_trans LL0.out (by decide))
    rw [← hgs] at this
    exact this
  have CI : Hid (∀ (W : World) (B : Nat) (z0 : Value), OwnHv W B z0 s.Hs → Calls Try.prog 12 #[.agg #[.int .i64 s.Lo, .int .i64 s.Hi, z0]] W fun e W' => e = .returned (.bool gs) ∧ Below W.heap.size W W') := fun W B z0 ho0 => by
    have := implGoodSm_any W z0 s ho0.lies (Nat.le_trans LL0.out (by decide))
    rw [← hgs] at this
    exact this
  clear hgs
  obtain ⟨t0, t1, t2⟩ := HBX.out w2 S2.out
  go_wp2_with fail
  clear t0 t1 t2
  refine (toSm_any _ _ s (HRD0.out _ S2.out) LB0.out).mono ?_
  rintro e w3 ⟨v3, rfl, ho3, hb3⟩
  obtain ⟨x3, y3, rfl⟩ := ho3.shape
  have S3 : Hid (Since wb.heap.size wb w3) := S2.out.step hb3
  have N3 : Hid (OwnHv w3 w2.heap.size (.slice x3 s.Hs.length y3) s.Hs) := ho3
  have B3 : Hid (Below w2.heap.size w2 w3) := hb3
  have FC0_3 : Hid (OwnHv w3 wb.heap.size (.slice x3 s.Hs.length y3) s.Hs) := ho3.mono S2.out.2
  clear ho3 hb3
  obtain ⟨t0, t1, t2⟩ := HBX.out w3 S3.out
  go_wp2_with fail
  clear t0 t1 t2
  refine (CS.out _ _ _ FC0_3.out).mono ?_
  rintro e w4 ⟨rfl, hb4⟩
  have S4 : Hid (Since wb.heap.size wb w4) := S3.out.step hb4
  have FC0_4 : Hid (OwnHv w4 wb.heap.size (.slice x3 s.Hs.length y3) s.Hs) := rowBelow FC0_3.out hb4
  clear hb4 
  obtain ⟨t0, t1, t2⟩ := HBX.out w4 S4.out
  go_wp2_with fail
  clear t0 t1 t2
  refine (toSm_any _ _ s (HRD0.out _ S4.out) LB0.out).mono ?_
  rintro e w5 ⟨v5, rfl, ho5, hb5⟩
  obtain ⟨x5, y5, rfl⟩ := ho5.shape
  have S5 : Hid (Since wb.heap.size wb w5) := S4.out.step hb5
  have N5 : Hid (OwnHv w5 w4.heap.size (.slice x5 s.Hs.length y5) s.Hs) := ho5
  have B5 : Hid (Below w4.heap.size w4 w5) := hb5
  have FX0_5 : Hid (OwnHv w5 wb.heap.size (.slice x5 s.Hs.length y5) s.Hs) := ho5.mono S4.out.2
  clear ho5 hb5
  obtain ⟨w6, hw6⟩ : ∃ x, x = w5.alloc (.cells #[.int .i64 s.Lo, .int .i64 s.Hi, .slice x5 s.Hs.length y5] 29) := ⟨_, rfl⟩
  have hb6 : Below w5.heap.size w5 w6 := by rw [hw6]; exact (Below.refl _ _).alloc (Nat.le_refl _) _
  have S6 : Hid (Since wb.heap.size wb w6) := S5.out.step hb6
  have FX0_6 : Hid (OwnHv w6 wb.heap.size (.slice x5 s.Hs.length y5) s.Hs) := rowBelow FX0_5.out hb6
  have QX0_6 : Hid (SmBox w6 w5.heap.size (.int .i64 s.Lo) (.int .i64 s.Hi) (.slice x5 s.Hs.length y5)) := by show SmBox _ _ _ _ _; rw [hw6]; exact SmBox.new _ _ _ _ _
  have APB_X0_X0 : Hid (∀ k, (Value.slice x5 s.Hs.length y5).ownBlock = some k → k ≠ w5.heap.size) := fun k hk e => by have := (World.ownsRow.lt FX0_5.out k hk).2; omega
  clear hb6
  obtain ⟨t0, t1, t2⟩ := HBX.out w5 S5.out
  go_wp2_with fail
  rw [← hw6]
  clear hw6
  clear t0 t1 t2
  refine (CI.out _ _ _ FX0_6.out).mono ?_
  rintro e w7 ⟨rfl, hb7⟩
  have S7 : Hid (Since wb.heap.size wb w7) := S6.out.step hb7
  have FX0_7 : Hid (OwnHv w7 wb.heap.size (.slice x5 s.Hs.length y5) s.Hs) := rowBelow FX0_6.out hb7
  have QX0_7 : Hid (SmBox w7 w5.heap.size (.int .i64 s.Lo) (.int .i64 s.Hi) (.slice x5 s.Hs.length y5)) := QX0_6.out.below hb7
  clear hb7 
  obtain ⟨t0, t1, t2⟩ := HBX.out w7 S7.out
  obtain ⟨-, z0, z1, z2⟩ := QX0_7.out
  go_wp2
  clear t0 t1 t2
  clear z0 z1 z2
  have SA0 := Since.start w7
  have HKK : Hid (∀ w', Since w7.heap.size w7 w' → (w'.cell? ⟨w.heap.size, 0, none⟩ = some (.int .i64 s.Lo) ∧ w'.cell? ⟨w.heap.size, 1, none⟩ = some (.int .i64 s.Hi) ∧ w'.cell? ⟨w.heap.size, 2, none⟩ = some (.slice a0 s.Hs.length c0)) ∧ (w'.cell? ⟨w5.heap.size, 0, none⟩ = some (.int .i64 s.Lo) ∧ w'.cell? ⟨w5.heap.size, 1, none⟩ = some (.int .i64 s.Hi) ∧ w'.cell? ⟨w5.heap.size, 2, none⟩ = some (.slice x5 s.Hs.length y5))) := fun w' hs => ⟨HBX.out w' (S7.out.tran hs), (QX0_7.out.below hs.1).2⟩
  refine wp_region_held_drew (S := (fun w' => (w'.cell? ⟨w.heap.size, 0, none⟩ = some (.int .i64 s.Lo) ∧ w'.cell? ⟨w.heap.size, 1, none⟩ = some (.int .i64 s.Hi) ∧ w'.cell? ⟨w.heap.size, 2, none⟩ = some (.slice a0 s.Hs.length c0)) ∧ (w'.cell? ⟨w5.heap.size, 0, none⟩ = some (.int .i64 s.Lo) ∧ w'.cell? ⟨w5.heap.size, 1, none⟩ = some (.int .i64 s.Hi) ∧ w'.cell? ⟨w5.heap.size, 2, none⟩ = some (.slice x5 s.Hs.length y5)))) (by kernel_rfl) ?_ (fun hHeld => ?_)
  · exact HKK.out _ SA0.drew
  refine handRead 0 (some 22) (.agg #[.int .i64 s.Lo, .int .i64 s.Hi, .slice x5 s.Hs.length y5]) rfl rfl (by kernel_rfl) (by kernel_rfl) (by kernel_rfl) (fun _ _ _ h => h) (by kernel_rfl) (by assumption) ?_ ?_
  · intro w hSw
    (try dsimp only at hSw)
    go_simp
  simp only [Act.put, List.setIfInBounds_toArray, List.set_cons_zero, List.set_cons_succ]
  refine handRead 1 (some 23) (.agg #[.int .i64 s.Lo, .int .i64 s.Hi, .slice a0 s.Hs.length c0]) rfl rfl (by kernel_rfl) (by kernel_rfl) (by kernel_rfl) (fun _ _ _ h => h) (by kernel_rfl) (by assumption) ?_ ?_
  · intro w hSw
    (try dsimp only at hSw)
    go_simp
  simp only [Act.put, List.setIfInBounds_toArray, List.set_cons_zero, List.set_cons_succ]
  refine handCall 2 (some 24) 11 #[.agg #[.int .i64 s.Lo, .int .i64 s.Hi, .slice a0 s.Hs.length c0]] (by kernel_rfl) rfl rfl (by kernel_rfl) (by simp [go_sem]) ((toSm_any _ _ s (HRD0.out _ (S7.out.tran SA0.drew)) LB0.out).mono ?_)
  rintro e w8 ⟨v8, rfl, ho8, hb8⟩
  obtain ⟨x8, y8, rfl⟩ := ho8.shape
  have SA1 := SA0.drew.step hb8
  have S8 : Hid (Since wb.heap.size wb w8) := S7.out.tran SA1
  have FX0_8 : Hid (OwnHv w8 wb.heap.size (.slice x5 s.Hs.length y5) s.Hs) := rowBelow FX0_7.out SA1.1
  have FC_8 : Hid (OwnHv w8 wb.heap.size (.slice x8 s.Hs.length y8) s.Hs) := ho8.mono (Nat.le_trans S7.out.2 (by simp))
  have QX0_8 : Hid (SmBox w8 w5.heap.size (.int .i64 s.Lo) (.int .i64 s.Hi) (.slice x5 s.Hs.length y5)) := QX0_7.out.below SA1.1
  clear hHeld ho8 hb8
  refine ⟨_, rfl, (by exact HKK.out _ SA1), fun hHeld => ?_⟩
  simp only [Act.put, List.setIfInBounds_toArray, List.set_cons_zero, List.set_cons_succ]
  refine handCall 3 (some 25) 13 #[.agg #[.int .i64 s.Lo, .int .i64 s.Hi, .slice x5 s.Hs.length y5], .agg #[.int .i64 s.Lo, .int .i64 s.Hi, .slice x8 s.Hs.length y8]] (by kernel_rfl) rfl rfl (by kernel_rfl) (by simp [go_sem]) ((eqSm_same _ _ _ s FX0_8.out.reads FC_8.out.reads LB0.out).mono ?_)
  rintro e w9 ⟨rfl, hb9⟩
  have SA2 := SA1.step hb9
  have S9 : Hid (Since wb.heap.size wb w9) := S7.out.tran SA2
  have FX0_9 : Hid (OwnHv w9 wb.heap.size (.slice x5 s.Hs.length y5) s.Hs) := rowBelow FX0_8.out hb9
  have QX0_9 : Hid (SmBox w9 w5.heap.size (.int .i64 s.Lo) (.int .i64 s.Hi) (.slice x5 s.Hs.length y5)) := QX0_8.out.below hb9
  clear hHeld hb9
  refine ⟨_, rfl, (by exact HKK.out _ SA2), fun hHeld => ?_⟩
  simp only [Act.put, List.setIfInBounds_toArray, List.set_cons_zero, List.set_cons_succ]
  refine handRead 4 (some 26) (.bool false) rfl rfl (by kernel_rfl) (by kernel_rfl) (by kernel_rfl) (fun _ _ _ h => h) (by kernel_rfl) (by assumption) ?_ ?_
  · intro w hSw
    (try dsimp only at hSw)
    go_simp
  simp only [Act.put, List.setIfInBounds_toArray, List.set_cons_zero, List.set_cons_succ]
  refine wpAnyH_done (by kernel_rfl) ?_ _
  go_wp2
  go_ret
  exact ⟨rfl, HB0.out.trans (S9.out.1.mono HB0.out.size)⟩

set_option maxRecDepth 100000 in
theorem contract (H : Type) (enc : TypeId × Value → H) (W : World) (base : Nat) (args : Array Value) (ds gs : List (DataW H)) (before : List MemPlace)
    (hval : ∀ (j : Nat) t v, Try.f3.params[j]? = some t → args[j]? = some v → Value.okWide Try.prog W .any base t v)
    (hW : DataW.Whole enc Try.prog Try.f3.params.toList Rows.fnExactGoodSummarySpec.vars false W args.toList ds gs before) :
    Calls Try.prog 3 args W fun e W' => ∃ v, e = .returned v ∧ Rows.fnExactGoodSummarySpec.post enc Try.prog Try.f3 false true false false W args v W' := by
  have hW' := hW
  obtain ⟨p, q, hA0, hV0, rfl, hfz, hnd⟩ := hW
  have hA : DataW.TrodAll enc Try.prog W 0 (fun _ => true) true Try.f3.params.toList args.toList ds p := hA0
  rw [Try.params3] at hA hval
  obtain ⟨v0, vs0, d0, ds0, p0, q0, hargs, rfl, rfl, h0, r0⟩ := trodAll_cons hA
  obtain ⟨rfl, rfl, rfl⟩ := trodAll_nil r0
  obtain rfl : args = #[v0] := by cases args; simp_all
  obtain ⟨rfl, rfl⟩ := trodVars_none hV0
  have k0 := h0
  have lt0 : ∀ x ∈ p0, x.block < W.heap.size := by obtain ⟨m, hm⟩ := k0; exact DataW.trod_lt m _ _ _ hm
  obtain ⟨x0, sm0, rfl, hr0, hz0⟩ := Sm_of (hval 0 24 v0 rfl rfl) k0
  clear hA0 hV0
  refine (walk _ sm0 W hr0 hz0).mono fun e W' ⟨he, bel⟩ => ?_
  subst he
  exact ⟨_, rfl, _, _, _, [], _, [], hW', trodAll_mk1 (shut_bool Try.underlying4 _), (trodAll_cons_mk (Below.trod laidOut (by kernel_rfl) (of_decide_eq_true (by kernel_rfl)) k0 bel lt0) trodAll_mk0), rfl, bel.frame _, fun h => by cases h⟩

set_option maxRecDepth 100000 in
theorem lifted (os : Os) (started : os.Started) (H : Type) (enc : TypeId × Value → H) :
    ReturnsInHanded {} Try.checked os 3 .any (Rows.fnExactGoodSummarySpec.pre6 enc Try.prog Try.f3 Rows.fnExactGoodSummaryRow.domain false) (Rows.fnExactGoodSummarySpec.post enc Try.prog Try.f3 false true false false) := by
  refine returnsInHanded_of_change (C := Try.checked) own started (by kernel_rfl) Try.func3
    (ChangeSpec.witness6 (enc := enc) (C := Try.checked) false ⟨#[], #[.agg #[.int .i64 0, .int .i64 0, .slice none 0 0]], []⟩ 8 (by kernel_rfl) (by kernel_rfl) (by kernel_rfl) (by kernel_rfl)) ?_
  intro W base args ds gs before hval hW _ _
  exact contract H enc W base args ds gs before hval hW

/-- The statement. -/
theorem said : Rows.FnExactGoodSummarySaid :=
  OpenClaim.holds_of_wide 3 Try.f3 rfl rfl rfl rfl rfl rfl rfl ⟨rfl, rfl, rfl, rfl, rfl⟩ rfl rfl rfl rfl rfl (by kernel_rfl) Try.func3 (by kernel_rfl)
    (of_decide_eq_true (by kernel_rfl)) (by unfold Func.isWrapper; first | (rw [if_pos (by decide +kernel)]; kernel_rfl) | (rw [if_neg (by decide +kernel)]; exact ⟨rfl, rfl⟩))
    (fun os started H enc _ => lifted os started H enc)
#print axioms said
end Go.Proofs.Ytkpdiojomgiocay.fnExactGoodSummary
